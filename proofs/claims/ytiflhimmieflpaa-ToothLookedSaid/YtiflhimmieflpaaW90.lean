/- Walks: the law ToothLooked. -/
import Derived.Test.YtiflhimmieflpaaW92
import Derived.Test.YtiflhimmieflpaaW91
import Derived.Test.YtiflhimmieflpaaW93
namespace Go.Proofs.Ytiflhimmieflpaa
open Go.RowKit Go.Maps

def S16L (go o g5 g6 : Nat) (V1 V2 : Value) (a h : Int) (W : World) : Prop := W.cell? ⟨go, 0, none⟩ = some V1 ∧ W.cell? ⟨go, 1, none⟩ = some V2 ∧ W.cell? ⟨g5, o, none⟩ = some (.int .i64 a) ∧ W.cell? ⟨g6, o + 1, none⟩ = some (.int .i64 h)
theorem CV.get8 {w W : World} {B : Bl} {s : Sw} {L H : Nat → Int} {gb g1 c1 g2 c2 : Nat} {v : Value} (h : CV w B L H gb g1 c1 g2 c2 v #[.int .i64 s.long, .int .i64 s.wide, .int .i64 s.kerf, .int .i64 s.across] W) : (W.cell? ⟨gb, 0, none⟩ = some (.slice B.A B.n B.c) ∧ W.cell? ⟨gb, 1, none⟩ = some (.slice B.A' B.n' B.c') ∧ W.cell? ⟨gb, 2, none⟩ = some (.int .i64 B.bend) ∧ W.cell? ⟨gb, 3, none⟩ = some (.slice B.K B.m B.d)) ∧ W.cell? ⟨gb + 1, 0, none⟩ = some (.int .i64 s.long) ∧ W.cell? ⟨gb + 1, 1, none⟩ = some (.int .i64 s.wide) ∧ W.cell? ⟨gb + 1, 2, none⟩ = some (.int .i64 s.kerf) ∧ W.cell? ⟨gb + 1, 3, none⟩ = some (.int .i64 s.across) :=
  ⟨⟨h.bl.cell 0, h.bl.cell 1, h.bl.cell 2, h.bl.cell 3⟩, h.sl.cell 0, h.sl.cell 1, h.sl.cell 2, h.sl.cell 3⟩
set_option maxRecDepth 100000 in
set_option maxHeartbeats 8000000 in
theorem ToothLooked_any (T : Tk) (column : Int) (w : World) (h : T.At w) (hcol : Byte column) : Calls Try.prog 16 #[T.val, .int .u8 column] w (Yes w) := by
  obtain ⟨i0, hi, hz0, hz1, hz2⟩ := info_parts Try.infoSpan
  have B0 := Lib.hid (Blk.new w 83 #[.slice T.A T.n T.c, .int .u8 T.bend, .slice T.K T.m T.d, .int .u8 T.s0, .int .u8 T.s1, .int .u8 T.s2, .int .u8 T.s3] (g := w.heap.size) rfl)
  have b0 := B0.out.cell
  have D0 := Lib.hid (below_self w (.cells #[.slice T.A T.n T.c, .int .u8 T.bend, .slice T.K T.m T.d, .int .u8 T.s0, .int .u8 T.s1, .int .u8 T.s2, .int .u8 T.s3] 83))
  have HB := Lib.hid (tusk_blade T _ (h.below D0.out))
  have HBF := Lib.hid (fun A A' K ca ca' m cd (hm : m ≤ 3) => Tk.bf h.bc h.bk A A' K ca ca' m cd hm)
  have HKN := Lib.hid (fun W => known_any W)
  unfold Byte at hcol
  clear h
  unfold Tk.val at *
  go_enter Try.func16, Try.ntmps16
  go_wp2_with fail
  refine HB.out.mono ?_
  rintro e w1 ⟨A, A', K, K', ca, ca', cd, cd', m, g1, g2, c1, c2, rfl, hm, p1, p2, sp, q1, q2, o1, o2, hg, b1⟩
  obtain ⟨B, hB⟩ : ∃ B, B = T.blade A A' K ca ca' m cd := ⟨_, rfl⟩
  obtain ⟨s, hs⟩ : ∃ s : Sw, s = ⟨1 + T.s0 % 4, 8 + T.s1 % 40, T.s2 % 6, T.s3 % 3⟩ := ⟨_, rfl⟩
  have k0 : 1 + T.s0 % 4 = s.long := by rw [hs]
  have k1 : 8 + T.s1 % 40 = s.wide := by rw [hs]
  have k2 : T.s2 % 6 = s.kerf := by rw [hs]
  have k3 : T.s3 % 3 = s.across := by rw [hs]
  have HSO : Hid s.Ok := ⟨by omega, by omega, by omega, by omega, by omega, by omega, by omega, by omega⟩
  have hn : T.len = B.n := by rw [hB]; rfl
  have HF : Hid (BF B T.low T.high) := by rw [hB]; exact HBF.out A A' K ca ca' m cd (by omega)
  have hn10 := HF.out.n10
  have hm3 := HF.out.m3
  have HAT : Hid (B.At w1) := by
    have e1 : B.n ≤ maxLen := by unfold maxLen; omega
    have e2 : B.m ≤ maxLen := by unfold maxLen; omega
    rw [hB] at e1 e2 ⊢
    exact ⟨(reads_of_own p1).r, (reads_of_own p2).r, (reads_of_own q1).r, e1, e1, e2⟩
  have I1 : Hid (Ints w1 (some ⟨g1, 0, none⟩) B.n ((List.range B.n).map T.low)) := by rw [← hn]; exact (reads_of_own o1).r
  have I2 : Hid (Ints w1 (some ⟨g2, 0, none⟩) B.n ((List.range B.n).map T.high)) := by rw [← hn]; exact (reads_of_own o2).r
  have D1 := Lib.hid (below_then D0.out b1)
  rw [← hB, hn, k0, k1, k2, k3]
  generalize T.low = L at *
  generalize T.high = H at *
  clear p1 p2 sp q1 q2 o1 o2 hg b1 hB hs k0 k1 k2 k3 hn hm hn10 hm3 HB HBF b0 B0 D0
  have E3 : Hid (Below w1.heap.size w1 (((w1.alloc (.cells #[.slice B.A B.n B.c, .slice B.A' B.n' B.c', .int .i64 B.bend, .slice B.K B.m B.d] 25)).alloc (.cells #[.int .i64 s.long, .int .i64 s.wide, .int .i64 s.kerf, .int .i64 s.across] 37)).alloc (.cells #[.slice (some ⟨g1, 0, none⟩) B.n c1, .slice (some ⟨g2, 0, none⟩) B.n c2, .slice K' m cd'] 86))) := below_alloc' (below_alloc' (below_self _ _) _) _
  have C3 : Hid (CV w B L H w1.heap.size g1 c1 g2 c2 (.slice K' m cd') #[.int .i64 s.long, .int .i64 s.wide, .int .i64 s.kerf, .int .i64 s.across] (((w1.alloc (.cells #[.slice B.A B.n B.c, .slice B.A' B.n' B.c', .int .i64 B.bend, .slice B.K B.m B.d] 25)).alloc (.cells #[.int .i64 s.long, .int .i64 s.wide, .int .i64 s.kerf, .int .i64 s.across] 37)).alloc (.cells #[.slice (some ⟨g1, 0, none⟩) B.n c1, .slice (some ⟨g2, 0, none⟩) B.n c2, .slice K' m cd'] 86))) :=
    ⟨((Blk.new _ _ _ rfl).alloc _).alloc _, (Blk.new _ _ _ (by simp)).alloc _, Blk.new _ _ _ (by simp), HAT.out.below E3.out, I1.out.below E3.out, I2.out.below E3.out, below_then D1.out E3.out⟩
  clear HAT I1 I2 D1 E3
  unfold Bl.val
  go_upto_region 2 with (fail)
  generalize (((w1.alloc (.cells #[.slice B.A B.n B.c, .slice B.A' B.n' B.c', .int .i64 B.bend, .slice B.K B.m B.d] 25)).alloc (.cells #[.int .i64 s.long, .int .i64 s.wide, .int .i64 s.kerf, .int .i64 s.across] 37)).alloc (.cells #[.slice (some ⟨g1, 0, none⟩) B.n c1, .slice (some ⟨g2, 0, none⟩) B.n c2, .slice K' m cd'] 86)) = w3 at *
  generalize w1.heap.size = gb at *
  have N2 := Lib.hid (C3.out.below (Below.refl _ _).drew)
  have HOW := Lib.hid (fun W (hc : CV w B L H gb g1 c1 g2 c2 (.slice K' m cd') #[.int .i64 s.long, .int .i64 s.wide, .int .i64 s.kerf, .int .i64 s.across] W) => own_any B W hc.at_ (by have := HF.out.n10; omega) (by have := HF.out.n10; have := HF.out.nn; omega) (by have := HF.out.m3; omega))
  unfold Bl.val at HOW
  have HMO := Lib.hid (fun (B' : Bl) (hl : B.Like B') W (hat : B'.At W) => most_ok B' s W hat (by rw [hl.cerr]; exact HF.out.ok) HSO.out)
  have HLO := Lib.hid (fun (B' : Bl) (hl : B.Like B') W (hat : B'.At W) => look_like hl s W hat HF.out.ok HSO.out (by have := HF.out.n3; omega))
  unfold Sw.val at HMO HLO
  clear C3
  go_region_held3 (fun W => (W.cell? ⟨gb, 0, none⟩ = some (.slice B.A B.n B.c) ∧ W.cell? ⟨gb, 1, none⟩ = some (.slice B.A' B.n' B.c') ∧ W.cell? ⟨gb, 2, none⟩ = some (.int .i64 B.bend) ∧ W.cell? ⟨gb, 3, none⟩ = some (.slice B.K B.m B.d)) ∧ W.cell? ⟨gb + 1, 0, none⟩ = some (.int .i64 s.long) ∧ W.cell? ⟨gb + 1, 1, none⟩ = some (.int .i64 s.wide) ∧ W.cell? ⟨gb + 1, 2, none⟩ = some (.int .i64 s.kerf) ∧ W.cell? ⟨gb + 1, 3, none⟩ = some (.int .i64 s.across)) (first | with_reducible exact N2.out.get8 | with_reducible exact N3.out.get8 | with_reducible exact N4.out.get8)
    (first
      | (go_at_call 52; refine (HOW.out _ N2.out).mono ?_; rintro e W3 ⟨B3, rfl, hl, hat, b3, -⟩; have N3 := Lib.hid (N2.out.below b3); have HM3 := Lib.hid (HMO.out B3 hl W3 hat); rw [hl.worst, hl.n] at HM3; clear hl hat b3)
      | (go_at_call 34; refine HM3.out.mono ?_; rintro e W4 ⟨A4, n4, d4, rfl, hn4, b4⟩; have N4 := Lib.hid (N3.out.below b4); have HN4 := Lib.hid hn4; clear hn4 b4))
  clear HM3 N3 N2
  go_upto_region 3 with (fail)
  have M2 := Lib.hid (N4.out.below (Below.refl _ _).drew)
  go_region_held3 (fun W => (W.cell? ⟨gb, 0, none⟩ = some (.slice B.A B.n B.c) ∧ W.cell? ⟨gb, 1, none⟩ = some (.slice B.A' B.n' B.c') ∧ W.cell? ⟨gb, 2, none⟩ = some (.int .i64 B.bend) ∧ W.cell? ⟨gb, 3, none⟩ = some (.slice B.K B.m B.d)) ∧ W.cell? ⟨gb + 1, 0, none⟩ = some (.int .i64 s.long) ∧ W.cell? ⟨gb + 1, 1, none⟩ = some (.int .i64 s.wide) ∧ W.cell? ⟨gb + 1, 2, none⟩ = some (.int .i64 s.kerf) ∧ W.cell? ⟨gb + 1, 3, none⟩ = some (.int .i64 s.across)) (first | with_reducible exact M2.out.get8 | with_reducible exact M3.out.get8 | with_reducible exact M4.out.get8)
    (first
      | (go_at_call 52; refine (HOW.out _ M2.out).mono ?_; rintro e W5 ⟨B5, rfl, hl, hat, b5, -⟩; have M3 := Lib.hid (M2.out.below b5); have HM5 := Lib.hid (HLO.out B5 hl W5 hat); have HL5 := Lib.hid hl; clear hl hat b5)
      | (go_at_call 45; refine HM5.out.mono ?_; rintro e W6 ⟨x0, gn, ff, rfl, hx0, hgi, hg0, hg1, hcase, b6⟩; have M4 := Lib.hid (M3.out.below b6); have HX0 := Lib.hid hx0; have HGI := Lib.hid hgi; have HG0 := Lib.hid (And.intro hg0 hg1); have HCS := Lib.hid hcase; clear hx0 hgi hg0 hg1 hcase b6))
  clear HM5 M3 M2 N4
  go_upto_region 4 with (fail)
  go_cut [75] from 44 to 75 (fun q W => q = .bool false ∧ W = W6)
  case first =>
    have m4 := M4.out.get8
    have hx0 := HX0.out
    have x1 : ¬ (x0 : Int) < 0 := by omega
    have x2 : ¬ (B.n : Int) ≤ (x0 : Int) := by omega
    have hg0 := HG0.out
    have y1 : ¬ gn < 0 := by omega
    rcases HCS.out with ⟨rfl, rfl⟩ | ⟨rfl, hg, -⟩
    · go_wp2_with fail
      go_meet
      exact ⟨rfl, rfl⟩
    · have hg2 : decide ((0 : Int) < gn) = true := by rw [decide_eq_true_eq]; exact hg
      go_wp2_with fail
      go_meet
      exact ⟨rfl, rfl⟩
  case rest =>
    obtain ⟨rfl, hw1⟩ := hcut
    have hw2 := hw1.symm
    clear hw1
    subst hw2
    have hn3 := HF.out.n3
    have hn10 := HF.out.n10
    obtain ⟨y, hy⟩ : ∃ y : Nat, (y : Int) = column % (B.n : Int) := ⟨(column % (B.n : Int)).toNat, by have := Int.emod_nonneg column (show (B.n : Int) ≠ 0 by omega); omega⟩
    have hyn : y < B.n := by have := Int.emod_lt_of_pos column (show (0 : Int) < B.n by omega); omega
    have HYN := Lib.hid hyn
    have wc1 : IntKind.i64.wrap column = column := IntWalk.i64_in _ (by omega)
    have mc1 : column.tmod (B.n : Int) = (y : Int) := by rw [hy]; exact Int.tmod_eq_emod_of_nonneg (by omega)
    have wx1 : IntKind.i64.wrap (y : Int) = (y : Int) := IntWalk.i64_in _ (by omega)
    have hz1' : ((B.n : Int) = 0) = False := by simp; omega
    have hz2' : ((B.n : Int) == 0) = false := by simp; omega
    clear hy hyn
    have c7 := M4.out.bl.cell
    have HO7 := Lib.hid (HOW.out _ M4.out)
    go_wp2_with fail
    refine HO7.out.mono ?_
    rintro e W7 ⟨B', rfl, hl, hat, b7, ha, hb, hc, hsep⟩
    have HL := Lib.hid hl
    have HSEP := Lib.hid hsep
    have X8 := Lib.hid (Blk.new W7 25 #[.slice B'.A B'.n B'.c, .slice B'.A' B'.n' B'.c', .int .i64 B'.bend, .slice B'.K B'.m B'.d] (g := W7.heap.size) rfl)
    have E8 : Hid (Below W7.heap.size W7 (W7.alloc (.cells #[.slice B'.A B'.n B'.c, .slice B'.A' B'.n' B'.c', .int .i64 B'.bend, .slice B'.K B'.m B'.d] 25))) := below_self _ _
    have DW8 := Lib.hid (below_then b7 E8.out)
    have MW := Lib.hid M4.out
    have M8 := Lib.hid (M4.out.below DW8.out)
    have HAT8 := Lib.hid (hat.below E8.out)
    have HOA8 := Lib.hid (ha.below E8.out)
    have HOB8 := Lib.hid (hb.below E8.out)
    have HOC8 := Lib.hid (hc.below E8.out)
    have HNN8 : Hid (B'.n' = B'.n) := by unfold Hid; rw [hl.n', hl.n]; exact HF.out.nn
    have HYN8 : Hid (y < B'.n) := by unfold Hid; rw [hl.n]; exact HYN.out
    have hy5 : (y : Int) < (B'.n : Int) := by have := HYN8.out; omega
    have hy6 : (y : Int) < (B'.n' : Int) := by have := HYN8.out; have := HNN8.out; omega
    have hy7 : (y : Int) < (B.n : Int) := by have := HYN.out; omega
    unfold Bl.val
    clear hl hat b7 ha hb hc hsep HO7 c7 E8
    go_upto_region 8 with (fail)
    generalize (W7.alloc (.cells #[.slice B'.A B'.n B'.c, .slice B'.A' B'.n' B'.c', .int .i64 B'.bend, .slice B'.K B'.m B'.d] 25)) = W8 at *
    generalize W7.heap.size = go at *
    obtain ⟨ga, gc, eA, eB, hga, hgc, hput⟩ := own_two HAT8.out HOA8.out HOB8.out HOC8.out HSEP.out HNN8.out HYN8.out
    have HS8 : Hid (∀ W, Blk W go 25 #[.slice B'.A B'.n B'.c, .slice B'.A' B'.n' B'.c', .int .i64 B'.bend, .slice B'.K B'.m B'.d] → CV w B L H gb g1 c1 g2 c2 (.slice K' m cd') #[.int .i64 s.long, .int .i64 s.wide, .int .i64 s.kerf, .int .i64 s.across] W → S8L go (gb + 1 + 1) g1 g2 y (.slice (some ⟨ga, 0, none⟩) B'.n B'.c) (.slice (some ⟨gc, 0, none⟩) B'.n' B'.c') (.slice (some ⟨g1, 0, none⟩) B.n c1) (.slice (some ⟨g2, 0, none⟩) B.n c2) (L y) (H y) W) := fun W hb hc => ⟨by rw [← eA]; exact hb.cell 0, by rw [← eB]; exact hb.cell 1, hc.rl.cell 0, hc.rl.cell 1, ints_cell hc.i1 HYN.out, ints_cell hc.i2 HYN.out⟩
    have HPUT := Lib.hid hput
    have HGA := Lib.hid hga
    have HGC := Lib.hid hgc
    have HSP := Lib.hid (fun a b W => lawSpan_any a b W)
    clear eA eB hga hgc hput
    generalize hly : L y = ly at *
    generalize hhy : H y = hy0 at *
    go_upto_region 8 with (fail)
    have D9 : Hid (Below W8.heap.size W8 W8.drew) := (Below.refl _ _).drew
    have X9 := Lib.hid (blk_keep D9.out X8.out)
    have M9 := Lib.hid (M8.out.below D9.out)
    have S0 := HS8.out _ X9.out M9.out
    refine wp_region_held_drew (S := S8L go (gb + 1 + 1) g1 g2 y (.slice (some ⟨ga, 0, none⟩) B'.n B'.c) (.slice (some ⟨gc, 0, none⟩) B'.n' B'.c') (.slice (some ⟨g1, 0, none⟩) B.n c1) (.slice (some ⟨g2, 0, none⟩) B.n c2) ly hy0) (by kernel_rfl) S0 (fun _ => ?_)
    generalize W8.drew = wd at *
    refine heldTake (i := 0) 84 (v := ?v7047) rfl (by kernel_rfl) (by kernel_rfl) (by kernel_rfl) (by kernel_rfl) (fun _ _ _ h => h) (Or.inl ⟨by rfl, ?y7047⟩) (by assumption) ?r7047
    case y7047 => (intro w hSw; obtain ⟨g0, g1, g2, g3, g4, g5⟩ := hSw; go_simp; try with_reducible rfl)
    refine heldTake (i := 1) 85 (v := ?v7048) rfl (by kernel_rfl) (by kernel_rfl) (by kernel_rfl) (by kernel_rfl) (fun _ _ _ h => h) (Or.inl ⟨by rfl, ?y7048⟩) (by assumption) ?r7048
    case y7048 => (intro w hSw; obtain ⟨g0, g1, g2, g3, g4, g5⟩ := hSw; go_simp; try with_reducible rfl)
    refine heldTake (i := 2) 86 (v := ?v7049) rfl (by kernel_rfl) (by kernel_rfl) (by kernel_rfl) (by kernel_rfl) (fun _ _ _ h => h) (Or.inl ⟨by rfl, ?y7049⟩) (by assumption) ?r7049
    case y7049 => (intro w hSw; obtain ⟨g0, g1, g2, g3, g4, g5⟩ := hSw; go_simp; try with_reducible rfl)
    refine heldTake (i := 3) 87 (v := ?v7050) rfl (by kernel_rfl) (by kernel_rfl) (by kernel_rfl) (by kernel_rfl) (fun _ _ _ h => h) (Or.inl ⟨by rfl, ?y7050⟩) (by assumption) ?r7050
    case y7050 => (intro w hSw; obtain ⟨g0, g1, g2, g3, g4, g5⟩ := hSw; go_simp; try with_reducible rfl)
    refine heldTake (i := 4) 88 (v := ?v7051) rfl (by kernel_rfl) (by kernel_rfl) (by kernel_rfl) (by kernel_rfl) (fun _ _ _ h => h) (Or.inl ⟨by rfl, ?y7051⟩) (by assumption) ?r7051
    case y7051 => (intro w hSw; obtain ⟨g0, g1, g2, g3, g4, g5⟩ := hSw; go_simp; try with_reducible rfl)
    refine heldTake (i := 5) 89 (v := ?v7052) rfl (by kernel_rfl) (by kernel_rfl) (by kernel_rfl) (by kernel_rfl) (fun _ _ _ h => h) (Or.inl ⟨by rfl, ?y7052⟩) (by assumption) ?r7052
    case y7052 => (intro w hSw; obtain ⟨g0, g1, g2, g3, g4, g5⟩ := hSw; go_simp; try with_reducible rfl)
    refine heldTake (i := 6) 90 (v := ?v7053) rfl (by kernel_rfl) (by kernel_rfl) (by kernel_rfl) (by kernel_rfl) (fun _ _ _ h => h) (Or.inl ⟨by rfl, ?y7053⟩) (by assumption) ?r7053
    case y7053 => (intro w hSw; obtain ⟨g0, g1, g2, g3, g4, g5⟩ := hSw; go_simp; try with_reducible rfl)
    refine heldTake (i := 7) 91 (v := ?v7054) rfl (by kernel_rfl) (by kernel_rfl) (by kernel_rfl) (by kernel_rfl) (fun _ _ _ h => h) (Or.inl ⟨by rfl, ?y7054⟩) (by assumption) ?r7054
    case y7054 => (intro w hSw; obtain ⟨g0, g1, g2, g3, g4, g5⟩ := hSw; go_simp; try with_reducible rfl)
    refine heldTake (i := 8) 92 (v := ?v7055) rfl (by kernel_rfl) (by kernel_rfl) (by kernel_rfl) (by kernel_rfl) (fun _ _ _ h => h) (Or.inl ⟨by rfl, ?y7055⟩) (by assumption) ?r7055
    case y7055 => (intro w hSw; obtain ⟨g0, g1, g2, g3, g4, g5⟩ := hSw; go_simp; try with_reducible rfl)
    refine heldTake (i := 9) 93 (v := ?v7056) rfl (by kernel_rfl) (by kernel_rfl) (by kernel_rfl) (by kernel_rfl) (fun _ _ _ h => h) (Or.inl ⟨by rfl, ?y7056⟩) (by assumption) ?r7056
    case y7056 => (intro w hSw; obtain ⟨g0, g1, g2, g3, g4, g5⟩ := hSw; go_simp; try with_reducible rfl)
    refine heldTake (i := 10) 94 (v := ?v7057) rfl (by kernel_rfl) (by kernel_rfl) (by kernel_rfl) (by kernel_rfl) (fun _ _ _ h => h) (Or.inl ⟨by rfl, ?y7057⟩) (by assumption) ?r7057
    case y7057 => (intro w hSw; obtain ⟨g0, g1, g2, g3, g4, g5⟩ := hSw; go_simp; try with_reducible rfl)
    refine heldTake (i := 11) 95 (v := ?v7058) rfl (by kernel_rfl) (by kernel_rfl) (by kernel_rfl) (by kernel_rfl) (fun _ _ _ h => h) (Or.inl ⟨by rfl, ?y7058⟩) (by assumption) ?r7058
    case y7058 => (intro w hSw; obtain ⟨g0, g1, g2, g3, g4, g5⟩ := hSw; go_simp; try with_reducible rfl)
    refine heldTake (i := 12) 96 (v := ?v7059) rfl (by kernel_rfl) (by kernel_rfl) (by kernel_rfl) (by kernel_rfl) (fun _ _ _ h => h) (Or.inl ⟨by rfl, ?y7059⟩) (by assumption) ?r7059
    case y7059 => (intro w hSw; obtain ⟨g0, g1, g2, g3, g4, g5⟩ := hSw; go_simp; try with_reducible rfl)
    refine heldTake (i := 13) 97 (v := ?v7060) rfl (by kernel_rfl) (by kernel_rfl) (by kernel_rfl) (by kernel_rfl) (fun _ _ _ h => h) (Or.inl ⟨by rfl, ?y7060⟩) (by assumption) ?r7060
    case y7060 => (intro w hSw; obtain ⟨g0, g1, g2, g3, g4, g5⟩ := hSw; go_simp; try with_reducible rfl)
    refine heldTake (i := 14) 98 (v := ?v7061) rfl (by kernel_rfl) (by kernel_rfl) (by kernel_rfl) (by kernel_rfl) (fun _ _ _ h => h) (Or.inl ⟨by rfl, ?y7061⟩) (by assumption) ?r7061
    case y7061 => (intro w hSw; obtain ⟨g0, g1, g2, g3, g4, g5⟩ := hSw; go_simp; try with_reducible rfl)
    refine heldTake (i := 15) 99 (v := ?v7062) rfl (by kernel_rfl) (by kernel_rfl) (by kernel_rfl) (by kernel_rfl) (fun _ _ _ h => h) (Or.inl ⟨by rfl, ?y7062⟩) (by assumption) ?r7062
    case y7062 => (intro w hSw; obtain ⟨g0, g1, g2, g3, g4, g5⟩ := hSw; go_simp; try with_reducible rfl)
    refine heldTake (i := 17) 101 (v := ?v7063) rfl (by kernel_rfl) (by kernel_rfl) (by kernel_rfl) (by kernel_rfl) (fun _ _ _ h => h) (Or.inl ⟨by rfl, ?y7063⟩) (by assumption) ?r7063
    case y7063 => (intro w hSw; obtain ⟨g0, g1, g2, g3, g4, g5⟩ := hSw; go_simp; try with_reducible rfl)
    refine heldTake (i := 18) 102 (v := ?v7064) rfl (by kernel_rfl) (by kernel_rfl) (by kernel_rfl) (by kernel_rfl) (fun _ _ _ h => h) (Or.inl ⟨by rfl, ?y7064⟩) (by assumption) ?r7064
    case y7064 => (intro w hSw; obtain ⟨g0, g1, g2, g3, g4, g5⟩ := hSw; go_simp; try with_reducible rfl)
    refine heldTake (i := 19) 103 (v := ?v7065) rfl (by kernel_rfl) (by kernel_rfl) (by kernel_rfl) (by kernel_rfl) (fun _ _ _ h => h) (Or.inl ⟨by rfl, ?y7065⟩) (by assumption) ?r7065
    case y7065 => (intro w hSw; obtain ⟨g0, g1, g2, g3, g4, g5⟩ := hSw; go_simp; try with_reducible rfl)
    refine heldTake (i := 20) 104 (v := ?v7066) rfl (by kernel_rfl) (by kernel_rfl) (by kernel_rfl) (by kernel_rfl) (fun _ _ _ h => h) (Or.inl ⟨by rfl, ?y7066⟩) (by assumption) ?r7066
    case y7066 => (intro w hSw; obtain ⟨g0, g1, g2, g3, g4, g5⟩ := hSw; go_simp; try with_reducible rfl)
    refine heldTake (i := 21) 105 (v := ?v7067) rfl (by kernel_rfl) (by kernel_rfl) (by kernel_rfl) (by kernel_rfl) (fun _ _ _ h => h) (Or.inl ⟨by rfl, ?y7067⟩) (by assumption) ?r7067
    case y7067 => (intro w hSw; obtain ⟨g0, g1, g2, g3, g4, g5⟩ := hSw; go_simp; try with_reducible rfl)
    refine heldTake (i := 22) 106 (v := ?v7068) rfl (by kernel_rfl) (by kernel_rfl) (by kernel_rfl) (by kernel_rfl) (fun _ _ _ h => h) (Or.inl ⟨by rfl, ?y7068⟩) (by assumption) ?r7068
    case y7068 => (intro w hSw; obtain ⟨g0, g1, g2, g3, g4, g5⟩ := hSw; go_simp; try with_reducible rfl)
    refine heldTake (i := 23) 107 (v := ?v7069) rfl (by kernel_rfl) (by kernel_rfl) (by kernel_rfl) (by kernel_rfl) (fun _ _ _ h => h) (Or.inl ⟨by rfl, ?y7069⟩) (by assumption) ?r7069
    case y7069 => (intro w hSw; obtain ⟨g0, g1, g2, g3, g4, g5⟩ := hSw; go_simp; try with_reducible rfl)
    refine heldTake (i := 24) 108 (v := ?v7070) rfl (by kernel_rfl) (by kernel_rfl) (by kernel_rfl) (by kernel_rfl) (fun _ _ _ h => h) (Or.inl ⟨by rfl, ?y7070⟩) (by assumption) ?r7070
    case y7070 => (intro w hSw; obtain ⟨g0, g1, g2, g3, g4, g5⟩ := hSw; go_simp; try with_reducible rfl)
    refine heldTake (i := 25) 109 (v := ?v7071) rfl (by kernel_rfl) (by kernel_rfl) (by kernel_rfl) (by kernel_rfl) (fun _ _ _ h => h) (Or.inl ⟨by rfl, ?y7071⟩) (by assumption) ?r7071
    case y7071 => (intro w hSw; obtain ⟨g0, g1, g2, g3, g4, g5⟩ := hSw; go_simp; try with_reducible rfl)
    refine heldTake (i := 26) 110 (v := ?v7072) rfl (by kernel_rfl) (by kernel_rfl) (by kernel_rfl) (by kernel_rfl) (fun _ _ _ h => h) (Or.inl ⟨by rfl, ?y7072⟩) (by assumption) ?r7072
    case y7072 => (intro w hSw; obtain ⟨g0, g1, g2, g3, g4, g5⟩ := hSw; go_simp; try with_reducible rfl)
    simp only [Act.put, List.setIfInBounds_toArray, List.set_cons_zero, List.set_cons_succ]
    refine wpAnyH_ready (rs := [16]) (by kernel_rfl) (by simp) ?_
    refine AllReadyH.cons rfl (fun K16 hK16 => ?_) AllReadyH.nil
    go_simp
    refine (HSP.out _ _ _).mono ?_
    rintro e Wa ⟨rfl, b16⟩
    have Da := Lib.hid (below_then D9.out b16)
    have Xa := Lib.hid (blk_keep b16 X9.out)
    have Ma := Lib.hid (M9.out.below b16)
    refine hK16.out _ _ (HS8.out _ Xa.out Ma.out) (fun _ => ?_)
    clear b16 X9 M9
    skip
    refine wpAnyH_ready (rs := [27]) (by kernel_rfl) (by simp) ?_
    refine AllReadyH.cons rfl (fun K27 hK27 => ?_) AllReadyH.nil
    go_simp
    refine (HSP.out _ _ _).mono ?_
    rintro e Wb ⟨rfl, b27⟩
    have Db := Lib.hid (below_then Da.out b27)
    have Xb := Lib.hid (blk_keep b27 Xa.out)
    have Mb := Lib.hid (Ma.out.below b27)
    refine hK27.out _ _ (HS8.out _ Xb.out Mb.out) (fun _ => ?_)
    clear b27 Xa Ma
    refine heldTake (i := 28) 112 (v := ?v7073) rfl (by kernel_rfl) (by kernel_rfl) (by kernel_rfl) (by kernel_rfl) (fun _ _ _ h => h) (Or.inl ⟨by rfl, ?y7073⟩) (by assumption) ?r7073
    case y7073 => (intro w hSw; obtain ⟨g0, g1, g2, g3, g4, g5⟩ := hSw; go_simp; try with_reducible rfl)
    obtain ⟨⟨csa, hga9⟩, ⟨csb, hgb9⟩, hth1, hput9⟩ := HPUT.out _ Db.out
    obtain ⟨hth2, hat9⟩ := hput9 ly
    refine wpAnyH_ready (rs := [29]) (by kernel_rfl) (by simp) ?_
    refine AllReadyH.cons rfl (fun K29 hK29 => ?_) AllReadyH.nil
    rw [if_pos (by rfl)]
    refine wp_store_midN rfl _ _ _ rfl ga (y * 2) #[.int .i64 ly, .int .i64 ly] rfl rfl hth1 (by kernel_rfl) (ones2 _ _) ?_
    have Xc := Lib.hid (blk_put (o := y * 2) (u := .int .i64 ly) (v := .int .i64 ly) Xb.out (blk_ne Xb.out hga9 (by decide)))
    have Dc := Lib.hid (below_put (o := y * 2) (u := .int .i64 ly) (v := .int .i64 ly) (below_then DW8.out Db.out) HGA.out)
    refine hK29.out _ _ (HS8.out _ Xc.out (MW.out.below Dc.out)) (fun _ => ?_)
    refine heldTake (i := 30) 113 (v := ?v7074) rfl (by kernel_rfl) (by kernel_rfl) (by kernel_rfl) (by kernel_rfl) (fun _ _ _ h => h) (Or.inl ⟨by rfl, ?y7074⟩) (by assumption) ?r7074
    case y7074 => (intro w hSw; obtain ⟨g0, g1, g2, g3, g4, g5⟩ := hSw; go_simp; try with_reducible rfl)
    refine wpAnyH_ready (rs := [31]) (by kernel_rfl) (by simp) ?_
    refine AllReadyH.cons rfl (fun K31 hK31 => ?_) AllReadyH.nil
    rw [if_pos (by rfl)]
    refine wp_store_midN rfl _ _ _ rfl gc (y * 2) #[.int .i64 hy0, .int .i64 hy0] rfl rfl hth2 (by kernel_rfl) (ones2 _ _) ?_
    have Bgc : Hid (go ≠ gc) := blk_ne Xb.out hgb9 (by decide)
    have Xd := Lib.hid (blk_put (o := y * 2) (u := .int .i64 hy0) (v := .int .i64 hy0) Xc.out Bgc.out)
    have Dd := Lib.hid (below_put (o := y * 2) (u := .int .i64 hy0) (v := .int .i64 hy0) Dc.out HGC.out)
    have Md := Lib.hid (MW.out.below Dd.out)
    have HATd := Lib.hid (hat9 hy0)
    refine hK31.out _ _ (HS8.out _ Xd.out Md.out) (fun _ => ?_)
    refine wpAnyH_done (by kernel_rfl) ?_ _
    clear hga9 hgb9 hth1 hth2 hat9 hput9
    obtain ⟨W9, hW9⟩ : ∃ W9, ((Wb.setCells ga (y * 2) [.int .i64 ly, .int .i64 ly]).setCells gc (y * 2) [.int .i64 hy0, .int .i64 hy0]) = W9 := ⟨_, rfl⟩
    rw [hW9] at Xd Md HATd ⊢
    clear hW9 Xb Xc Mb Da Db Dc Bgc D9 S0 HS8 HPUT HGA HGC HSEP HOA8 HOB8 HOC8 HAT8 X8 M8 DW8 MW
    have hS1 := BF.sounded HF.out HSO.out HYN.out HF.out.tb HF.out.tt
    rw [hly, hhy] at hS1
    have HM9 := Lib.hid (most_ok (B'.sound y ly hy0) s W9 HATd.out (by rw [(HL.out.soundL y ly hy0).cerr, ← hly, ← hhy]; exact (HF.out.sound HYN.out HF.out.tb HF.out.tt).ok) HSO.out)
    rw [(HL.out.soundL y ly hy0).worst, (HL.out.soundL y ly hy0).n] at HM9
    simp only [Bl.val, Bl.sound, Sw.val] at HM9
    have hS1' : countL (B.worst s) B.n ≤ countL ((B.sound y ly hy0).worst s) B.n ∧ countL ((B.sound y ly hy0).worst s) B.n ≤ countL (B.worst s) B.n + gn := ⟨hS1.1, by have h1 := hS1.2; have h2 := HGI.out y HYN.out; unfold gainAt at h2; omega⟩
    have HS1 := Lib.hid hS1'
    have c9 := Xd.out.cell
    have d9 := Md.out.sl.cell
    clear hS1 hS1' wc1 mc1 wx1 hz1' hz2' hy5 hy6 hy7 hn3 hn10 HNN8 HYN8 HL HATd Dd
    go_wp2_with fail
    refine HM9.out.mono ?_
    rintro e W10 ⟨A9, n9, d9', rfl, hn9, b9⟩
    have M10 := Lib.hid (Md.out.below b9)
    have hq1 : n4 ≤ n9 := by have h1 := HS1.out.1; have h2 := HN4.out; have h3 : (n9 : Int) = countL ((B.sound y ly hy0).worst s) B.n := hn9; omega
    have hq2 : (n9 : Int) ≤ (n4 : Int) + gn := by have h1 := HS1.out.2; have h2 := HN4.out; have h3 : (n9 : Int) = countL ((B.sound y ly hy0).worst s) B.n := hn9; omega
    have hq3 : (n4 : Int) ≤ 9060 := by have h2 := HN4.out; have h3 := (countL_in (B.worst s) B.n (by have := HF.out.n10; omega)).2; omega
    have hg1 := HG0.out.1
    have hg2 := HG0.out.2
    clear hn9 b9 c9 d9 HM9 HS1 Md Xd hly hhy HYN
    go_upto_region 10 with (fail)
    go_cut [137] from 120 to 137 (fun q W => q = .bool false ∧ W = W10)
    case first =>
      have q1 : ¬ n9 < n4 := by omega
      have q2 : ¬ (n4 : Int) + gn < (n9 : Int) := by omega
      have q3 : IntKind.i64.wrap ((n4 : Int) + gn) = (n4 : Int) + gn := IntWalk.i64_in _ (by omega)
      go_wp2_with fail
      go_meet
      exact ⟨rfl, rfl⟩
    case rest =>
      obtain ⟨rfl, hw1⟩ := hcut
      have hw2 := hw1.symm
      clear hw1
      subst hw2
      have c12 := M10.out.bl.cell
      have HO12 := Lib.hid (HOW.out _ M10.out)
      go_wp2_with fail
      refine HO12.out.mono ?_
      rintro e W11 ⟨B2, rfl, hl2, hat2, b11, -⟩
      have HC12 := Lib.hid (curve_ok B2 W11 hat2 (by rw [hl2.cerr]; exact HF.out.ok))
      rw [hl2.n, hl2.bot, hl2.top, hl2.bend] at HC12
      have M11 := Lib.hid (M10.out.below b11)
      unfold Bl.val at HC12 ⊢
      clear hl2 hat2 b11 c12 HO12 M10
      go_wp2_with fail
      refine HC12.out.mono ?_
      rintro e W12 ⟨g5, cap5, g6, cap6, rfl, p5, p6, b12⟩
      have M12 := Lib.hid (M11.out.below b12)
      have P5 := Lib.hid p5
      have P6 := Lib.hid p6
      clear p5 p6 b12 M11 HC12
      go_upto_region 13 with (fail)
      go_cut [162] from 145 to 162 (fun q W => q = .bool false ∧ W = W12)
      case first =>
        have c13 := M12.out.bl.cell
        have q1 : ((B.n : Int) != (B.n' : Int)) = false := by simp [HF.out.nn]
        go_wp2_with fail
        go_meet
        exact ⟨rfl, rfl⟩
      case rest =>
        obtain ⟨rfl, hw1⟩ := hcut
        have hw2 := hw1.symm
        clear hw1
        subst hw2
        have c15 := M12.out.bl.cell
        have HO7 := Lib.hid (HOW.out _ M12.out)
        go_wp2_with fail
        refine HO7.out.mono ?_
        rintro e W7 ⟨B', rfl, hl, hat, b7, ha, hb, hc, hsep⟩
        have HL := Lib.hid hl
        have HSEP := Lib.hid hsep
        have X8 := Lib.hid (Blk.new W7 25 #[.slice B'.A B'.n B'.c, .slice B'.A' B'.n' B'.c', .int .i64 B'.bend, .slice B'.K B'.m B'.d] (g := W7.heap.size) rfl)
        have E8 : Hid (Below W7.heap.size W7 (W7.alloc (.cells #[.slice B'.A B'.n B'.c, .slice B'.A' B'.n' B'.c', .int .i64 B'.bend, .slice B'.K B'.m B'.d] 25))) := below_self _ _
        have DW8 := Lib.hid (below_then b7 E8.out)
        have MW : Hid (CP w B L H gb g1 c1 g2 c2 g5 g6 (.slice K' m cd') #[.int .i64 s.long, .int .i64 s.wide, .int .i64 s.kerf, .int .i64 s.across] W12) := ⟨M12.out, P5.out, P6.out⟩
        have M8 := Lib.hid (MW.out.below DW8.out)
        have HAT8 := Lib.hid (hat.below E8.out)
        have HOA8 := Lib.hid (ha.below E8.out)
        have HOB8 := Lib.hid (hb.below E8.out)
        have HOC8 := Lib.hid (hc.below E8.out)
        have HNN8 : Hid (B'.n' = B'.n) := by unfold Hid; rw [hl.n', hl.n]; exact HF.out.nn
        have HYN8 : Hid (x0 < B'.n) := by unfold Hid; rw [hl.n]; exact HX0.out
        have hy5 : (x0 : Int) < (B'.n : Int) := by have := HYN8.out; omega
        have hy6 : (x0 : Int) < (B'.n' : Int) := by have := HYN8.out; have := HNN8.out; omega
        have hy7 : (x0 : Int) < (B.n : Int) := by have := HX0.out; omega
        unfold Bl.val
        clear hl hat b7 ha hb hc hsep HO7 c15 E8 P5 P6
        go_upto_region 16 with (fail)
        generalize (W7.alloc (.cells #[.slice B'.A B'.n B'.c, .slice B'.A' B'.n' B'.c', .int .i64 B'.bend, .slice B'.K B'.m B'.d] 25)) = W8 at *
        generalize W7.heap.size = go at *
        obtain ⟨ga, gc, eA, eB, hga, hgc, hput⟩ := own_two HAT8.out HOA8.out HOB8.out HOC8.out HSEP.out HNN8.out HYN8.out
        obtain ⟨lo, hlo⟩ : ∃ z, z = ((bentL B.bot B.bend).getD x0 (0, 0)).1 := ⟨_, rfl⟩
        obtain ⟨hi0, hhi⟩ : ∃ z, z = ((bentL B.top B.bend).getD x0 (0, 0)).2 := ⟨_, rfl⟩
        have HLO := Lib.hid hlo
        have HHI := Lib.hid hhi
        clear hlo hhi
        have HS8 : Hid (∀ W, Blk W go 25 #[.slice B'.A B'.n B'.c, .slice B'.A' B'.n' B'.c', .int .i64 B'.bend, .slice B'.K B'.m B'.d] → CP w B L H gb g1 c1 g2 c2 g5 g6 (.slice K' m cd') #[.int .i64 s.long, .int .i64 s.wide, .int .i64 s.kerf, .int .i64 s.across] W → S16L go (x0 * 2) g5 g6 (.slice (some ⟨ga, 0, none⟩) B'.n B'.c) (.slice (some ⟨gc, 0, none⟩) B'.n' B'.c') lo hi0 W) := fun W hb hc => ⟨by rw [← eA]; exact hb.cell 0, by rw [← eB]; exact hb.cell 1, by rw [HLO.out]; exact (pairs_cell hc.p HX0.out).1, by rw [HHI.out]; exact (pairs_cell hc.q HX0.out).2⟩
        have HPUT := Lib.hid hput
        have HGA := Lib.hid hga
        have HGC := Lib.hid hgc
        have HSP := Lib.hid (fun a b W => lawSpan_any a b W)
        clear eA eB hga hgc hput
        go_upto_region 16 with (fail)
        have D9 : Hid (Below W8.heap.size W8 W8.drew) := (Below.refl _ _).drew
        have X9 := Lib.hid (blk_keep D9.out X8.out)
        have M9 := Lib.hid (M8.out.below D9.out)
        have S0 := HS8.out _ X9.out M9.out
        refine wp_region_held_drew (S := S16L go (x0 * 2) g5 g6 (.slice (some ⟨ga, 0, none⟩) B'.n B'.c) (.slice (some ⟨gc, 0, none⟩) B'.n' B'.c') lo hi0) (by kernel_rfl) S0 (fun _ => ?_)
        generalize W8.drew = wd at *
        refine heldTake (i := 0) 165 (v := ?v7019) rfl (by kernel_rfl) (by kernel_rfl) (by kernel_rfl) (by kernel_rfl) (fun _ _ _ h => h) (Or.inl ⟨by rfl, ?y7019⟩) (by assumption) ?r7019
        case y7019 => (intro w hSw; obtain ⟨g0, g1, g2, g3⟩ := hSw; go_simp; try with_reducible rfl)
        refine heldTake (i := 1) 166 (v := ?v7020) rfl (by kernel_rfl) (by kernel_rfl) (by kernel_rfl) (by kernel_rfl) (fun _ _ _ h => h) (Or.inl ⟨by rfl, ?y7020⟩) (by assumption) ?r7020
        case y7020 => (intro w hSw; obtain ⟨g0, g1, g2, g3⟩ := hSw; go_simp; try with_reducible rfl)
        refine heldTake (i := 2) 167 (v := ?v7021) rfl (by kernel_rfl) (by kernel_rfl) (by kernel_rfl) (by kernel_rfl) (fun _ _ _ h => h) (Or.inl ⟨by rfl, ?y7021⟩) (by assumption) ?r7021
        case y7021 => (intro w hSw; obtain ⟨g0, g1, g2, g3⟩ := hSw; go_simp; try with_reducible rfl)
        refine heldTake (i := 3) 168 (v := ?v7022) rfl (by kernel_rfl) (by kernel_rfl) (by kernel_rfl) (by kernel_rfl) (fun _ _ _ h => h) (Or.inl ⟨by rfl, ?y7022⟩) (by assumption) ?r7022
        case y7022 => (intro w hSw; obtain ⟨g0, g1, g2, g3⟩ := hSw; go_simp; try with_reducible rfl)
        refine heldTake (i := 4) 169 (v := ?v7023) rfl (by kernel_rfl) (by kernel_rfl) (by kernel_rfl) (by kernel_rfl) (fun _ _ _ h => h) (Or.inl ⟨by rfl, ?y7023⟩) (by assumption) ?r7023
        case y7023 => (intro w hSw; obtain ⟨g0, g1, g2, g3⟩ := hSw; go_simp; try with_reducible rfl)
        refine heldTake (i := 5) 170 (v := ?v7024) rfl (by kernel_rfl) (by kernel_rfl) (by kernel_rfl) (by kernel_rfl) (fun _ _ _ h => h) (Or.inl ⟨by rfl, ?y7024⟩) (by assumption) ?r7024
        case y7024 => (intro w hSw; obtain ⟨g0, g1, g2, g3⟩ := hSw; go_simp; try with_reducible rfl)
        refine heldTake (i := 6) 171 (v := ?v7025) rfl (by kernel_rfl) (by kernel_rfl) (by kernel_rfl) (by kernel_rfl) (fun _ _ _ h => h) (Or.inl ⟨by rfl, ?y7025⟩) (by assumption) ?r7025
        case y7025 => (intro w hSw; obtain ⟨g0, g1, g2, g3⟩ := hSw; go_simp; try with_reducible rfl)
        refine heldTake (i := 7) 172 (v := ?v7026) rfl (by kernel_rfl) (by kernel_rfl) (by kernel_rfl) (by kernel_rfl) (fun _ _ _ h => h) (Or.inl ⟨by rfl, ?y7026⟩) (by assumption) ?r7026
        case y7026 => (intro w hSw; obtain ⟨g0, g1, g2, g3⟩ := hSw; go_simp; try with_reducible rfl)
        refine heldTake (i := 8) 173 (v := ?v7027) rfl (by kernel_rfl) (by kernel_rfl) (by kernel_rfl) (by kernel_rfl) (fun _ _ _ h => h) (Or.inl ⟨by rfl, ?y7027⟩) (by assumption) ?r7027
        case y7027 => (intro w hSw; obtain ⟨g0, g1, g2, g3⟩ := hSw; go_simp; try with_reducible rfl)
        refine heldTake (i := 9) 174 (v := ?v7028) rfl (by kernel_rfl) (by kernel_rfl) (by kernel_rfl) (by kernel_rfl) (fun _ _ _ h => h) (Or.inl ⟨by rfl, ?y7028⟩) (by assumption) ?r7028
        case y7028 => (intro w hSw; obtain ⟨g0, g1, g2, g3⟩ := hSw; go_simp; try with_reducible rfl)
        refine heldTake (i := 10) 175 (v := ?v7029) rfl (by kernel_rfl) (by kernel_rfl) (by kernel_rfl) (by kernel_rfl) (fun _ _ _ h => h) (Or.inl ⟨by rfl, ?y7029⟩) (by assumption) ?r7029
        case y7029 => (intro w hSw; obtain ⟨g0, g1, g2, g3⟩ := hSw; go_simp; try with_reducible rfl)
        refine heldTake (i := 11) 176 (v := ?v7030) rfl (by kernel_rfl) (by kernel_rfl) (by kernel_rfl) (by kernel_rfl) (fun _ _ _ h => h) (Or.inl ⟨by rfl, ?y7030⟩) (by assumption) ?r7030
        case y7030 => (intro w hSw; obtain ⟨g0, g1, g2, g3⟩ := hSw; go_simp; try with_reducible rfl)
        refine heldTake (i := 12) 177 (v := ?v7031) rfl (by kernel_rfl) (by kernel_rfl) (by kernel_rfl) (by kernel_rfl) (fun _ _ _ h => h) (Or.inl ⟨by rfl, ?y7031⟩) (by assumption) ?r7031
        case y7031 => (intro w hSw; obtain ⟨g0, g1, g2, g3⟩ := hSw; go_simp; try with_reducible rfl)
        refine heldTake (i := 13) 178 (v := ?v7032) rfl (by kernel_rfl) (by kernel_rfl) (by kernel_rfl) (by kernel_rfl) (fun _ _ _ h => h) (Or.inl ⟨by rfl, ?y7032⟩) (by assumption) ?r7032
        case y7032 => (intro w hSw; obtain ⟨g0, g1, g2, g3⟩ := hSw; go_simp; try with_reducible rfl)
        refine heldTake (i := 14) 179 (v := ?v7033) rfl (by kernel_rfl) (by kernel_rfl) (by kernel_rfl) (by kernel_rfl) (fun _ _ _ h => h) (Or.inl ⟨by rfl, ?y7033⟩) (by assumption) ?r7033
        case y7033 => (intro w hSw; obtain ⟨g0, g1, g2, g3⟩ := hSw; go_simp; try with_reducible rfl)
        refine heldTake (i := 15) 180 (v := ?v7034) rfl (by kernel_rfl) (by kernel_rfl) (by kernel_rfl) (by kernel_rfl) (fun _ _ _ h => h) (Or.inl ⟨by rfl, ?y7034⟩) (by assumption) ?r7034
        case y7034 => (intro w hSw; obtain ⟨g0, g1, g2, g3⟩ := hSw; go_simp; try with_reducible rfl)
        refine heldTake (i := 17) 182 (v := ?v7035) rfl (by kernel_rfl) (by kernel_rfl) (by kernel_rfl) (by kernel_rfl) (fun _ _ _ h => h) (Or.inl ⟨by rfl, ?y7035⟩) (by assumption) ?r7035
        case y7035 => (intro w hSw; obtain ⟨g0, g1, g2, g3⟩ := hSw; go_simp; try with_reducible rfl)
        refine heldTake (i := 18) 183 (v := ?v7036) rfl (by kernel_rfl) (by kernel_rfl) (by kernel_rfl) (by kernel_rfl) (fun _ _ _ h => h) (Or.inl ⟨by rfl, ?y7036⟩) (by assumption) ?r7036
        case y7036 => (intro w hSw; obtain ⟨g0, g1, g2, g3⟩ := hSw; go_simp; try with_reducible rfl)
        refine heldTake (i := 19) 184 (v := ?v7037) rfl (by kernel_rfl) (by kernel_rfl) (by kernel_rfl) (by kernel_rfl) (fun _ _ _ h => h) (Or.inl ⟨by rfl, ?y7037⟩) (by assumption) ?r7037
        case y7037 => (intro w hSw; obtain ⟨g0, g1, g2, g3⟩ := hSw; go_simp; try with_reducible rfl)
        refine heldTake (i := 20) 185 (v := ?v7038) rfl (by kernel_rfl) (by kernel_rfl) (by kernel_rfl) (by kernel_rfl) (fun _ _ _ h => h) (Or.inl ⟨by rfl, ?y7038⟩) (by assumption) ?r7038
        case y7038 => (intro w hSw; obtain ⟨g0, g1, g2, g3⟩ := hSw; go_simp; try with_reducible rfl)
        refine heldTake (i := 21) 186 (v := ?v7039) rfl (by kernel_rfl) (by kernel_rfl) (by kernel_rfl) (by kernel_rfl) (fun _ _ _ h => h) (Or.inl ⟨by rfl, ?y7039⟩) (by assumption) ?r7039
        case y7039 => (intro w hSw; obtain ⟨g0, g1, g2, g3⟩ := hSw; go_simp; try with_reducible rfl)
        refine heldTake (i := 22) 187 (v := ?v7040) rfl (by kernel_rfl) (by kernel_rfl) (by kernel_rfl) (by kernel_rfl) (fun _ _ _ h => h) (Or.inl ⟨by rfl, ?y7040⟩) (by assumption) ?r7040
        case y7040 => (intro w hSw; obtain ⟨g0, g1, g2, g3⟩ := hSw; go_simp; try with_reducible rfl)
        refine heldTake (i := 23) 188 (v := ?v7041) rfl (by kernel_rfl) (by kernel_rfl) (by kernel_rfl) (by kernel_rfl) (fun _ _ _ h => h) (Or.inl ⟨by rfl, ?y7041⟩) (by assumption) ?r7041
        case y7041 => (intro w hSw; obtain ⟨g0, g1, g2, g3⟩ := hSw; go_simp; try with_reducible rfl)
        refine heldTake (i := 24) 189 (v := ?v7042) rfl (by kernel_rfl) (by kernel_rfl) (by kernel_rfl) (by kernel_rfl) (fun _ _ _ h => h) (Or.inl ⟨by rfl, ?y7042⟩) (by assumption) ?r7042
        case y7042 => (intro w hSw; obtain ⟨g0, g1, g2, g3⟩ := hSw; go_simp; try with_reducible rfl)
        refine heldTake (i := 25) 190 (v := ?v7043) rfl (by kernel_rfl) (by kernel_rfl) (by kernel_rfl) (by kernel_rfl) (fun _ _ _ h => h) (Or.inl ⟨by rfl, ?y7043⟩) (by assumption) ?r7043
        case y7043 => (intro w hSw; obtain ⟨g0, g1, g2, g3⟩ := hSw; go_simp; try with_reducible rfl)
        refine heldTake (i := 26) 191 (v := ?v7044) rfl (by kernel_rfl) (by kernel_rfl) (by kernel_rfl) (by kernel_rfl) (fun _ _ _ h => h) (Or.inl ⟨by rfl, ?y7044⟩) (by assumption) ?r7044
        case y7044 => (intro w hSw; obtain ⟨g0, g1, g2, g3⟩ := hSw; go_simp; try with_reducible rfl)
        simp only [Act.put, List.setIfInBounds_toArray, List.set_cons_zero, List.set_cons_succ]
        refine wpAnyH_ready (rs := [16]) (by kernel_rfl) (by simp) ?_
        refine AllReadyH.cons rfl (fun K16 hK16 => ?_) AllReadyH.nil
        go_simp
        refine (HSP.out _ _ _).mono ?_
        rintro e Wa ⟨rfl, b16⟩
        have Da := Lib.hid (below_then D9.out b16)
        have Xa := Lib.hid (blk_keep b16 X9.out)
        have Ma := Lib.hid (M9.out.below b16)
        refine hK16.out _ _ (HS8.out _ Xa.out Ma.out) (fun _ => ?_)
        clear b16 X9 M9
        skip
        refine wpAnyH_ready (rs := [27]) (by kernel_rfl) (by simp) ?_
        refine AllReadyH.cons rfl (fun K27 hK27 => ?_) AllReadyH.nil
        go_simp
        refine (HSP.out _ _ _).mono ?_
        rintro e Wb ⟨rfl, b27⟩
        have Db := Lib.hid (below_then Da.out b27)
        have Xb := Lib.hid (blk_keep b27 Xa.out)
        have Mb := Lib.hid (Ma.out.below b27)
        refine hK27.out _ _ (HS8.out _ Xb.out Mb.out) (fun _ => ?_)
        clear b27 Xa Ma
        refine heldTake (i := 28) 193 (v := ?v7045) rfl (by kernel_rfl) (by kernel_rfl) (by kernel_rfl) (by kernel_rfl) (fun _ _ _ h => h) (Or.inl ⟨by rfl, ?y7045⟩) (by assumption) ?r7045
        case y7045 => (intro w hSw; obtain ⟨g0, g1, g2, g3⟩ := hSw; go_simp; try with_reducible rfl)
        obtain ⟨⟨csa, hga9⟩, ⟨csb, hgb9⟩, hth1, hput9⟩ := HPUT.out _ Db.out
        obtain ⟨hth2, hat9⟩ := hput9 lo
        refine wpAnyH_ready (rs := [29]) (by kernel_rfl) (by simp) ?_
        refine AllReadyH.cons rfl (fun K29 hK29 => ?_) AllReadyH.nil
        rw [if_pos (by rfl)]
        refine wp_store_midN rfl _ _ _ rfl ga (x0 * 2) #[.int .i64 lo, .int .i64 lo] rfl rfl hth1 (by kernel_rfl) (ones2 _ _) ?_
        have Xc := Lib.hid (blk_put (o := x0 * 2) (u := .int .i64 lo) (v := .int .i64 lo) Xb.out (blk_ne Xb.out hga9 (by decide)))
        have Dc := Lib.hid (below_put (o := x0 * 2) (u := .int .i64 lo) (v := .int .i64 lo) (below_then DW8.out Db.out) HGA.out)
        refine hK29.out _ _ (HS8.out _ Xc.out (MW.out.below Dc.out)) (fun _ => ?_)
        refine heldTake (i := 30) 194 (v := ?v7046) rfl (by kernel_rfl) (by kernel_rfl) (by kernel_rfl) (by kernel_rfl) (fun _ _ _ h => h) (Or.inl ⟨by rfl, ?y7046⟩) (by assumption) ?r7046
        case y7046 => (intro w hSw; obtain ⟨g0, g1, g2, g3⟩ := hSw; go_simp; try with_reducible rfl)
        refine wpAnyH_ready (rs := [31]) (by kernel_rfl) (by simp) ?_
        refine AllReadyH.cons rfl (fun K31 hK31 => ?_) AllReadyH.nil
        rw [if_pos (by rfl)]
        refine wp_store_midN rfl _ _ _ rfl gc (x0 * 2) #[.int .i64 hi0, .int .i64 hi0] rfl rfl hth2 (by kernel_rfl) (ones2 _ _) ?_
        have Bgc : Hid (go ≠ gc) := blk_ne Xb.out hgb9 (by decide)
        have Xd := Lib.hid (blk_put (o := x0 * 2) (u := .int .i64 hi0) (v := .int .i64 hi0) Xc.out Bgc.out)
        have Dd := Lib.hid (below_put (o := x0 * 2) (u := .int .i64 hi0) (v := .int .i64 hi0) Dc.out HGC.out)
        have Md := Lib.hid (MW.out.below Dd.out)
        have HATd := Lib.hid (hat9 hi0)
        refine hK31.out _ _ (HS8.out _ Xd.out Md.out) (fun _ => ?_)
        refine wpAnyH_done (by kernel_rfl) ?_ _
        clear hga9 hgb9 hth1 hth2 hat9 hput9
        obtain ⟨W9, hW9⟩ : ∃ W9, ((Wb.setCells ga (x0 * 2) [.int .i64 lo, .int .i64 lo]).setCells gc (x0 * 2) [.int .i64 hi0, .int .i64 hi0]) = W9 := ⟨_, rfl⟩
        rw [hW9] at Xd Md HATd ⊢
        clear hW9 Xb Xc Mb Da Db Dc Bgc D9 S0 HS8 HPUT HGA HGC HSEP HOA8 HOB8 HOC8 HAT8 X8 M8 DW8 MW
        have hB := BF.best HF.out s HX0.out HLO.out HHI.out
        have HM17 := Lib.hid (most_ok (B'.sound x0 lo hi0) s W9 HATd.out (by rw [(HL.out.soundL x0 lo hi0).cerr]; exact hB.2) HSO.out)
        rw [(HL.out.soundL x0 lo hi0).worst, (HL.out.soundL x0 lo hi0).n, hB.1] at HM17
        simp only [Bl.val, Bl.sound, Sw.val] at HM17
        have c17 := Xd.out.cell
        have d17 := Md.out.c.sl.cell
        clear hB HATd Dd hy5 hy6 hy7 HNN8 HYN8 HL HLO HHI
        go_wp2_with fail
        refine HM17.out.mono ?_
        rintro e W17 ⟨A17, n17, d17', rfl, hn17, b17⟩
        have BL := Lib.hid (below_then Md.out.c.bel b17)
        have HN17 := Lib.hid hn17
        clear hn17 b17 c17 d17 HM17 Xd Md
        rcases HCS.out with ⟨rfl, rfl⟩ | ⟨rfl, hg, hx⟩
        · go_wp2_with (go_at_call 18; refine (HKN.out _).mono ?_; rintro e w9 ⟨rfl, b9⟩; have D9 := Lib.hid (below_then BL.out b9); clear b9)
          go_ret
          exact ⟨rfl, D9.out⟩
        · have q3 : IntKind.i64.wrap ((n4 : Int) + gn) = (n4 : Int) + gn := IntWalk.i64_in _ (by omega)
          have q4 : (n17 : Int) = (n4 : Int) + gn := by have h1 := HN17.out; have h2 := HN4.out; have h3 : (n17 : Int) = countL (B.soundX s x0) B.n := h1; unfold gainAt at hx; omega
          have q5 : ((n17 : Int) == (n4 : Int) + gn) = true := by simpa using q4
          have q6 : decide ((n17 : Int) = (n4 : Int) + gn) = true := by simpa using q4
          clear q4 hx
          go_wp2_with (go_at_call 18; refine (HKN.out _).mono ?_; rintro e w9 ⟨rfl, b9⟩; have D9 := Lib.hid (below_then BL.out b9); clear b9)
          go_ret
          exact ⟨rfl, D9.out⟩
end Go.Proofs.Ytiflhimmieflpaa
