/- Walks: the law ToothCurved. -/
import Derived.Test.YtiflhimmieflpaaW92
import Derived.Test.YtiflhimmieflpaaW87
import Derived.Test.YtiflhimmieflpaaW93
namespace Go.Proofs.Ytiflhimmieflpaa
open Go.RowKit Go.Maps

set_option maxRecDepth 100000 in
set_option maxHeartbeats 8000000 in
theorem ToothCurved_any (T : Tk) (column : Int) (above : Bool) (w : World) (h : T.At w) (hcol : Byte column) : Calls Try.prog 15 #[T.val, .int .u8 column, .bool above] w (Yes w) := by
  obtain ⟨i0, hi, hz0, hz1, hz2⟩ := info_parts Try.infoSpan
  have B0 := Lib.hid (Blk.new w 83 #[.slice T.A T.n T.c, .int .u8 T.bend, .slice T.K T.m T.d, .int .u8 T.s0, .int .u8 T.s1, .int .u8 T.s2, .int .u8 T.s3] (g := w.heap.size) rfl)
  have b0 := B0.out.cell
  have D0 := Lib.hid (below_self w (.cells #[.slice T.A T.n T.c, .int .u8 T.bend, .slice T.K T.m T.d, .int .u8 T.s0, .int .u8 T.s1, .int .u8 T.s2, .int .u8 T.s3] 83))
  have HB := Lib.hid (tusk_blade T _ (h.below D0.out))
  have HBF := Lib.hid (fun A A' K ca ca' m cd (hm : m ≤ 3) => Tk.bf h.bc h.bk A A' K ca ca' m cd hm)
  have HKN := Lib.hid (fun W => known_any W)
  unfold Byte at hcol
  clear h
  unfold Tk.val at *
  go_enter Try.func15, Try.ntmps15
  go_wp2_with fail
  refine HB.out.mono ?_
  rintro e w1 ⟨A, A', K, K', ca, ca', cd, cd', m, g1, g2, c1, c2, rfl, hm, p1, p2, sp, q1, q2, o1, o2, hg, b1⟩
  obtain ⟨B, hB⟩ : ∃ B, B = T.blade A A' K ca ca' m cd := ⟨_, rfl⟩
  have hn : T.len = B.n := by rw [hB]; rfl
  have HF : Hid (BF B T.low T.high) := by rw [hB]; exact HBF.out A A' K ca ca' m cd (by omega)
  have hn10 := HF.out.n10
  have hm3 := HF.out.m3
  have HAT : Hid (B.At w1) := by
    have e1 : B.n ≤ maxLen := by unfold maxLen; omega
    have e2 : B.m ≤ maxLen := by unfold maxLen; omega
    rw [hB] at e1 e2 ⊢
    exact ⟨(reads_of_own p1).r, (reads_of_own p2).r, (reads_of_own q1).r, e1, e1, e2⟩
  have I1 : Hid (Ints w1 (some ⟨g1, 0, none⟩) B.n ((List.range B.n).map T.low)) := by rw [← hn]; exact (reads_of_own o1).r
  have I2 : Hid (Ints w1 (some ⟨g2, 0, none⟩) B.n ((List.range B.n).map T.high)) := by rw [← hn]; exact (reads_of_own o2).r
  have D1 := Lib.hid (below_then D0.out b1)
  rw [← hB, hn]
  generalize T.low = L at *
  generalize T.high = H at *
  clear p1 p2 sp q1 q2 o1 o2 hg b1 hB hn hm hn10 hm3 HB HBF b0 B0 D0
  have E3 : Hid (Below w1.heap.size w1 (((w1.alloc (.cells #[.slice B.A B.n B.c, .slice B.A' B.n' B.c', .int .i64 B.bend, .slice B.K B.m B.d] 25)).alloc (.cells #[.int .i64 (1 + T.s0 % 4), .int .i64 (8 + T.s1 % 40), .int .i64 (T.s2 % 6), .int .i64 (T.s3 % 3)] 37)).alloc (.cells #[.slice (some ⟨g1, 0, none⟩) B.n c1, .slice (some ⟨g2, 0, none⟩) B.n c2, .slice K' m cd'] 86))) := below_alloc' (below_alloc' (below_self _ _) _) _
  have C3 : Hid (CV w B L H w1.heap.size g1 c1 g2 c2 (.slice K' m cd') #[.int .i64 (1 + T.s0 % 4), .int .i64 (8 + T.s1 % 40), .int .i64 (T.s2 % 6), .int .i64 (T.s3 % 3)] (((w1.alloc (.cells #[.slice B.A B.n B.c, .slice B.A' B.n' B.c', .int .i64 B.bend, .slice B.K B.m B.d] 25)).alloc (.cells #[.int .i64 (1 + T.s0 % 4), .int .i64 (8 + T.s1 % 40), .int .i64 (T.s2 % 6), .int .i64 (T.s3 % 3)] 37)).alloc (.cells #[.slice (some ⟨g1, 0, none⟩) B.n c1, .slice (some ⟨g2, 0, none⟩) B.n c2, .slice K' m cd'] 86))) :=
    ⟨((Blk.new _ _ _ rfl).alloc _).alloc _, (Blk.new _ _ _ (by simp)).alloc _, Blk.new _ _ _ (by simp), HAT.out.below E3.out, I1.out.below E3.out, I2.out.below E3.out, below_then D1.out E3.out⟩
  clear HAT I1 I2 D1 E3
  unfold Bl.val
  go_upto_region 2 with (fail)
  generalize (((w1.alloc (.cells #[.slice B.A B.n B.c, .slice B.A' B.n' B.c', .int .i64 B.bend, .slice B.K B.m B.d] 25)).alloc (.cells #[.int .i64 (1 + T.s0 % 4), .int .i64 (8 + T.s1 % 40), .int .i64 (T.s2 % 6), .int .i64 (T.s3 % 3)] 37)).alloc (.cells #[.slice (some ⟨g1, 0, none⟩) B.n c1, .slice (some ⟨g2, 0, none⟩) B.n c2, .slice K' m cd'] 86)) = w3 at *
  generalize w1.heap.size = gb at *
  have HOW := Lib.hid (fun W (hb : Below w3.heap.size w3 W) => own_any B W (C3.out.at_.below hb) (by have := HF.out.n10; omega) (by have := HF.out.n10; have := HF.out.nn; omega) (by have := HF.out.m3; omega))
  unfold Bl.val at HOW
  have c3 := C3.out.bl.cell
  go_wp2_with fail
  refine (HOW.out _ (Below.refl _ _)).mono ?_
  rintro e w4 ⟨B', rfl, hl, hat, b4, -⟩
  have C4 := Lib.hid (C3.out.below b4)
  have HCV := Lib.hid (Curve_top B' w4 hat)
  unfold CurveOut at HCV
  rw [hl.n, hl.n', hl.m, hl.bend, hl.bot, hl.top, hl.cr] at HCV
  unfold Bl.val at HCV ⊢
  clear hl hat b4 c3 C3 HOW
  go_wp2_with fail
  refine HCV.out.mono ?_
  rintro e w5 ⟨b5, hcv⟩
  rcases hcv with ⟨herr, rfl⟩ | ⟨hok, h1, cap, h2, cap', rfl, P, P'⟩
  · exact (herr HF.out.ok).elim
  have Z5 : Hid (CP w B L H gb g1 c1 g2 c2 h1 h2 (.slice K' m cd') #[.int .i64 (1 + T.s0 % 4), .int .i64 (8 + T.s1 % 40), .int .i64 (T.s2 % 6), .int .i64 (T.s3 % 3)] w5) := ⟨C4.out.below b5, P, P'⟩
  clear hok P P' b5 C4 HCV
  have r5 := Z5.out.c.rl.cell
  have en : ((B.n : Int) != (B.n : Int)) = false := by simp
  have hn3 := HF.out.n3
  have hn10 := HF.out.n10
  go_wp2_with fail
  clear r5
  go_loopw [13] (fun i wr => ∃ k : Nat, k ≤ B.n ∧ i = .int .i64 k ∧ CP w B L H gb g1 c1 g2 c2 h1 h2 (.slice K' m cd') #[.int .i64 (1 + T.s0 % 4), .int .i64 (8 + T.s1 % 40), .int .i64 (T.s2 % 6), .int .i64 (T.s3 % 3)] wr) (fun i _ => B.n - (intOf i).toNat)
  case atStart => exact ⟨0, Nat.zero_le _, rfl, Z5.out⟩
  case round =>
    obtain ⟨k, hk, rfl, hz⟩ := hrel
    have Z := Lib.hid hz
    clear hz Z5
    by_cases hlt : k < B.n
    · focus
        have hlt2 : (k : Int) < (B.n : Int) := by omega
        have hlt3 : (k : Int) < (B.n' : Int) := by have := HF.out.nn; omega
        have q := HF.out.col hlt
        have x1 := ints_cell Z.out.c.i1 hlt
        have x2 := ints_cell Z.out.c.i2 hlt
        obtain ⟨y1, y2⟩ := pairs_cell Z.out.p hlt
        obtain ⟨z1, z2⟩ := pairs_cell Z.out.q hlt
        obtain ⟨ba, oa, hA, _, u1, u2⟩ := Pairs.at_ Z.out.c.at_.hb hlt
        obtain ⟨bb, ob, hA', _, t1, t2⟩ := Pairs.at_ Z.out.c.at_.ht (show k < B.n' by omega)
        have s0 := Z.out.c.bl.cell 0
        have s1 := Z.out.c.bl.cell 1
        have r0 := Z.out.c.rl.cell 0
        have r1 := Z.out.c.rl.cell 1
        simp only [List.getElem?_toArray, List.getElem?_cons_zero, List.getElem?_cons_succ] at s0 s1 r0 r1
        rw [hA] at s0
        rw [hA'] at s1
        clear hA hA'
        generalize (bentL B.bot B.bend).getD k (0, 0) = ps at *
        generalize (bentL B.top B.bend).getD k (0, 0) = qs at *
        generalize B.bot.getD k (0, 0) = us at *
        generalize B.top.getD k (0, 0) = ts at *
        generalize L k = lk at *
        generalize H k = hk2 at *
        obtain ⟨p1, p2⟩ := ps
        obtain ⟨q1, q2⟩ := qs
        obtain ⟨v1, v2⟩ := us
        obtain ⟨t3, t4⟩ := ts
        simp only at q y1 y2 z1 z2 u1 u2 t1 t2
        have f1 : decide (lk < p1) = false := by rw [decide_eq_false_iff_not]; omega
        have f2 : decide (p2 < lk) = false := by rw [decide_eq_false_iff_not]; omega
        have f3 : decide (hk2 < q1) = false := by rw [decide_eq_false_iff_not]; omega
        have f4 : decide (q2 < hk2) = false := by rw [decide_eq_false_iff_not]; omega
        have f5 : decide (p1 < v1) = false := by rw [decide_eq_false_iff_not]; omega
        have f6 : decide (v2 < p2) = false := by rw [decide_eq_false_iff_not]; omega
        have f7 : decide (q1 < t3) = false := by rw [decide_eq_false_iff_not]; omega
        have f8 : decide (t4 < q2) = false := by rw [decide_eq_false_iff_not]; omega
        clear q
        have Rx1 := fun d os => cell_regrown x1 d os
        have Rx2 := fun d os => cell_regrown x2 d os
        have Ry1 := fun d os => cell_regrown y1 d os
        have Ry2 := fun d os => cell_regrown y2 d os
        have Rz1 := fun d os => cell_regrown z1 d os
        have Rz2 := fun d os => cell_regrown z2 d os
        have Ru1 := fun d os => cell_regrown u1 d os
        have Ru2 := fun d os => cell_regrown u2 d os
        have Rt1 := fun d os => cell_regrown t1 d os
        have Rt2 := fun d os => cell_regrown t2 d os
        have Rs0 := fun d os => cell_regrown s0 d os
        have Rs1 := fun d os => cell_regrown s1 d os
        have Rr0 := fun d os => cell_regrown r0 d os
        have Rr1 := fun d os => cell_regrown r1 d os
        clear x1 x2 y1 y2 z1 z2 u1 u2 t1 t2 s0 s1 r0 r1
        go_wp2_with fail
        refine wp_region_quiet_below (by kernel_rfl) (lexB_fast (by kernel_rfl) (by kernel_rfl)) ?_
        dsimp only [List.append_eq, List.cons_append, List.nil_append]
        repeat (go_big_quiet_step (fail))
        refine wpQuiet_nil ?_
        intro _ hw'
        obtain ⟨⟨dq, osq⟩, hw''⟩ := hw'
        subst hw''
        have B8 := Lib.hid (below_regrown wr dq osq)
        generalize «Sort».grow (redrawn wr dq) osq = w8 at *
        clear Rx1 Rx2 Ry1 Ry2 Rz1 Rz2 Ru1 Ru2 Rt1 Rt2 Rs0 Rs1 Rr0 Rr1
        go_wp2
        go_roundw
        case rel => exact ⟨k + 1, by omega, by go_num, Z.out.below B8.out⟩
        case measure => simp [intOf]; omega
    · obtain rfl : k = B.n := by omega
      clear hlt hk
      obtain ⟨x, hx⟩ : ∃ x : Nat, (x : Int) = column % (B.n : Int) := ⟨(column % (B.n : Int)).toNat, by have := Int.emod_nonneg column (show (B.n : Int) ≠ 0 by omega); omega⟩
      have hxn : x < B.n := by have := Int.emod_lt_of_pos column (show (0 : Int) < B.n by omega); omega
      have hxn2 : (x : Int) < (B.n : Int) := by omega
      have hxn3 : (x : Int) < (B.n' : Int) := by have := HF.out.nn; omega
      have hxn4 : x < B.n' := by omega
      have HXN := Lib.hid hxn
      have wc1 : IntKind.i64.wrap column = column := IntWalk.i64_in _ (by omega)
      have mc1 : column.tmod (B.n : Int) = (x : Int) := by rw [hx]; exact Int.tmod_eq_emod_of_nonneg (by omega)
      have wx1 : IntKind.i64.wrap (x : Int) = (x : Int) := IntWalk.i64_in _ (by omega)
      have hz1' : ((B.n : Int) = 0) = False := by simp; omega
      have hz2' : ((B.n : Int) == 0) = false := by simp; omega
      clear hx
      obtain ⟨y1, y2⟩ := pairs_cell Z.out.p hxn
      obtain ⟨z1, z2⟩ := pairs_cell Z.out.q hxn
      obtain ⟨ba, oa, hA, hba, u1, u2⟩ := Pairs.at_ Z.out.c.at_.hb hxn
      obtain ⟨bb, ob, hA', hbb, u3, u4⟩ := Pairs.at_ Z.out.c.at_.ht hxn4
      obtain ⟨r1, r2, hr⟩ : ∃ r1 r2, B.bot.getD x (0, 0) = (r1, r2) := ⟨_, _, rfl⟩
      obtain ⟨t1, t2, ht⟩ : ∃ r1 r2, B.top.getD x (0, 0) = (r1, r2) := ⟨_, _, rfl⟩
      obtain ⟨p1, p2, hp⟩ : ∃ r1 r2, (bentL B.bot B.bend).getD x (0, 0) = (r1, r2) := ⟨_, _, rfl⟩
      obtain ⟨q1, q2, hq⟩ : ∃ r1 r2, (bentL B.top B.bend).getD x (0, 0) = (r1, r2) := ⟨_, _, rfl⟩
      rw [hr] at u1 u2
      rw [ht] at u3 u4
      rw [hp] at y1 y2
      rw [hq] at z1 z2
      simp only at u1 u2 u3 u4 y1 y2 z1 z2
      have HS11 : Hid (∀ W, Below wr.heap.size wr W → S11 gb 0 ba (oa + x * 2) h1 x (.slice (some ⟨ba, oa, none⟩) B.n B.c) r1 r2 p1 p2 W) := fun W hb => ⟨by rw [← hA]; exact (blk_keep hb Z.out.c.bl).cell 0, cell_stay hb u1, cell_stay hb u2, cell_stay hb y1, cell_stay hb y2⟩
      have HS13 : Hid (∀ W, Below wr.heap.size wr W → S11 gb 1 bb (ob + x * 2) h2 x (.slice (some ⟨bb, ob, none⟩) B.n' B.c') t1 t2 q1 q2 W) := fun W hb => ⟨by rw [← hA']; exact (blk_keep hb Z.out.c.bl).cell 1, cell_stay hb u3, cell_stay hb u4, cell_stay hb z1, cell_stay hb z2⟩
      have HR := Lib.hid hr
      have HT2 := Lib.hid ht
      have HP := Lib.hid hp
      have HQ := Lib.hid hq
      clear hA hA' hba hbb u1 u2 u3 u4 y1 y2 z1 z2 hr ht hp hq hxn hxn4
      go_upto_region 11 with (fail)
      go_cut [15, 16] from 174 to 182 (fun s15 s16 W => ∃ gh gi : Nat, s15 = .pointer (some ⟨gh, 0, none⟩) ∧ s16 = .pointer (some ⟨gi, 0, none⟩) ∧ Below wr.heap.size wr W ∧ wr.heap.size ≤ gh ∧ wr.heap.size ≤ gi ∧ gh ≠ gi ∧ Blk W gh 98 #[.int .i64 r1, .int .i64 r2] ∧ Blk W gi 98 #[.int .i64 p1, .int .i64 p2])
      case first =>
        focus
          have D1 : Hid (Below wr.heap.size wr wr.drew) := (Below.refl _ _).drew
          have S0 := HS11.out _ D1.out
          refine wp_region_held_drew (S := S11 gb 0 ba (oa + x * 2) h1 x (.slice (some ⟨ba, oa, none⟩) B.n B.c) r1 r2 p1 p2) (by kernel_rfl) S0 (fun _ => ?_)
          generalize wr.drew = wd at *
          have D9 : Hid (wr.heap.size ≤ wd.heap.size) := D1.out.size
          refine heldTake (i := 0) 174 (v := ?v7001) rfl (by kernel_rfl) (by kernel_rfl) (by kernel_rfl) (by kernel_rfl) (fun _ _ _ h => h) (Or.inl ⟨by rfl, ?y7001⟩) (by assumption) ?r7001
          case y7001 => (intro w hSw; obtain ⟨g0, g1, g2, g3, g4⟩ := hSw; go_simp; try with_reducible rfl)
          refine heldTake (i := 1) 175 (v := ?v7002) rfl (by kernel_rfl) (by kernel_rfl) (by kernel_rfl) (by kernel_rfl) (fun _ _ _ h => h) (Or.inl ⟨by rfl, ?y7002⟩) (by assumption) ?r7002
          case y7002 => (intro w hSw; obtain ⟨g0, g1, g2, g3, g4⟩ := hSw; go_simp; try with_reducible rfl)
          refine heldTake (i := 2) 176 (v := ?v7003) rfl (by kernel_rfl) (by kernel_rfl) (by kernel_rfl) (by kernel_rfl) (fun _ _ _ h => h) (Or.inl ⟨by rfl, ?y7003⟩) (by assumption) ?r7003
          case y7003 => (intro w hSw; obtain ⟨g0, g1, g2, g3, g4⟩ := hSw; go_simp; try with_reducible rfl)
          refine heldTake (i := 3) 177 (v := ?v7004) rfl (by kernel_rfl) (by kernel_rfl) (by kernel_rfl) (by kernel_rfl) (fun _ _ _ h => h) (Or.inl ⟨by rfl, ?y7004⟩) (by assumption) ?r7004
          case y7004 => (intro w hSw; obtain ⟨g0, g1, g2, g3, g4⟩ := hSw; go_simp; try with_reducible rfl)
          refine heldTake (i := 4) 178 (v := ?v7005) rfl (by kernel_rfl) (by kernel_rfl) (by kernel_rfl) (by kernel_rfl) (fun _ _ _ h => h) (Or.inl ⟨by rfl, ?y7005⟩) (by assumption) ?r7005
          case y7005 => (intro w hSw; obtain ⟨g0, g1, g2, g3, g4⟩ := hSw; go_simp; try with_reducible rfl)
          refine heldTake (i := 5) 179 (v := ?v7006) rfl (by kernel_rfl) (by kernel_rfl) (by kernel_rfl) (by kernel_rfl) (fun _ _ _ h => h) (Or.inl ⟨by rfl, ?y7006⟩) (by assumption) ?r7006
          case y7006 => (intro w hSw; obtain ⟨g0, g1, g2, g3, g4⟩ := hSw; go_simp; try with_reducible rfl)
          refine heldTake (i := 6) 180 (v := ?v7007) rfl (by kernel_rfl) (by kernel_rfl) (by kernel_rfl) (by kernel_rfl) (fun _ _ _ h => h) (Or.inl ⟨by rfl, ?y7007⟩) (by assumption) ?r7007
          case y7007 => (intro w hSw; obtain ⟨g0, g1, g2, g3, g4⟩ := hSw; go_simp; try with_reducible rfl)
          refine heldTake (i := 7) 181 (v := ?v7008) rfl (by kernel_rfl) (by kernel_rfl) (by kernel_rfl) (by kernel_rfl) (fun _ _ _ h => h) (Or.inl ⟨by rfl, ?y7008⟩) (by assumption) ?r7008
          case y7008 => (intro w hSw; obtain ⟨g0, g1, g2, g3, g4⟩ := hSw; go_simp; try with_reducible rfl)
          refine heldTake (i := 8) 182 (v := ?v7009) rfl (by kernel_rfl) (by kernel_rfl) (by kernel_rfl) (by kernel_rfl) (fun _ _ _ h => h) (Or.inl ⟨by rfl, ?y7009⟩) (by assumption) ?r7009
          case y7009 => (intro w hSw; obtain ⟨g0, g1, g2, g3, g4⟩ := hSw; go_simp; try with_reducible rfl)
          simp only [Act.put, List.setIfInBounds_toArray, List.set_cons_zero, List.set_cons_succ]
          refine wpAnyH_ready (rs := [9, 10]) (by kernel_rfl) (by simp) ?_
          refine AllReadyH.cons rfl (fun K1 hK1 => ?_) ?_
          · skip
            go_simp
            have E1 : Hid (Below wr.heap.size wr (wd.alloc (.cells #[.int .i64 0, .int .i64 0] 98))) := below_then D1.out (below_self _ _)
            have N1 := Lib.hid (Blk.new wd 98 #[.int .i64 0, .int .i64 0] (g := wd.heap.size) rfl)
            refine hK1.out _ _ (HS11.out _ E1.out) (fun _ => ?_)
            obtain ⟨W1, hW1⟩ : ∃ W1, W1 = wd.alloc (.cells #[.int .i64 0, .int .i64 0] 98) := ⟨_, rfl⟩
            rw [← hW1] at E1 N1 ⊢
            have L1 : Hid (wd.heap.size < W1.heap.size) := N1.out.lt
            clear hW1
            generalize wd.heap.size = ga at *
            refine wpAnyH_ready (rs := [10]) (by kernel_rfl) (by simp) ?_
            refine AllReadyH.cons rfl (fun K2 hK2 => ?_) AllReadyH.nil
            go_simp
            have E2 : Hid (Below wr.heap.size wr (W1.alloc (.cells #[.int .i64 0, .int .i64 0] 98))) := below_then E1.out (below_self _ _)
            have N2 := Lib.hid (Blk.new W1 98 #[.int .i64 0, .int .i64 0] (g := W1.heap.size) rfl)
            have M1 := Lib.hid (N1.out.alloc (.cells #[.int .i64 0, .int .i64 0] 98))
            have LW : Hid (wr.heap.size ≤ W1.heap.size) := E1.out.size
            refine hK2.out _ _ (HS11.out _ E2.out) (fun _ => ?_)
            obtain ⟨W2, hW2⟩ : ∃ W2, W2 = W1.alloc (.cells #[.int .i64 0, .int .i64 0] 98) := ⟨_, rfl⟩
            rw [← hW2] at E2 N2 M1 ⊢
            clear hW2 N1 E1
            generalize W1.heap.size = gc at *
            refine wpAnyH_ready (rs := [11]) (by kernel_rfl) (by simp) ?_
            refine AllReadyH.cons rfl (fun K3 hK3 => ?_) AllReadyH.nil
            rw [if_pos (by rfl)]
            refine wp_store_rowN rfl _ _ _ rfl _ _ rfl rfl _ _ M1.out (by kernel_rfl) rfl (ones2 _ _) ?_
            have E3 := Lib.hid (below_setR E2.out D9.out #[.int .i64 r1, .int .i64 r2])
            have H3 := Lib.hid (M1.out.setRow #[.int .i64 r1, .int .i64 r2])
            have I3 := Lib.hid (N2.out.setRow_far (g' := ga) (by have := L1.out; omega) #[.int .i64 r1, .int .i64 r2])
            refine hK3.out _ _ (HS11.out _ E3.out) (fun _ => ?_)
            refine wpAnyH_ready (rs := [12]) (by kernel_rfl) (by simp) ?_
            refine AllReadyH.cons rfl (fun K4 hK4 => ?_) AllReadyH.nil
            rw [if_pos (by rfl)]
            refine wp_store_rowN rfl _ _ _ rfl _ _ rfl rfl _ _ I3.out (by kernel_rfl) rfl (ones2 _ _) ?_
            have E4 := Lib.hid (below_setR E3.out LW.out #[.int .i64 p1, .int .i64 p2])
            have H4 := Lib.hid (H3.out.setRow_far (g' := gc) (by have := L1.out; omega) #[.int .i64 p1, .int .i64 p2])
            have I4 := Lib.hid (I3.out.setRow #[.int .i64 p1, .int .i64 p2])
            refine hK4.out _ _ (HS11.out _ E4.out) (fun _ => ?_)
            refine wpAnyH_done (by kernel_rfl) ?_ _
            go_wp2_with fail
            go_meet
            exact ⟨_, _, rfl, rfl, E4.out, D9.out, LW.out, (by have := L1.out; omega), H4.out, I4.out⟩
          refine AllReadyH.cons rfl (fun K1 hK1 => ?_) AllReadyH.nil
          go_simp
          have E1 : Hid (Below wr.heap.size wr (wd.alloc (.cells #[.int .i64 0, .int .i64 0] 98))) := below_then D1.out (below_self _ _)
          have N1 := Lib.hid (Blk.new wd 98 #[.int .i64 0, .int .i64 0] (g := wd.heap.size) rfl)
          refine hK1.out _ _ (HS11.out _ E1.out) (fun _ => ?_)
          obtain ⟨W1, hW1⟩ : ∃ W1, W1 = wd.alloc (.cells #[.int .i64 0, .int .i64 0] 98) := ⟨_, rfl⟩
          rw [← hW1] at E1 N1 ⊢
          have L1 : Hid (wd.heap.size < W1.heap.size) := N1.out.lt
          clear hW1
          generalize wd.heap.size = ga at *
          refine wpAnyH_ready (rs := [9]) (by kernel_rfl) (by simp) ?_
          refine AllReadyH.cons rfl (fun K2 hK2 => ?_) AllReadyH.nil
          go_simp
          have E2 : Hid (Below wr.heap.size wr (W1.alloc (.cells #[.int .i64 0, .int .i64 0] 98))) := below_then E1.out (below_self _ _)
          have N2 := Lib.hid (Blk.new W1 98 #[.int .i64 0, .int .i64 0] (g := W1.heap.size) rfl)
          have M1 := Lib.hid (N1.out.alloc (.cells #[.int .i64 0, .int .i64 0] 98))
          have LW : Hid (wr.heap.size ≤ W1.heap.size) := E1.out.size
          refine hK2.out _ _ (HS11.out _ E2.out) (fun _ => ?_)
          obtain ⟨W2, hW2⟩ : ∃ W2, W2 = W1.alloc (.cells #[.int .i64 0, .int .i64 0] 98) := ⟨_, rfl⟩
          rw [← hW2] at E2 N2 M1 ⊢
          clear hW2 N1 E1
          generalize W1.heap.size = gc at *
          refine wpAnyH_ready (rs := [11]) (by kernel_rfl) (by simp) ?_
          refine AllReadyH.cons rfl (fun K3 hK3 => ?_) AllReadyH.nil
          rw [if_pos (by rfl)]
          refine wp_store_rowN rfl _ _ _ rfl _ _ rfl rfl _ _ N2.out (by kernel_rfl) rfl (ones2 _ _) ?_
          have E3 := Lib.hid (below_setR E2.out LW.out #[.int .i64 r1, .int .i64 r2])
          have H3 := Lib.hid (N2.out.setRow #[.int .i64 r1, .int .i64 r2])
          have I3 := Lib.hid (M1.out.setRow_far (g' := gc) (by have := L1.out; omega) #[.int .i64 r1, .int .i64 r2])
          refine hK3.out _ _ (HS11.out _ E3.out) (fun _ => ?_)
          refine wpAnyH_ready (rs := [12]) (by kernel_rfl) (by simp) ?_
          refine AllReadyH.cons rfl (fun K4 hK4 => ?_) AllReadyH.nil
          rw [if_pos (by rfl)]
          refine wp_store_rowN rfl _ _ _ rfl _ _ rfl rfl _ _ I3.out (by kernel_rfl) rfl (ones2 _ _) ?_
          have E4 := Lib.hid (below_setR E3.out D9.out #[.int .i64 p1, .int .i64 p2])
          have H4 := Lib.hid (H3.out.setRow_far (g' := ga) (by have := L1.out; omega) #[.int .i64 p1, .int .i64 p2])
          have I4 := Lib.hid (I3.out.setRow #[.int .i64 p1, .int .i64 p2])
          refine hK4.out _ _ (HS11.out _ E4.out) (fun _ => ?_)
          refine wpAnyH_done (by kernel_rfl) ?_ _
          go_wp2_with fail
          go_meet
          exact ⟨_, _, rfl, rfl, E4.out, LW.out, D9.out, (by have := L1.out; omega), H4.out, I4.out⟩
      case rest =>
        obtain ⟨gh, gi, rfl, rfl, hb, lh, li, hne, bh, bi⟩ := hcut
        have D2 := Lib.hid hb
        have BH := Lib.hid bh
        have BI := Lib.hid bi
        have LH := Lib.hid lh
        have LI := Lib.hid li
        have HNE := Lib.hid hne
        clear hb bh bi lh li hne
        go_upto_if 183 with (fail)
        go_cut [] from 183 to 192 (fun W => Below wr.heap.size wr W ∧ Blk W gh 98 #[.int .i64 ((B.edge above).getD x (0, 0)).1, .int .i64 ((B.edge above).getD x (0, 0)).2] ∧ Blk W gi 98 #[.int .i64 ((bentL (B.edge above) B.bend).getD x (0, 0)).1, .int .i64 ((bentL (B.edge above) B.bend).getD x (0, 0)).2])
        case first =>
          cases above
          · go_wp2_with fail
            go_meet
            exact ⟨D2.out, by rw [show B.edge false = B.bot from rfl, HR.out]; exact BH.out, by rw [show B.edge false = B.bot from rfl, HP.out]; exact BI.out⟩
          · go_upto_region 13 with (fail)
            have D3 : Hid (Below wr.heap.size wr wc.drew) := D2.out.drew
            have BH3 := Lib.hid (blk_keep (Below.refl _ _).drew BH.out)
            have BI3 := Lib.hid (blk_keep (Below.refl _ _).drew BI.out)
            have S0 := HS13.out _ D3.out
            refine wp_region_held_drew (S := S11 gb 1 bb (ob + x * 2) h2 x (.slice (some ⟨bb, ob, none⟩) B.n' B.c') t1 t2 q1 q2) (by kernel_rfl) S0 (fun _ => ?_)
            generalize wc.drew = wd at *
            refine heldTake (i := 0) 184 (v := ?v7010) rfl (by kernel_rfl) (by kernel_rfl) (by kernel_rfl) (by kernel_rfl) (fun _ _ _ h => h) (Or.inl ⟨by rfl, ?y7010⟩) (by assumption) ?r7010
            case y7010 => (intro w hSw; obtain ⟨g0, g1, g2, g3, g4⟩ := hSw; go_simp; try with_reducible rfl)
            refine heldTake (i := 1) 185 (v := ?v7011) rfl (by kernel_rfl) (by kernel_rfl) (by kernel_rfl) (by kernel_rfl) (fun _ _ _ h => h) (Or.inl ⟨by rfl, ?y7011⟩) (by assumption) ?r7011
            case y7011 => (intro w hSw; obtain ⟨g0, g1, g2, g3, g4⟩ := hSw; go_simp; try with_reducible rfl)
            refine heldTake (i := 2) 186 (v := ?v7012) rfl (by kernel_rfl) (by kernel_rfl) (by kernel_rfl) (by kernel_rfl) (fun _ _ _ h => h) (Or.inl ⟨by rfl, ?y7012⟩) (by assumption) ?r7012
            case y7012 => (intro w hSw; obtain ⟨g0, g1, g2, g3, g4⟩ := hSw; go_simp; try with_reducible rfl)
            refine heldTake (i := 3) 187 (v := ?v7013) rfl (by kernel_rfl) (by kernel_rfl) (by kernel_rfl) (by kernel_rfl) (fun _ _ _ h => h) (Or.inl ⟨by rfl, ?y7013⟩) (by assumption) ?r7013
            case y7013 => (intro w hSw; obtain ⟨g0, g1, g2, g3, g4⟩ := hSw; go_simp; try with_reducible rfl)
            refine heldTake (i := 4) 188 (v := ?v7014) rfl (by kernel_rfl) (by kernel_rfl) (by kernel_rfl) (by kernel_rfl) (fun _ _ _ h => h) (Or.inl ⟨by rfl, ?y7014⟩) (by assumption) ?r7014
            case y7014 => (intro w hSw; obtain ⟨g0, g1, g2, g3, g4⟩ := hSw; go_simp; try with_reducible rfl)
            refine heldTake (i := 5) 189 (v := ?v7015) rfl (by kernel_rfl) (by kernel_rfl) (by kernel_rfl) (by kernel_rfl) (fun _ _ _ h => h) (Or.inl ⟨by rfl, ?y7015⟩) (by assumption) ?r7015
            case y7015 => (intro w hSw; obtain ⟨g0, g1, g2, g3, g4⟩ := hSw; go_simp; try with_reducible rfl)
            refine heldTake (i := 6) 190 (v := ?v7016) rfl (by kernel_rfl) (by kernel_rfl) (by kernel_rfl) (by kernel_rfl) (fun _ _ _ h => h) (Or.inl ⟨by rfl, ?y7016⟩) (by assumption) ?r7016
            case y7016 => (intro w hSw; obtain ⟨g0, g1, g2, g3, g4⟩ := hSw; go_simp; try with_reducible rfl)
            refine heldTake (i := 7) 191 (v := ?v7017) rfl (by kernel_rfl) (by kernel_rfl) (by kernel_rfl) (by kernel_rfl) (fun _ _ _ h => h) (Or.inl ⟨by rfl, ?y7017⟩) (by assumption) ?r7017
            case y7017 => (intro w hSw; obtain ⟨g0, g1, g2, g3, g4⟩ := hSw; go_simp; try with_reducible rfl)
            refine heldTake (i := 8) 192 (v := ?v7018) rfl (by kernel_rfl) (by kernel_rfl) (by kernel_rfl) (by kernel_rfl) (fun _ _ _ h => h) (Or.inl ⟨by rfl, ?y7018⟩) (by assumption) ?r7018
            case y7018 => (intro w hSw; obtain ⟨g0, g1, g2, g3, g4⟩ := hSw; go_simp; try with_reducible rfl)
            simp only [Act.put, List.setIfInBounds_toArray, List.set_cons_zero, List.set_cons_succ]
            refine wpAnyH_ready (rs := [9]) (by kernel_rfl) (by simp) ?_
            refine AllReadyH.cons rfl (fun K1 hK1 => ?_) AllReadyH.nil
            rw [if_pos (by rfl)]
            refine wp_store_rowN rfl _ _ _ rfl _ _ rfl rfl _ _ BH3.out (by kernel_rfl) rfl (ones2 _ _) ?_
            have D4 := Lib.hid (below_setR D3.out LH.out #[.int .i64 t1, .int .i64 t2])
            have BH4 := Lib.hid (BH3.out.setRow #[.int .i64 t1, .int .i64 t2])
            have BI4 := Lib.hid (BI3.out.setRow_far (g' := gh) (by have := HNE.out; omega) #[.int .i64 t1, .int .i64 t2])
            refine hK1.out _ _ (HS13.out _ D4.out) (fun _ => ?_)
            refine wpAnyH_ready (rs := [10]) (by kernel_rfl) (by simp) ?_
            refine AllReadyH.cons rfl (fun K2 hK2 => ?_) AllReadyH.nil
            rw [if_pos (by rfl)]
            refine wp_store_rowN rfl _ _ _ rfl _ _ rfl rfl _ _ BI4.out (by kernel_rfl) rfl (ones2 _ _) ?_
            have D5 := Lib.hid (below_setR D4.out LI.out #[.int .i64 q1, .int .i64 q2])
            have BH5 := Lib.hid (BH4.out.setRow_far (g' := gi) (by have := HNE.out; omega) #[.int .i64 q1, .int .i64 q2])
            have BI5 := Lib.hid (BI4.out.setRow #[.int .i64 q1, .int .i64 q2])
            refine hK2.out _ _ (HS13.out _ D5.out) (fun _ => ?_)
            refine wpAnyH_done (by kernel_rfl) ?_ _
            go_wp2_with fail
            go_meet
            exact ⟨D5.out, by rw [show B.edge true = B.top from rfl, HT2.out]; exact BH5.out, by rw [show B.edge true = B.top from rfl, HQ.out]; exact BI5.out⟩
        case rest =>
          obtain ⟨hb, bh, bi⟩ := hcut
          obtain ⟨e0, e1, he⟩ : ∃ r1 r2, (B.edge above).getD x (0, 0) = (r1, r2) := ⟨_, _, rfl⟩
          obtain ⟨f0, f1, hf⟩ : ∃ r1 r2, (bentL (B.edge above) B.bend).getD x (0, 0) = (r1, r2) := ⟨_, _, rfl⟩
          have hrg := HF.out.range above HXN.out
          rw [he] at bh hrg
          rw [hf] at bi hrg
          have HTR : Hid (∀ k v, v = nth4 f0 f1 k → e0 ≤ v ∧ v ≤ e1 → (B.put above x v).cerr = if k < 2 then 0 else 9) := fun k v hv hin => HF.out.tried above HXN.out (by rw [hf]) (by rw [hf]) hv (by rw [he]; exact hin)
          have Z2 := Lib.hid (Z.out.below hb)
          have BH2 := Lib.hid bh
          have BI2 := Lib.hid bi
          simp only at hrg
          clear hb bh bi he hf Z BH BI D2 LH LI HNE HR HT2 HP HQ HS11 HS13 wc1 mc1 wx1 hz1' hz2' hcol
          go_wp2_with fail
          go_loopw [17] (fun i wr => ∃ k : Nat, k ≤ 4 ∧ i = .int .i64 k ∧ CP w B L H gb g1 c1 g2 c2 h1 h2 (.slice K' m cd') #[.int .i64 (1 + T.s0 % 4), .int .i64 (8 + T.s1 % 40), .int .i64 (T.s2 % 6), .int .i64 (T.s3 % 3)] wr ∧ Blk wr gh 98 #[.int .i64 e0, .int .i64 e1] ∧ Blk wr gi 98 #[.int .i64 f0, .int .i64 f1]) (fun i _ => 4 - (intOf i).toNat)
          case atStart => exact ⟨0, by omega, rfl, Z2.out, BH2.out, BI2.out⟩
          case round =>
            obtain ⟨k, hk, rfl, hz, bh, bi⟩ := hrel
            have Z := Lib.hid hz
            have BH := Lib.hid bh
            have BI := Lib.hid bi
            clear hz bh bi Z2 BH2 BI2
            by_cases hlt : k < 4
            · focus
                have hlt2 : (k : Int) < 4 := by omega
                have n1 : IntKind.i64.wrap (f0 - 1) = f0 - 1 := IntWalk.i64_in _ (by omega)
                have n2 : IntKind.i64.wrap (f1 + 1) = f1 + 1 := IntWalk.i64_in _ (by omega)
                have d := BI.out.cell
                go_upto_region 17 with (fail)
                go_cut [18] from 197 to 209 (fun s W => s = .int .i64 (nth4 f0 f1 k) ∧ W = wr)
                case first =>
                  obtain hk0 | hk0 | hk0 | hk0 : k = 0 ∨ k = 1 ∨ k = 2 ∨ k = 3 := by omega
                  · have HN : Hid (nth4 f0 f1 k = f0) := by unfold Hid nth4; rw [if_pos hk0]
                    have hrun : ∀ W : World, (Instr.index 99 (.agg #[Value.int .i64 f0, .int .i64 f1, .int .i64 (f0 - 1), .int .i64 (f1 + 1)]) (.int .i64 (k : Int))).run Try.prog W = .ok (.int .i64 (f0)) W := fun W => by rw [show (k : Int) = 0 by omega]; kernel_rfl
                    clear hk0
                    go_wp2_with fail
                    go_meet
                    exact ⟨by rw [HN.out], rfl⟩
                  · have HN : Hid (nth4 f0 f1 k = f1) := by unfold Hid nth4; rw [if_neg (by omega), if_pos hk0]
                    have hrun : ∀ W : World, (Instr.index 99 (.agg #[Value.int .i64 f0, .int .i64 f1, .int .i64 (f0 - 1), .int .i64 (f1 + 1)]) (.int .i64 (k : Int))).run Try.prog W = .ok (.int .i64 (f1)) W := fun W => by rw [show (k : Int) = 1 by omega]; kernel_rfl
                    clear hk0
                    go_wp2_with fail
                    go_meet
                    exact ⟨by rw [HN.out], rfl⟩
                  · have HN : Hid (nth4 f0 f1 k = f0 - 1) := by unfold Hid nth4; rw [if_neg (by omega), if_neg (by omega), if_pos hk0]
                    have hrun : ∀ W : World, (Instr.index 99 (.agg #[Value.int .i64 f0, .int .i64 f1, .int .i64 (f0 - 1), .int .i64 (f1 + 1)]) (.int .i64 (k : Int))).run Try.prog W = .ok (.int .i64 (f0 - 1)) W := fun W => by rw [show (k : Int) = 2 by omega]; kernel_rfl
                    clear hk0
                    go_wp2_with fail
                    go_meet
                    exact ⟨by rw [HN.out], rfl⟩
                  · have HN : Hid (nth4 f0 f1 k = f1 + 1) := by unfold Hid nth4; rw [if_neg (by omega), if_neg (by omega), if_neg (by omega)]
                    have hrun : ∀ W : World, (Instr.index 99 (.agg #[Value.int .i64 f0, .int .i64 f1, .int .i64 (f0 - 1), .int .i64 (f1 + 1)]) (.int .i64 (k : Int))).run Try.prog W = .ok (.int .i64 (f1 + 1)) W := fun W => by rw [show (k : Int) = 3 by omega]; kernel_rfl
                    clear hk0
                    go_wp2_with fail
                    go_meet
                    exact ⟨by rw [HN.out], rfl⟩
                case rest =>
                  obtain ⟨rfl, hw1⟩ := hcut
                  have hw2 := hw1.symm
                  clear hw1
                  subst hw2
                  obtain ⟨v, hv⟩ : ∃ v, v = nth4 f0 f1 k := ⟨_, rfl⟩
                  rw [← hv]
                  have HV := Lib.hid hv
                  clear hv d n1 n2
                  have c15 := BH.out.cell
                  go_upto_region 18 with (fail)
                  go_cut [219] from 210 to 219 (fun s W => s = .bool (decide (v < e0 ∨ e1 < v)) ∧ W = wr)
                  case first =>
                    by_cases j1 : v < e0
                    · have HE : Hid (decide (v < e0 ∨ e1 < v) = true) := by unfold Hid; rw [decide_eq_true_eq]; omega
                      go_wp2_with fail
                      go_meet
                      exact ⟨by rw [HE.out], rfl⟩
                    · by_cases j2 : e1 < v
                      · have HE : Hid (decide (v < e0 ∨ e1 < v) = true) := by unfold Hid; rw [decide_eq_true_eq]; omega
                        go_wp2_with fail
                        go_meet
                        exact ⟨by rw [HE.out], rfl⟩
                      · have HE : Hid (decide (v < e0 ∨ e1 < v) = false) := by unfold Hid; rw [decide_eq_false_iff_not]; omega
                        go_wp2_with fail
                        go_meet
                        exact ⟨by rw [HE.out], rfl⟩
                  case rest =>
                    obtain ⟨rfl, hw1⟩ := hcut
                    have hw2 := hw1.symm
                    clear hw1
                    subst hw2
                    clear c15
                    by_cases hin : v < e0 ∨ e1 < v
                    · have hd : decide (v < e0 ∨ e1 < v) = true := by rw [decide_eq_true_eq]; exact hin
                      rw [hd]
                      clear hin hd
                      go_wp2
                      go_roundw
                      case rel => exact ⟨k + 1, by omega, by go_num, Z.out, BH.out, BI.out⟩
                      case measure => simp [intOf]; omega
                    · have hd : decide (v < e0 ∨ e1 < v) = false := by rw [decide_eq_false_iff_not]; exact hin
                      rw [hd]
                      have HCE : Hid ((B.put above x v).cerr = if k < 2 then 0 else 9) := HTR.out k v HV.out (by omega)
                      have HOW := Lib.hid (own_any B _ Z.out.c.at_ (by have := HF.out.n10; omega) (by have := HF.out.n10; have := HF.out.nn; omega) (by have := HF.out.m3; omega))
                      unfold Bl.val at HOW
                      have c7 := Z.out.c.bl.cell
                      clear hin hd HTR HV
                      go_wp2_with fail
                      refine HOW.out.mono ?_
                      rintro e w4 ⟨B', rfl, hl, hat, b4, ha, hb, hc, hsep⟩
                      have HL := Lib.hid hl
                      have HSEP := Lib.hid hsep
                      have X6 := Lib.hid (Blk.new w4 25 #[.slice B'.A B'.n B'.c, .slice B'.A' B'.n' B'.c', .int .i64 B'.bend, .slice B'.K B'.m B'.d] (g := w4.heap.size) rfl)
                      have E6 : Hid (Below w4.heap.size w4 (w4.alloc (.cells #[.slice B'.A B'.n B'.c, .slice B'.A' B'.n' B'.c', .int .i64 B'.bend, .slice B'.K B'.m B'.d] 25))) := below_self _ _
                      have DW6 := Lib.hid (below_then b4 E6.out)
                      have HAT6 := Lib.hid (hat.below E6.out)
                      have HOA6 := Lib.hid (ha.below E6.out)
                      have HOB6 := Lib.hid (hb.below E6.out)
                      have HOC6 := Lib.hid (hc.below E6.out)
                      have HNN6 : Hid (B'.n' = B'.n) := by unfold Hid; rw [hl.n', hl.n]; exact HF.out.nn
                      have HXN6 : Hid (x < B'.n) := by unfold Hid; rw [hl.n]; exact HXN.out
                      have HW6 := Lib.hid (Nat.le_refl wr.heap.size)
                      have hx5 : (x : Int) < (B'.n : Int) := by have := HXN6.out; omega
                      have hx6 : (x : Int) < (B'.n' : Int) := by have := HXN6.out; have := HNN6.out; omega
                      unfold Bl.val
                      clear hl hat b4 ha hb hc hsep HOW c7 E6
                      go_upto_if 222 with (fail)
                      generalize (w4.alloc (.cells #[.slice B'.A B'.n B'.c, .slice B'.A' B'.n' B'.c', .int .i64 B'.bend, .slice B'.K B'.m B'.d] 25)) = W6 at *
                      generalize w4.heap.size = go at *
                      go_cut [] from 222 to 236 (fun W => Below wr.heap.size wr W ∧ Blk W go 25 #[.slice B'.A B'.n B'.c, .slice B'.A' B'.n' B'.c', .int .i64 B'.bend, .slice B'.K B'.m B'.d] ∧ (B'.put above x v).At W)
                      case first =>
                        cases above
                        · skip
                          obtain ⟨g, hA, hgb, hput⟩ := own_put HAT6.out HOA6.out HOB6.out HOC6.out HSEP.out HNN6.out false HXN6.out v
                          simp only [Bool.false_eq_true, if_false] at hA
                          have HS0 : Hid (∀ W : World, Blk W go 25 #[.slice B'.A B'.n B'.c, .slice B'.A' B'.n' B'.c', .int .i64 B'.bend, .slice B'.K B'.m B'.d] → S21 go 0 (.slice (some ⟨g, 0, none⟩) B'.n B'.c) W) := fun W hb => ⟨by rw [← hA]; exact hb.cell 0, trivial⟩
                          have HPUT := Lib.hid hput
                          have HGB := Lib.hid hgb
                          clear hA hgb hput
                          have HSP := Lib.hid (fun a b W => lawSpan_any a b W)
                          go_upto_region 22 with (fail)
                          have D6 : Hid (Below W6.heap.size W6 W6.drew) := (Below.refl _ _).drew
                          have XD := Lib.hid (blk_keep D6.out X6.out)
                          have S0 := HS0.out _ XD.out
                          refine wp_region_held_drew (S := S21 go 0 (.slice (some ⟨g, 0, none⟩) B'.n B'.c)) (by kernel_rfl) S0 (fun _ => ?_)
                          generalize W6.drew = wd at *
                          refine heldTake (i := 0) 230 (v := ?v7019) rfl (by kernel_rfl) (by kernel_rfl) (by kernel_rfl) (by kernel_rfl) (fun _ _ _ h => h) (Or.inl ⟨by rfl, ?y7019⟩) (by assumption) ?r7019
                          case y7019 => (intro w hSw; obtain ⟨g0, _⟩ := hSw; go_simp; try with_reducible rfl)
                          refine heldTake (i := 1) 231 (v := ?v7020) rfl (by kernel_rfl) (by kernel_rfl) (by kernel_rfl) (by kernel_rfl) (fun _ _ _ h => h) (Or.inl ⟨by rfl, ?y7020⟩) (by assumption) ?r7020
                          case y7020 => (intro w hSw; obtain ⟨g0, _⟩ := hSw; go_simp; try with_reducible rfl)
                          refine heldTake (i := 2) 232 (v := ?v7021) rfl (by kernel_rfl) (by kernel_rfl) (by kernel_rfl) (by kernel_rfl) (fun _ _ _ h => h) (Or.inl ⟨by rfl, ?y7021⟩) (by assumption) ?r7021
                          case y7021 => (intro w hSw; obtain ⟨g0, _⟩ := hSw; go_simp; try with_reducible rfl)
                          refine heldTake (i := 3) 233 (v := ?v7022) rfl (by kernel_rfl) (by kernel_rfl) (by kernel_rfl) (by kernel_rfl) (fun _ _ _ h => h) (Or.inl ⟨by rfl, ?y7022⟩) (by assumption) ?r7022
                          case y7022 => (intro w hSw; obtain ⟨g0, _⟩ := hSw; go_simp; try with_reducible rfl)
                          refine heldTake (i := 4) 234 (v := ?v7023) rfl (by kernel_rfl) (by kernel_rfl) (by kernel_rfl) (by kernel_rfl) (fun _ _ _ h => h) (Or.inl ⟨by rfl, ?y7023⟩) (by assumption) ?r7023
                          case y7023 => (intro w hSw; obtain ⟨g0, _⟩ := hSw; go_simp; try with_reducible rfl)
                          simp only [Act.put, List.setIfInBounds_toArray, List.set_cons_zero, List.set_cons_succ]
                          refine wpAnyH_ready (rs := [5]) (by kernel_rfl) (by simp) ?_
                          refine AllReadyH.cons rfl (fun K1 hK1 => ?_) AllReadyH.nil
                          go_simp
                          refine (HSP.out _ _ _).mono ?_
                          rintro e W7 ⟨rfl, b7⟩
                          have D7 := Lib.hid (below_then D6.out b7)
                          have X7 := Lib.hid (blk_keep b7 XD.out)
                          refine hK1.out _ _ (HS0.out _ X7.out) (fun _ => ?_)
                          obtain ⟨⟨cs, hg⟩, hth, hat⟩ := HPUT.out _ D7.out
                          have HG := Lib.hid hg
                          have HAT7 := Lib.hid hat
                          clear hg hat b7 XD S0
                          refine heldTake (i := 6) 236 (v := ?v7024) rfl (by kernel_rfl) (by kernel_rfl) (by kernel_rfl) (by kernel_rfl) (fun _ _ _ h => h) (Or.inl ⟨by rfl, ?y7024⟩) (by assumption) ?r7024
                          case y7024 => (intro w hSw; obtain ⟨g0, _⟩ := hSw; go_simp; try with_reducible rfl)
                          refine wpAnyH_ready (rs := [7]) (by kernel_rfl) (by simp) ?_
                          refine AllReadyH.cons rfl (fun K2 hK2 => ?_) AllReadyH.nil
                          rw [if_pos (by rfl)]
                          refine wp_store_midN rfl _ _ _ rfl g (x * 2) #[.int .i64 v, .int .i64 v] rfl rfl hth (by kernel_rfl) (ones2 _ _) ?_
                          have X8 := Lib.hid (blk_put (o := x * 2) (u := .int .i64 v) (v := .int .i64 v) X7.out (blk_ne X7.out HG.out (by decide)))
                          have D8 := Lib.hid (below_put (o := x * 2) (u := .int .i64 v) (v := .int .i64 v) (below_then DW6.out D7.out) (Nat.le_trans HW6.out HGB.out))
                          refine hK2.out _ _ (HS0.out _ X8.out) (fun _ => ?_)
                          refine wpAnyH_done (by kernel_rfl) ?_ _
                          go_wp2_with fail
                          go_meet
                          exact ⟨D8.out, X8.out, HAT7.out⟩
                        · skip
                          obtain ⟨g, hA, hgb, hput⟩ := own_put HAT6.out HOA6.out HOB6.out HOC6.out HSEP.out HNN6.out true HXN6.out v
                          simp only [if_true] at hA
                          have HS0 : Hid (∀ W : World, Blk W go 25 #[.slice B'.A B'.n B'.c, .slice B'.A' B'.n' B'.c', .int .i64 B'.bend, .slice B'.K B'.m B'.d] → S21 go 1 (.slice (some ⟨g, 0, none⟩) B'.n' B'.c') W) := fun W hb => ⟨by rw [← hA]; exact hb.cell 1, trivial⟩
                          have HPUT := Lib.hid hput
                          have HGB := Lib.hid hgb
                          clear hA hgb hput
                          have HSP := Lib.hid (fun a b W => lawSpan_any a b W)
                          go_upto_region 21 with (fail)
                          have D6 : Hid (Below W6.heap.size W6 W6.drew) := (Below.refl _ _).drew
                          have XD := Lib.hid (blk_keep D6.out X6.out)
                          have S0 := HS0.out _ XD.out
                          refine wp_region_held_drew (S := S21 go 1 (.slice (some ⟨g, 0, none⟩) B'.n' B'.c')) (by kernel_rfl) S0 (fun _ => ?_)
                          generalize W6.drew = wd at *
                          refine heldTake (i := 0) 223 (v := ?v7025) rfl (by kernel_rfl) (by kernel_rfl) (by kernel_rfl) (by kernel_rfl) (fun _ _ _ h => h) (Or.inl ⟨by rfl, ?y7025⟩) (by assumption) ?r7025
                          case y7025 => (intro w hSw; obtain ⟨g0, _⟩ := hSw; go_simp; try with_reducible rfl)
                          refine heldTake (i := 1) 224 (v := ?v7026) rfl (by kernel_rfl) (by kernel_rfl) (by kernel_rfl) (by kernel_rfl) (fun _ _ _ h => h) (Or.inl ⟨by rfl, ?y7026⟩) (by assumption) ?r7026
                          case y7026 => (intro w hSw; obtain ⟨g0, _⟩ := hSw; go_simp; try with_reducible rfl)
                          refine heldTake (i := 2) 225 (v := ?v7027) rfl (by kernel_rfl) (by kernel_rfl) (by kernel_rfl) (by kernel_rfl) (fun _ _ _ h => h) (Or.inl ⟨by rfl, ?y7027⟩) (by assumption) ?r7027
                          case y7027 => (intro w hSw; obtain ⟨g0, _⟩ := hSw; go_simp; try with_reducible rfl)
                          refine heldTake (i := 3) 226 (v := ?v7028) rfl (by kernel_rfl) (by kernel_rfl) (by kernel_rfl) (by kernel_rfl) (fun _ _ _ h => h) (Or.inl ⟨by rfl, ?y7028⟩) (by assumption) ?r7028
                          case y7028 => (intro w hSw; obtain ⟨g0, _⟩ := hSw; go_simp; try with_reducible rfl)
                          refine heldTake (i := 4) 227 (v := ?v7029) rfl (by kernel_rfl) (by kernel_rfl) (by kernel_rfl) (by kernel_rfl) (fun _ _ _ h => h) (Or.inl ⟨by rfl, ?y7029⟩) (by assumption) ?r7029
                          case y7029 => (intro w hSw; obtain ⟨g0, _⟩ := hSw; go_simp; try with_reducible rfl)
                          simp only [Act.put, List.setIfInBounds_toArray, List.set_cons_zero, List.set_cons_succ]
                          refine wpAnyH_ready (rs := [5]) (by kernel_rfl) (by simp) ?_
                          refine AllReadyH.cons rfl (fun K1 hK1 => ?_) AllReadyH.nil
                          go_simp
                          refine (HSP.out _ _ _).mono ?_
                          rintro e W7 ⟨rfl, b7⟩
                          have D7 := Lib.hid (below_then D6.out b7)
                          have X7 := Lib.hid (blk_keep b7 XD.out)
                          refine hK1.out _ _ (HS0.out _ X7.out) (fun _ => ?_)
                          obtain ⟨⟨cs, hg⟩, hth, hat⟩ := HPUT.out _ D7.out
                          have HG := Lib.hid hg
                          have HAT7 := Lib.hid hat
                          clear hg hat b7 XD S0
                          refine heldTake (i := 6) 229 (v := ?v7030) rfl (by kernel_rfl) (by kernel_rfl) (by kernel_rfl) (by kernel_rfl) (fun _ _ _ h => h) (Or.inl ⟨by rfl, ?y7030⟩) (by assumption) ?r7030
                          case y7030 => (intro w hSw; obtain ⟨g0, _⟩ := hSw; go_simp; try with_reducible rfl)
                          refine wpAnyH_ready (rs := [7]) (by kernel_rfl) (by simp) ?_
                          refine AllReadyH.cons rfl (fun K2 hK2 => ?_) AllReadyH.nil
                          rw [if_pos (by rfl)]
                          refine wp_store_midN rfl _ _ _ rfl g (x * 2) #[.int .i64 v, .int .i64 v] rfl rfl hth (by kernel_rfl) (ones2 _ _) ?_
                          have X8 := Lib.hid (blk_put (o := x * 2) (u := .int .i64 v) (v := .int .i64 v) X7.out (blk_ne X7.out HG.out (by decide)))
                          have D8 := Lib.hid (below_put (o := x * 2) (u := .int .i64 v) (v := .int .i64 v) (below_then DW6.out D7.out) (Nat.le_trans HW6.out HGB.out))
                          refine hK2.out _ _ (HS0.out _ X8.out) (fun _ => ?_)
                          refine wpAnyH_done (by kernel_rfl) ?_ _
                          go_wp2_with fail
                          go_meet
                          exact ⟨D8.out, X8.out, HAT7.out⟩
                      case rest =>
                        obtain ⟨hb8, hx8, hat8⟩ := hcut
                        have HCK := Lib.hid (Check_top (B'.put above x v) _ hat8)
                        rw [(HL.out.put above x v).cerr, HCE.out] at HCK
                        simp only [Bl.val, Bl.put] at HCK
                        have Z8 := Lib.hid (Z.out.below hb8)
                        have BH8 := Lib.hid (blk_keep hb8 BH.out)
                        have BI8 := Lib.hid (blk_keep hb8 BI.out)
                        have X8 := Lib.hid hx8
                        clear hb8 hx8 hat8 HCE Z BH BI HAT6 HOA6 HOB6 HOC6 HNN6 HXN6 HSEP X6 DW6 HW6
                        have c8 := X8.out.cell
                        go_wp2_with fail
                        refine HCK.out.mono ?_
                        rintro e w9 ⟨rfl, b9⟩
                        have Z9 := Lib.hid (Z8.out.below b9)
                        have BH9 := Lib.hid (blk_keep b9 BH8.out)
                        have BI9 := Lib.hid (blk_keep b9 BI8.out)
                        clear b9 c8 Z8 BH8 BI8 HCK X8
                        by_cases h2 : k < 2
                        · rw [if_pos h2]
                          have h3 : (k : Int) < 2 := by omega
                          have h4 : ¬ (1 : Int) < (k : Int) := by omega
                          go_wp2
                          go_roundw
                          case rel => exact ⟨k + 1, by omega, by go_num, Z9.out, BH9.out, BI9.out⟩
                          case measure => simp [intOf]; omega
                        · rw [if_neg h2]
                          have h3 : ¬ (k : Int) < 2 := by omega
                          have h4 : (1 : Int) < (k : Int) := by omega
                          go_wp2
                          go_roundw
                          case rel => exact ⟨k + 1, by omega, by go_num, Z9.out, BH9.out, BI9.out⟩
                          case measure => simp [intOf]; omega
            · have hk4 : ¬ (k : Int) < 4 := by omega
              clear hlt hk hrg HTR BH BI
              focus
                have HOW := Lib.hid (own_any B _ Z.out.c.at_ (by have := HF.out.n10; omega) (by have := HF.out.n10; have := HF.out.nn; omega) (by have := HF.out.m3; omega))
                unfold Bl.val at HOW
                have c7 := Z.out.c.bl.cell
                go_wp2_with fail
                refine HOW.out.mono ?_
                rintro e w4 ⟨B', rfl, hl, hat, b4, ha, hb, hc, hsep⟩
                have HL := Lib.hid hl
                have X6 := Lib.hid (Blk.new w4 25 #[.slice B'.A B'.n B'.c, .slice B'.A' B'.n' B'.c', .int .i64 B'.bend, .slice B'.K B'.m B'.d] (g := w4.heap.size) rfl)
                have E6 : Hid (Below w4.heap.size w4 (w4.alloc (.cells #[.slice B'.A B'.n B'.c, .slice B'.A' B'.n' B'.c', .int .i64 B'.bend, .slice B'.K B'.m B'.d] 25))) := below_self _ _
                have D6 := Lib.hid (below_then b4 E6.out)
                have LG : Hid (wr.heap.size ≤ w4.heap.size) := b4.size
                have HK6 := Lib.hid (Reads.below hat.hk E6.out)
                have HOC6 := Lib.hid (hc.below E6.out)
                have HN3 := Lib.hid hat.n3
                have hm1 : B.n ≤ maxLen := by unfold maxLen; omega
                unfold Bl.val
                clear hl hat b4 ha hb hc hsep HOW c7 E6
                go_upto_region 27 with (fail)
                generalize (w4.alloc (.cells #[.slice B'.A B'.n B'.c, .slice B'.A' B'.n' B'.c', .int .i64 B'.bend, .slice B'.K B'.m B'.d] 25)) = W6 at *
                generalize w4.heap.size = go at *
                have HGO : Hid (go < W6.heap.size) := X6.out.lt
                go_wp2_with (first
                  | (at_builtin; refine wpList_append_copy2 rfl (.tmp 255) (.tmp 256) 22 rfl 98 i0 _ 2 16 Try.underlying22 hi hz0 hz1 hz2 rfl (by decide) _ (by rfl) (some ⟨h1, 0, none⟩) B.n cap (by rfl) _ (Z.out.p.below (below_then D6.out (below_self _ _))) hm1 (by omega) ?_; intro a1 a2 W7 k1 k2; have QA := Lib.hid k1; have D7 := Lib.hid (below_then (below_then D6.out (below_self _ _)) k2); have X7 := Lib.hid (blk_keep k2 (X6.out.alloc _)); have HK7 := Lib.hid ((HK6.out.below (below_self _ _)).below k2); have HOC7 := Lib.hid ((HOC6.out.alloc _).below k2); have HG7 := Lib.hid (Nat.lt_of_lt_of_le (Nat.lt_of_lt_of_le HGO.out (below_self W6 (.cells #[] 98)).size) k2.size); clear k1 k2 D6 X6 HK6 HOC6)
                  | (at_builtin; refine wpList_append_copy2 rfl (.tmp 258) (.tmp 259) 22 rfl 98 i0 _ 2 16 Try.underlying22 hi hz0 hz1 hz2 rfl (by decide) _ (by rfl) (some ⟨h2, 0, none⟩) B.n cap' (by rfl) _ (Z.out.q.below (below_then D7.out (below_self _ _))) hm1 (by omega) ?_; intro b1 b2 W8 k1 k2; have QB := Lib.hid k1; have D8 := Lib.hid (below_then (below_then D7.out (below_self _ _)) k2); have X8 := Lib.hid (blk_keep k2 (X7.out.alloc _)); have HK8 := Lib.hid ((HK7.out.below (below_self _ _)).below k2); have HOC8 := Lib.hid ((HOC7.out.alloc _).below k2); have QA8 := Lib.hid ((QA.out.alloc _).below k2); clear k1 k2 D7 X7 HK7 HOC7 QA; have c8 := X8.out.cell; have f80 := X8.out.frozen 0; have f81 := X8.out.frozen 1))
                have D9 : Hid (Below wr.heap.size wr ((W8.setCell ⟨go, 0, none⟩ (.slice a1 B.n a2)).setCell ⟨go, 1, none⟩ (.slice b1 B.n b2))) := (D8.out.setCell (p := ⟨go, 0, none⟩) LG.out _).setCell (p := ⟨go, 1, none⟩) LG.out _
                have QA9 := Lib.hid ((QA8.out.setCell (p := ⟨go, 0, none⟩) (by have := HGO.out; simp; omega) (.slice a1 B.n a2)).setCell (p := ⟨go, 1, none⟩) (by have := HGO.out; simp; omega) (.slice b1 B.n b2))
                have QB9 := Lib.hid ((QB.out.setCell (p := ⟨go, 0, none⟩) (by have := HG7.out; simp; omega) (.slice a1 B.n a2)).setCell (p := ⟨go, 1, none⟩) (by have := HG7.out; simp; omega) (.slice b1 B.n b2))
                have HK9 := Lib.hid ((HK8.out.setFar (on_far HOC8.out X8.out (by decide)) 0 (.slice a1 B.n a2)).setFar (on_far HOC8.out X8.out (by decide)) 1 (.slice b1 B.n b2))
                clear D8 QA8 QB HK8 HOC8 X8 c8 f80 f81 HGO HG7 LG
                generalize ((W8.setCell ⟨go, 0, none⟩ (.slice a1 B.n a2)).setCell ⟨go, 1, none⟩ (.slice b1 B.n b2)) = W9 at *
                have HCV : Hid (Calls Try.prog 21 #[.agg #[.slice a1 B.n a2, .slice b1 B.n b2, .int .i64 B'.bend, .slice B'.K B'.m B'.d]] W9 (CurveOut W9 B.n B.n B'.m B'.bend (bentL B.bot B.bend) (bentL B.top B.bend) B'.cr)) :=
                  Curve_top ⟨a1, b1, B'.K, B.n, a2, B.n, b2, B'.m, B'.d, B'.bend, bentL B.bot B.bend, bentL B.top B.bend, B'.cr⟩ W9 ⟨QA9.out.nr.r, QB9.out.nr.r, HK9.out, hm1, hm1, HN3.out⟩
                have he : curveErr B.n B.n B'.m B'.bend (bentL B.bot B.bend) (bentL B.top B.bend) B'.cr = 0 := by
                  have q := HF.out.within
                  rw [HF.out.nn] at q
                  rw [HL.out.m, HL.out.bend, HL.out.cr]
                  exact q
                refine HCV.out.mono ?_
                rintro e wa ⟨ba, hcv⟩
                rcases hcv with ⟨herr, rfl⟩ | ⟨_, d1, cd1, d2, cd2, rfl, P, P'⟩
                · exact (herr he).elim
                rw [HL.out.bend, (bent_twice HF.out.ed.b0.1 HF.out.oks.1).2] at P
                rw [HL.out.bend, (bent_twice HF.out.ed.b0.1 HF.out.oks.2).2] at P'
                have Za := Lib.hid (Z.out.below (below_then D9.out ba))
                have PA := Lib.hid P
                have PB := Lib.hid P'
                clear he P P' ba D9 QA9 QB9 HK9 HCV HL HN3 Z
                go_wp2_with fail
                go_loopw [25] (fun i wr => ∃ k : Nat, k ≤ B.n ∧ i = .int .i64 k ∧ CP w B L H gb g1 c1 g2 c2 h1 h2 (.slice K' m cd') #[.int .i64 (1 + T.s0 % 4), .int .i64 (8 + T.s1 % 40), .int .i64 (T.s2 % 6), .int .i64 (T.s3 % 3)] wr ∧ Pairs wr (some ⟨d1, 0, none⟩) B.n (bentL B.bot B.bend) ∧ Pairs wr (some ⟨d2, 0, none⟩) B.n (bentL B.top B.bend)) (fun i _ => B.n - (intOf i).toNat)
                case atStart => exact ⟨0, Nat.zero_le _, rfl, Za.out, PA.out, PB.out⟩
                case round =>
                  obtain ⟨k2, hk2, rfl, hz2, hp2, hq2⟩ := hrel
                  have Z2 := Lib.hid hz2
                  have P2 := Lib.hid hp2
                  have Q2 := Lib.hid hq2
                  clear hz2 hp2 hq2 Za PA PB
                  by_cases hlt9 : k2 < B.n
                  · have hlt8 : (k2 : Int) < (B.n : Int) := by omega
                    obtain ⟨y1, y2⟩ := pairs_cell Z2.out.p hlt9
                    obtain ⟨z1, z2⟩ := pairs_cell Z2.out.q hlt9
                    obtain ⟨y3, y4⟩ := pairs_cell P2.out hlt9
                    obtain ⟨z3, z4⟩ := pairs_cell Q2.out hlt9
                    generalize ((bentL B.bot B.bend).getD k2 (0, 0)).1 = p1 at *
                    generalize ((bentL B.bot B.bend).getD k2 (0, 0)).2 = p2 at *
                    generalize ((bentL B.top B.bend).getD k2 (0, 0)).1 = q1 at *
                    generalize ((bentL B.top B.bend).getD k2 (0, 0)).2 = q2 at *
                    go_wp2_with fail
                    go_quiet (fail)
                    go_wp2
                    go_roundw
                    case rel => exact ⟨k2 + 1, by omega, by go_num, Z2.out.below (below_drewN (Below.refl _ _) _), P2.out.below (below_drewN (Below.refl _ _) _), Q2.out.below (below_drewN (Below.refl _ _) _)⟩
                    case measure => simp [intOf]; omega
                  · obtain rfl : k2 = B.n := by omega
                    clear hlt9 hk2 P2 Q2
                    go_wp2_with fail
                    refine (HKN.out _).mono ?_
                    rintro e w9 ⟨rfl, b9⟩
                    have D9 := Lib.hid (below_then Z2.out.c.bel b9)
                    clear b9 Z2
                    go_wp2
                    go_ret
                    exact ⟨rfl, D9.out⟩
end Go.Proofs.Ytiflhimmieflpaa
