/- Walks: best: the blade of the truth that spoils the fewest sticks, of those with the cracks in these columns. -/
import Derived.Test.YtiflhimmieflpaaM2
import Derived.Test.YtiflhimmieflpaaUntil
import Derived.Deep.AppendLies
namespace Go.Proofs.Ytiflhimmieflpaa
open Go.RowKit

def bestSplit (x : Int) (k : Crack) : Split := ⟨x, x, k.fh, k.tl⟩
def bestSplits (xs : List Int) (cr : List Crack) : List Split := List.zipWith bestSplit xs cr
def bestL (long wide kerf across : Int) (bot top : List (Int × Int)) (cr : List Crack) (xs : List Int) : Sawing := ⟨long, wide, kerf, across, bot.map (·.1), top.map (·.2), bestSplits xs cr⟩
theorem bestSplits_length (xs : List Int) (cr : List Crack) : (bestSplits xs cr).length = min xs.length cr.length := by simp [bestSplits]
theorem flat4_best_snoc (xs : List Int) (cr : List Crack) (k : Nat) (hx : k < xs.length) (hk : k < cr.length) : flat4 ((bestSplits xs cr).take (k + 1)) = flat4 ((bestSplits xs cr).take k) ++ [.int .i64 (xs.getD k 0), .int .i64 (xs.getD k 0), .int .i64 (cr.getD k Crack.zero).fh, .int .i64 (cr.getD k Crack.zero).tl] := by
  rw [flat4_snoc _ _ (by rw [bestSplits_length]; omega)]
  have : (bestSplits xs cr).getD k Split.zero = bestSplit (xs.getD k 0) (cr.getD k Crack.zero) := by
    have e1 : xs[k]? = some xs[k] := List.getElem?_eq_getElem hx
    have e2 : cr[k]? = some cr[k] := List.getElem?_eq_getElem hk
    simp only [bestSplits, List.getD, List.getElem?_zipWith, e1, e2, Option.getD_some]
  rw [this]
  rfl
def S5 (g p b o : Nat) (sv V : Value) (x y : Int) (W : World) : Prop := W.cell? ⟨g, 6, none⟩ = some sv ∧ W.cell? ⟨p, 3, none⟩ = some V ∧ W.cell? ⟨b, o + 3, none⟩ = some (.int .i64 x) ∧ W.cell? ⟨b, o + 4, none⟩ = some (.int .i64 y)

set_option maxRecDepth 100000 in
set_option maxHeartbeats 8000000 in
theorem best_any (A A' K X : Option Addr) (c c' m d cx gb ob gt ot n cb ct : Nat) (bend long wide kerf across : Int) (bot top : List (Int × Int)) (cr : List Crack) (xs : List Int) (w : World)
    (h : Pairs w (some ⟨gb, ob, none⟩) n bot) (h' : Pairs w (some ⟨gt, ot, none⟩) n top) (hk : Cracks w K m cr) (hx : Ints w X m xs) (h0 : 0 < n) (hn : n ≤ 30) (hm : m ≤ 4) :
    Calls Try.prog 82 #[.agg #[.slice A n c, .slice A' n c', .int .i64 bend, .slice K m d, .slice (some ⟨gb, ob, none⟩) n cb, .slice (some ⟨gt, ot, none⟩) n ct], .agg #[.int .i64 long, .int .i64 wide, .int .i64 kerf, .int .i64 across], .slice X m cx] w
      (WorstRes w n m (bestL long wide kerf across bot top cr xs)) := by
  have Hp := Lib.hid (fun W (hb : Below w.heap.size w W) => h.below hb)
  have Hp' := Lib.hid (fun W (hb : Below w.heap.size w W) => h'.below hb)
  have Hk := Lib.hid (fun W (hb : Below w.heap.size w W) => hk.below hb)
  have Hx := Lib.hid (fun W (hb : Below w.heap.size w W) => hx.below hb)
  clear h h' hk hx
  go_enter Try.func82, Try.ntmps82
  go_upto_region 1 with (fail)
  go_cut [7] (fun s5 W => ∃ g v1 v2, s5 = .pointer (some ⟨g, 0, none⟩) ∧ WorstMid w W #[.slice A n c, .slice A' n c', .int .i64 bend, .slice K m d, .slice (some ⟨gb, ob, none⟩) n cb, .slice (some ⟨gt, ot, none⟩) n ct] #[.int .i64 long, .int .i64 wide, .int .i64 kerf, .int .i64 across] g v1 v2 (.slice none 0 0) n ((bot.map (·.1)).map (Value.int .i64)) ((top.map (·.2)).map (Value.int .i64)) 0 [])
  case first =>
    have hs0 : ∀ Z, WS w (((w.alloc (.cells #[.slice A n c, .slice A' n c', .int .i64 bend, .slice K m d, .slice (some ⟨gb, ob, none⟩) n cb, .slice (some ⟨gt, ot, none⟩) n ct] 106)).alloc (.cells #[.int .i64 long, .int .i64 wide, .int .i64 kerf, .int .i64 across] 37)).alloc (.cells Z 120)).drew #[.slice A n c, .slice A' n c', .int .i64 bend, .slice K m d, .slice (some ⟨gb, ob, none⟩) n cb, .slice (some ⟨gt, ot, none⟩) n ct] #[.int .i64 long, .int .i64 wide, .int .i64 kerf, .int .i64 across] Z :=
      fun Z => ⟨((Blk.new w _ _ rfl).alloc _).alloc _, (Blk.new _ _ _ (by simp)).alloc _, Blk.new _ _ _ (by simp)⟩
    have b0 : ∀ Z, Below w.heap.size w (((w.alloc (.cells #[.slice A n c, .slice A' n c', .int .i64 bend, .slice K m d, .slice (some ⟨gb, ob, none⟩) n cb, .slice (some ⟨gt, ot, none⟩) n ct] 106)).alloc (.cells #[.int .i64 long, .int .i64 wide, .int .i64 kerf, .int .i64 across] 37)).alloc (.cells Z 120)).drew := fun _ =>
      ((((Below.refl _ _).alloc (Nat.le_refl _) _).alloc (by simp) _).alloc (by simp <;> omega) _).drew
    have Hs0 := Lib.hid hs0
    have Hb0 := Lib.hid b0
    clear hs0 b0
    go_region_held3 (fun W' => W'.cell? ⟨w.heap.size + 1, 0, none⟩ = some (.int .i64 long) ∧ W'.cell? ⟨w.heap.size + 1, 1, none⟩ = some (.int .i64 wide) ∧ W'.cell? ⟨w.heap.size + 1, 2, none⟩ = some (.int .i64 kerf) ∧ W'.cell? ⟨w.heap.size + 1, 3, none⟩ = some (.int .i64 across) ∧
      W'.cell? ⟨w.heap.size, 4, none⟩ = some (.slice (some ⟨gb, ob, none⟩) n cb) ∧ W'.cell? ⟨w.heap.size, 5, none⟩ = some (.slice (some ⟨gt, ot, none⟩) n ct)) (first | with_reducible exact WS.get (Hs0.out _) | with_reducible exact WS.get ((Hs0.out _).allocd _) | with_reducible exact WS.get Hs2.out | with_reducible exact WS.get (Hs2.out.alloc _) | with_reducible exact WS.get (Hs2.out.set7 Hg.out _ _ _ _ _ _ _) | with_reducible exact WS.get Hs1.out | with_reducible exact WS.get (Hs1.out.alloc _))
      (first
        | (go_at_call_of 98 (Value.slice (some ⟨gb, ob, none⟩) n cb); refine (heightsLow_any gb ob n cb bot _ (Hp.out _ ?_) h0 (by omega)).mono ?_; (first | with_reducible exact Hb0.out _ | with_reducible exact below_allocd (Hb0.out _) _); rintro e W1 ⟨h1, c1, rfl, ho1, hb1⟩; (first | (with_reducible have Z1 : Hid (Blk W1 (w.heap.size + 1 + 1 + 1) 120 zero7) := Lib.hid (z1_of hb1)) | skip); have Hs1 : Hid (WS w W1 _ _ zero7) := (by first | with_reducible exact Lib.hid ((Hs0.out _).below hb1) | with_reducible exact Lib.hid (((Hs0.out _).allocd _).below hb1)); have Ho1 : Hid (HO w W1 _ n _) := (by first | with_reducible exact Lib.hid (ho_of (Hb0.out _) ho1 hb1) | with_reducible exact Lib.hid (ho_of (below_allocd (Hb0.out _) _) ho1 hb1)); clear ho1)
        | (go_at_call_of 98 (Value.slice (some ⟨gt, ot, none⟩) n ct); refine (heightsHigh_any gt ot n ct top _ (Hp'.out _ ?_) h0 (by omega)).mono ?_; (first | with_reducible exact Ho1.out.bel | with_reducible exact (Ho1.out.alloc _).bel); rintro e W2 ⟨h2, c2, rfl, ho2, hb2⟩; (first | ((with_reducible have Z2 : Hid (Blk W2 (w.heap.size + 1 + 1 + 1) 120 zero7) := Lib.hid (blk_keep hb2 Z1.out)); have Hg := Lib.hid (show w.heap.size + 2 < w.heap.size + 1 + 1 + 1 from by omega); obtain ⟨y0, y1, y2, y3, y4, y5, y6, f0, f1, f2, f3, f4, f5, f6⟩ := blk7 Z2.out) | ((with_reducible have Z3 : Hid (Blk W2 W1.heap.size 120 zero7) := Lib.hid (z2_of hb2)); have Hg := Lib.hid (show w.heap.size + 2 < W1.heap.size from Hs1.out.bz.lt); obtain ⟨y0, y1, y2, y3, y4, y5, y6, f0, f1, f2, f3, f4, f5, f6⟩ := blk7 Z3.out) | skip); have Hs2 : Hid (WS w W2 _ _ zero7) := (by first | with_reducible exact Lib.hid (Hs1.out.below hb2) | with_reducible exact Lib.hid ((Hs1.out.alloc _).below hb2)); have Hm2 : Hid (HM w W2 _ _ n _ _) := (by first | with_reducible exact Lib.hid (hm_of Ho1.out ho2 hb2) | with_reducible exact Lib.hid (hm_of (Ho1.out.alloc _) ho2 hb2)); clear ho2))
    all_goals (go_wp2_with fail; go_meet)
    · exact ⟨_, _, _, rfl, meet3 Hs2.out Hm2.out⟩
    · exact ⟨_, _, _, rfl, meet12 Hs2.out Hm2.out Z3.out Hg.out⟩
    · exact ⟨_, _, _, rfl, meet12 Hs2.out Hm2.out Z2.out Hg.out⟩
  case rest =>
    obtain ⟨g, v1, v2, rfl, hM⟩ := hcut
    have HM0 := Lib.hid hM
    clear hM
    obtain ⟨i0, hi, hz0, hz1, hz2⟩ := info_parts Try.infoSplit
    have hlen : cr.length = m := (Hk.out w (Below.refl _ _)).len
    have hxl : xs.length = m := (Hx.out w (Below.refl _ _)).len
    have Hlen := Lib.hid hlen
    have HXL := Lib.hid hxl
    clear hlen hxl
    have hcc := HM0.out.fc.cell
    go_wp2_with fail
    clear hcc
    go_loopw [20] (fun i wr => ∃ (k : Nat) (sv : Value), k ≤ m ∧ i = .int .i64 k ∧ WorstMid w wr #[.slice A n c, .slice A' n c', .int .i64 bend, .slice K m d, .slice (some ⟨gb, ob, none⟩) n cb, .slice (some ⟨gt, ot, none⟩) n ct] #[.int .i64 long, .int .i64 wide, .int .i64 kerf, .int .i64 across] g v1 v2 sv n ((bot.map (·.1)).map (Value.int .i64)) ((top.map (·.2)).map (Value.int .i64)) k (flat4 ((bestSplits xs cr).take k))) (fun i _ => m - (intOf i).toNat)
    case atStart => exact ⟨0, _, Nat.zero_le _, rfl, HM0.out⟩
    case round =>
      obtain ⟨k, sv, hk, rfl, hM⟩ := hrel
      have HM := Lib.hid hM
      clear hM
      by_cases hlt : k < m
      · obtain ⟨b, off, rfl, hb, -, -, -, hc3, hc4, -⟩ := (Hk.out w (Below.refl _ _)).at_ hlt
        obtain ⟨bx, ox, rfl, hbx, hx0⟩ := (Hx.out _ HM.out.bel).at_ hlt
        have HS := Lib.hid (flat4_best_snoc xs cr k (by rw [HXL.out]; exact hlt) (by rw [Hlen.out]; exact hlt))
        generalize cr.getD k Crack.zero = y at *
        generalize xs.getD k 0 = x at *
        have HLT := Lib.hid hlt
        have hkm : (k : Int) < (m : Int) := by omega
        obtain ⟨SA, sc, rfl⟩ := own_slice HM.out.os
        have HSS : Hid (∀ W, W.cell? ⟨g, 6, none⟩ = some (.slice SA k sc) → W.cell? ⟨w.heap.size, 3, none⟩ = some (.slice (some ⟨b, off, none⟩) m d) → Below w.heap.size w W → S5 g w.heap.size b (off + k * 6) (.slice SA k sc) (.slice (some ⟨b, off, none⟩) m d) y.fh y.tl W) := fun W h1 h2 hW => ⟨h1, h2, (hW.cell (p := ⟨b, off + k * 6 + 3, none⟩) hb).trans hc3, (hW.cell (p := ⟨b, off + k * 6 + 4, none⟩) hb).trans hc4⟩
        have HSM : Hid (∀ W, Below wr.heap.size wr W → S5 g w.heap.size b (off + k * 6) (.slice SA k sc) (.slice (some ⟨b, off, none⟩) m d) y.fh y.tl W) := fun W hW => HSS.out W (by simpa using (HM.out.below hW).fg.cell 6) ((HM.out.below hW).fc.cell 3) (HM.out.below hW).bel
        clear hc3 hc4
        go_upto_region 5 with (fail)
        clear hx0
        have D0 : Hid (Below wr.heap.size wr wr.drew) := (Below.refl _ _).drew
        have S0 := HSM.out _ D0.out
        refine wp_region_untl (S := S5 g w.heap.size b (off + k * 6) (.slice SA k sc) (.slice (some ⟨b, off, none⟩) m d) y.fh y.tl) [25] (by kernel_rfl) S0 (fun _ => ?_)
        generalize wr.drew = wd at *
        refine untlTake (i := 0) 25 (v := ?v1) rfl (by kernel_rfl) (by kernel_rfl) (by kernel_rfl) (by kernel_rfl) (by kernel_rfl) (by kernel_rfl) (fun _ _ _ h => h) (Or.inl ⟨by rfl, ?y1⟩) (by assumption) ?r1
        case y1 => (intro w hSw; obtain ⟨g0, g1, g2, g3⟩ := hSw; go_simp; try with_reducible rfl)
        refine untlTake (i := 1) 26 (v := ?v2) rfl (by kernel_rfl) (by kernel_rfl) (by kernel_rfl) (by kernel_rfl) (by kernel_rfl) (by kernel_rfl) (fun _ _ _ h => h) (Or.inl ⟨by rfl, ?y2⟩) (by assumption) ?r2
        case y2 => (intro w hSw; obtain ⟨g0, g1, g2, g3⟩ := hSw; go_simp; try with_reducible rfl)
        refine untlTake (i := 2) 27 (v := ?v3) rfl (by kernel_rfl) (by kernel_rfl) (by kernel_rfl) (by kernel_rfl) (by kernel_rfl) (by kernel_rfl) (fun _ _ _ h => h) (Or.inl ⟨by rfl, ?y3⟩) (by assumption) ?r3
        case y3 => (intro w hSw; obtain ⟨g0, g1, g2, g3⟩ := hSw; go_simp; try with_reducible rfl)
        refine untlTake (i := 3) 28 (v := ?v4) rfl (by kernel_rfl) (by kernel_rfl) (by kernel_rfl) (by kernel_rfl) (by kernel_rfl) (by kernel_rfl) (fun _ _ _ h => h) (Or.inl ⟨by rfl, ?y4⟩) (by assumption) ?r4
        case y4 => (intro w hSw; obtain ⟨g0, g1, g2, g3⟩ := hSw; go_simp; try with_reducible rfl)
        refine untlTake (i := 4) 29 (v := ?v5) rfl (by kernel_rfl) (by kernel_rfl) (by kernel_rfl) (by kernel_rfl) (by kernel_rfl) (by kernel_rfl) (fun _ _ _ h => h) (Or.inl ⟨by rfl, ?y5⟩) (by assumption) ?r5
        case y5 => (intro w hSw; obtain ⟨g0, g1, g2, g3⟩ := hSw; go_simp; try with_reducible rfl)
        refine untlTake (i := 5) 30 (v := ?v6) rfl (by kernel_rfl) (by kernel_rfl) (by kernel_rfl) (by kernel_rfl) (by kernel_rfl) (by kernel_rfl) (fun _ _ _ h => h) (Or.inl ⟨by rfl, ?y6⟩) (by assumption) ?r6
        case y6 => (intro w hSw; obtain ⟨g0, g1, g2, g3⟩ := hSw; go_simp; try with_reducible rfl)
        refine untlTake (i := 6) 31 (v := ?v7) rfl (by kernel_rfl) (by kernel_rfl) (by kernel_rfl) (by kernel_rfl) (by kernel_rfl) (by kernel_rfl) (fun _ _ _ h => h) (Or.inl ⟨by rfl, ?y7⟩) (by assumption) ?r7
        case y7 => (intro w hSw; obtain ⟨g0, g1, g2, g3⟩ := hSw; go_simp; try with_reducible rfl)
        refine untlTake (i := 7) 32 (v := ?v8) rfl (by kernel_rfl) (by kernel_rfl) (by kernel_rfl) (by kernel_rfl) (by kernel_rfl) (by kernel_rfl) (fun _ _ _ h => h) (Or.inl ⟨by rfl, ?y8⟩) (by assumption) ?r8
        case y8 => (intro w hSw; obtain ⟨g0, g1, g2, g3⟩ := hSw; go_simp; try with_reducible rfl)
        refine untlTake (i := 8) 33 (v := ?v9) rfl (by kernel_rfl) (by kernel_rfl) (by kernel_rfl) (by kernel_rfl) (by kernel_rfl) (by kernel_rfl) (fun _ _ _ h => h) (Or.inl ⟨by rfl, ?y9⟩) (by assumption) ?r9
        case y9 => (intro w hSw; obtain ⟨g0, g1, g2, g3⟩ := hSw; go_simp; try with_reducible rfl)
        refine untlTake (i := 9) 34 (v := ?v10) rfl (by kernel_rfl) (by kernel_rfl) (by kernel_rfl) (by kernel_rfl) (by kernel_rfl) (by kernel_rfl) (fun _ _ _ h => h) (Or.inl ⟨by rfl, ?y10⟩) (by assumption) ?r10
        case y10 => (intro w hSw; obtain ⟨g0, g1, g2, g3⟩ := hSw; go_simp; try with_reducible rfl)
        refine untlTake (i := 10) 35 (v := ?v11) rfl (by kernel_rfl) (by kernel_rfl) (by kernel_rfl) (by kernel_rfl) (by kernel_rfl) (by kernel_rfl) (fun _ _ _ h => h) (Or.inl ⟨by rfl, ?y11⟩) (by assumption) ?r11
        case y11 => (intro w hSw; obtain ⟨g0, g1, g2, g3⟩ := hSw; go_simp; try with_reducible rfl)
        refine untlTake (i := 11) 36 (v := ?v12) rfl (by kernel_rfl) (by kernel_rfl) (by kernel_rfl) (by kernel_rfl) (by kernel_rfl) (by kernel_rfl) (fun _ _ _ h => h) (Or.inl ⟨by rfl, ?y12⟩) (by assumption) ?r12
        case y12 => (intro w hSw; obtain ⟨g0, g1, g2, g3⟩ := hSw; go_simp; try with_reducible rfl)
        refine untlTake (i := 12) 37 (v := ?v13) rfl (by kernel_rfl) (by kernel_rfl) (by kernel_rfl) (by kernel_rfl) (by kernel_rfl) (by kernel_rfl) (fun _ _ _ h => h) (Or.inl ⟨by rfl, ?y13⟩) (by assumption) ?r13
        case y13 => (intro w hSw; obtain ⟨g0, g1, g2, g3⟩ := hSw; go_simp; try with_reducible rfl)
        refine untlTake (i := 13) 38 (v := ?v14) rfl (by kernel_rfl) (by kernel_rfl) (by kernel_rfl) (by kernel_rfl) (by kernel_rfl) (by kernel_rfl) (fun _ _ _ h => h) (Or.inl ⟨by rfl, ?y14⟩) (by assumption) ?r14
        case y14 => (intro w hSw; obtain ⟨g0, g1, g2, g3⟩ := hSw; go_simp; try with_reducible rfl)
        refine untlTake (i := 14) 39 (v := ?v15) rfl (by kernel_rfl) (by kernel_rfl) (by kernel_rfl) (by kernel_rfl) (by kernel_rfl) (by kernel_rfl) (fun _ _ _ h => h) (Or.inl ⟨by rfl, ?y15⟩) (by assumption) ?r15
        case y15 => (intro w hSw; obtain ⟨g0, g1, g2, g3⟩ := hSw; go_simp; try with_reducible rfl)
        refine untlTake (i := 15) 40 (v := ?v16) rfl (by kernel_rfl) (by kernel_rfl) (by kernel_rfl) (by kernel_rfl) (by kernel_rfl) (by kernel_rfl) (fun _ _ _ h => h) (Or.inl ⟨by rfl, ?y16⟩) (by assumption) ?r16
        case y16 => (intro w hSw; obtain ⟨g0, g1, g2, g3⟩ := hSw; go_simp; try with_reducible rfl)
        refine untlTake (i := 16) 41 (v := ?v17) rfl (by kernel_rfl) (by kernel_rfl) (by kernel_rfl) (by kernel_rfl) (by kernel_rfl) (by kernel_rfl) (fun _ _ _ h => h) (Or.inl ⟨by rfl, ?y17⟩) (by assumption) ?r17
        case y17 => (intro w hSw; obtain ⟨g0, g1, g2, g3⟩ := hSw; go_simp; try with_reducible rfl)
        refine untlTake (i := 17) 42 (v := ?v18) rfl (by kernel_rfl) (by kernel_rfl) (by kernel_rfl) (by kernel_rfl) (by kernel_rfl) (by kernel_rfl) (fun _ _ _ h => h) (Or.inl ⟨by rfl, ?y18⟩) (by assumption) ?r18
        case y18 => (intro w hSw; obtain ⟨g0, g1, g2, g3⟩ := hSw; go_simp; try with_reducible rfl)
        refine untlTake (i := 18) 43 (v := ?v19) rfl (by kernel_rfl) (by kernel_rfl) (by kernel_rfl) (by kernel_rfl) (by kernel_rfl) (by kernel_rfl) (fun _ _ _ h => h) (Or.inl ⟨by rfl, ?y19⟩) (by assumption) ?r19
        case y19 => (intro w hSw; obtain ⟨g0, g1, g2, g3⟩ := hSw; go_simp; try with_reducible rfl)
        refine untlTake (i := 19) 44 (v := ?v20) rfl (by kernel_rfl) (by kernel_rfl) (by kernel_rfl) (by kernel_rfl) (by kernel_rfl) (by kernel_rfl) (fun _ _ _ h => h) (Or.inl ⟨by rfl, ?y20⟩) (by assumption) ?r20
        case y20 => (intro w hSw; obtain ⟨g0, g1, g2, g3⟩ := hSw; go_simp; try with_reducible rfl)
        refine untlTake (i := 20) 45 (v := ?v21) rfl (by kernel_rfl) (by kernel_rfl) (by kernel_rfl) (by kernel_rfl) (by kernel_rfl) (by kernel_rfl) (fun _ _ _ h => h) (Or.inl ⟨by rfl, ?y21⟩) (by assumption) ?r21
        case y21 => (intro w hSw; obtain ⟨g0, g1, g2, g3⟩ := hSw; go_simp; try with_reducible rfl)
        refine untlTake (i := 21) 46 (v := ?v22) rfl (by kernel_rfl) (by kernel_rfl) (by kernel_rfl) (by kernel_rfl) (by kernel_rfl) (by kernel_rfl) (fun _ _ _ h => h) (Or.inl ⟨by rfl, ?y22⟩) (by assumption) ?r22
        case y22 => (intro w hSw; obtain ⟨g0, g1, g2, g3⟩ := hSw; go_simp; try with_reducible rfl)
        simp only [Act.put, List.setIfInBounds_toArray, List.set_cons_zero, List.set_cons_succ]
        refine untlReady (rs := [22]) (by kernel_rfl) (by simp) ?_
        refine UReady.cons rfl (fun K1 hK1 => ?_) UReady.nil
        go_simp
        have B1 : Hid (Below wr.heap.size wr (wd.alloc (.cells #[.int .i64 x, .int .i64 x, .int .i64 y.fh, .int .i64 y.tl] 161))) := below_then D0.out (below_self _ _)
        have N1 := Lib.hid (Blk.new wd 161 #[.int .i64 x, .int .i64 x, .int .i64 y.fh, .int .i64 y.tl] (g := wd.heap.size) rfl)
        have M1 := Lib.hid (HM.out.below B1.out)
        refine hK1.out _ _ (.inr (HSM.out _ B1.out)) ?_
        generalize hW1 : wd.alloc (.cells #[.int .i64 x, .int .i64 x, .int .i64 y.fh, .int .i64 y.tl] 161) = W1 at *
        generalize wd.heap.size = gn at *
        clear hW1
        refine untlReady (rs := [23]) (by kernel_rfl) (by simp) ?_
        refine UReady.cons rfl (fun K2 hK2 => ?_) UReady.nil
        refine step_append_lies _ rfl (.tmp 26) (.tmp 47) 118 rfl w.heap.size 161 i0 _ 4 32 Try.underlying118 hi hz0 hz1 hz2 rfl (by decide) (.slice SA k sc) k _ (by rfl) M1.out.os ⟨gn, 0, none⟩ 1 1 [.int .i64 x, .int .i64 x, .int .i64 y.fh, .int .i64 y.tl] (by rfl) rfl (World.news_of_block N1.out) ?ca (by decide) ?cb ?cc ?cd W1.heap.size rfl ?_
        case ca => intro u hu; simp only [List.mem_cons, List.not_mem_nil, or_false] at hu; rcases hu with rfl | rfl | rfl | rfl <;> rfl
        case cb => have := HLT.out; unfold maxLen; omega
        case cc => have := HLT.out; omega
        case cd => exact M1.out.bel.size
        intro gv cv W2 hown hgrow hor hlt2
        have hown5 : Hid (W2.ownsRow w.heap.size 161 4 (.slice (some ⟨gv, 0, none⟩) (k + 1) cv) (k + 1) (flat4 ((bestSplits xs cr).take (k + 1)))) := by unfold Hid; rw [HS.out]; exact hown
        have HN := Lib.hid (M1.out.appended hgrow hown5.out rfl)
        have gg := M1.out.fg.grown hgrow (own_blk_ne M1.out.os M1.out.fg (by decide))
        have g6 : W2.cell? ⟨g, 6, none⟩ = some (.slice SA k sc) := by simpa using gg.cell 6
        have f6 := gg.frozen 6
        have gc := M1.out.fc.grown hgrow (own_blk_ne M1.out.os M1.out.fc (by decide))
        have S2 := HSS.out _ g6 (gc.cell 3) (M1.out.bel.grown hgrow M1.out.bel.size (fun q hq => (M1.out.os.lt q hq).1))
        clear hown hgrow hor hlt2 gg gc
        refine hK2.out _ _ (.inr S2) ?_
        refine untlTake (i := 24) 49 (v := ?v23) rfl (by kernel_rfl) (by kernel_rfl) (by kernel_rfl) (by kernel_rfl) (by kernel_rfl) (by kernel_rfl) (fun _ _ _ h => h) (Or.inl ⟨by rfl, ?y23⟩) (by assumption) ?r23
        case y23 => (intro w hSw; obtain ⟨g0, g1, g2, g3⟩ := hSw; go_simp; try with_reducible rfl)
        refine untlStep (i := 25) (by kernel_rfl) rfl (fun KE hKE => ?_)
        go_simp
        refine hKE.out _ _ (.inl (by decide)) ?_
        refine untlDone (by kernel_rfl) ?_ _
        go_wp2
        go_roundw
        case rel => exact ⟨k + 1, _, by have := HLT.out; omega, by go_num, HN.out⟩
        case measure => have := HLT.out; simp [intOf]; omega
      · obtain rfl : k = m := by omega
        have hM := HM.out
        rw [List.take_of_length_le (by rw [bestSplits_length, Hlen.out, HXL.out, Nat.min_self]; exact Nat.le_refl _)] at hM
        obtain ⟨g1, k1, rfl⟩ := own_form hM.o1 h0
        obtain ⟨g2, k2, rfl⟩ := own_form hM.o2 h0
        obtain ⟨SA, sc, rfl⟩ := own_slice hM.os
        have hg : Blk wr g 120 #[.int .i64 long, .int .i64 wide, .int .i64 kerf, .int .i64 across, .slice (some ⟨g1, 0, none⟩) n k1, .slice (some ⟨g2, 0, none⟩) n k2, .slice SA k sc] := hM.fg
        have hr := hM.fr
        have HF := Lib.hid (own_setRow hM.o1 hM.fr (by decide) #[.int .i64 long, .int .i64 wide, .int .i64 kerf, .int .i64 across, .slice (some ⟨g1, 0, none⟩) n k1, .slice (some ⟨g2, 0, none⟩) n k2, .slice SA k sc])
        have HF2 := Lib.hid (own_setRow hM.o2 hM.fr (by decide) #[.int .i64 long, .int .i64 wide, .int .i64 kerf, .int .i64 across, .slice (some ⟨g1, 0, none⟩) n k1, .slice (some ⟨g2, 0, none⟩) n k2, .slice SA k sc])
        have HF3 := Lib.hid (own_setRow hM.os hM.fr (by decide) #[.int .i64 long, .int .i64 wide, .int .i64 kerf, .int .i64 across, .slice (some ⟨g1, 0, none⟩) n k1, .slice (some ⟨g2, 0, none⟩) n k2, .slice SA k sc])
        have HB := Lib.hid hM.bel
        have Hr := Lib.hid hr
        have Hg := Lib.hid hg
        clear hM hr hg HM HM0
        go_wp2_with (first | (refine wpList_load_row rfl 120 _ rfl g rfl 120 _ _ _ Hg.out Try.underlying120 rfl (by kernel_rfl) ?_) | (refine wpList_store_row rfl 120 _ _ rfl (w.heap.size + 2) _ rfl rfl 120 _ Hr.out (by kernel_rfl) rfl (by kernel_rfl) ?_))
        exact bodyPost_ret (results_c rfl _ _ _ _ _ _ _ rfl (Hr.out.setRow _) Try.underlying120 (by kernel_rfl)) rfl ⟨below_setR HB.out (by omega) _, ⟨g1, 0, none⟩, ⟨g2, 0, none⟩, k1, k2, SA, sc, rfl, ⟨ints_of_own HF.out, ints_of_own HF2.out, splits_of_own HF3.out⟩, own_cap HF.out, own_cap HF2.out, rfl, rfl⟩
end Go.Proofs.Ytiflhimmieflpaa
