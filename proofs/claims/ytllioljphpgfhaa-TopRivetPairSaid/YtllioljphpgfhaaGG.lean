/- Walks: the law of a pair in balance. -/
import Derived.Test.YtllioljphpgfhaaGE
import Derived.Test.YtllioljphpgfhaaGF
import Derived.Deep.CutRange
import Derived.Deep.CutBlock
namespace Go.Proofs.Ytllioljphpgfhaa
open Go.RowKit Go.Sort

theorem span2_getA {W : World} {s : Nat} {ty : TypeId} {x y : Value} (h : Blk W s ty #[x, y]) : W.cell? ⟨s, 0, none⟩ = some x ∧ W.cell? ⟨s, 1, none⟩ = some y := ⟨h.cell 0, h.cell 1⟩
theorem stks_two (w : World) (x y : Stk) (t : TypeId) {g : Nat} (hg : g = w.heap.size) : Stks (w.alloc (.cells #[.int .i64 x.wl, .int .i64 x.wh, .int .i64 x.tl, .int .i64 x.th, .int .i64 x.pl, .int .i64 y.wl, .int .i64 y.wh, .int .i64 y.tl, .int .i64 y.th, .int .i64 y.pl] t)) (some ⟨g, 0, none⟩) 2 [x, y] := by
  refine ⟨rfl, fun _ => ⟨g, 0, rfl, by subst hg; simp, fun j u hu => ?_⟩⟩
  have hl : j < 10 := by have := (List.getElem?_eq_some_iff.1 hu).1; simpa [flatT_length] using this
  rw [Nat.zero_add, (Blk.new w t _ hg).cell, ← hu]
  rcases (by omega : j = 0 ∨ j = 1 ∨ j = 2 ∨ j = 3 ∨ j = 4 ∨ j = 5 ∨ j = 6 ∨ j = 7 ∨ j = 8 ∨ j = 9) with rfl | rfl | rfl | rfl | rfl | rfl | rfl | rfl | rfl | rfl <;> rfl
set_option maxRecDepth 100000 in
set_option maxHeartbeats 8000000 in
theorem oakRivetPair_any (a b s u p : Int) (w : World) (h : TwoB a b s 0 p) (hu : 0 ≤ u ∧ u ≤ 255) :
    Calls Try.prog 5 #[.int .i64 a, .int .i64 b, .int .i64 s, .int .i64 u, .int .i64 p] w fun e w' => e = .returned (.bool true) ∧ Below w.heap.size w w' := by
  have HK := Lib.hid (fun W => known06_any W)
  have HSP := Lib.hid (fun x y W => oakSpan_any x y W)
  have HOG := Lib.hid (fun wt x A W (h : Ints W A 1 [x]) => oakGuard_any wt A 1 1 [x] W h (by decide))
  unfold GuardRes at HOG
  have hpp : TwoB a b s p p := ⟨h.a0, h.a1, h.b0, h.b1, h.s0, h.s1, h.q0, h.q1, h.q0, h.q1⟩
  have h00 : TwoB a b s 0 0 := ⟨h.a0, h.a1, h.b0, h.b1, h.s0, h.s1, Int.le_refl _, by decide, Int.le_refl _, by decide⟩
  obtain ⟨Q, hQ⟩ : ∃ z, decide (max (a - b) (b - a) + 2 * s ≤ u) = z := ⟨_, rfl⟩
  have HA1 : Hid (∀ A B c d W, Ints W A 1 [5] → Ints W B 1 [5] → Calls Try.prog 10 #[.agg #[.int .i64 a, .slice A 1 c], .agg #[.int .i64 b, .slice B 1 d], .agg #[.int .i64 s, .int .i64 0, .int .i64 u, .int .i64 0]] W fun e w' => ∃ z, e = .returned (.tuple #[.bool Q, .bool z, .int .i64 0]) ∧ Below W.heap.size W w') := fun A B c d W h1 h2 => by
    obtain ⟨x1, x3⟩ := alike_two (A := A) (B := B) (c := c) (d := d) h00 hu
    have q := alike1 a b 5 5 s 0 u 0 A B c d W h1 h2
    rw [x1, x3, hQ] at q
    exact q.mono fun e w' ⟨e1, e2⟩ => ⟨_, e1, e2⟩
  have HC : Hid (∀ g W, g = W.heap.size → Calls Try.prog 12 #[.slice (some ⟨g, 0, none⟩) 2 2] (W.alloc (.cells #[.int .i64 (a - s), .int .i64 (a + s), .int .i64 3, .int .i64 4, .int .i64 0, .int .i64 (b - s), .int .i64 (b + s), .int .i64 3, .int .i64 4, .int .i64 p] 49)) fun e w' => e = .returned (.tuple #[.agg #[.int .i64 (a + b - 2 * s), .int .i64 (a + b + 2 * s)], .agg #[.int .i64 6, .int .i64 8], .int .i64 0]) ∧ Below W.heap.size W w') := fun g W hg => by
    obtain ⟨c1, c2, c3, c4⟩ := close_two h
    have q := Closed_any [stkA a s 0, stkA b s p] (some ⟨g, 0, none⟩) 2 2 _ (stks_two W (stkA a s 0) (stkA b s p) 49 hg) (by decide)
    rw [c1, c2, c3, c4, two_err h] at q
    exact q.mono fun e w' ⟨e1, e2⟩ => ⟨e1, below_then (below_self _ _) e2⟩
  obtain ⟨⟨x0, y0⟩, hr0⟩ : ∃ z, lowR (balL false [stkA a s 0, stkA b s p]) = z := ⟨_, rfl⟩
  obtain ⟨⟨x1, y1⟩, hr1⟩ : ∃ z, lowR (balL true [stkA a s 0, stkA b s p]) = z := ⟨_, rfl⟩
  have O0 := bal_off false h hu.1
  have O1 := bal_off true h hu.1
  have HB1 : Hid (∀ g W, g = W.heap.size → Calls Try.prog 13 #[.slice (some ⟨g, 0, none⟩) 2 2] (W.alloc (.cells #[.int .i64 (a - s), .int .i64 (a + s), .int .i64 3, .int .i64 4, .int .i64 0, .int .i64 (b - s), .int .i64 (b + s), .int .i64 3, .int .i64 4, .int .i64 p] 49)) fun e w' => e = .returned (.tuple #[.agg #[.int .i64 x0, .int .i64 y0], .agg #[.int .i64 x1, .int .i64 y1], .int .i64 0]) ∧ Below W.heap.size W w') := fun g W hg => by
    have q := Balance_any [stkA a s 0, stkA b s p] (some ⟨g, 0, none⟩) 2 2 _ (stks_two W (stkA a s 0) (stkA b s p) 49 hg) (by decide)
    rw [balR_two h, hr0, hr1] at q
    exact q.mono fun e w' ⟨e1, e2⟩ => ⟨e1, below_then (below_self _ _) e2⟩
  have HB2 : Hid (∀ g W, g = W.heap.size → Calls Try.prog 13 #[.slice (some ⟨g, 0, none⟩) 2 2] (W.alloc (.cells #[.int .i64 (a - s), .int .i64 (a + s), .int .i64 3, .int .i64 4, .int .i64 p, .int .i64 (b - s), .int .i64 (b + s), .int .i64 3, .int .i64 4, .int .i64 p] 49)) fun e w' => e = .returned (.tuple #[.agg #[.int .i64 p, .int .i64 1], .agg #[.int .i64 p, .int .i64 1], .int .i64 0]) ∧ Below W.heap.size W w') := fun g W hg => by
    have q := Balance_any [stkA a s p, stkA b s p] (some ⟨g, 0, none⟩) 2 2 _ (stks_two W (stkA a s p) (stkA b s p) 49 hg) (by decide)
    rw [balR_two hpp, bal_same false hpp, bal_same true hpp] at q
    exact q.mono fun e w' ⟨e1, e2⟩ => ⟨e1, below_then (below_self _ _) e2⟩
  rw [hr0] at O0
  rw [hr1] at O1
  clear hr0 hr1 hpp h00
  have O0 := Lib.hid O0
  have O1 := Lib.hid O1
  have HT := Lib.hid h
  have HU := Lib.hid hu
  have HQ := Lib.hid hQ
  obtain ⟨a0, a1, b0, b1, s0, s1, -, -, p0, p1⟩ := h
  clear hQ
  have k1 : IntKind.i64.wrap (a - s) = a - s := IntWalk.i64_in _ (by omega)
  have k2 : IntKind.i64.wrap (a + s) = a + s := IntWalk.i64_in _ (by omega)
  have k3 : IntKind.i64.wrap (b - s) = b - s := IntWalk.i64_in _ (by omega)
  have k4 : IntKind.i64.wrap (b + s) = b + s := IntWalk.i64_in _ (by omega)
  go_enter Try.func5, Try.ntmps5
  go_wp2_with fail
  have G0 := Lib.hid (Blk.new w 39 #[.int .i64 s, .int .i64 0, .int .i64 u, .int .i64 0] (g := w.heap.size) rfl)
  have B0 := Lib.hid (below_self w (.cells #[.int .i64 s, .int .i64 0, .int .i64 u, .int .i64 0] 39))
  generalize w.alloc (.cells #[.int .i64 s, .int .i64 0, .int .i64 u, .int .i64 0] 39) = v at *
  have KS := Lib.hid (fun W (hb : Below v.heap.size v W) => gg_get (blk_keep hb G0.out))
  have e0 := KS.out v (Below.refl _ _)
  generalize hgg : w.heap.size = gg at *
  have HGG := Lib.hid hgg
  clear hgg
  go_cut [12, 14] from 33 to 43 (fun s12 s14 W => s12 = .bool Q ∧ s14 = .int .i64 0 ∧ Below v.heap.size v W)
  case first =>
    go_region_held3 (fun W => W.cell? ⟨gg, 0, none⟩ = some (.int .i64 s) ∧ W.cell? ⟨gg, 1, none⟩ = some (.int .i64 0) ∧ W.cell? ⟨gg, 2, none⟩ = some (.int .i64 u) ∧ W.cell? ⟨gg, 3, none⟩ = some (.int .i64 0))
      (first | (refine KS.out _ ?_; (repeat (first | exact Below.refl _ _ | with_reducible refine Below.drew ?_ | with_reducible refine below_alloc' ?_ _ | with_reducible refine below_then ?_ Ha3.out | with_reducible refine below_then ?_ Ha2.out | with_reducible refine below_then ?_ Ha1.out)); done))
      (first | (go_at_call_of 6 (Value.int .i64 b); refine (HOG.out _ 5 _ _ (by first | with_reducible exact ints_f1 _ _ _ | with_reducible exact Ints.below (ints_e3 _ _ _ _) Ha1.out | with_reducible exact Ints.below (ints_e2 _ _ _ _) Ha1.out | fail)).mono ?_; rintro e Wa2 ⟨Aa2, ka2, rfl, o2, b2⟩; have Ha2 := Lib.hid b2; have Ia2 := Lib.hid (ints_own o2); clear b2 o2) | (go_at_call_of 6 (Value.int .i64 a); refine (HOG.out _ 5 _ _ (by first | with_reducible exact ints_e1 _ _ _ | with_reducible exact ints_e2 _ _ _ _ | with_reducible exact ints_e3 _ _ _ _ | fail)).mono ?_; rintro e Wa1 ⟨Aa1, ka1, rfl, o1, b1⟩; have Ha1 := Lib.hid b1; have Ia1 := Lib.hid (ints_own o1); clear b1 o1) | (go_at_call 10; refine (HA1.out _ _ _ _ _ (by first | exact Ia1.out.below Ha2.out | exact Ints.below (Ints.below Ia1.out (below_self _ _)) Ha2.out | fail) Ia2.out).mono ?_; rintro e Wa3 ⟨za, rfl, b3⟩; have Ha3 := Lib.hid b3; clear b3))
    all_goals
      have BVa : Hid (Below v.heap.size v Wa3) := by
        unfold Hid
        (repeat (first | exact Below.refl _ _ | with_reducible refine Below.drew ?_ | with_reducible refine below_alloc' ?_ _ | with_reducible refine below_then ?_ Ha3.out | with_reducible refine below_then ?_ Ha2.out | with_reducible refine below_then ?_ Ha1.out))
      clear Ha1 Ha2 Ha3 Ia1 Ia2
    all_goals
      go_wp2_with fail
      go_meet
      exact ⟨rfl, rfl, BVa.out⟩

  case rest =>
    obtain ⟨rfl, rfl, hb2⟩ := hcut
    have B2 := Lib.hid hb2
    clear hb2
    clear KS HA1 HOG e0
    go_wp2_with fail
    refine (HSP.out _ _ _).mono ?_
    rintro e W3 ⟨rfl, b3⟩
    have B3 := Lib.hid (below_then B2.out b3)
    clear b3 B2
    go_wp2_with fail
    refine (HSP.out _ _ _).mono ?_
    rintro e W4 ⟨rfl, b4⟩
    have B4 := Lib.hid (below_then B3.out b4)
    clear b4 B3
    go_wp2_with fail
    have TA := Lib.hid (Blk.new W4 49 #[.int .i64 (a - s), .int .i64 (a + s), .int .i64 3, .int .i64 4, .int .i64 0] (g := W4.heap.size) rfl)
    have B5 := Lib.hid (below_alloc' B4.out (.cells #[.int .i64 (a - s), .int .i64 (a + s), .int .i64 3, .int .i64 4, .int .i64 0] 49))
    generalize W4.alloc (.cells #[.int .i64 (a - s), .int .i64 (a + s), .int .i64 3, .int .i64 4, .int .i64 0] 49) = V5 at *
    have zA := Lib.hid B4.out.size
    clear B4
    generalize W4.heap.size = ga at *
    refine (HSP.out _ _ _).mono ?_
    rintro e W6 ⟨rfl, b6⟩
    have B6 := Lib.hid (below_then B5.out b6)
    have TA6 := Lib.hid (blk_keep b6 TA.out)
    clear b6 B5 TA
    go_wp2_with fail
    refine (HSP.out _ _ _).mono ?_
    rintro e W7 ⟨rfl, b7⟩
    have B7 := Lib.hid (below_then B6.out b7)
    have TA7 := Lib.hid (blk_keep b7 TA6.out)
    clear b7 B6 TA6
    have TB := Lib.hid (Blk.new W7 49 #[.int .i64 (b - s), .int .i64 (b + s), .int .i64 3, .int .i64 4, .int .i64 p] (g := W7.heap.size) rfl)
    have B8 := Lib.hid (below_alloc' B7.out (.cells #[.int .i64 (b - s), .int .i64 (b + s), .int .i64 3, .int .i64 4, .int .i64 p] 49))
    have TA8 := Lib.hid (TA7.out.alloc (.cells #[.int .i64 (b - s), .int .i64 (b + s), .int .i64 3, .int .i64 4, .int .i64 p] 49))
    have nAB := Lib.hid (show ga ≠ W7.heap.size from Nat.ne_of_lt TA7.out.lt)
    clear TA7
    go_upto_region 5 with fail
    generalize W7.alloc (.cells #[.int .i64 (b - s), .int .i64 (b + s), .int .i64 3, .int .i64 4, .int .i64 p] 49) = V8 at *
    have zB := Lib.hid B7.out.size
    clear B7
    generalize W7.heap.size = gb at *
    have a8 := stk_get TA8.out
    have b8 := stk_get TB.out
    go_wp2_with fail
    refine (HC.out _ _ rfl).mono ?_
    rintro e W9 ⟨rfl, b9⟩
    have B9 := Lib.hid (below_then B8.out b9)
    have TA9 := Lib.hid (blk_keep b9 TA8.out)
    have TB9 := Lib.hid (blk_keep b9 TB.out)
    clear b9 a8 b8 B8 TA8 TB
    go_upto_region 6 with fail
    have B10 := Lib.hid (below_alloc' (below_alloc' B9.out (.cells #[.int .i64 (a + b - 2 * s), .int .i64 (a + b + 2 * s)] 36)) (.cells #[.int .i64 6, .int .i64 8] 36))
    have TA10 := Lib.hid ((TA9.out.alloc (.cells #[.int .i64 (a + b - 2 * s), .int .i64 (a + b + 2 * s)] 36)).alloc (.cells #[.int .i64 6, .int .i64 8] 36))
    have TB10 := Lib.hid ((TB9.out.alloc (.cells #[.int .i64 (a + b - 2 * s), .int .i64 (a + b + 2 * s)] 36)).alloc (.cells #[.int .i64 6, .int .i64 8] 36))
    have PW := Lib.hid ((Blk.new W9 36 #[.int .i64 (a + b - 2 * s), .int .i64 (a + b + 2 * s)] (g := W9.heap.size) rfl).alloc (.cells #[.int .i64 6, .int .i64 8] 36))
    have PT := Lib.hid (Blk.new (W9.alloc (.cells #[.int .i64 (a + b - 2 * s), .int .i64 (a + b + 2 * s)] 36)) 36 #[.int .i64 6, .int .i64 8] (g := W9.heap.size + 1) (by simp))
    have nW := Lib.hid (show ga ≠ W9.heap.size ∧ ga ≠ W9.heap.size + 1 from by have := TA9.out.lt; omega)
    generalize (W9.alloc (.cells #[.int .i64 (a + b - 2 * s), .int .i64 (a + b + 2 * s)] 36)).alloc (.cells #[.int .i64 6, .int .i64 8] 36) = V10 at *
    clear B9 TA9 TB9
    generalize hgw : W9.heap.size = gw at *
    generalize hgt : gw + 1 = gt at *
    clear hgw hgt
    have a10 := stk_get TA10.out
    have b10 := stk_get TB10.out
    go_wp2_with fail
    refine (HB1.out _ _ rfl).mono ?_
    rintro e W11 ⟨rfl, b11⟩
    have B11 := Lib.hid (below_then B10.out b11)
    have TA11 := Lib.hid (blk_keep b11 TA10.out)
    have TB11 := Lib.hid (blk_keep b11 TB10.out)
    have PW11 := Lib.hid (blk_keep b11 PW.out)
    have PT11 := Lib.hid (blk_keep b11 PT.out)
    clear b11 a10 b10 B10 TA10 TB10 PW PT
    go_upto_region 7 with fail
    have B12 := Lib.hid (below_alloc' (below_alloc' B11.out (.cells #[.int .i64 x0, .int .i64 y0] 54)) (.cells #[.int .i64 x1, .int .i64 y1] 54))
    have TA12 := Lib.hid ((TA11.out.alloc (.cells #[.int .i64 x0, .int .i64 y0] 54)).alloc (.cells #[.int .i64 x1, .int .i64 y1] 54))
    have TB12 := Lib.hid ((TB11.out.alloc (.cells #[.int .i64 x0, .int .i64 y0] 54)).alloc (.cells #[.int .i64 x1, .int .i64 y1] 54))
    have PW12 := Lib.hid ((PW11.out.alloc (.cells #[.int .i64 x0, .int .i64 y0] 54)).alloc (.cells #[.int .i64 x1, .int .i64 y1] 54))
    have PT12 := Lib.hid ((PT11.out.alloc (.cells #[.int .i64 x0, .int .i64 y0] 54)).alloc (.cells #[.int .i64 x1, .int .i64 y1] 54))
    have PL := Lib.hid ((Blk.new W11 54 #[.int .i64 x0, .int .i64 y0] (g := W11.heap.size) rfl).alloc (.cells #[.int .i64 x1, .int .i64 y1] 54))
    have PM := Lib.hid (Blk.new (W11.alloc (.cells #[.int .i64 x0, .int .i64 y0] 54)) 54 #[.int .i64 x1, .int .i64 y1] (g := W11.heap.size + 1) (by simp))
    have nL := Lib.hid (show ga ≠ W11.heap.size ∧ ga ≠ W11.heap.size + 1 from by have := TA11.out.lt; omega)
    generalize (W11.alloc (.cells #[.int .i64 x0, .int .i64 y0] 54)).alloc (.cells #[.int .i64 x1, .int .i64 y1] 54) = V12 at *
    clear B11 TA11 TB11 PW11 PT11
    generalize hgl : W11.heap.size = gl at *
    generalize hgm : gl + 1 = gm at *
    clear hgl hgm
    have a12 := stk_get TA12.out
    have f12 := TA12.out.frozen 4
    go_upto_region 8 with fail
    clear a12 f12
    have TA13 : Hid (Blk (V12.setCell ⟨ga, 4, none⟩ (.int .i64 p)) ga 49 #[.int .i64 (a - s), .int .i64 (a + s), .int .i64 3, .int .i64 4, .int .i64 p]) := TA12.out.set_ 4 _
    have TB13 := Lib.hid (TB12.out.far (p := ⟨ga, 4, none⟩) nAB.out.symm (.int .i64 p))
    have PW13 := Lib.hid (PW12.out.far (p := ⟨ga, 4, none⟩) nW.out.1.symm (.int .i64 p))
    have PT13 := Lib.hid (PT12.out.far (p := ⟨ga, 4, none⟩) nW.out.2.symm (.int .i64 p))
    have PL13 := Lib.hid (PL.out.far (p := ⟨ga, 4, none⟩) nL.out.1.symm (.int .i64 p))
    have PM13 := Lib.hid (PM.out.far (p := ⟨ga, 4, none⟩) nL.out.2.symm (.int .i64 p))
    have B13 := Lib.hid (B12.out.setCell (p := ⟨ga, 4, none⟩) zA.out (.int .i64 p))
    generalize V12.setCell ⟨ga, 4, none⟩ (.int .i64 p) = V13 at *
    clear TA12 TB12 PW12 PT12 PL PM B12 nAB nW nL zA zB
    have a13 := stk_get TA13.out
    have b13 := stk_get TB13.out
    go_wp2_with fail
    refine (HB2.out _ _ rfl).mono ?_
    rintro e W14 ⟨rfl, b14⟩
    have B14 := Lib.hid (below_then B13.out b14)
    have PW14 := Lib.hid (blk_keep b14 PW13.out)
    have PT14 := Lib.hid (blk_keep b14 PT13.out)
    have PL14 := Lib.hid (blk_keep b14 PL13.out)
    have PM14 := Lib.hid (blk_keep b14 PM13.out)
    clear b14 a13 b13 B13 TA13 TB13 PW13 PT13 PL13 PM13 HC HB1 HB2
    go_upto_region 9 with fail
    have B15 := Lib.hid (below_alloc' (below_alloc' B14.out (.cells #[.int .i64 p, .int .i64 1] 54)) (.cells #[.int .i64 p, .int .i64 1] 54))
    have PW15 := Lib.hid ((PW14.out.alloc (.cells #[.int .i64 p, .int .i64 1] 54)).alloc (.cells #[.int .i64 p, .int .i64 1] 54))
    have PT15 := Lib.hid ((PT14.out.alloc (.cells #[.int .i64 p, .int .i64 1] 54)).alloc (.cells #[.int .i64 p, .int .i64 1] 54))
    have PL15 := Lib.hid ((PL14.out.alloc (.cells #[.int .i64 p, .int .i64 1] 54)).alloc (.cells #[.int .i64 p, .int .i64 1] 54))
    have PM15 := Lib.hid ((PM14.out.alloc (.cells #[.int .i64 p, .int .i64 1] 54)).alloc (.cells #[.int .i64 p, .int .i64 1] 54))
    have PS := Lib.hid ((Blk.new W14 54 #[.int .i64 p, .int .i64 1] (g := W14.heap.size) rfl).alloc (.cells #[.int .i64 p, .int .i64 1] 54))
    have PK := Lib.hid (Blk.new (W14.alloc (.cells #[.int .i64 p, .int .i64 1] 54)) 54 #[.int .i64 p, .int .i64 1] (g := W14.heap.size + 1) (by simp))
    generalize (W14.alloc (.cells #[.int .i64 p, .int .i64 1] 54)).alloc (.cells #[.int .i64 p, .int .i64 1] 54) = V15 at *
    clear B14 PW14 PT14 PL14 PM14
    generalize hgs : W14.heap.size = gs at *
    generalize hgk : gs + 1 = gk at *
    clear hgs hgk
    clear k1 k2 k3 k4
    have k5 : IntKind.i64.wrap (a + b) = a + b := IntWalk.i64_in _ (by omega)
    have k6 : IntKind.i64.wrap (2 * s) = 2 * s := IntWalk.i64_in _ (by omega)
    have k7 : IntKind.i64.wrap (a + b - 2 * s) = a + b - 2 * s := IntWalk.i64_in _ (by omega)
    have k8 : IntKind.i64.wrap (a + b + 2 * s) = a + b + 2 * s := IntWalk.i64_in _ (by omega)
    have r0 := fun d os => cell_regrown (PW15.out.cell 0) d os
    have r1 := fun d os => cell_regrown (PW15.out.cell 1) d os
    have r2 := fun d os => cell_regrown (PT15.out.cell 0) d os
    have r3 := fun d os => cell_regrown (PT15.out.cell 1) d os
    have r4 := fun d os => cell_regrown (PS.out.cell 0) d os
    have r5 := fun d os => cell_regrown (PS.out.cell 1) d os
    have r6 := fun d os => cell_regrown (PK.out.cell 0) d os
    have r7 := fun d os => cell_regrown (PK.out.cell 1) d os
    clear a0 a1 b0 b1 s0 s1 p0 p1
    refine wp_region_quiet_below (by kernel_rfl) (by kernel_rfl) ?_
    repeat (go_big_quiet_step (first | (go_at_call 7; exact Calls.regrown_of (HSP.out _ _ _))))
    refine wpQuiet_nil ?_
    intro _ hw9
    obtain ⟨⟨dq, osq⟩, hw9⟩ := hw9
    dsimp only at hw9
    subst hw9
    have b16 := below_regrown V15 dq osq
    have B16 := Lib.hid (below_then B15.out b16)
    have PW16 := Lib.hid (blk_keep b16 PW15.out)
    have PL16 := Lib.hid (blk_keep b16 PL15.out)
    have PM16 := Lib.hid (blk_keep b16 PM15.out)
    generalize grow (redrawn V15 dq) osq = V16 at *
    clear b16 r0 r1 r2 r3 r4 r5 r6 r7 PW15 PT15 PL15 PM15 PS PK B15 HSP k5 k6 k7 k8
    obtain ⟨m2, hm2⟩ : ∃ z, (if a - b < b - a then b - a else a - b) = z := ⟨_, rfl⟩
    have HM2 := Lib.hid hm2
    clear hm2
    go_upto_region 11 with fail
    go_wp2_with fail
    go_loopw [26] (fun i wr => ∃ k : Nat, k ≤ 2 ∧ i = .int .i64 k ∧ Below V16.heap.size V16 wr) (fun i _ => 2 - (intOf i).toNat)
    case atStart => exact ⟨0, Nat.zero_le _, rfl, Below.refl _ _⟩
    case round =>
      obtain ⟨k, hk, rfl, hbel⟩ := hrel
      have BK := Lib.hid hbel
      clear hbel
      by_cases hgo : k < 2 ∧ Q = true
      · obtain ⟨hlt, rfl⟩ := hgo
        obtain ⟨x, y, hO, hrun⟩ : ∃ x y, OffB a b s p u (x, y) ∧ ∀ W : World, (Instr.index 57 (.agg #[Value.int .i64 x0, .int .i64 y0, .int .i64 x1, .int .i64 y1]) (.int .i64 (k : Int))).run Try.prog W = .ok (.agg #[.int .i64 x, .int .i64 y]) W := by
          rcases (by omega : k = 0 ∨ k = 1) with h | h
          · exact ⟨x0, y0, O0.out, fun W => by rw [show (k : Int) = 0 by omega]; kernel_rfl⟩
          · exact ⟨x1, y1, O1.out, fun W => by rw [show (k : Int) = 1 by omega]; kernel_rfl⟩
        obtain ⟨m, HO⟩ := off_walk HT.out HU.out hO (of_decide_eq_true HQ.out)
        have HO := Lib.hid HO
        clear hO
        have l0 := span2_getA (blk_keep BK.out PL16.out)
        have l1 := span2_getA (blk_keep BK.out PM16.out)
        have hlI : (k : Int) < 2 := by omega
        go_upto_region 15 with fail
        clear l0 l1 hrun
        have PR := Lib.hid (Blk.new wr 54 #[.int .i64 x, .int .i64 y] (g := wr.heap.size) rfl)
        have BR := Lib.hid (below_alloc' BK.out (.cells #[.int .i64 x, .int .i64 y] 54))
        generalize wr.alloc (.cells #[.int .i64 x, .int .i64 y] 54) = wq at *
        generalize wr.heap.size = gr at *
        have l2 := span2_getA PR.out
        have l3 := span2_getA (blk_keep BR.out PW16.out)
        obtain ⟨hm, w1, w2, w3, w4, w5, w6, w7, n1, n2, n3, n4, n5⟩ := HO.out
        clear HO BK
        go_wp2_with fail
        go_roundw
        case rel => exact ⟨k + 1, by omega, by go_num, BR.out⟩
        case measure => simp [intOf]; omega
      · have B20 := Lib.hid (below_then B16.out BK.out)
        clear BK
        have e1 : IntKind.i64.wrap (a - b) = a - b := IntWalk.i64_in _ (by have := HT.out.a0; have := HT.out.a1; have := HT.out.b0; have := HT.out.b1; omega)
        have e2 : IntKind.i64.wrap (b - a) = b - a := IntWalk.i64_in _ (by have := HT.out.a0; have := HT.out.a1; have := HT.out.b0; have := HT.out.b1; omega)
        have e3 : IntKind.i64.wrap (2 * s) = 2 * s := IntWalk.i64_in _ (by have := HT.out.s0; have := HT.out.s1; omega)
        have hmx : m2 = max (a - b) (b - a) := by rw [← HM2.out]; split <;> omega
        have e4 : IntKind.i64.wrap (m2 + 2 * s) = m2 + 2 * s := IntWalk.i64_in _ (by have := HT.out.a0; have := HT.out.a1; have := HT.out.b0; have := HT.out.b1; have := HT.out.s0; have := HT.out.s1; omega)
        have e5 := HM2.out
        have hQ2 := HQ.out
        rw [← hmx] at hQ2
        clear hmx HQ HM2
        cases Q
        case false =>
          have e6 : ¬ (m2 + 2 * s ≤ u) := of_decide_eq_false hQ2
          clear hQ2 hgo
          by_cases hlt : k < 2
          · have hlI : (k : Int) < 2 := by omega
            go_wp2_with (go_at_call 11; refine (HK.out _).mono ?_; rintro e W21 ⟨rfl, b21⟩)
            go_ret
            exact ⟨rfl, (HGG.out ▸ B0.out : Below w.heap.size w _).trans ((below_then B20.out b21).mono (HGG.out ▸ B0.out : Below w.heap.size w _).size)⟩
          · obtain rfl : k = 2 := by omega
            go_wp2_with (go_at_call 11; refine (HK.out _).mono ?_; rintro e W21 ⟨rfl, b21⟩)
            go_ret
            exact ⟨rfl, (HGG.out ▸ B0.out : Below w.heap.size w _).trans ((below_then B20.out b21).mono (HGG.out ▸ B0.out : Below w.heap.size w _).size)⟩
        case true =>
          have e6 : m2 + 2 * s ≤ u := of_decide_eq_true hQ2
          obtain rfl : k = 2 := by
            rcases Nat.lt_or_ge k 2 with h | h
            · exact absurd ⟨h, rfl⟩ hgo
            · omega
          clear hQ2 hgo
          go_wp2_with (go_at_call 11; refine (HK.out _).mono ?_; rintro e W21 ⟨rfl, b21⟩)
          go_ret
          exact ⟨rfl, (HGG.out ▸ B0.out : Below w.heap.size w _).trans ((below_then B20.out b21).mono (HGG.out ▸ B0.out : Below w.heap.size w _).size)⟩

end Go.Proofs.Ytllioljphpgfhaa
