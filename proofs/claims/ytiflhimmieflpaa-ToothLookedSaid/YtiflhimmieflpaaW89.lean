/- Pure facts: the most sticks of a blade of which one column was sounded. -/
import Derived.Test.YtiflhimmieflpaaW87
namespace Go.Proofs.Ytiflhimmieflpaa
open Go.RowKit Go.Maps

section
variable {xs : List (Int × Int)} {bend : Int}
theorem truth_max {t u : Nat → Int} (ht : Truth xs bend t) (hu : Truth xs bend u) : Truth xs bend fun i => max (t i) (u i) := by
  refine ⟨fun i hi => ?_, fun i hi => ?_, fun i hi => ?_, fun i hi => ?_⟩
  · have := ht.lo i hi; omega
  · have := ht.hi i hi; have := hu.hi i hi; omega
  · have := ht.up i hi; have := hu.up i hi; omega
  · have := ht.dn i hi; have := hu.dn i hi; omega
theorem truth_min {t u : Nat → Int} (ht : Truth xs bend t) (hu : Truth xs bend u) : Truth xs bend fun i => min (t i) (u i) := by
  refine ⟨fun i hi => ?_, fun i hi => ?_, fun i hi => ?_, fun i hi => ?_⟩
  · have := ht.lo i hi; have := hu.lo i hi; omega
  · have := ht.hi i hi; omega
  · have := ht.up i hi; have := hu.up i hi; omega
  · have := ht.dn i hi; have := hu.dn i hi; omega
/-- A higher height of one column makes no highest edge lower, and no lowest one. -/
theorem set_up {t u : Nat → Int} (hb : 0 ≤ bend) {x : Nat} (hx : x < xs.length) (ht : Truth xs bend t) (hu : Truth xs bend u) (h : t x ≤ u x) {j : Nat} (hj : j < xs.length) :
    ((bentL (xs.set x (t x, t x)) bend).getD j (0, 0)).2 ≤ ((bentL (xs.set x (u x, u x)) bend).getD j (0, 0)).2 ∧ ((bentL (xs.set x (t x, t x)) bend).getD j (0, 0)).1 ≤ ((bentL (xs.set x (u x, u x)) bend).getD j (0, 0)).1 := by
  have vt : (xs.getD x (0, 0)).1 ≤ t x ∧ t x ≤ (xs.getD x (0, 0)).2 := ⟨ht.lo x hx, ht.hi x hx⟩
  have vu : (xs.getD x (0, 0)).1 ≤ u x ∧ u x ≤ (xs.getD x (0, 0)).2 := ⟨hu.lo x hx, hu.hi x hx⟩
  have kt := truth_ok ((truth_set hx vt).2 ⟨ht, rfl⟩)
  have ku := truth_ok ((truth_set hx vu).2 ⟨hu, rfl⟩)
  constructor
  · have a := (truth_set hx vt).1 (truth_highs hb kt)
    have b := (truth_set hx vu).1 (truth_highs hb ku)
    have m := (truth_set (v := u x) hx vu).2 ⟨truth_max a.1 b.1, by rw [a.2, b.2]; omega⟩
    have := truth_bent m j (by rw [List.length_set]; exact hj)
    omega
  · have a := (truth_set hx vt).1 (truth_lows hb kt)
    have b := (truth_set hx vu).1 (truth_lows hb ku)
    have m := (truth_set (v := t x) hx vt).2 ⟨truth_min a.1 b.1, by rw [a.2, b.2]; omega⟩
    have := truth_bent m j (by rw [List.length_set]; exact hj)
    omega
/-- With a column set the edges are known better. -/
theorem set_known {t : Nat → Int} (hb : 0 ≤ bend) {x : Nat} (hx : x < xs.length) (ht : Truth xs bend t) {j : Nat} (hj : j < xs.length) :
    ((bentL xs bend).getD j (0, 0)).1 ≤ ((bentL (xs.set x (t x, t x)) bend).getD j (0, 0)).1 ∧ ((bentL (xs.set x (t x, t x)) bend).getD j (0, 0)).2 ≤ ((bentL xs bend).getD j (0, 0)).2 := by
  have vt : (xs.getD x (0, 0)).1 ≤ t x ∧ t x ≤ (xs.getD x (0, 0)).2 := ⟨ht.lo x hx, ht.hi x hx⟩
  have kt := truth_ok ((truth_set hx vt).2 ⟨ht, rfl⟩)
  exact ⟨(truth_bent ((truth_set hx vt).1 (truth_lows hb kt)).1 j hj).1, (truth_bent ((truth_set hx vt).1 (truth_highs hb kt)).1 j hj).2⟩
end
/-- One view is wider than another one: each stick that is sound in it is sound in the other one. -/
theorem fine_more {V V' : Vw} {s : Sw} {x y : Nat} (hsp : V'.sp = V.sp) (hb : ∀ j, V'.bot.getD j 0 ≤ V.bot.getD j 0) (ht : ∀ j, V.top.getD j 0 ≤ V'.top.getD j 0) (h : fineV V s x y = true) : fineV V' s x y = true := by
  unfold fineV soundV soundTo at *
  rw [List.all_eq_true] at *
  intro j hj
  have hj' := h j hj
  unfold colSound at *
  rw [hsp]
  simp only [Bool.and_eq_true, Bool.not_eq_true', decide_eq_false_iff_not] at hj' ⊢
  obtain ⟨⟨h1, h2⟩, h3⟩ := hj'
  have a := hb (x + j)
  have b := ht (x + j)
  exact ⟨⟨by omega, by omega⟩, h3⟩
theorem gcount_more {V V' : Vw} {s : Sw} {x : Nat} (hs : s.Ok) (h : ∀ y, fineV V s x y = true → fineV V' s x y = true) : gcount (fineV V s x) (stV s) 0 ≤ gcount (fineV V' s x) (stV s) 0 := by
  have s1 : 1 ≤ stV s := by unfold stV; have := hs.w1; omega
  refine gcount_most s1 (gl (fineV V s x) (stV s) 0) 0 (fun z hz => ?_) (gl_apart s1 301 0 (by omega))
  obtain ⟨e1, e2, e3⟩ := gl_mem s1 301 0 (by omega) z hz
  exact ⟨h z e1, e2, e3⟩
theorem map_getD {α : Type} (f : α → Int) (z : α) (hz : f z = 0) (l : List α) (j : Nat) : (l.map f).getD j 0 = f (l.getD j z) := by
  simp only [List.getD, List.getElem?_map]
  cases l[j]? with
  | none => simp [hz]
  | some v => simp
/-- A blade is as well known as another one, or better. -/
structure Bl.More (B B' : Bl) : Prop where
  n : B'.n = B.n
  cr : B'.cr = B.cr
  bot : ∀ j, ((bentL B'.bot B'.bend).getD j (0, 0)).2 ≤ ((bentL B.bot B.bend).getD j (0, 0)).2
  top : ∀ j, ((bentL B.top B.bend).getD j (0, 0)).1 ≤ ((bentL B'.top B'.bend).getD j (0, 0)).1
theorem bn_more {B B' : Bl} {s : Sw} (h : B.More B') (hs : s.Ok) (hc : B.cerr = 0) (hc' : B'.cerr = 0) (hb : B.bot.length = B.n) (ht : B.top.length = B.n') (hb' : B'.bot.length = B'.n) (ht' : B'.top.length = B'.n') (x : Nat) : bn (B.worst s) B.n x ≤ bn (B'.worst s) B.n x := by
  obtain ⟨l, hl⟩ := Int.eq_ofNat_of_zero_le (show 0 ≤ s.long by have := hs.l1; omega)
  have hl1 : 1 ≤ l := by have := hs.l1; omega
  by_cases hx : x + l ≤ B.n
  · have e1 := ref_LL (TA := none) (TB := none) (K := none) (c := 0) (c' := 0) (d := 0) (curveErr_ok hc) hs hc hb ht hl x hx
    have e2 := ref_LL (TA := none) (TB := none) (K := none) (c := 0) (c' := 0) (d := 0) (curveErr_ok hc') hs hc' hb' ht' hl x (by rw [h.n]; exact hx)
    rw [h.n] at e2
    unfold bn
    rw [show (B.worst s).long = s.long from rfl, show (B'.worst s).long = s.long from rfl, hl, Int.toNat_natCast, ← e1, ← e2]
    unfold refBlockL
    rw [List.length_map, List.length_map]
    refine gcount_more hs fun y => fine_more ?_ (fun j => ?_) (fun j => ?_)
    · show B'.cr.map splitOf = B.cr.map splitOf
      rw [h.cr]
    · show ((bentL B'.bot B'.bend).map (·.2)).getD j 0 ≤ ((bentL B.bot B.bend).map (·.2)).getD j 0
      rw [map_getD _ (0, 0) rfl, map_getD _ (0, 0) rfl]
      exact h.bot j
    · show ((bentL B.top B.bend).map (·.1)).getD j 0 ≤ ((bentL B'.top B'.bend).map (·.1)).getD j 0
      rw [map_getD _ (0, 0) rfl, map_getD _ (0, 0) rfl]
      exact h.top j
  · rw [bn_end _ _ x l (show (B.worst s).long = l from hl) (by omega)]
    exact Nat.zero_le _
theorem count_more {B B' : Bl} {s : Sw} (h : B.More B') (hs : s.Ok) (hc : B.cerr = 0) (hc' : B'.cerr = 0) (hb : B.bot.length = B.n) (ht : B.top.length = B.n') (hb' : B'.bot.length = B'.n) (ht' : B'.top.length = B'.n') : countL (B.worst s) B.n ≤ countL (B'.worst s) B.n :=
  ahead_wide (B.worst s) (B'.worst s) B.n rfl (by show 1 ≤ s.long.toNat + s.across.toNat; have := hs.l1; omega) (bn_more h hs hc hc' hb ht hb' ht') B.n 0 (by omega)
/-- What Look finds is the gain at its column, and no column's is more. -/
theorem lookTo_at (B : Bl) (s : Sw) : ∀ k, (∀ x, x < k → gainAt B s x ≤ (lookTo B s k).2) ∧ ((lookTo B s k).2 ≠ 0 → ∃ x, x < k ∧ (lookTo B s k).1 = x ∧ (lookTo B s k).2 = gainAt B s x) := by
  intro k
  induction k with
  | zero => exact ⟨fun x h => absurd h (by omega), fun h => absurd rfl h⟩
  | succ k ih =>
    unfold lookTo
    split
    · rename_i hg
      refine ⟨fun x hx => ?_, fun _ => ⟨k, by omega, rfl, rfl⟩⟩
      dsimp only
      by_cases e : x = k
      · subst e; exact Int.le_refl _
      · have := ih.1 x (by omega)
        omega
    · rename_i hg
      refine ⟨fun x hx => ?_, fun h => ?_⟩
      · by_cases e : x = k
        · subst e; omega
        · exact ih.1 x (by omega)
      · obtain ⟨x, h1, h2, h3⟩ := ih.2 h
        exact ⟨x, by omega, h2, h3⟩
section
variable {B : Bl} {L H : Nat → Int}
theorem BF.sound (h : BF B L H) {i : Nat} (hi : i < B.n) {t u : Nat → Int} (ht : Truth B.bot B.bend t) (hu : Truth B.top B.bend u) : BF (B.sound i (t i) (u i)) t u := by
  have li : i < B.bot.length := by rw [h.lb]; exact hi
  have li' : i < B.top.length := by rw [h.lt]; exact hi
  have vt : (B.bot.getD i (0, 0)).1 ≤ t i ∧ t i ≤ (B.bot.getD i (0, 0)).2 := ⟨ht.lo i li, ht.hi i li⟩
  have vu : (B.top.getD i (0, 0)).1 ≤ u i ∧ u i ≤ (B.top.getD i (0, 0)).2 := ⟨hu.lo i li', hu.hi i li'⟩
  refine ⟨h.nn, h.n3, h.n10, h.m3, ?_, ?_, ?_, h.ck, (truth_set li vt).2 ⟨ht, rfl⟩, (truth_set li' vu).2 ⟨hu, rfl⟩⟩
  · show (B.bot.set i (t i, t i)).length = B.n
    rw [List.length_set]; exact h.lb
  · show (B.top.set i (u i, u i)).length = B.n
    rw [List.length_set]; exact h.lt
  · exact set_edge' (set_edge h.ed li vt) (by rw [List.length_set]; exact li) vu
theorem far_getD (xs : List (Int × Int)) {j : Nat} (h : ¬ j < xs.length) : xs.getD j (0, 0) = (0, 0) := by
  simp [List.getD, Nat.le_of_not_lt h]
/-- What the law asks: with a column sounded there are no fewer sticks, and no more than with the best edges of it. -/
theorem BF.sounded (h : BF B L H) {s : Sw} (hs : s.Ok) {i : Nat} (hi : i < B.n) {t u : Nat → Int} (ht : Truth B.bot B.bend t) (hu : Truth B.top B.bend u) :
    countL (B.worst s) B.n ≤ countL ((B.sound i (t i) (u i)).worst s) B.n ∧ countL ((B.sound i (t i) (u i)).worst s) B.n ≤ countL (B.soundX s i) B.n := by
  have b0 := h.ed.b0.1
  have li : i < B.bot.length := by rw [h.lb]; exact hi
  have li' : i < B.top.length := by rw [h.lt]; exact hi
  have hS := h.sound hi ht hu
  have lo := truth_lows b0 h.oks.1
  have hg := truth_highs b0 h.oks.2
  have hX := h.sound hi lo hg
  constructor
  · refine count_more ⟨rfl, rfl, fun j => ?_, fun j => ?_⟩ hs h.ok hS.ok h.lb (by rw [h.lt, h.nn]) hS.lb (by rw [hS.lt, hS.nn])
    · by_cases hj : j < B.bot.length
      · exact (set_known b0 li ht hj).2
      · rw [far_getD (bentL (B.sound i (t i) (u i)).bot _) (by rw [bentL_length]; show ¬ j < (B.bot.set i (t i, t i)).length; rw [List.length_set]; exact hj), far_getD (bentL B.bot _) (by rw [bentL_length]; exact hj)]
        exact Int.le_refl _
    · by_cases hj : j < B.top.length
      · exact (set_known b0 li' hu hj).1
      · rw [far_getD (bentL (B.sound i (t i) (u i)).top _) (by rw [bentL_length]; show ¬ j < (B.top.set i (u i, u i)).length; rw [List.length_set]; exact hj), far_getD (bentL B.top _) (by rw [bentL_length]; exact hj)]
        exact Int.le_refl _
  · have e : B.soundX s i = (B.sound i ((bentL B.bot B.bend).getD i (0, 0)).1 ((bentL B.top B.bend).getD i (0, 0)).2).worst s := by
      unfold Bl.soundX Bl.worst worstL
      rw [setLow_eq b0 h.oks.1 li, setHigh_eq b0 h.oks.2 li']
      rfl
    rw [e]
    refine count_more (B := B.sound i (t i) (u i)) ⟨rfl, rfl, fun j => ?_, fun j => ?_⟩ hs hS.ok hX.ok hS.lb (by rw [hS.lt, hS.nn]) hX.lb (by rw [hX.lt, hX.nn])
    · by_cases hj : j < B.bot.length
      · exact (set_up b0 li lo ht (truth_bent ht i li).1 hj).1
      · rw [far_getD (bentL (B.sound i _ _).bot _) (by rw [bentL_length]; show ¬ j < (B.bot.set i _).length; rw [List.length_set]; exact hj), far_getD (bentL (B.sound i (t i) (u i)).bot _) (by rw [bentL_length]; show ¬ j < (B.bot.set i (t i, t i)).length; rw [List.length_set]; exact hj)]
        exact Int.le_refl _
    · by_cases hj : j < B.top.length
      · exact (set_up b0 li' hu hg (truth_bent hu i li').2 hj).2
      · rw [far_getD (bentL (B.sound i (t i) (u i)).top _) (by rw [bentL_length]; show ¬ j < (B.top.set i (u i, u i)).length; rw [List.length_set]; exact hj), far_getD (bentL (B.sound i _ _).top _) (by rw [bentL_length]; show ¬ j < (B.top.set i _).length; rw [List.length_set]; exact hj)]
        exact Int.le_refl _
/-- With the best edges of the column there are as many as Look says. -/
theorem BF.best (h : BF B L H) (s : Sw) {i : Nat} (hi : i < B.n) {lo hg : Int} (hlo : lo = ((bentL B.bot B.bend).getD i (0, 0)).1) (hhg : hg = ((bentL B.top B.bend).getD i (0, 0)).2) :
    (B.sound i lo hg).worst s = B.soundX s i ∧ (B.sound i lo hg).cerr = 0 := by
  have b0 := h.ed.b0.1
  have li : i < B.bot.length := by rw [h.lb]; exact hi
  have li' : i < B.top.length := by rw [h.lt]; exact hi
  have hX := h.sound hi (truth_lows b0 h.oks.1) (truth_highs b0 h.oks.2)
  subst hlo hhg
  refine ⟨?_, hX.ok⟩
  unfold Bl.soundX Bl.worst worstL
  rw [setLow_eq b0 h.oks.1 li, setHigh_eq b0 h.oks.2 li']
  rfl
end
end Go.Proofs.Ytiflhimmieflpaa
