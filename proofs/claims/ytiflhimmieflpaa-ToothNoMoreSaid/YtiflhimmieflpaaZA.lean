/- Merged: W89, W91, W93, W90. -/
import Derived.Test.YtiflhimmieflpaaW87
import Derived.Test.YtiflhimmieflpaaW84
import Derived.Test.YtiflhimmieflpaaW92

/- Pure facts: the most sticks of a blade of which one column was sounded. -/
namespace Go.Proofs.Ytiflhimmieflpaa
open Go.RowKit Go.Maps

section
variable {xs : List (Int × Int)} {bend : Int}
theorem truth_max {t u : Nat → Int} (ht : Truth xs bend t) (hu : Truth xs bend u) : Truth xs bend fun i => max (t i) (u i) := by
  refine ⟨fun i hi => ?_, fun i hi => ?_, fun i hi => ?_, fun i hi => ?_⟩
  · have := ht.lo i hi; omega
  · have := ht.hi i hi; have := hu.hi i hi; omega
  · have := ht.up i hi; have := hu.up i hi; omega
  · have := ht.dn i hi; have := hu.dn i hi; omega
theorem truth_min {t u : Nat → Int} (ht : Truth xs bend t) (hu : Truth xs bend u) : Truth xs bend fun i => min (t i) (u i) := by
  refine ⟨fun i hi => ?_, fun i hi => ?_, fun i hi => ?_, fun i hi => ?_⟩
  · have := ht.lo i hi; have := hu.lo i hi; omega
  · have := ht.hi i hi; omega
  · have := ht.up i hi; have := hu.up i hi; omega
  · have := ht.dn i hi; have := hu.dn i hi; omega
/-- A higher height of one column makes no highest edge lower, and no lowest one. -/
theorem set_up {t u : Nat → Int} (hb : 0 ≤ bend) {x : Nat} (hx : x < xs.length) (ht : Truth xs bend t) (hu : Truth xs bend u) (h : t x ≤ u x) {j : Nat} (hj : j < xs.length) :
    ((bentL (xs.set x (t x, t x)) bend).getD j (0, 0)).2 ≤ ((bentL (xs.set x (u x, u x)) bend).getD j (0, 0)).2 ∧ ((bentL (xs.set x (t x, t x)) bend).getD j (0, 0)).1 ≤ ((bentL (xs.set x (u x, u x)) bend).getD j (0, 0)).1 := by
  have vt : (xs.getD x (0, 0)).1 ≤ t x ∧ t x ≤ (xs.getD x (0, 0)).2 := ⟨ht.lo x hx, ht.hi x hx⟩
  have vu : (xs.getD x (0, 0)).1 ≤ u x ∧ u x ≤ (xs.getD x (0, 0)).2 := ⟨hu.lo x hx, hu.hi x hx⟩
  have kt := truth_ok ((truth_set hx vt).2 ⟨ht, rfl⟩)
  have ku := truth_ok ((truth_set hx vu).2 ⟨hu, rfl⟩)
  constructor
  · have a := (truth_set hx vt).1 (truth_highs hb kt)
    have b := (truth_set hx vu).1 (truth_highs hb ku)
    have m := (truth_set (v := u x) hx vu).2 ⟨truth_max a.1 b.1, by rw [a.2, b.2]; omega⟩
    have := truth_bent m j (by rw [List.length_set]; exact hj)
    omega
  · have a := (truth_set hx vt).1 (truth_lows hb kt)
    have b := (truth_set hx vu).1 (truth_lows hb ku)
    have m := (truth_set (v := t x) hx vt).2 ⟨truth_min a.1 b.1, by rw [a.2, b.2]; omega⟩
    have := truth_bent m j (by rw [List.length_set]; exact hj)
    omega
/-- With a column set the edges are known better. -/
theorem set_known {t : Nat → Int} (hb : 0 ≤ bend) {x : Nat} (hx : x < xs.length) (ht : Truth xs bend t) {j : Nat} (hj : j < xs.length) :
    ((bentL xs bend).getD j (0, 0)).1 ≤ ((bentL (xs.set x (t x, t x)) bend).getD j (0, 0)).1 ∧ ((bentL (xs.set x (t x, t x)) bend).getD j (0, 0)).2 ≤ ((bentL xs bend).getD j (0, 0)).2 := by
  have vt : (xs.getD x (0, 0)).1 ≤ t x ∧ t x ≤ (xs.getD x (0, 0)).2 := ⟨ht.lo x hx, ht.hi x hx⟩
  have kt := truth_ok ((truth_set hx vt).2 ⟨ht, rfl⟩)
  exact ⟨(truth_bent ((truth_set hx vt).1 (truth_lows hb kt)).1 j hj).1, (truth_bent ((truth_set hx vt).1 (truth_highs hb kt)).1 j hj).2⟩
end
/-- One view is wider than another one: each stick that is sound in it is sound in the other one. -/
theorem fine_more {V V' : Vw} {s : Sw} {x y : Nat} (hsp : V'.sp = V.sp) (hb : ∀ j, V'.bot.getD j 0 ≤ V.bot.getD j 0) (ht : ∀ j, V.top.getD j 0 ≤ V'.top.getD j 0) (h : fineV V s x y = true) : fineV V' s x y = true := by
  unfold fineV soundV soundTo at *
  rw [List.all_eq_true] at *
  intro j hj
  have hj' := h j hj
  unfold colSound at *
  rw [hsp]
  simp only [Bool.and_eq_true, Bool.not_eq_true', decide_eq_false_iff_not] at hj' ⊢
  obtain ⟨⟨h1, h2⟩, h3⟩ := hj'
  have a := hb (x + j)
  have b := ht (x + j)
  exact ⟨⟨by omega, by omega⟩, h3⟩
theorem gcount_more {V V' : Vw} {s : Sw} {x : Nat} (hs : s.Ok) (h : ∀ y, fineV V s x y = true → fineV V' s x y = true) : gcount (fineV V s x) (stV s) 0 ≤ gcount (fineV V' s x) (stV s) 0 := by
  have s1 : 1 ≤ stV s := by unfold stV; have := hs.w1; omega
  refine gcount_most s1 (gl (fineV V s x) (stV s) 0) 0 (fun z hz => ?_) (gl_apart s1 301 0 (by omega))
  obtain ⟨e1, e2, e3⟩ := gl_mem s1 301 0 (by omega) z hz
  exact ⟨h z e1, e2, e3⟩
theorem map_getD {α : Type} (f : α → Int) (z : α) (hz : f z = 0) (l : List α) (j : Nat) : (l.map f).getD j 0 = f (l.getD j z) := by
  simp only [List.getD, List.getElem?_map]
  cases l[j]? with
  | none => simp [hz]
  | some v => simp
/-- A blade is as well known as another one, or better. -/
structure Bl.More (B B' : Bl) : Prop where
  n : B'.n = B.n
  cr : B'.cr = B.cr
  bot : ∀ j, ((bentL B'.bot B'.bend).getD j (0, 0)).2 ≤ ((bentL B.bot B.bend).getD j (0, 0)).2
  top : ∀ j, ((bentL B.top B.bend).getD j (0, 0)).1 ≤ ((bentL B'.top B'.bend).getD j (0, 0)).1
theorem bn_more {B B' : Bl} {s : Sw} (h : B.More B') (hs : s.Ok) (hc : B.cerr = 0) (hc' : B'.cerr = 0) (hb : B.bot.length = B.n) (ht : B.top.length = B.n') (hb' : B'.bot.length = B'.n) (ht' : B'.top.length = B'.n') (x : Nat) : bn (B.worst s) B.n x ≤ bn (B'.worst s) B.n x := by
  obtain ⟨l, hl⟩ := Int.eq_ofNat_of_zero_le (show 0 ≤ s.long by have := hs.l1; omega)
  have hl1 : 1 ≤ l := by have := hs.l1; omega
  by_cases hx : x + l ≤ B.n
  · have e1 := ref_LL (TA := none) (TB := none) (K := none) (c := 0) (c' := 0) (d := 0) (curveErr_ok hc) hs hc hb ht hl x hx
    have e2 := ref_LL (TA := none) (TB := none) (K := none) (c := 0) (c' := 0) (d := 0) (curveErr_ok hc') hs hc' hb' ht' hl x (by rw [h.n]; exact hx)
    rw [h.n] at e2
    unfold bn
    rw [show (B.worst s).long = s.long from rfl, show (B'.worst s).long = s.long from rfl, hl, Int.toNat_natCast, ← e1, ← e2]
    unfold refBlockL
    rw [List.length_map, List.length_map]
    refine gcount_more hs fun y => fine_more ?_ (fun j => ?_) (fun j => ?_)
    · show B'.cr.map splitOf = B.cr.map splitOf
      rw [h.cr]
    · show ((bentL B'.bot B'.bend).map (·.2)).getD j 0 ≤ ((bentL B.bot B.bend).map (·.2)).getD j 0
      rw [map_getD _ (0, 0) rfl, map_getD _ (0, 0) rfl]
      exact h.bot j
    · show ((bentL B.top B.bend).map (·.1)).getD j 0 ≤ ((bentL B'.top B'.bend).map (·.1)).getD j 0
      rw [map_getD _ (0, 0) rfl, map_getD _ (0, 0) rfl]
      exact h.top j
  · rw [bn_end _ _ x l (show (B.worst s).long = l from hl) (by omega)]
    exact Nat.zero_le _
theorem count_more {B B' : Bl} {s : Sw} (h : B.More B') (hs : s.Ok) (hc : B.cerr = 0) (hc' : B'.cerr = 0) (hb : B.bot.length = B.n) (ht : B.top.length = B.n') (hb' : B'.bot.length = B'.n) (ht' : B'.top.length = B'.n') : countL (B.worst s) B.n ≤ countL (B'.worst s) B.n :=
  ahead_wide (B.worst s) (B'.worst s) B.n rfl (by show 1 ≤ s.long.toNat + s.across.toNat; have := hs.l1; omega) (bn_more h hs hc hc' hb ht hb' ht') B.n 0 (by omega)
/-- What Look finds is the gain at its column, and no column's is more. -/
theorem lookTo_at (B : Bl) (s : Sw) : ∀ k, (∀ x, x < k → gainAt B s x ≤ (lookTo B s k).2) ∧ ((lookTo B s k).2 ≠ 0 → ∃ x, x < k ∧ (lookTo B s k).1 = x ∧ (lookTo B s k).2 = gainAt B s x) := by
  intro k
  induction k with
  | zero => exact ⟨fun x h => absurd h (by omega), fun h => absurd rfl h⟩
  | succ k ih =>
    unfold lookTo
    split
    · rename_i hg
      refine ⟨fun x hx => ?_, fun _ => ⟨k, by omega, rfl, rfl⟩⟩
      dsimp only
      by_cases e : x = k
      · subst e; exact Int.le_refl _
      · have := ih.1 x (by omega)
        omega
    · rename_i hg
      refine ⟨fun x hx => ?_, fun h => ?_⟩
      · by_cases e : x = k
        · subst e; omega
        · exact ih.1 x (by omega)
      · obtain ⟨x, h1, h2, h3⟩ := ih.2 h
        exact ⟨x, by omega, h2, h3⟩
section
variable {B : Bl} {L H : Nat → Int}
theorem BF.sound (h : BF B L H) {i : Nat} (hi : i < B.n) {t u : Nat → Int} (ht : Truth B.bot B.bend t) (hu : Truth B.top B.bend u) : BF (B.sound i (t i) (u i)) t u := by
  have li : i < B.bot.length := by rw [h.lb]; exact hi
  have li' : i < B.top.length := by rw [h.lt]; exact hi
  have vt : (B.bot.getD i (0, 0)).1 ≤ t i ∧ t i ≤ (B.bot.getD i (0, 0)).2 := ⟨ht.lo i li, ht.hi i li⟩
  have vu : (B.top.getD i (0, 0)).1 ≤ u i ∧ u i ≤ (B.top.getD i (0, 0)).2 := ⟨hu.lo i li', hu.hi i li'⟩
  refine ⟨h.nn, h.n3, h.n10, h.m3, ?_, ?_, ?_, h.ck, (truth_set li vt).2 ⟨ht, rfl⟩, (truth_set li' vu).2 ⟨hu, rfl⟩⟩
  · show (B.bot.set i (t i, t i)).length = B.n
    rw [List.length_set]; exact h.lb
  · show (B.top.set i (u i, u i)).length = B.n
    rw [List.length_set]; exact h.lt
  · exact set_edge' (set_edge h.ed li vt) (by rw [List.length_set]; exact li) vu
theorem far_getD (xs : List (Int × Int)) {j : Nat} (h : ¬ j < xs.length) : xs.getD j (0, 0) = (0, 0) := by
  simp [List.getD, Nat.le_of_not_lt h]
/-- What the law asks: with a column sounded there are no fewer sticks, and no more than with the best edges of it. -/
theorem BF.sounded (h : BF B L H) {s : Sw} (hs : s.Ok) {i : Nat} (hi : i < B.n) {t u : Nat → Int} (ht : Truth B.bot B.bend t) (hu : Truth B.top B.bend u) :
    countL (B.worst s) B.n ≤ countL ((B.sound i (t i) (u i)).worst s) B.n ∧ countL ((B.sound i (t i) (u i)).worst s) B.n ≤ countL (B.soundX s i) B.n := by
  have b0 := h.ed.b0.1
  have li : i < B.bot.length := by rw [h.lb]; exact hi
  have li' : i < B.top.length := by rw [h.lt]; exact hi
  have hS := h.sound hi ht hu
  have lo := truth_lows b0 h.oks.1
  have hg := truth_highs b0 h.oks.2
  have hX := h.sound hi lo hg
  constructor
  · refine count_more ⟨rfl, rfl, fun j => ?_, fun j => ?_⟩ hs h.ok hS.ok h.lb (by rw [h.lt, h.nn]) hS.lb (by rw [hS.lt, hS.nn])
    · by_cases hj : j < B.bot.length
      · exact (set_known b0 li ht hj).2
      · rw [far_getD (bentL (B.sound i (t i) (u i)).bot _) (by rw [bentL_length]; show ¬ j < (B.bot.set i (t i, t i)).length; rw [List.length_set]; exact hj), far_getD (bentL B.bot _) (by rw [bentL_length]; exact hj)]
        exact Int.le_refl _
    · by_cases hj : j < B.top.length
      · exact (set_known b0 li' hu hj).1
      · rw [far_getD (bentL (B.sound i (t i) (u i)).top _) (by rw [bentL_length]; show ¬ j < (B.top.set i (u i, u i)).length; rw [List.length_set]; exact hj), far_getD (bentL B.top _) (by rw [bentL_length]; exact hj)]
        exact Int.le_refl _
  · have e : B.soundX s i = (B.sound i ((bentL B.bot B.bend).getD i (0, 0)).1 ((bentL B.top B.bend).getD i (0, 0)).2).worst s := by
      unfold Bl.soundX Bl.worst worstL
      rw [setLow_eq b0 h.oks.1 li, setHigh_eq b0 h.oks.2 li']
      rfl
    rw [e]
    refine count_more (B := B.sound i (t i) (u i)) ⟨rfl, rfl, fun j => ?_, fun j => ?_⟩ hs hS.ok hX.ok hS.lb (by rw [hS.lt, hS.nn]) hX.lb (by rw [hX.lt, hX.nn])
    · by_cases hj : j < B.bot.length
      · exact (set_up b0 li lo ht (truth_bent ht i li).1 hj).1
      · rw [far_getD (bentL (B.sound i _ _).bot _) (by rw [bentL_length]; show ¬ j < (B.bot.set i _).length; rw [List.length_set]; exact hj), far_getD (bentL (B.sound i (t i) (u i)).bot _) (by rw [bentL_length]; show ¬ j < (B.bot.set i (t i, t i)).length; rw [List.length_set]; exact hj)]
        exact Int.le_refl _
    · by_cases hj : j < B.top.length
      · exact (set_up b0 li' hu hg (truth_bent hu i li').2 hj).2
      · rw [far_getD (bentL (B.sound i (t i) (u i)).top _) (by rw [bentL_length]; show ¬ j < (B.top.set i (u i, u i)).length; rw [List.length_set]; exact hj), far_getD (bentL (B.sound i _ _).top _) (by rw [bentL_length]; show ¬ j < (B.top.set i _).length; rw [List.length_set]; exact hj)]
        exact Int.le_refl _
/-- With the best edges of the column there are as many as Look says. -/
theorem BF.best (h : BF B L H) (s : Sw) {i : Nat} (hi : i < B.n) {lo hg : Int} (hlo : lo = ((bentL B.bot B.bend).getD i (0, 0)).1) (hhg : hg = ((bentL B.top B.bend).getD i (0, 0)).2) :
    (B.sound i lo hg).worst s = B.soundX s i ∧ (B.sound i lo hg).cerr = 0 := by
  have b0 := h.ed.b0.1
  have li : i < B.bot.length := by rw [h.lb]; exact hi
  have li' : i < B.top.length := by rw [h.lt]; exact hi
  have hX := h.sound hi (truth_lows b0 h.oks.1) (truth_highs b0 h.oks.2)
  subst hlo hhg
  refine ⟨?_, hX.ok⟩
  unfold Bl.soundX Bl.worst worstL
  rw [setLow_eq b0 h.oks.1 li, setHigh_eq b0 h.oks.2 li']
  rfl
end
end Go.Proofs.Ytiflhimmieflpaa

/- What the law ToothLooked calls and stores. -/
namespace Go.Proofs.Ytiflhimmieflpaa
open Go.RowKit Go.Maps

/-- Two spans of one's own copy are stored into: a column is sounded. -/
theorem own_two1 {b : Nat} {W : World} {B : Bl} (hat : B.At W) (ha : ON b W 98 2 B.n B.A B.c (flat2 B.bot)) (hb : ON b W 98 2 B.n' B.A' B.c' (flat2 B.top)) (hc : ON b W 111 6 B.m B.K B.d (flat6 B.cr))
    (hs : ∀ ga oa gb ob, 0 < B.n → 0 < B.n' → B.A = some ⟨ga, oa, none⟩ → B.A' = some ⟨gb, ob, none⟩ → ga ≠ gb) (hnn : B.n' = B.n) {x : Nat} (hx : x < B.n) :
    ∃ ga gb csa csb, B.A = some ⟨ga, 0, none⟩ ∧ B.A' = some ⟨gb, 0, none⟩ ∧ b ≤ ga ∧ b ≤ gb ∧ Blk W ga 98 csa ∧ Blk W gb 98 csb ∧ W.there ga (x * 2) 2 ∧
      ∀ v, (W.setCells ga (x * 2) [.int .i64 v, .int .i64 v]).there gb (x * 2) 2 ∧ ∀ u, (B.sound x v u).At ((W.setCells ga (x * 2) [.int .i64 v, .int .i64 v]).setCells gb (x * 2) [.int .i64 u, .int .i64 u]) := by
  have la : B.bot.length = B.n := hat.hb.len
  have lb : B.top.length = B.n' := hat.ht.len
  obtain ⟨ga, ca, ea⟩ := own_form (ha.own (by omega)) (by omega)
  obtain ⟨gb, cb, eb⟩ := own_form (hb.own (by omega)) (by omega)
  simp only [Value.slice.injEq, true_and] at ea eb
  have oa := ha.own (by omega)
  have ob := hb.own (by omega)
  rw [ea.1] at oa
  rw [eb.1] at ob
  have hne : ga ≠ gb := hs ga 0 gb 0 (by omega) (by omega) ea.1 eb.1
  obtain ⟨csa, Ba, _⟩ := own_blk oa
  obtain ⟨csb, Bb, _⟩ := own_blk ob
  have RA := row2_of_own oa la
  have RB := row2_of_own ob lb
  have q := RA x hx
  refine ⟨ga, gb, csa, csb, ea.1, eb.1, (oa.lt ga rfl).1, (ob.lt gb rfl).1, Ba, Bb, there2 q.1 q.2.1 q.2.2.1 q.2.2.2, fun v => ?_⟩
  have RB1 := RB.far (x := x) (fun e => hne e.symm) (.int .i64 v) (.int .i64 v)
  have q1 := RB1 x (by omega)
  refine ⟨there2 q1.1 q1.2.1 q1.2.2.1 q1.2.2.2, fun u => ?_⟩
  have hRA := (RA.set x hx v v 0).far (x := x) hne (.int .i64 u) (.int .i64 u)
  have hRB := RB1.set x (by omega) u u 0
  have hPA := pairs_of_row2 hRA (xs := B.bot.set x (v, v)) (by rw [List.length_set]; exact la) (fun k hk => getD_set B.bot x k (v, v) (by omega))
  have hPB := pairs_of_row2 hRB (xs := B.top.set x (u, u)) (by rw [List.length_set]; exact lb) (fun k hk => getD_set B.top x k (u, u) (by omega))
  refine ⟨?_, ?_, reads_put (reads_put hat.hk (on_far hc Ba (by decide))) (on_far hc Bb (by decide)), hat.n1, hat.n2, hat.n3⟩
  · rw [← ea.1] at hPA; exact hPA
  · rw [← eb.1] at hPB; exact hPB
theorem own_two {b : Nat} {W : World} {B : Bl} (hat : B.At W) (ha : ON b W 98 2 B.n B.A B.c (flat2 B.bot)) (hb : ON b W 98 2 B.n' B.A' B.c' (flat2 B.top)) (hc : ON b W 111 6 B.m B.K B.d (flat6 B.cr))
    (hs : ∀ ga oa gb ob, 0 < B.n → 0 < B.n' → B.A = some ⟨ga, oa, none⟩ → B.A' = some ⟨gb, ob, none⟩ → ga ≠ gb) (hnn : B.n' = B.n) {x : Nat} (hx : x < B.n) :
    ∃ ga gb, B.A = some ⟨ga, 0, none⟩ ∧ B.A' = some ⟨gb, 0, none⟩ ∧ b ≤ ga ∧ b ≤ gb ∧ ∀ W', Below W.heap.size W W' → (∃ csa, Blk W' ga 98 csa) ∧ (∃ csb, Blk W' gb 98 csb) ∧ W'.there ga (x * 2) 2 ∧
      ∀ v, (W'.setCells ga (x * 2) [.int .i64 v, .int .i64 v]).there gb (x * 2) 2 ∧ ∀ u, (B.sound x v u).At ((W'.setCells ga (x * 2) [.int .i64 v, .int .i64 v]).setCells gb (x * 2) [.int .i64 u, .int .i64 u]) := by
  obtain ⟨ga, gb, _, _, ea, eb, h1, h2, _⟩ := own_two1 hat ha hb hc hs hnn hx
  refine ⟨ga, gb, ea, eb, h1, h2, fun W' hbl => ?_⟩
  obtain ⟨ga', gb', csa, csb, ea', eb', _, _, h3, h4, h5, h6⟩ := own_two1 (hat.below hbl) (ha.below hbl) (hb.below hbl) (hc.below hbl) hs hnn hx
  rw [ea] at ea'
  rw [eb] at eb'
  simp only [Option.some.injEq, Addr.mk.injEq, and_true] at ea' eb'
  subst ea' eb'
  exact ⟨⟨csa, h3⟩, ⟨csb, h4⟩, h5, h6⟩
theorem saw_err {B : Bl} {s : Sw} (hc : B.cerr = 0) (hs : s.Ok) : B.err s = 0 := by
  unfold Bl.err readyErr
  unfold Bl.cerr at hc
  rw [hc]
  have h1 := hs.l1
  have h2 := hs.l2
  have h3 := hs.w1
  have h4 := hs.w2
  have h5 := hs.k1
  have h6 := hs.k2
  have h7 := hs.a1
  have h8 := hs.a2
  have e : sawOk s.long s.wide s.kerf s.across = true := by
    simp [sawOk, within]
    omega
  simp [e]
theorem most_ok (B : Bl) (s : Sw) (w : World) (h : B.At w) (hc : B.cerr = 0) (hs : s.Ok) : Calls Try.prog 34 #[B.val, s.val] w fun e w' => ∃ A n c, e = .returned (.tuple #[.slice A n c, .int .i64 0]) ∧ (n : Int) = countL (B.worst s) B.n ∧ Below w.heap.size w w' := by
  refine (Most_any B s w h).mono ?_
  rintro e w' ⟨hb, ⟨he, _⟩ | ⟨_, v, rfl, hown⟩⟩
  · exact absurd (saw_err hc hs) he
  · obtain ⟨A, c, rfl⟩ := own_slice hown
    exact ⟨A, _, c, rfl, layout_len (curveErr_ok hc) hs hc h.hb.len h.ht.len, hb⟩
theorem look_ok (B : Bl) (s : Sw) (w : World) (h : B.At w) (hc : B.cerr = 0) (hs : s.Ok) (hn : 0 < B.n) : Calls Try.prog 45 #[B.val, s.val] w fun e w' => ∃ (x : Nat) (g f : Int), e = .returned (.tuple #[.int .i64 x, .int .i64 g, .int .i64 f]) ∧ x < B.n ∧ (∀ i, i < B.n → gainAt B s i ≤ g) ∧ 0 ≤ g ∧ g ≤ 9060 ∧
    ((f = 7 ∧ g = 0) ∨ (f = 0 ∧ 0 < g ∧ g = gainAt B s x)) ∧ Below w.heap.size w w' := by
  refine (Look_any B s w h).mono ?_
  have hok : B.Ok := curveErr_ok hc
  have hi := lookTo_in B s hok.n2 B.n (Nat.le_refl _)
  have ha := lookTo_at B s B.n
  rintro e w' ⟨hb, ⟨he, _⟩ | ⟨_, h2, rfl⟩ | ⟨_, h2, rfl⟩⟩
  · exact absurd (saw_err hc hs) he
  · refine ⟨0, 0, 7, rfl, hn, fun i hi => ?_, by omega, by omega, .inl ⟨rfl, rfl⟩, hb⟩
    have := ha.1 i hi
    omega
  · obtain ⟨x, h3, h4, h5⟩ := ha.2 h2
    refine ⟨x, (lookTo B s B.n).2, 0, by rw [h4], h3, ha.1, hi.2.2.1, hi.2.2.2.1, .inr ⟨rfl, by omega, h5⟩, hb⟩
theorem curve_ok (B : Bl) (w : World) (h : B.At w) (hc : B.cerr = 0) : Calls Try.prog 21 #[B.val] w fun e w' => ∃ g cap g' cap', e = .returned (.tuple #[.slice (some ⟨g, 0, none⟩) B.n cap, .slice (some ⟨g', 0, none⟩) B.n cap', .int .i64 0]) ∧ Pairs w' (some ⟨g, 0, none⟩) B.n (bentL B.bot B.bend) ∧ Pairs w' (some ⟨g', 0, none⟩) B.n (bentL B.top B.bend) ∧ Below w.heap.size w w' := by
  refine (Curve_top B w h).mono ?_
  rintro e w' ⟨hb, ⟨he, _⟩ | ⟨_, g, cap, g', cap', rfl, h1, h2⟩⟩
  · exact absurd hc he
  · exact ⟨g, cap, g', cap', rfl, h1, h2, hb⟩
theorem Bl.Like.soundL {B B' : Bl} (h : B.Like B') (x : Nat) (v u : Int) : (B.sound x v u).Like (B'.sound x v u) :=
  ⟨h.n, h.n', h.m, h.bend, (show B'.bot.set x (v, v) = B.bot.set x (v, v) by rw [h.bot]), (show B'.top.set x (u, u) = B.top.set x (u, u) by rw [h.top]), h.cr⟩
def S8L (go gr g1 g2 y : Nat) (V1 V2 R1 R2 : Value) (a h : Int) (W : World) : Prop := W.cell? ⟨go, 0, none⟩ = some V1 ∧ W.cell? ⟨go, 1, none⟩ = some V2 ∧ W.cell? ⟨gr, 0, none⟩ = some R1 ∧ W.cell? ⟨gr, 1, none⟩ = some R2 ∧ W.cell? ⟨g1, y, none⟩ = some (.int .i64 a) ∧ W.cell? ⟨g2, y, none⟩ = some (.int .i64 h)
theorem look_like {B B' : Bl} (hl : B.Like B') (s : Sw) (w : World) (h : B'.At w) (hc : B.cerr = 0) (hs : s.Ok) (hn : 0 < B.n) : Calls Try.prog 45 #[B'.val, s.val] w fun e w' => ∃ (x : Nat) (g f : Int), e = .returned (.tuple #[.int .i64 x, .int .i64 g, .int .i64 f]) ∧ x < B.n ∧ (∀ i, i < B.n → gainAt B s i ≤ g) ∧ 0 ≤ g ∧ g ≤ 9060 ∧
    ((f = 7 ∧ g = 0) ∨ (f = 0 ∧ 0 < g ∧ g = gainAt B s x)) ∧ Below w.heap.size w w' := by
  have hg : ∀ x, gainAt B' s x = gainAt B s x := fun x => by
    unfold gainAt Bl.soundX Bl.worst
    rw [hl.n, hl.bend, hl.bot, hl.top, hl.cr]
  refine (look_ok B' s w h (by rw [hl.cerr]; exact hc) hs (by rw [hl.n]; exact hn)).mono ?_
  rintro e w' ⟨x, g, f, rfl, h1, h2, h3, h4, h5, hb⟩
  rw [hl.n] at h1 h2
  simp only [hg] at h2 h5
  exact ⟨x, g, f, rfl, h1, h2, h3, h4, h5, hb⟩
end Go.Proofs.Ytiflhimmieflpaa

/- Regions: the lexical order of a long region of reads, checked op by op. -/
namespace Go.Proofs.Ytiflhimmieflpaa
open Go.RowKit Go.Maps

def lexRest (md : Region.Mode) (ops : Array Oper) (i : Nat) (oi : Oper) : List Oper → Bool
  | [] => true
  | oj :: r => (oj.after.any (fun e => Region.binds md e && e.on == i) || oi.apart ops oj) && lexRest md ops i oi r
def lexFast (md : Region.Mode) (ops : Array Oper) : Nat → List Oper → Bool
  | _, [] => true
  | k, o :: r => o.after.all (fun e => !Region.binds md e || decide (e.on < k)) && lexRest md ops k o r && lexFast md ops (k + 1) r
theorem lexRest_spec {md : Region.Mode} {ops : Array Oper} {i : Nat} {oi : Oper} : ∀ {l : List Oper}, lexRest md ops i oi l = true → ∀ oj ∈ l, (oj.after.any (fun e => Region.binds md e && e.on == i) || oi.apart ops oj) = true
  | [], _, _, h => absurd h (by simp)
  | o :: r, h, oj, hm => by
    simp only [lexRest, Bool.and_eq_true] at h
    rcases List.mem_cons.1 hm with e | e
    · rw [e]; exact h.1
    · exact lexRest_spec h.2 oj e
theorem lexFast_spec {md : Region.Mode} {ops : Array Oper} : ∀ {l : List Oper} {k : Nat}, lexFast md ops k l = true → ∀ (j : Nat) (oj : Oper), l[j]? = some oj →
    oj.after.all (fun e => !Region.binds md e || decide (e.on < k + j)) = true ∧ ∀ (m : Nat) (om : Oper), j < m → l[m]? = some om → (om.after.any (fun e => Region.binds md e && e.on == k + j) || oj.apart ops om) = true
  | [], _, _, j, oj, h => by simp at h
  | o :: r, k, h, j, oj, hj => by
    simp only [lexFast, Bool.and_eq_true] at h
    obtain ⟨⟨h1, h2⟩, h3⟩ := h
    cases j with
    | zero =>
      simp only [List.getElem?_cons_zero, Option.some.injEq] at hj
      subst hj
      refine ⟨h1, fun m om hm ho => ?_⟩
      obtain ⟨m', rfl⟩ : ∃ m', m = m' + 1 := ⟨m - 1, by omega⟩
      rw [List.getElem?_cons_succ] at ho
      exact lexRest_spec h2 om (List.mem_of_getElem? ho)
    | succ j =>
      rw [List.getElem?_cons_succ] at hj
      have q := lexFast_spec h3 j oj hj
      rw [show k + 1 + j = k + (j + 1) by omega] at q
      refine ⟨q.1, fun m om hm ho => ?_⟩
      obtain ⟨m', rfl⟩ : ∃ m', m = m' + 1 := ⟨m - 1, by omega⟩
      rw [List.getElem?_cons_succ] at ho
      exact q.2 m' om (by omega) ho
theorem lexFrom_fast {md : Region.Mode} {ops : Array Oper} (h : lexFast md ops 0 ops.toList = true) : ∀ (fuel k : Nat) (listed : Array Bool), fuel + k = ops.size → (∀ j, listed.getD j true = (decide (j < k) || decide (ops.size ≤ j))) → (∀ j, listed.getD j false = decide (j < k)) → listed.size = ops.size → Region.lexFrom md ops fuel k listed = true := by
  intro fuel
  induction fuel with
  | zero =>
    intro k listed hk h1 h2 hs
    simp only [Region.lexFrom, List.isEmpty_iff, Region.ready, List.filter_eq_nil_iff, List.mem_range]
    intro i hi
    rw [h1 i]
    simp
    omega
  | succ fuel ih =>
    intro k listed hk h1 h2 hs
    have hks : k < ops.size := by omega
    have ho : ops.toList[k]? = some ops[k] := by simp [hks]
    have ho2 : ops[k]? = some ops[k] := by simp [hks]
    have q := lexFast_spec h k _ ho
    rw [Nat.zero_add] at q
    simp only [Region.lexFrom, Bool.and_eq_true]
    refine ⟨⟨?_, ?_⟩, ih (k + 1) _ (by omega) (fun j => ?_) (fun j => ?_) (by simpa using hs)⟩
    · rw [List.contains_iff_mem, Region.ready, List.mem_filter, List.mem_range]
      refine ⟨hks, ?_⟩
      rw [h1 k, ho2]
      have e : (decide (k < k) || decide (ops.size ≤ k)) = false := by simp; omega
      rw [e]
      simp only [Option.map_some, Option.getD_some, Bool.not_false, Bool.true_and, Array.all_eq_true] at q ⊢
      intro i hi
      have := q.1 i hi
      rw [h2]
      exact this
    · unfold Region.free
      rw [ho2]
      rw [List.all_eq_true]
      intro j hj
      rw [List.mem_range] at hj
      rw [h1 j]
      rcases Nat.lt_trichotomy j k with c | c | c
      · simp [c]
      · simp [c]
      · have hj2 : ops[j]? = some ops[j] := by simp [hj]
        have hj3 : ops.toList[j]? = some ops[j] := by simp [hj]
        rw [hj2]
        have := q.2 j _ c hj3
        simp only [Bool.or_eq_true] at this ⊢
        exact .inr this
    · by_cases c : j = k
      · subst c
        simp [Array.getD, hs, hks]
      · have a := h1 j
        rw [show (listed.setIfInBounds k true).getD j true = listed.getD j true from getD_set_ne _ (fun e => c e.symm)]
        rw [a]
        congr 1
        simp only [decide_eq_decide]
        omega
    · by_cases c : j = k
      · subst c
        simp [Array.getD, hs, hks]
      · have a := h2 j
        rw [show (listed.setIfInBounds k true).getD j false = listed.getD j false from getD_set_ne _ (fun e => c e.symm)]
        rw [a]
        simp only [decide_eq_decide]
        omega
theorem lexB_fast {md : Region.Mode} {ops : Array Oper} (h0 : Region.noSelect ops = true) (h : lexFast md ops 0 ops.toList = true) : Region.lexB md ops = true := by
  unfold Region.lexB
  rw [h0, Bool.true_and]
  refine lexFrom_fast h _ _ _ (by omega) (fun j => ?_) (fun j => ?_) (by simp)
  · by_cases c : j < ops.size
    · simp [Array.getD, c]
    · simp [Array.getD, c]
      omega
  · by_cases c : j < ops.size
    · simp [Array.getD, c]
    · simp [Array.getD, c]
end Go.Proofs.Ytiflhimmieflpaa

/- Walks: the law ToothLooked. -/
namespace Go.Proofs.Ytiflhimmieflpaa
open Go.RowKit Go.Maps

def S16L (go o g5 g6 : Nat) (V1 V2 : Value) (a h : Int) (W : World) : Prop := W.cell? ⟨go, 0, none⟩ = some V1 ∧ W.cell? ⟨go, 1, none⟩ = some V2 ∧ W.cell? ⟨g5, o, none⟩ = some (.int .i64 a) ∧ W.cell? ⟨g6, o + 1, none⟩ = some (.int .i64 h)
theorem CV.get8 {w W : World} {B : Bl} {s : Sw} {L H : Nat → Int} {gb g1 c1 g2 c2 : Nat} {v : Value} (h : CV w B L H gb g1 c1 g2 c2 v #[.int .i64 s.long, .int .i64 s.wide, .int .i64 s.kerf, .int .i64 s.across] W) : (W.cell? ⟨gb, 0, none⟩ = some (.slice B.A B.n B.c) ∧ W.cell? ⟨gb, 1, none⟩ = some (.slice B.A' B.n' B.c') ∧ W.cell? ⟨gb, 2, none⟩ = some (.int .i64 B.bend) ∧ W.cell? ⟨gb, 3, none⟩ = some (.slice B.K B.m B.d)) ∧ W.cell? ⟨gb + 1, 0, none⟩ = some (.int .i64 s.long) ∧ W.cell? ⟨gb + 1, 1, none⟩ = some (.int .i64 s.wide) ∧ W.cell? ⟨gb + 1, 2, none⟩ = some (.int .i64 s.kerf) ∧ W.cell? ⟨gb + 1, 3, none⟩ = some (.int .i64 s.across) :=
  ⟨⟨h.bl.cell 0, h.bl.cell 1, h.bl.cell 2, h.bl.cell 3⟩, h.sl.cell 0, h.sl.cell 1, h.sl.cell 2, h.sl.cell 3⟩
end Go.Proofs.Ytiflhimmieflpaa
