/- Pure facts: what a fan truly opens to lies between both ends; a wider side that does not stop a gap changes nothing. -/
import Derived.Test.YtdekickmplkdiaaVe
import Derived.Test.YtdekickmplkdiaaKc
namespace Go.Proofs.Ytdekickmplkdiaa
open Go.RowKit

theorem div_le {a b c d : Int} (hb : 1 ≤ b) (hd : 1 ≤ d) (h : a * d ≤ c * b) : a / b ≤ c / d := by
  rw [Int.le_ediv_iff_mul_le (by omega)]
  have h1 : a / b * b ≤ a := Int.ediv_mul_le _ (by omega)
  have h2 : a / b * b * d ≤ a * d := Int.mul_le_mul_of_nonneg_right h1 (by omega)
  have h3 : a / b * d * b ≤ c * b := by
    rw [Int.mul_right_comm] at h2; omega
  exact Int.le_of_mul_le_mul_right h3 (by omega)
theorem degF_le {a b c d : Int} (hb : 1 ≤ b) (hd : 1 ≤ d) (h : a * d ≤ c * b) : degF a b ≤ degF c d := by
  have h1 : 20340 * a / (355 * b) ≤ 20340 * c / (355 * d) := by
    refine div_le (by omega) (by omega) ?_
    have e1 : 20340 * a * (355 * d) = 7220700 * (a * d) := by rw [show (7220700 : Int) = 20340 * 355 from rfl]; ac_rfl
    have e2 : 20340 * c * (355 * b) = 7220700 * (c * b) := by rw [show (7220700 : Int) = 20340 * 355 from rfl]; ac_rfl
    rw [e1, e2]; omega
  unfold degF; omega
/-- A fan that is known to the point. -/
structure Pointed (f : Fan) : Prop where
  ab : f.b = f.a
  cd : f.d = f.c
  g : ∀ g ∈ f.gs, g.lh = g.ll ∧ g.fh = g.fl
theorem Pointed.open (u : Bool) {f : Fan} (h : Pointed f) : openN u f = turnN f := by
  unfold openN turnN anglesF
  have : f.gs.map (angF u f) = f.gs.map (tnF f) := List.map_congr_left fun g hg => by
    unfold angF tnF ris fal
    rw [(h.g g hg).1, (h.g g hg).2, h.ab, h.cd]
    cases u <;> rfl
  rw [this]
theorem Pointed.parts (u : Bool) {f : Fan} (h : Pointed f) : partsL u f = turnD f := by
  unfold partsL turnD fal
  rw [h.ab, h.cd]
  cases u <;> rfl
theorem Pointed.deg (u : Bool) {f : Fan} (h : Pointed f) : degL u f = degF (turnN f) (turnD f) := by
  unfold degL; rw [h.open u, h.parts u]
theorem least_turn (f : Fan) : turnN f.least = openN false f ∧ turnD f.least = partsL false f := by
  constructor
  · unfold turnN openN anglesF
    show ((gapsTo lowGap f.gs f.gs.length).map _).sum = _
    rw [gapsTo_all, List.map_map]
    rfl
  · rfl
theorem most_turn (f : Fan) : turnN f.most = openN true f ∧ turnD f.most = partsL true f := by
  constructor
  · unfold turnN openN anglesF
    show ((gapsTo highGap f.gs f.gs.length).map _).sum = _
    rw [gapsTo_all, List.map_map]
    rfl
  · rfl
theorem gap_getD_mem {gs : List Gap} {k : Nat} (hk : k < gs.length) : gs.getD k Gap.zero ∈ gs := by
  have e : gs.getD k Gap.zero = gs[k] := by simp [List.getD, hk]
  rw [e]; exact List.getElem_mem _
theorem trueTo_mem (xs : List Int) (gs : List Gap) (k : Nat) (hk : k ≤ gs.length) : ∀ g ∈ trueTo xs gs k, ∃ i, i < gs.length ∧ g = trueGap xs (gs.getD i Gap.zero) i := by
  induction k with
  | zero => intro g hg; simp [trueTo] at hg
  | succ k ih =>
    intro g hg
    rcases List.mem_append.1 hg with h | h
    · exact ih (by omega) g h
    · exact ⟨k, by omega, List.mem_singleton.1 h⟩
theorem trueTo_getD (xs : List Int) (gs : List Gap) (k i : Nat) (hi : i < k) : (trueTo xs gs k).getD i Gap.zero = trueGap xs (gs.getD i Gap.zero) i := by
  induction k with
  | zero => omega
  | succ k ih =>
    rw [trueTo]
    rcases Nat.lt_or_ge i k with h | h
    · rw [← ih h]
      simp [List.getD, List.getElem?_append_left, trueTo_len, h]
    · obtain rfl : i = k := by omega
      simp [List.getD, trueTo_len]
theorem true_pointed (f : Fan) (xs : List Int) : Pointed (f.true xs) := ⟨rfl, rfl, fun g hg => by
  obtain ⟨i, _, rfl⟩ := trueTo_mem xs f.gs _ (Nat.le_refl _) g hg
  exact ⟨rfl, rfl⟩⟩
/-- What is true of a gap lies in what is known. -/
structure GapIn (g t : Gap) : Prop where
  l1 : g.ll ≤ t.ll
  l2 : t.ll ≤ g.lh
  f1 : g.fl ≤ t.fl
  f2 : t.fl ≤ g.fh
theorem gapTrue_in {xs : List Int} (hx : ∀ x ∈ xs, Byte x) {g : Gap} (h1 : g.ll ≤ g.lh) (h2 : g.fl ≤ g.fh) (k : Nat) : GapIn g (trueGap xs g k) :=
  have p := insL_bd h1 (byteAt_bd hx (2 * k + 2))
  have q := insL_bd h2 (byteAt_bd hx (2 * k + 3))
  ⟨p.1, p.2, q.1, q.2⟩
theorem true_err {f : Fan} {xs : List Int} (hx : ∀ x ∈ xs, Byte x) (h : fanErr f = 0) : fanErr (f.true xs) = 0 := by
  obtain ⟨hf, hg, hn⟩ := fanB_of h
  have k1 := hf.a1; have k2 := hf.ab; have k3 := hf.b5; have k4 := hf.c1; have k5 := hf.cd; have k6 := hf.d5
  have hda : f.d < f.a := by
    rw [fanErr_eq] at h
    split at h
    · omega
    rename_i hh
    simp only [spanB, inB, Bool.not_eq_false, Bool.and_eq_true, decide_eq_true_eq] at hh
    omega
  have p := insL_bd k2 (byteAt_bd hx 0)
  have q := insL_bd k5 (byteAt_bd hx 1)
  rw [fanErr_eq]
  have hl : (f.true xs).gs.length = f.gs.length := trueTo_len _ _ _
  have hgg : (f.true xs).gs.any (fun g => !gapB g) = false := by
    rw [List.any_eq_false]
    intro g hgm
    obtain ⟨i, hi, rfl⟩ := trueTo_mem xs f.gs _ (Nat.le_refl _) g hgm
    have m := gap_getD_mem hi
    obtain ⟨b1, b2, b3, b4, b5, b6⟩ := hf.g _ m
    have c := hg _ m
    have r := gapTrue_in hx b2 b5 i
    have r1 := r.l1; have r2 := r.l2; have r3 := r.f1; have r4 := r.f2
    have z1 : (trueGap xs (f.gs.getD i Gap.zero) i).lh = (trueGap xs (f.gs.getD i Gap.zero) i).ll := rfl
    have z2 : (trueGap xs (f.gs.getD i Gap.zero) i).fh = (trueGap xs (f.gs.getD i Gap.zero) i).fl := rfl
    have hq : gapB (trueGap xs (f.gs.getD i Gap.zero) i) = true := by
      simp only [gapB, spanB, inB, Bool.and_eq_true]
      exact ⟨⟨⟨decide_eq_true (by omega), decide_eq_true (by omega)⟩, decide_eq_true (by omega)⟩, ⟨decide_eq_true (by omega), decide_eq_true (by omega)⟩, decide_eq_true (by omega)⟩
    rw [hq]; decide
  have hh : (spanB ((f.true xs).a, (f.true xs).b) 1 5000 && (spanB ((f.true xs).c, (f.true xs).d) 1 5000 && decide ((f.true xs).d < (f.true xs).a))) = true := by
    simp only [spanB, inB, Fan.true, Bool.and_eq_true]
    exact ⟨⟨⟨decide_eq_true (by omega), decide_eq_true (by omega)⟩, decide_eq_true (by omega)⟩, ⟨⟨decide_eq_true (by omega), decide_eq_true (by omega)⟩, decide_eq_true (by omega)⟩, decide_eq_true (by omega)⟩
  rw [hgg, hh, if_neg (by decide), if_neg (by omega)]
  rfl
theorem mul4_le {a b c d A B C D : Int} (a0 : 0 ≤ a) (b0 : 0 ≤ b) (c0 : 0 ≤ c) (d0 : 0 ≤ d) (h1 : a ≤ A) (h2 : b ≤ B) (h3 : c ≤ C) (h4 : d ≤ D) : a * b * (c * d) ≤ A * B * (C * D) :=
  Int.mul_le_mul (Int.mul_le_mul h1 h2 b0 (by omega)) (Int.mul_le_mul h3 h4 d0 (by omega)) (Int.mul_nonneg c0 d0) (Int.mul_nonneg (by omega) (by omega))
theorem min_mul (a b c : Int) (hc : 0 ≤ c) : min a b * c = min (a * c) (b * c) := by
  rcases Int.le_total a b with h | h
  · rw [Int.min_eq_left h, Int.min_eq_left (Int.mul_le_mul_of_nonneg_right h hc)]
  · rw [Int.min_eq_right h, Int.min_eq_right (Int.mul_le_mul_of_nonneg_right h hc)]
/-- An angle at the least end is no more, and at the greatest no less, than in a truth. -/
theorem ang_low {a b c d ta tc ll fl tl tf : Int} (a1 : 1 ≤ a) (c1 : 1 ≤ c) (ha : a ≤ ta) (hb : ta ≤ b) (hc : c ≤ tc) (hd : tc ≤ d) (l0 : 0 ≤ ll) (f0 : 0 ≤ fl) (h1 : ll ≤ tl) (h2 : fl ≤ tf) : min (ll * d) (fl * b) * (ta * tc) ≤ min (tl * tc) (tf * ta) * (b * d) := by
  rw [min_mul _ _ _ (Int.mul_nonneg (by omega) (by omega)), min_mul _ _ _ (Int.mul_nonneg (by omega) (by omega))]
  have e1 : ll * d * (ta * tc) ≤ tl * tc * (b * d) := by
    have := mul4_le (a := ll) (b := d) (c := ta) (d := tc) (A := tl) (B := d) (C := b) (D := tc) l0 (by omega) (by omega) (by omega) h1 (Int.le_refl _) hb (Int.le_refl _)
    have e : tl * d * (b * tc) = tl * tc * (b * d) := by ac_rfl
    omega
  have e2 : fl * b * (ta * tc) ≤ tf * ta * (b * d) := by
    have := mul4_le (a := fl) (b := b) (c := ta) (d := tc) (A := tf) (B := b) (C := ta) (D := d) f0 (by omega) (by omega) (by omega) h2 (Int.le_refl _) (Int.le_refl _) hd
    have e : tf * b * (ta * d) = tf * ta * (b * d) := by ac_rfl
    omega
  omega
theorem ang_high {a c ta tc lh fh tl tf : Int} (a1 : 1 ≤ a) (c1 : 1 ≤ c) (ha : a ≤ ta) (hc : c ≤ tc) (l0 : 0 ≤ tl) (f0 : 0 ≤ tf) (h1 : tl ≤ lh) (h2 : tf ≤ fh) : min (tl * tc) (tf * ta) * (a * c) ≤ min (lh * c) (fh * a) * (ta * tc) := by
  rw [min_mul _ _ _ (Int.mul_nonneg (by omega) (by omega)), min_mul _ _ _ (Int.mul_nonneg (by omega) (by omega))]
  have e1 : tl * tc * (a * c) ≤ lh * c * (ta * tc) := by
    have := mul4_le (a := tl) (b := tc) (c := a) (d := c) (A := lh) (B := tc) (C := ta) (D := c) l0 (by omega) (by omega) (by omega) h1 (Int.le_refl _) ha (Int.le_refl _)
    have e : lh * tc * (ta * c) = lh * c * (ta * tc) := by ac_rfl
    omega
  have e2 : tf * ta * (a * c) ≤ fh * a * (ta * tc) := by
    have := mul4_le (a := tf) (b := ta) (c := a) (d := c) (A := fh) (B := ta) (C := a) (D := tc) f0 (by omega) (by omega) (by omega) h2 (Int.le_refl _) (Int.le_refl _) hc
    have e : fh * ta * (a * tc) = fh * a * (ta * tc) := by ac_rfl
    omega
  omega
theorem true_sums {f : Fan} {xs : List Int} (hx : ∀ x ∈ xs, Byte x) (hf : FanB f) (k : Nat) (hk : k ≤ f.gs.length) :
    ((f.gs.take k).map (angF false f)).sum * turnD (f.true xs) ≤ ((trueTo xs f.gs k).map (tnF (f.true xs))).sum * partsL false f ∧ ((trueTo xs f.gs k).map (tnF (f.true xs))).sum * partsL true f ≤ ((f.gs.take k).map (angF true f)).sum * turnD (f.true xs) := by
  have k1 := hf.a1; have k2 := hf.ab; have k3 := hf.b5; have k4 := hf.c1; have k5 := hf.cd; have k6 := hf.d5
  have p := insL_bd k2 (byteAt_bd hx 0)
  have q := insL_bd k5 (byteAt_bd hx 1)
  induction k with
  | zero => simp [trueTo]
  | succ k ih =>
    have ih' := ih (by omega)
    have m := gap_getD_mem (gs := f.gs) (k := k) (by omega)
    obtain ⟨b1, b2, b3, b4, b5, b6⟩ := hf.g _ m
    have r := gapTrue_in hx b2 b5 k
    have r1 := r.l1; have r2 := r.l2; have r3 := r.f1; have r4 := r.f2
    have u1 : angF false f (f.gs.getD k Gap.zero) * turnD (f.true xs) ≤ tnF (f.true xs) (trueGap xs (f.gs.getD k Gap.zero) k) * partsL false f := ang_low k1 k4 p.1 p.2 q.1 q.2 b1 b4 r1 r3
    have u2 : tnF (f.true xs) (trueGap xs (f.gs.getD k Gap.zero) k) * partsL true f ≤ angF true f (f.gs.getD k Gap.zero) * turnD (f.true xs) := ang_high k1 k4 p.1 q.1 (by omega) (by omega) r2 r4
    rw [map_sum_take _ _ Gap.zero k (by omega), map_sum_take _ _ Gap.zero k (by omega), trueTo, List.map_append, List.sum_append, List.map_cons, List.map_nil, List.sum_singleton, Int.add_mul, Int.add_mul, Int.add_mul, Int.add_mul]
    omega
theorem true_turn {f : Fan} {xs : List Int} (hx : ∀ x ∈ xs, Byte x) (hf : FanB f) : openN false f * turnD (f.true xs) ≤ turnN (f.true xs) * partsL false f ∧ turnN (f.true xs) * partsL true f ≤ openN true f * turnD (f.true xs) := by
  have h := true_sums hx hf f.gs.length (Nat.le_refl _)
  rw [List.take_length] at h
  exact h
theorem true_deg {f : Fan} {xs : List Int} (hx : ∀ x ∈ xs, Byte x) (hf : FanB f) (ht : FanB (f.true xs)) : degL false f ≤ degF (turnN (f.true xs)) (turnD (f.true xs)) ∧ degF (turnN (f.true xs)) (turnD (f.true xs)) ≤ degL true f :=
  have h := true_turn hx hf
  have b := turn_bd ht
  ⟨degF_le (parts_bd hf false).1 b.2.1 h.1, degF_le b.2.1 (parts_bd hf true).1 h.2⟩
theorem true_stop1 {f : Fan} {xs : List Int} (hx : ∀ x ∈ xs, Byte x) (hf : FanB f) {g : Gap} (hg : g ∈ f.gs) (k : Nat) (h : stopL f g = 1) : (trueGap xs g k).ll * (f.true xs).c < (trueGap xs g k).fl * (f.true xs).a := by
  have k1 := hf.a1; have k2 := hf.ab; have k4 := hf.c1; have k5 := hf.cd
  have p := insL_bd k2 (byteAt_bd hx 0)
  have q := insL_bd k5 (byteAt_bd hx 1)
  obtain ⟨b1, b2, b3, b4, b5, b6⟩ := hf.g _ hg
  have r := gapTrue_in hx b2 b5 k
  have r1 := r.l1; have r2 := r.l2; have r3 := r.f1; have r4 := r.f2
  have h1 : g.lh * f.d < g.fl * f.a := by
    unfold stopL at h
    split at h
    · assumption
    · split at h <;> omega
  have h2 : (trueGap xs g k).ll * (f.true xs).c ≤ g.lh * f.d := Int.mul_le_mul r2 q.2 (by show 0 ≤ insL f.c f.d _; omega) (by omega)
  have h3 : g.fl * f.a ≤ (trueGap xs g k).fl * (f.true xs).a := Int.mul_le_mul r3 p.1 (by omega) (by omega)
  omega
theorem true_stop2 {f : Fan} {xs : List Int} (hx : ∀ x ∈ xs, Byte x) (hf : FanB f) {g : Gap} (hg : g ∈ f.gs) (k : Nat) (h : stopL f g = 2) : (trueGap xs g k).fl * (f.true xs).a < (trueGap xs g k).ll * (f.true xs).c := by
  have k1 := hf.a1; have k2 := hf.ab; have k4 := hf.c1; have k5 := hf.cd
  have p := insL_bd k2 (byteAt_bd hx 0)
  have q := insL_bd k5 (byteAt_bd hx 1)
  obtain ⟨b1, b2, b3, b4, b5, b6⟩ := hf.g _ hg
  have r := gapTrue_in hx b2 b5 k
  have r1 := r.l1; have r2 := r.l2; have r3 := r.f1; have r4 := r.f2
  have h1 : g.fh * f.b < g.ll * f.c := by
    unfold stopL at h
    split at h
    · omega
    · split at h
      · assumption
      · omega
  have h2 : (trueGap xs g k).fl * (f.true xs).a ≤ g.fh * f.b := Int.mul_le_mul r4 p.2 (by show 0 ≤ insL f.a f.b _; omega) (by omega)
  have h3 : g.ll * f.c ≤ (trueGap xs g k).ll * (f.true xs).c := Int.mul_le_mul r1 q.1 (by omega) (by omega)
  omega
theorem stop_in (f : Fan) (g : Gap) : stopL f g = 1 ∨ stopL f g = 2 ∨ stopL f g = 3 := by
  unfold stopL
  split
  · exact Or.inl rfl
  · split
    · exact Or.inr (Or.inl rfl)
    · exact Or.inr (Or.inr rfl)
theorem set_map_sum (p : Gap → Int) : ∀ (gs : List Gap) (k : Nat) (y : Gap), (k < gs.length → p y = p (gs.getD k Gap.zero)) → ((gs.set k y).map p) = gs.map p
  | [], _, _, _ => rfl
  | a :: r, 0, y, h => by
    have := h (by simp)
    simp only [List.getD_cons_zero] at this
    simp [this]
  | a :: r, k + 1, y, h => by
    have ih := set_map_sum p r k y (fun hk => by simpa using h (by simpa using hk))
    simp only [List.set_cons_succ, List.map_cons, ih]
/-- A fan with a gap in place of another. -/
def Fan.put (f : Fan) (k : Nat) (y : Gap) : Fan := { f with gs := f.gs.set k y }
theorem put_deg {f : Fan} {k : Nat} {y : Gap} (h : ∀ u, k < f.gs.length → angF u f y = angF u f (f.gs.getD k Gap.zero)) (u : Bool) : degL u (f.put k y) = degL u f := by
  have : openN u (f.put k y) = openN u f := by
    unfold openN anglesF
    show ((f.gs.set k y).map (angF u f)).sum = _
    rw [set_map_sum _ _ _ _ (h u)]
  unfold degL
  rw [this]
  rfl
theorem put_err {f : Fan} {k : Nat} {y : Gap} (h : fanErr f = 0) (hy : gapB y = true) : fanErr (f.put k y) = 0 := by
  rw [fanErr_eq] at h ⊢
  have e1 : (f.put k y).gs.length = f.gs.length := by simp [Fan.put]
  split at h
  · omega
  rename_i h1
  split at h
  · omega
  rename_i h2
  split at h
  · omega
  rename_i h3
  have h4 : (f.put k y).gs.any (fun g => !gapB g) = false := by
    rw [List.any_eq_false]
    intro g hg
    rcases List.mem_or_eq_of_mem_set hg with h5 | h5
    · intro h6
      exact h3 (List.any_eq_true.2 ⟨g, h5, h6⟩)
    · rw [h5, hy]; decide
  have h1' : ¬ (spanB ((f.put k y).a, (f.put k y).b) 1 5000 && (spanB ((f.put k y).c, (f.put k y).d) 1 5000 && decide ((f.put k y).d < (f.put k y).a))) = false := h1
  rw [e1, h4, if_neg h1', if_neg h2]
  rfl
theorem opens_val {f : Fan} (h : fanErr f = 0) : opensL f = (degL false f, degL true f) := if_pos h
def footWide (g : Gap) : Gap := ⟨g.ll, g.lh, g.fl, g.fh + 9⟩
def leafWide (g : Gap) : Gap := ⟨g.ll, g.lh + 9, g.fl, g.fh⟩
theorem opens_foot {f : Fan} {k : Nat} (h : fanErr f = 0) (hk : k < f.gs.length) (hr : (f.gs.getD k Gap.zero).fh ≤ 491) (hs : stopL f (f.gs.getD k Gap.zero) = 1) : fanErr (f.put k (footWide (f.gs.getD k Gap.zero))) = 0 ∧ opensL (f.put k (footWide (f.gs.getD k Gap.zero))) = opensL f := by
  obtain ⟨hf, hg, _⟩ := fanB_of h
  have m := gap_getD_mem hk
  have hd := fun y => put_deg (f := f) (k := k) (y := y)
  generalize f.gs.getD k Gap.zero = g at *
  obtain ⟨b1, b2, b3, b4, b5, b6⟩ := hf.g _ m
  have c := hg _ m
  have k1 := hf.a1; have k2 := hf.ab; have k4 := hf.c1; have k5 := hf.cd
  have e := put_err (k := k) (y := footWide g) h (by
    simp only [gapB, spanB, inB, footWide, Bool.and_eq_true]
    exact ⟨⟨⟨decide_eq_true (by omega), decide_eq_true (by omega)⟩, decide_eq_true (by omega)⟩, ⟨decide_eq_true (by omega), decide_eq_true (by omega)⟩, decide_eq_true (by omega)⟩)
  refine ⟨e, ?_⟩
  have h1 : g.lh * f.d < g.fl * f.a := by
    unfold stopL at hs
    split at hs
    · assumption
    · split at hs <;> omega
  have h2 : g.lh * f.c ≤ g.lh * f.d := Int.mul_le_mul_of_nonneg_left k5 (by omega)
  have h3 : g.fl * f.a ≤ g.fh * f.a := Int.mul_le_mul_of_nonneg_right b5 (by omega)
  have h4 : g.fh * f.a ≤ (g.fh + 9) * f.a := Int.mul_le_mul_of_nonneg_right (by omega) (by omega)
  have hq : ∀ u, k < f.gs.length → angF u f (footWide g) = angF u f g := fun u _ => by
    cases u
    · rfl
    · show min (g.lh * f.c) ((g.fh + 9) * f.a) = min (g.lh * f.c) (g.fh * f.a)
      omega
  rw [opens_val e, opens_val h, hd _ hq false, hd _ hq true]
theorem opens_leaf {f : Fan} {k : Nat} (h : fanErr f = 0) (hk : k < f.gs.length) (hr : (f.gs.getD k Gap.zero).lh ≤ 991) (hs : stopL f (f.gs.getD k Gap.zero) = 2) : fanErr (f.put k (leafWide (f.gs.getD k Gap.zero))) = 0 ∧ opensL (f.put k (leafWide (f.gs.getD k Gap.zero))) = opensL f := by
  obtain ⟨hf, hg, _⟩ := fanB_of h
  have m := gap_getD_mem hk
  have hd := fun y => put_deg (f := f) (k := k) (y := y)
  generalize f.gs.getD k Gap.zero = g at *
  obtain ⟨b1, b2, b3, b4, b5, b6⟩ := hf.g _ m
  have c := hg _ m
  have k1 := hf.a1; have k2 := hf.ab; have k4 := hf.c1; have k5 := hf.cd
  have e := put_err (k := k) (y := leafWide g) h (by
    simp only [gapB, spanB, inB, leafWide, Bool.and_eq_true]
    exact ⟨⟨⟨decide_eq_true (by omega), decide_eq_true (by omega)⟩, decide_eq_true (by omega)⟩, ⟨decide_eq_true (by omega), decide_eq_true (by omega)⟩, decide_eq_true (by omega)⟩)
  refine ⟨e, ?_⟩
  have h1 : g.fh * f.b < g.ll * f.c := by
    unfold stopL at hs
    split at hs
    · omega
    · split at hs
      · assumption
      · omega
  have h2 : g.fh * f.a ≤ g.fh * f.b := Int.mul_le_mul_of_nonneg_left k2 (by omega)
  have h3 : g.ll * f.c ≤ g.lh * f.c := Int.mul_le_mul_of_nonneg_right b2 (by omega)
  have h4 : g.lh * f.c ≤ (g.lh + 9) * f.c := Int.mul_le_mul_of_nonneg_right (by omega) (by omega)
  have hq : ∀ u, k < f.gs.length → angF u f (leafWide g) = angF u f g := fun u _ => by
    cases u
    · rfl
    · show min ((g.lh + 9) * f.c) (g.fh * f.a) = min (g.lh * f.c) (g.fh * f.a)
      omega
  rw [opens_val e, opens_val h, hd _ hq false, hd _ hq true]
theorem flatG_set3 (xs : List Gap) (k : Nat) (hk : k < xs.length) (a : Int) : (flatG xs).set (k * 4 + 3) (.int .i64 a) = flatG (xs.set k ⟨(xs.getD k Gap.zero).ll, (xs.getD k Gap.zero).lh, (xs.getD k Gap.zero).fl, a⟩) := by
  unfold flatG
  induction xs generalizing k with
  | nil => simp at hk
  | cons y r ih =>
    cases k with
    | zero => simp [Gap.cells]
    | succ m =>
      have := ih m (by simpa using hk)
      rw [List.flatMap_cons, List.set_append_right _ _ (by simp [Gap.cells]; omega), show (m + 1) * 4 + 3 - y.cells.length = m * 4 + 3 from by simp [Gap.cells]; omega, this]
      simp
/-- The gaps of a fan in bytes leave room. -/
theorem Fo.At.room {x : Fo} {w : World} (h : x.At w) {k : Nat} (hk : k < x.fan.gs.length) : (x.fan.gs.getD k Gap.zero).lh ≤ 991 ∧ (x.fan.gs.getD k Gap.zero).fh ≤ 491 := by
  obtain ⟨i, e⟩ := x.gsTo_mem _ _ (gap_getD_mem (gs := x.fan.gs) hk)
  rw [e]
  have q0 := h.by_bd i 0
  have q1 := h.by_bd i 1
  have q2 := h.by_bd i 2
  have q3 := h.by_bd i 3
  simp only [Fo.gap]
  omega
end Go.Proofs.Ytdekickmplkdiaa
