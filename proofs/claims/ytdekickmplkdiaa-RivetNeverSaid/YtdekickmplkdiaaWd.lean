/- Pure facts: what makes a fan open farther, or less far. -/
import Derived.Test.YtdekickmplkdiaaKl
namespace Go.Proofs.Ytdekickmplkdiaa
open Go.RowKit

theorem ratio_trans {a b c d e f : Int} (hd : 1 ≤ d) (hb : 0 ≤ b) (hf : 0 ≤ f) (h1 : a * d ≤ c * b) (h2 : c * f ≤ e * d) : a * f ≤ e * b := by
  have h3 : a * d * f ≤ c * b * f := Int.mul_le_mul_of_nonneg_right h1 hf
  have h4 : c * f * b ≤ e * d * b := Int.mul_le_mul_of_nonneg_right h2 hb
  have e1 : a * d * f = a * f * d := Int.mul_right_comm _ _ _
  have e2 : c * b * f = c * f * b := Int.mul_right_comm _ _ _
  have e3 : e * d * b = e * b * d := Int.mul_right_comm _ _ _
  exact Int.le_of_mul_le_mul_right (a := d) (by omega) (by omega)
theorem low_high {f : Fan} (h : fanErr f = 0) : openN false f * partsL true f ≤ openN true f * partsL false f := by
  have hf := (fanB_of h).1
  have ht := (fanB_of (true_err (xs := []) (fun x hx => by cases hx) h)).1
  have t := true_turn (xs := []) (fun x hx => by cases hx) hf
  exact ratio_trans (turn_bd ht).2.1 (by have := (parts_bd hf false).1; omega) (by have := (parts_bd hf true).1; omega) t.1 t.2
theorem map_scale (p q : Gap → Int) (a b : Int) (gs : List Gap) (h : ∀ y ∈ gs, p y * a ≤ q y * b) : (gs.map p).sum * a ≤ (gs.map q).sum * b := by
  induction gs with
  | nil => simp
  | cons y r ih =>
    simp only [List.map_cons, List.sum_cons, Int.add_mul]
    have := h y (by simp)
    have := ih (fun z hz => h z (by simp [hz]))
    omega
theorem set_sum_le (p : Gap → Int) : ∀ (gs : List Gap) (k : Nat) (y : Gap), (k < gs.length → p (gs.getD k Gap.zero) ≤ p y) → (gs.map p).sum ≤ ((gs.set k y).map p).sum
  | [], _, _, _ => Int.le_refl _
  | a :: r, 0, y, h => by
    have := h (by simp)
    simp only [List.getD_cons_zero] at this
    simp only [List.set_cons_zero, List.map_cons, List.sum_cons]
    omega
  | a :: r, k + 1, y, h => by
    have ih := set_sum_le p r k y (fun hk => by simpa using h (by simpa using hk))
    simp only [List.set_cons_succ, List.map_cons, List.sum_cons]
    omega
/-- One fan opens no farther than another one, at an end. -/
def LeU (u : Bool) (f g : Fan) : Prop := openN u f * partsL u g ≤ openN u g * partsL u f
theorem LeU.deg {u : Bool} {f g : Fan} (h : LeU u f g) (hf : FanB f) (hg : FanB g) : degL u f ≤ degL u g := degF_le (parts_bd hf u).1 (parts_bd hg u).1 h
theorem gtL_iff (x y : Fan) : gtL x y = true ↔ openN true y * partsL false x < openN false x * partsL true y := by
  unfold gtL ratL cmpL
  rw [decide_eq_true_eq]
  split
  · constructor
    · intro h; omega
    · intro h; omega
  · split
    · rename_i h; exact ⟨fun _ => h, fun _ => by omega⟩
    · constructor
      · intro h; omega
      · intro h; omega
theorem gtL_no {x y : Fan} (hx : fanErr x = 0) (hy : fanErr y = 0) (h : LeU true x y) : gtL x y = false := by
  have bx := (fanB_of hx).1
  have by_ := (fanB_of hy).1
  have := ratio_trans (parts_bd bx true).1 (by have := (parts_bd bx false).1; omega) (by have := (parts_bd by_ true).1; omega) (low_high hx) h
  cases e : gtL x y
  · rfl
  · rw [gtL_iff] at e; omega
/-- What the law asks of both fans' degrees. -/
structure NVr (s1 s2 t1 t2 m : Int) (k : Nat) : Prop where
  lh : t1 ≤ t2
  m3 : m = 1 ∨ m = 2 ∨ m = 3
  m1 : m = 1 → s2 ≤ t1
  m2 : m = 2 → t2 ≤ s1
  a : k < 3 → s1 ≤ t1 ∧ s2 ≤ t2 ∧ m ≠ 2
  b : k = 3 ∨ k = 4 → t1 ≤ s1 ∧ t2 ≤ s2 ∧ m ≠ 1
  c : k = 5 → s1 ≤ t1 ∧ t2 ≤ s2 ∧ m = 3
theorem more_val {f g : Fan} (hf : fanErr f = 0) (hg : fanErr g = 0) : moreE g f = 0 ∧ moreL g f = if gtL g f = true then 1 else if gtL f g = true then 2 else 3 := by
  have e : moreE g f = 0 := by unfold moreE; rw [if_pos hg]; exact hf
  exact ⟨e, by unfold moreL; rw [if_pos e]⟩
theorem NVr.of {f g : Fan} (hf : fanErr f = 0) (hg : fanErr g = 0) (k : Nat) (ha : k < 3 → LeU false f g ∧ LeU true f g) (hb : k = 3 ∨ k = 4 → LeU false g f ∧ LeU true g f)
    (hc : k = 5 → degL false f ≤ degL false g ∧ degL true g ≤ degL true f ∧ gtL g f = false ∧ gtL f g = false) : NVr (degL false f) (degL true f) (degL false g) (degL true g) (moreL g f) k := by
  have bf := (fanB_of hf).1
  have bg := (fanB_of hg).1
  have em := (more_val hf hg).2
  have pg := fun u => (parts_bd bg u).1
  have pf := fun u => (parts_bd bf u).1
  have hm1 : moreL g f = 1 → gtL g f = true := by
    rw [em]; intro h
    split at h
    · assumption
    · split at h <;> omega
  have hm2 : moreL g f = 2 → gtL f g = true := by
    rw [em]; intro h
    split at h
    · omega
    · split at h
      · assumption
      · omega
  refine ⟨degF_le (pg false) (pg true) (low_high hg), ?_, fun h => ?_, fun h => ?_, fun h => ?_, fun h => ?_, fun h => ?_⟩
  · rw [em]
    split
    · exact Or.inl rfl
    · split
      · exact Or.inr (Or.inl rfl)
      · exact Or.inr (Or.inr rfl)
  · have := (gtL_iff _ _).1 (hm1 h)
    exact degF_le (pf true) (pg false) (by omega)
  · have := (gtL_iff _ _).1 (hm2 h)
    exact degF_le (pg true) (pf false) (by omega)
  · have q := ha h
    refine ⟨q.1.deg bf bg, q.2.deg bf bg, fun e => ?_⟩
    have := hm2 e
    rw [gtL_no hf hg q.2] at this; cases this
  · have q := hb h
    refine ⟨q.1.deg bg bf, q.2.deg bg bf, fun e => ?_⟩
    have := hm1 e
    rw [gtL_no hg hf q.2] at this; cases this
  · obtain ⟨q1, q2, q3, q4⟩ := hc h
    refine ⟨q1, q2, ?_⟩
    rw [em, q3, q4]; rfl
/-- A fan with one gap more. -/
def Fan.add (f : Fan) (y : Gap) : Fan := ⟨f.a, f.b, f.c, f.d, f.gs ++ [y]⟩
def Fan.foot (f : Fan) (k : Nat) (more : Int) : Fan := { f with gs := f.gs.set k ⟨(f.gs.getD k Gap.zero).ll, (f.gs.getD k Gap.zero).lh, (f.gs.getD k Gap.zero).fl + more, (f.gs.getD k Gap.zero).fh + more⟩ }
def Fan.far (f : Fan) (n : Int) : Fan := ⟨f.a + n, f.b + n, f.c, f.d, f.gs⟩
def Fan.near (f : Fan) (n : Int) : Fan := ⟨f.a, f.b, f.c + n, f.d + n, f.gs⟩
theorem add_le {f : Fan} {y : Gap} (h : FanB (f.add y)) (u : Bool) : LeU u f (f.add y) := by
  have hp := ang_parts h u (g := y) (by simp [Fan.add])
  have e1 : openN u (f.add y) = openN u f + angF u f y := by
    show ((f.gs ++ [y]).map (angF u f)).sum = (f.gs.map (angF u f)).sum + _
    simp
  have hpp : 1 ≤ partsL u f := (parts_bd h u).1
  have e2 : partsL u (f.add y) = partsL u f := rfl
  have h0 : 0 ≤ angF u f y := by
    have h1 : 0 ≤ ris u y.ll y.lh * fal u f.c f.d := hp.1.1
    have h2 : 0 ≤ ris u y.fl y.fh * fal u f.a f.b := hp.2.1
    unfold angF; omega
  unfold LeU
  rw [e1, e2]
  exact Int.mul_le_mul_of_nonneg_right (by omega) (by omega)
theorem set_le {f : Fan} {k : Nat} {y : Gap} (hf : FanB f) (u : Bool) (h : k < f.gs.length → angF u f (f.gs.getD k Gap.zero) ≤ angF u f y) : LeU u f { f with gs := f.gs.set k y } := by
  have e1 : openN u f ≤ openN u { f with gs := f.gs.set k y } := set_sum_le (angF u f) f.gs k y h
  have hpp := (parts_bd hf u).1
  exact Int.mul_le_mul_of_nonneg_right e1 (by show 0 ≤ partsL u f; omega)
theorem ris_add (u : Bool) (a b n : Int) : ris u (a + n) (b + n) = ris u a b + n := by cases u <;> rfl
theorem fal_add (u : Bool) (a b n : Int) : fal u (a + n) (b + n) = fal u a b + n := by cases u <;> rfl
theorem fal_pos {f : Fan} (h : FanB f) (u : Bool) : 1 ≤ fal u f.a f.b ∧ 1 ≤ fal u f.c f.d := by
  have h1 := h.a1; have h2 := h.ab; have h4 := h.c1; have h5 := h.cd
  cases u <;> simp only [fal, cond_true, cond_false] <;> omega
theorem wide_le {f : Fan} {k : Nat} {n : Int} (hf : FanB f) (hn : 0 ≤ n) (u : Bool) : LeU u f (f.wide k n) := by
  refine set_le hf u fun _ => ?_
  have p := fal_pos hf u
  unfold angF
  dsimp only
  rw [ris_add, Int.add_mul]
  have : 0 ≤ n * fal u f.c f.d := Int.mul_nonneg hn (by omega)
  omega
theorem foot_le {f : Fan} {k : Nat} {n : Int} (hf : FanB f) (hn : 0 ≤ n) (u : Bool) : LeU u f (f.foot k n) := by
  refine set_le hf u fun _ => ?_
  have p := fal_pos hf u
  unfold angF
  dsimp only
  rw [ris_add, Int.add_mul]
  have : 0 ≤ n * fal u f.a f.b := Int.mul_nonneg hn (by omega)
  omega
theorem min_far {x y A C n : Int} (hx : 0 ≤ x) (hA : 0 ≤ A) (hC : 0 ≤ C) (hn : 0 ≤ n) : min (x * C) (y * (A + n)) * (A * C) ≤ min (x * C) (y * A) * ((A + n) * C) := by
  rw [min_mul _ _ _ (Int.mul_nonneg hA hC), min_mul _ _ _ (Int.mul_nonneg (by omega) hC)]
  have e2 : y * (A + n) * (A * C) = y * A * ((A + n) * C) := by ac_rfl
  have e1 : x * C * (A * C) ≤ x * C * ((A + n) * C) := Int.mul_le_mul_of_nonneg_left (Int.mul_le_mul_of_nonneg_right (by omega) hC) (Int.mul_nonneg hx hC)
  omega
theorem min_near {x y A C n : Int} (hy : 0 ≤ y) (hA : 0 ≤ A) (hC : 0 ≤ C) (hn : 0 ≤ n) : min (x * (C + n)) (y * A) * (A * C) ≤ min (x * C) (y * A) * (A * (C + n)) := by
  rw [min_mul _ _ _ (Int.mul_nonneg hA hC), min_mul _ _ _ (Int.mul_nonneg hA (by omega))]
  have e2 : x * (C + n) * (A * C) = x * C * (A * (C + n)) := by ac_rfl
  have e1 : y * A * (A * C) ≤ y * A * (A * (C + n)) := Int.mul_le_mul_of_nonneg_left (Int.mul_le_mul_of_nonneg_left (by omega) hA) (Int.mul_nonneg hy hA)
  omega
theorem ris_nonneg {f : Fan} (h : FanB f) (u : Bool) {y : Gap} (hy : y ∈ f.gs) : 0 ≤ ris u y.ll y.lh ∧ 0 ≤ ris u y.fl y.fh := by
  have := h.g y hy
  cases u <;> simp only [ris, cond_true, cond_false] <;> omega
theorem far_le {f : Fan} {n : Int} (hf : FanB f) (hn : 0 ≤ n) (u : Bool) : LeU u (f.far n) f := by
  have p := fal_pos hf u
  refine map_scale _ _ _ _ _ fun y hy => ?_
  have r := ris_nonneg hf u hy
  show min (ris u y.ll y.lh * fal u f.c f.d) (ris u y.fl y.fh * fal u (f.a + n) (f.b + n)) * (fal u f.a f.b * fal u f.c f.d) ≤ min (ris u y.ll y.lh * fal u f.c f.d) (ris u y.fl y.fh * fal u f.a f.b) * (fal u (f.a + n) (f.b + n) * fal u f.c f.d)
  rw [fal_add]
  exact min_far r.1 (by omega) (by omega) hn
theorem near_le {f : Fan} {n : Int} (hf : FanB f) (hn : 0 ≤ n) (u : Bool) : LeU u (f.near n) f := by
  have p := fal_pos hf u
  refine map_scale _ _ _ _ _ fun y hy => ?_
  have r := ris_nonneg hf u hy
  show min (ris u y.ll y.lh * fal u (f.c + n) (f.d + n)) (ris u y.fl y.fh * fal u f.a f.b) * (fal u f.a f.b * fal u f.c f.d) ≤ min (ris u y.ll y.lh * fal u f.c f.d) (ris u y.fl y.fh * fal u f.a f.b) * (fal u f.a f.b * fal u (f.c + n) (f.d + n))
  rw [fal_add]
  exact min_near r.2 (by omega) (by omega) hn
theorem true_gt {f : Fan} {xs : List Int} (hx : ∀ x ∈ xs, Byte x) (hf : FanB f) : gtL (f.true xs) f = false ∧ gtL f (f.true xs) = false := by
  have t := true_turn hx hf
  have p := true_pointed f xs
  constructor
  · cases e : gtL (f.true xs) f
    · rfl
    · rw [gtL_iff, p.open false, p.parts false] at e; omega
  · cases e : gtL f (f.true xs)
    · rfl
    · rw [gtL_iff, p.open true, p.parts true] at e; omega
theorem err_head {f : Fan} (h : fanErr f = 0) {a b c d : Int} (hd : spanB (a, b) 1 5000 = true) (hd2 : spanB (c, d) 1 5000 = true) (hl : d < a) : fanErr ⟨a, b, c, d, f.gs⟩ = 0 := by
  rw [fanErr_eq] at h ⊢
  split at h
  · omega
  split at h
  · omega
  rename_i h2
  split at h
  · omega
  rename_i h3
  have e : (spanB (a, b) 1 5000 && (spanB (c, d) 1 5000 && decide (d < a))) = true := by rw [hd, hd2, decide_eq_true hl]; rfl
  rw [if_neg (by rw [e]; decide), if_neg h2, if_neg h3]
theorem spanB_mk {a b lo hi : Int} (h1 : lo ≤ a) (h2 : a ≤ b) (h3 : b ≤ hi) : spanB (a, b) lo hi = true := by
  simp only [spanB, inB, Bool.and_eq_true]
  exact ⟨⟨decide_eq_true h1, decide_eq_true h2⟩, decide_eq_true h3⟩
theorem near_err3 {f : Fan} {n : Int} (h : f.a ≤ f.d + n) : fanErr (f.near n) = 3 := by
  rw [fanErr_eq, if_pos]
  show (spanB (f.a, f.b) 1 5000 && (spanB (f.c + n, f.d + n) 1 5000 && decide (f.d + n < f.a))) = false
  rw [decide_eq_false (by omega), Bool.and_false, Bool.and_false]
end Go.Proofs.Ytdekickmplkdiaa
