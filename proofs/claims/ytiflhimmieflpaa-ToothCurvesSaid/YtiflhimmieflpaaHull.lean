/- Plain functions: what bent comes to is the hull of all truths; it is the meeting of what is reached from the left and from the right. -/
import Derived.Test.YtiflhimmieflpaaPure
namespace Go.Proofs.Ytiflhimmieflpaa

/-- Heights of an edge that are true: each in its span, neighbours at most bend apart. -/
structure Truth (xs : List (Int × Int)) (bend : Int) (t : Nat → Int) : Prop where
  lo : ∀ i, i < xs.length → (xs.getD i (0, 0)).1 ≤ t i
  hi : ∀ i, i < xs.length → t i ≤ (xs.getD i (0, 0)).2
  up : ∀ i, i + 1 < xs.length → t (i + 1) ≤ t i + bend
  dn : ∀ i, i + 1 < xs.length → t i ≤ t (i + 1) + bend

theorem truth_fw {xs : List (Int × Int)} {bend : Int} {t : Nat → Int} (h : Truth xs bend t) (i : Nat) (hi : i < xs.length) : (fw xs bend i).1 ≤ t i ∧ t i ≤ (fw xs bend i).2 := by
  induction i with
  | zero => exact ⟨h.lo 0 hi, h.hi 0 hi⟩
  | succ i ih =>
    have h1 := ih (by omega)
    have h2 := h.lo (i + 1) hi
    have h3 := h.hi (i + 1) hi
    have h4 := h.up i hi
    have h5 := h.dn i hi
    simp only [fw]
    omega
theorem truth_bw {xs : List (Int × Int)} {bend : Int} {t : Nat → Int} (h : Truth xs bend t) (j : Nat) (hj : j < xs.length) : (bw xs bend xs.length j).1 ≤ t (xs.length - 1 - j) ∧ t (xs.length - 1 - j) ≤ (bw xs bend xs.length j).2 := by
  induction j with
  | zero => exact truth_fw h _ (by omega)
  | succ j ih =>
    have h1 := ih (by omega)
    have h2 := truth_fw h (xs.length - 1 - (j + 1)) (by omega)
    have e : xs.length - 1 - j = xs.length - 1 - (j + 1) + 1 := by omega
    have h4 := h.up (xs.length - 1 - (j + 1)) (by omega)
    have h5 := h.dn (xs.length - 1 - (j + 1)) (by omega)
    rw [← e] at h4 h5
    simp only [bw]
    omega
theorem truth_bent {xs : List (Int × Int)} {bend : Int} {t : Nat → Int} (h : Truth xs bend t) (i : Nat) (hi : i < xs.length) : ((bentL xs bend).getD i (0, 0)).1 ≤ t i ∧ t i ≤ ((bentL xs bend).getD i (0, 0)).2 := by
  rw [bentL_getD _ _ _ hi]
  have := truth_bw h (xs.length - 1 - i) (by omega)
  rwa [show xs.length - 1 - (xs.length - 1 - i) = i from by omega] at this
theorem fwOk_iff {xs : List (Int × Int)} {bend : Int} {n : Nat} : fwOk xs bend n = true ↔ ∀ k, k < n → (fw xs bend k).1 ≤ (fw xs bend k).2 := by
  simp [fwOk, List.all_eq_true]
theorem truth_ok {xs : List (Int × Int)} {bend : Int} {t : Nat → Int} (h : Truth xs bend t) : bentOk xs bend = true := by
  unfold bentOk
  rw [fwOk_iff]
  intro k hk
  have := truth_fw h k hk
  omega
theorem fw_sub (xs : List (Int × Int)) (bend : Int) (k : Nat) : (xs.getD k (0, 0)).1 ≤ (fw xs bend k).1 ∧ (fw xs bend k).2 ≤ (xs.getD k (0, 0)).2 := by
  cases k with
  | zero => simp [fw]
  | succ k => simp only [fw]; omega
theorem bw_sub (xs : List (Int × Int)) (bend : Int) (n j : Nat) : (fw xs bend (n - 1 - j)).1 ≤ (bw xs bend n j).1 ∧ (bw xs bend n j).2 ≤ (fw xs bend (n - 1 - j)).2 := by
  cases j with
  | zero => simp [bw]
  | succ j => simp only [bw]; omega
theorem bw_full {xs : List (Int × Int)} {bend : Int} (hb : 0 ≤ bend) (h : bentOk xs bend = true) (j : Nat) (hj : j < xs.length) : (bw xs bend xs.length j).1 ≤ (bw xs bend xs.length j).2 := by
  unfold bentOk at h
  rw [fwOk_iff] at h
  induction j with
  | zero => exact h _ (by omega)
  | succ j ih =>
    have h1 := ih (by omega)
    have h2 := h (xs.length - 1 - (j + 1)) (by omega)
    have h3 := bw_sub xs bend xs.length j
    have e : xs.length - 1 - j = xs.length - 1 - (j + 1) + 1 := by omega
    rw [e, fw_succ] at h3
    simp only at h3
    simp only [bw]
    omega
theorem bent_full {xs : List (Int × Int)} {bend : Int} (hb : 0 ≤ bend) (h : bentOk xs bend = true) (i : Nat) (hi : i < xs.length) : ((bentL xs bend).getD i (0, 0)).1 ≤ ((bentL xs bend).getD i (0, 0)).2 := by
  rw [bentL_getD _ _ _ hi]
  exact bw_full hb h _ (by omega)
theorem bent_sub (xs : List (Int × Int)) (bend : Int) (i : Nat) (hi : i < xs.length) : (xs.getD i (0, 0)).1 ≤ ((bentL xs bend).getD i (0, 0)).1 ∧ ((bentL xs bend).getD i (0, 0)).2 ≤ (xs.getD i (0, 0)).2 := by
  rw [bentL_getD _ _ _ hi]
  have h1 := bw_sub xs bend xs.length (xs.length - 1 - i)
  have h2 := fw_sub xs bend (xs.length - 1 - (xs.length - 1 - i))
  rw [show xs.length - 1 - (xs.length - 1 - i) = i from by omega] at h1 h2
  omega
theorem bent_step {xs : List (Int × Int)} {bend : Int} (hb : 0 ≤ bend) (i : Nat) (hi : i + 1 < xs.length) :
    ((bentL xs bend).getD (i + 1) (0, 0)).1 ≤ ((bentL xs bend).getD i (0, 0)).1 + bend ∧ ((bentL xs bend).getD i (0, 0)).1 ≤ ((bentL xs bend).getD (i + 1) (0, 0)).1 + bend ∧
    ((bentL xs bend).getD (i + 1) (0, 0)).2 ≤ ((bentL xs bend).getD i (0, 0)).2 + bend ∧ ((bentL xs bend).getD i (0, 0)).2 ≤ ((bentL xs bend).getD (i + 1) (0, 0)).2 + bend := by
  rw [bentL_getD _ _ _ hi, bentL_getD _ _ _ (by omega : i < xs.length)]
  have e : xs.length - 1 - i = xs.length - 1 - (i + 1) + 1 := by omega
  have h1 := bw_sub xs bend xs.length (xs.length - 1 - (i + 1))
  rw [show xs.length - 1 - (xs.length - 1 - (i + 1)) = i + 1 from by omega, fw_succ] at h1
  rw [e, bw_succ, show xs.length - 1 - (xs.length - 1 - (i + 1) + 1) = i from by omega]
  simp only at h1 ⊢
  omega
theorem truth_lows {xs : List (Int × Int)} {bend : Int} (hb : 0 ≤ bend) (h : bentOk xs bend = true) : Truth xs bend (fun i => ((bentL xs bend).getD i (0, 0)).1) :=
  ⟨fun i hi => (bent_sub xs bend i hi).1, fun i hi => by
    have h1 := bent_sub xs bend i hi
    have h2 := bent_full hb h i hi
    show ((bentL xs bend).getD i (0, 0)).1 ≤ _
    omega, fun i hi => (bent_step hb i hi).1, fun i hi => (bent_step hb i hi).2.1⟩
theorem truth_highs {xs : List (Int × Int)} {bend : Int} (hb : 0 ≤ bend) (h : bentOk xs bend = true) : Truth xs bend (fun i => ((bentL xs bend).getD i (0, 0)).2) :=
  ⟨fun i hi => by
    have h1 := bent_sub xs bend i hi
    have h2 := bent_full hb h i hi
    show _ ≤ ((bentL xs bend).getD i (0, 0)).2
    omega, fun i hi => (bent_sub xs bend i hi).2, fun i hi => (bent_step hb i hi).2.2.1, fun i hi => (bent_step hb i hi).2.2.2⟩
theorem ext_getD {xs ys : List (Int × Int)} (hl : xs.length = ys.length) (h : ∀ i, i < xs.length → xs.getD i (0, 0) = ys.getD i (0, 0)) : xs = ys := by
  apply List.ext_getElem hl
  intro i h1 h2
  have := h i h1
  simpa [List.getD, h1, h2] using this
/-- The hull is determined by the truths. -/
theorem bent_unique {xs ys : List (Int × Int)} {bend : Int} (hb : 0 ≤ bend) (hl : xs.length = ys.length) (hx : bentOk xs bend = true) (h : ∀ t, Truth xs bend t ↔ Truth ys bend t) : bentL xs bend = bentL ys bend := by
  have hy : bentOk ys bend = true := truth_ok ((h _).1 (truth_lows hb hx))
  apply ext_getD (by rw [bentL_length, bentL_length, hl])
  rw [bentL_length]
  intro i hi
  have hi' : i < ys.length := by omega
  have a1 := truth_bent ((h _).1 (truth_lows hb hx)) i hi'
  have a2 := truth_bent ((h _).2 (truth_lows hb hy)) i hi
  have a3 := truth_bent ((h _).1 (truth_highs hb hx)) i hi'
  have a4 := truth_bent ((h _).2 (truth_highs hb hy)) i hi
  apply Prod.ext
  · exact Int.le_antisymm a2.1 a1.1
  · exact Int.le_antisymm a3.2 a4.2
theorem truth_of_bent {xs : List (Int × Int)} {bend : Int} {t : Nat → Int} (h : Truth (bentL xs bend) bend t) : Truth xs bend t := by
  have hl := bentL_length xs bend
  refine ⟨fun i hi => ?_, fun i hi => ?_, fun i hi => h.up i (by omega), fun i hi => h.dn i (by omega)⟩
  · have := h.lo i (by omega); have := bent_sub xs bend i hi; omega
  · have := h.hi i (by omega); have := bent_sub xs bend i hi; omega
theorem bent_of_truth {xs : List (Int × Int)} {bend : Int} {t : Nat → Int} (h : Truth xs bend t) : Truth (bentL xs bend) bend t := by
  have hl := bentL_length xs bend
  exact ⟨fun i hi => (truth_bent h i (by omega)).1, fun i hi => (truth_bent h i (by omega)).2, fun i hi => h.up i (by omega), fun i hi => h.dn i (by omega)⟩
theorem bent_twice {xs : List (Int × Int)} {bend : Int} (hb : 0 ≤ bend) (h : bentOk xs bend = true) : bentOk (bentL xs bend) bend = true ∧ bentL (bentL xs bend) bend = bentL xs bend := by
  have h1 := truth_ok (bent_of_truth (truth_lows hb h))
  exact ⟨h1, bent_unique hb (bentL_length _ _) h1 fun t => ⟨truth_of_bent, bent_of_truth⟩⟩

/-- One column is set to one height. -/
theorem getD_set (xs : List (Int × Int)) (x i : Nat) (v : Int × Int) (hi : i < xs.length) : (xs.set x v).getD i (0, 0) = if i = x then v else xs.getD i (0, 0) := by
  by_cases e : i = x
  · subst e; simp [List.getD, hi]
  · have e' : ¬ x = i := fun h => e h.symm
    simp [List.getD, e, e']
theorem truth_set {xs : List (Int × Int)} {bend : Int} {t : Nat → Int} {x : Nat} {v : Int} (hx : x < xs.length) (hv : (xs.getD x (0, 0)).1 ≤ v ∧ v ≤ (xs.getD x (0, 0)).2) : Truth (xs.set x (v, v)) bend t ↔ Truth xs bend t ∧ t x = v := by
  constructor
  · intro h
    have hl : (xs.set x (v, v)).length = xs.length := by simp
    have hxv : t x = v := by
      have h1 := h.lo x (by omega); have h2 := h.hi x (by omega)
      rw [getD_set _ _ _ _ hx, if_pos rfl] at h1 h2
      simp only at h1 h2
      omega
    refine ⟨⟨fun i hi => ?_, fun i hi => ?_, fun i hi => h.up i (by omega), fun i hi => h.dn i (by omega)⟩, hxv⟩
    · have h1 := h.lo i (by omega)
      rw [getD_set _ _ _ _ hi] at h1
      split at h1
      · rename_i e; subst e; simp only at h1; omega
      · exact h1
    · have h1 := h.hi i (by omega)
      rw [getD_set _ _ _ _ hi] at h1
      split at h1
      · rename_i e; subst e; simp only at h1; omega
      · exact h1
  · rintro ⟨h, hxv⟩
    have hl : (xs.set x (v, v)).length = xs.length := by simp
    refine ⟨fun i hi => ?_, fun i hi => ?_, fun i hi => h.up i (by omega), fun i hi => h.dn i (by omega)⟩
    · rw [getD_set _ _ _ _ (by omega)]
      split
      · rename_i e; subst e; simp only; omega
      · exact h.lo i (by omega)
    · rw [getD_set _ _ _ _ (by omega)]
      split
      · rename_i e; subst e; simp only; omega
      · exact h.hi i (by omega)

/-- From the left and from the right. -/
theorem getD_reverse (xs : List (Int × Int)) (i : Nat) (hi : i < xs.length) : xs.reverse.getD i (0, 0) = xs.getD (xs.length - 1 - i) (0, 0) := by
  simp [List.getD, List.getElem?_reverse hi]
theorem bw_meet {xs : List (Int × Int)} {bend : Int} (hb : 0 ≤ bend) (j : Nat) (hj : j < xs.length) :
    bw xs bend xs.length j = (max (fw xs bend (xs.length - 1 - j)).1 (fw xs.reverse bend j).1, min (fw xs bend (xs.length - 1 - j)).2 (fw xs.reverse bend j).2) := by
  have hz : ∀ k, k < xs.length → xs.reverse.getD k (0, 0) = xs.getD (xs.length - 1 - k) (0, 0) := fun k hk => getD_reverse xs k hk
  induction j with
  | zero =>
    have h1 := fw_sub xs bend (xs.length - 1)
    rw [bw_zero, fw_zero xs.reverse, hz 0 hj]
    simp only [Nat.sub_zero]
    apply Prod.ext
    · show (fw xs bend (xs.length - 1)).1 = max _ _; omega
    · show (fw xs bend (xs.length - 1)).2 = min _ _; omega
  | succ j ih =>
    have ih := ih (by omega)
    have e : xs.length - 1 - j = xs.length - 1 - (j + 1) + 1 := by omega
    have h1 := fw_sub xs bend (xs.length - 1 - (j + 1))
    have h2 := fw_sub xs.reverse bend j
    rw [hz j (by omega), e] at h2
    rw [bw_succ, ih, e, fw_succ xs bend, fw_succ xs.reverse, hz (j + 1) hj]
    simp only
    apply Prod.ext
    · simp only; omega
    · simp only; omega
theorem bent_meet {xs : List (Int × Int)} {bend : Int} (hb : 0 ≤ bend) (i : Nat) (hi : i < xs.length) :
    (bentL xs bend).getD i (0, 0) = (max (fw xs bend i).1 (fw xs.reverse bend (xs.length - 1 - i)).1, min (fw xs bend i).2 (fw xs.reverse bend (xs.length - 1 - i)).2) := by
  rw [bentL_getD _ _ _ hi, bw_meet hb _ (by omega), show xs.length - 1 - (xs.length - 1 - i) = i from by omega]
end Go.Proofs.Ytiflhimmieflpaa
