/- Plain functions: the reference's Reach and Curve come to what bent comes to. -/
import Derived.Test.YtiflhimmieflpaaHull
namespace Go.Proofs.Ytiflhimmieflpaa

def inS (s : Int × Int) (h : Nat) : Bool := decide (s.1 ≤ h) && decide ((h : Int) ≤ s.2)
/-- Whether height k is one from which h is reached. -/
def nearB (bend : Int) (h k : Nat) : Bool := decide ((h : Int) - bend ≤ k) && decide ((k : Int) ≤ h + bend)
def reachB (xs : List (Int × Int)) (bend : Int) : Nat → Nat → Bool
  | 0, h => inS (xs.getD 0 (0, 0)) h
  | i + 1, h => inS (xs.getD (i + 1) (0, 0)) h && (List.range 301).any fun k => nearB bend h k && reachB xs bend i k
theorem reach_iff {xs : List (Int × Int)} {bend : Int} (hx : ∀ s ∈ xs, InR s) (hb : 0 ≤ bend) (i : Nat) (hi : i < xs.length) (h : Nat) (hh : h ≤ 300) :
    reachB xs bend i h = true ↔ fwOk xs bend i = true ∧ (fw xs bend i).1 ≤ h ∧ (h : Int) ≤ (fw xs bend i).2 := by
  induction i generalizing h with
  | zero => simp [reachB, inS, fwOk, fw]
  | succ i ih =>
    have hin := fw_in hx hb i (by omega)
    simp only [reachB, Bool.and_eq_true, List.any_eq_true, List.mem_range]
    rw [fwOk_succ, Bool.and_eq_true, decide_eq_true_eq]
    constructor
    · rintro ⟨h1, k, hk, h2, h3⟩
      rw [ih (by omega) k (by omega)] at h3
      simp only [inS, nearB, Bool.and_eq_true, decide_eq_true_eq] at h1 h2
      refine ⟨⟨h3.1, by omega⟩, ?_⟩
      rw [fw_succ]
      simp only
      omega
    · rintro ⟨⟨h1, h2⟩, h3, h4⟩
      rw [fw_succ] at h3 h4
      simp only at h3 h4
      unfold InR at hin
      refine ⟨by simp only [inS, Bool.and_eq_true, decide_eq_true_eq]; omega, (max (fw xs bend i).1 (h - bend)).toNat, by omega, ?_, ?_⟩
      · simp only [nearB, Bool.and_eq_true, decide_eq_true_eq]; omega
      · rw [ih (by omega) _ (by omega)]
        exact ⟨h1, by omega, by omega⟩
/-- The least and the greatest height of a column that is reached from both sides, of the first H. -/
def bothB (xs : List (Int × Int)) (bend : Int) (i h : Nat) : Bool := reachB xs bend i h && reachB xs.reverse bend (xs.length - 1 - i) h
def scanB (p : Nat → Bool) : Nat → Bool × Int × Int
  | 0 => (false, 0, 0)
  | h + 1 => if p h = true then (true, if (scanB p h).1 = true then (scanB p h).2.1 else h, h) else scanB p h
theorem scan_none {p : Nat → Bool} : ∀ H : Nat, (∀ h, h < H → p h = false) → scanB p H = (false, 0, 0)
  | 0, _ => rfl
  | H + 1, h => by
    rw [scanB, if_neg (by rw [h H (by omega)]; decide), scan_none H fun k hk => h k (by omega)]
theorem scan_span {p : Nat → Bool} {lo hi : Int} (hl : 0 ≤ lo) (hlh : lo ≤ hi) : ∀ H : Nat, (∀ h : Nat, h < H → (p h = true ↔ lo ≤ h ∧ (h : Int) ≤ hi)) → scanB p H = if (H : Int) ≤ lo then (false, 0, 0) else (true, lo, min hi ((H : Int) - 1))
  | 0, _ => by rw [scanB, if_pos (by omega)]
  | H + 1, h => by
    have ih := scan_span hl hlh H fun k hk => h k (by omega)
    have hH := h H (by omega)
    by_cases e : p H = true
    · have := hH.1 e
      rw [if_neg (by omega : ¬ (((H + 1 : Nat) : Int) ≤ lo))]
      by_cases e2 : (H : Int) ≤ lo
      · have ih' : scanB p H = (false, 0, 0) := by rw [ih, if_pos e2]
        rw [scanB, if_pos e, ih', if_neg (by decide)]
        refine Prod.ext rfl (Prod.ext ?_ ?_) <;> simp only <;> omega
      · have ih' : scanB p H = (true, lo, min hi ((H : Int) - 1)) := by rw [ih, if_neg e2]
        rw [scanB, if_pos e, ih', if_pos rfl]
        refine Prod.ext rfl (Prod.ext rfl ?_)
        simp only
        omega
    · have hn : ¬ (lo ≤ (H : Int) ∧ (H : Int) ≤ hi) := fun c => e (hH.2 c)
      rw [scanB, if_neg e, ih]
      by_cases e2 : (H : Int) ≤ lo
      · rw [if_pos e2, if_pos (by omega)]
      · rw [if_neg e2, if_neg (by omega)]
        refine Prod.ext rfl (Prod.ext rfl ?_)
        simp only
        omega
def curB (xs : List (Int × Int)) (bend : Int) (i : Nat) : Bool × Int × Int := scanB (bothB xs bend i) 301
def refCurveL (xs : List (Int × Int)) (bend : Int) : List (Int × Int) := if ((List.range xs.length).all fun i => (curB xs bend i).1) = true then (List.range xs.length).map fun i => (curB xs bend i).2 else []
theorem reverse_truth {xs : List (Int × Int)} {bend : Int} {t : Nat → Int} (h : Truth xs bend t) : Truth xs.reverse bend (fun i => t (xs.length - 1 - i)) := by
  refine ⟨fun i hi => ?_, fun i hi => ?_, fun i hi => ?_, fun i hi => ?_⟩
  · simp only [List.length_reverse] at hi
    rw [getD_reverse xs i hi]
    exact h.lo _ (by omega)
  · simp only [List.length_reverse] at hi
    rw [getD_reverse xs i hi]
    exact h.hi _ (by omega)
  · simp only [List.length_reverse] at hi
    have := h.dn (xs.length - 1 - (i + 1)) (by omega)
    rw [show xs.length - 1 - (i + 1) + 1 = xs.length - 1 - i from by omega] at this
    exact this
  · simp only [List.length_reverse] at hi
    have := h.up (xs.length - 1 - (i + 1)) (by omega)
    rw [show xs.length - 1 - (i + 1) + 1 = xs.length - 1 - i from by omega] at this
    exact this
theorem reverse_ok {xs : List (Int × Int)} {bend : Int} (hb : 0 ≤ bend) (h : bentOk xs bend = true) : bentOk xs.reverse bend = true := truth_ok (reverse_truth (truth_lows hb h))
theorem fwOk_mono {xs : List (Int × Int)} {bend : Int} {n k : Nat} (h : fwOk xs bend n = true) (hk : k ≤ n) : fwOk xs bend k = true := by
  rw [fwOk_iff] at h ⊢
  intro j hj
  exact h j (by omega)
theorem curB_ok {xs : List (Int × Int)} {bend : Int} (hx : ∀ s ∈ xs, InR s) (hb : 0 ≤ bend) (h : bentOk xs bend = true) (i : Nat) (hi : i < xs.length) : curB xs bend i = (true, (bentL xs bend).getD i (0, 0)) := by
  have hr := reverse_ok hb h
  have hxr : ∀ s ∈ xs.reverse, InR s := fun s hs => hx s (List.mem_reverse.1 hs)
  have hm := bent_meet hb i hi
  have hf := bent_full hb h i hi
  have hin := fw_in hx hb i hi
  have hin' := fw_in hxr hb (xs.length - 1 - i) (by simp; omega)
  unfold InR at hin hin'
  rw [hm] at hf
  simp only at hf
  unfold curB
  rw [scan_span (lo := max (fw xs bend i).1 (fw xs.reverse bend (xs.length - 1 - i)).1) (hi := min (fw xs bend i).2 (fw xs.reverse bend (xs.length - 1 - i)).2) (by omega) hf 301, if_neg (by omega), hm]
  · congr 2
    omega
  · intro k hk
    unfold bothB
    rw [Bool.and_eq_true, reach_iff hx hb i hi k (by omega), reach_iff hxr hb _ (by simp; omega) k (by omega)]
    have e1 : fwOk xs bend i = true := fwOk_mono h (by omega)
    have e2 : fwOk xs.reverse bend (xs.length - 1 - i) = true := fwOk_mono hr (by simp; omega)
    constructor
    · rintro ⟨⟨_, a, b⟩, _, c, d⟩; omega
    · intro c; exact ⟨⟨e1, by omega, by omega⟩, e2, by omega, by omega⟩
theorem refCurve_ok {xs : List (Int × Int)} {bend : Int} (hx : ∀ s ∈ xs, InR s) (hb : 0 ≤ bend) (h : bentOk xs bend = true) : refCurveL xs bend = bentL xs bend := by
  unfold refCurveL
  rw [if_pos (by rw [List.all_eq_true]; intro i hi; rw [curB_ok hx hb h i (List.mem_range.1 hi)])]
  apply ext_getD (by simp [bentL_length])
  intro i hi
  have hi' : i < xs.length := by simpa using hi
  rw [← (curB_ok hx hb h i hi' ▸ rfl : (curB xs bend i).2 = (bentL xs bend).getD i (0, 0))]
  simp [List.getD, hi']
theorem refCurve_no {xs : List (Int × Int)} {bend : Int} (hx : ∀ s ∈ xs, InR s) (hb : 0 ≤ bend) (h : bentOk xs bend = false) : refCurveL xs bend = [] := by
  unfold refCurveL
  rw [if_neg]
  intro hall
  rw [List.all_eq_true] at hall
  have : ¬ ∀ k, k < xs.length → (fw xs bend k).1 ≤ (fw xs bend k).2 := fun c => by
    have := fwOk_iff.2 c
    unfold bentOk at h
    rw [h] at this
    cases this
  apply this
  intro k hk
  have hc := hall k (List.mem_range.2 hk)
  apply Decidable.byContradiction
  intro hn
  have : curB xs bend k = (false, 0, 0) := scan_none 301 fun j hj => by
    unfold bothB
    cases hr : reachB xs bend k j with
    | false => rfl
    | true =>
      rw [reach_iff hx hb k hk j (by omega)] at hr
      omega
  rw [this] at hc
  cases hc
theorem refCurve_empty {xs : List (Int × Int)} {bend : Int} (hx : ∀ s ∈ xs, InR s) (hb : 0 ≤ bend) (h0 : 0 < xs.length) : (refCurveL xs bend).length = 0 ↔ bentOk xs bend = false := by
  cases h : bentOk xs bend with
  | true => rw [refCurve_ok hx hb h, bentL_length]; constructor <;> intro c <;> (first | omega | cases c)
  | false => rw [refCurve_no hx hb h]; simp

/-- The heights below k from which h is reached, column i. -/
def anyTo (xs : List (Int × Int)) (bend : Int) (i h k : Nat) : Bool := (List.range k).any fun q => nearB bend h q && reachB xs bend i q
theorem anyTo_succ (xs : List (Int × Int)) (bend : Int) (i h k : Nat) : anyTo xs bend i h (k + 1) = (anyTo xs bend i h k || (nearB bend h k && reachB xs bend i k)) := by
  simp [anyTo, List.range_succ, List.any_append]
theorem reach_succ (xs : List (Int × Int)) (bend : Int) (i h : Nat) : reachB xs bend (i + 1) h = (inS (xs.getD (i + 1) (0, 0)) h && anyTo xs bend i h 301) := rfl
theorem anyTo_start {xs : List (Int × Int)} {bend : Int} {i h k : Nat} (hk : (k : Int) = max 0 ((h : Int) - bend)) : anyTo xs bend i h k = false := by
  unfold anyTo
  rw [List.any_eq_false]
  intro q hq
  have := List.mem_range.1 hq
  have hn : nearB bend h q = false := by simp only [nearB, Bool.and_eq_false_iff, decide_eq_false_iff_not]; left; omega
  simp [hn]
theorem anyTo_end {xs : List (Int × Int)} {bend : Int} {i h k : Nat} (hk : k ≤ 301) (he : ¬ ((k : Int) ≤ min 300 ((h : Int) + bend))) : anyTo xs bend i h k = anyTo xs bend i h 301 := by
  have key : ∀ d, k + d ≤ 301 → anyTo xs bend i h (k + d) = anyTo xs bend i h k := by
    intro d
    induction d with
    | zero => intro _; rfl
    | succ d ih =>
      intro hd
      have hn : nearB bend h (k + d) = false := by simp only [nearB, Bool.and_eq_false_iff, decide_eq_false_iff_not]; right; omega
      rw [← Nat.add_assoc, anyTo_succ, ih (by omega), hn]
      simp
  have := key (301 - k) (by omega)
  rw [show k + (301 - k) = 301 from by omega] at this
  exact this.symm
theorem near_in {bend : Int} {h k : Nat} (h1 : (h : Int) - bend ≤ k) (h2 : (k : Int) ≤ h + bend) : nearB bend h k = true := by simp [nearB, h1, h2]
/-- A row, the heights below H looked at. -/
def rowTo (xs : List (Int × Int)) (bend : Int) (i H h : Nat) : Bool := decide (h < H) && reachB xs bend i h
theorem reach_out {xs : List (Int × Int)} {bend : Int} {i h : Nat} (ho : inS (xs.getD i (0, 0)) h = false) : reachB xs bend i h = false := by
  cases i with
  | zero => exact ho
  | succ i => rw [reach_succ, ho]; rfl
theorem rowTo_start {xs : List (Int × Int)} {bend : Int} {i H h : Nat} (hH : (H : Int) = (xs.getD i (0, 0)).1) : rowTo xs bend i H h = false := by
  unfold rowTo
  by_cases hlt : h < H
  · rw [reach_out (by simp only [inS, Bool.and_eq_false_iff, decide_eq_false_iff_not]; left; omega)]; simp
  · simp [hlt]
theorem rowTo_end {xs : List (Int × Int)} {bend : Int} {i H h : Nat} (hH : (xs.getD i (0, 0)).2 < (H : Int)) : rowTo xs bend i H h = reachB xs bend i h := by
  unfold rowTo
  by_cases hlt : h < H
  · simp [hlt]
  · rw [reach_out (by simp only [inS, Bool.and_eq_false_iff, decide_eq_false_iff_not]; right; omega)]; simp
theorem rowTo_succ {xs : List (Int × Int)} {bend : Int} {i H j : Nat} : rowTo xs bend i (H + 1) j = if j = H then reachB xs bend i H else rowTo xs bend i H j := by
  unfold rowTo
  by_cases e : j = H
  · subst e; simp
  · rw [if_neg e]
    congr 1
    exact decide_eq_decide.2 (by omega)
end Go.Proofs.Ytiflhimmieflpaa
