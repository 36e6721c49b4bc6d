/- The layout with the most sticks: the code's is the reference's; no walks. -/
import Derived.Test.YtiflhimmieflpaaW51
namespace Go.Proofs.Ytiflhimmieflpaa

/-- The reference's best from column x on: f bounds the columns that are looked at. -/
def mostF (bl : Nat → List Int) (n l st : Nat) : Nat → Nat → List (Int × Int)
  | 0, _ => []
  | f + 1, x => if n < x + l then [] else
    if (mostF bl n l st f (x + 1)).length < (((bl x).map fun y => ((x : Int), y)) ++ mostF bl n l st f (x + st)).length ∨ ((((bl x).map fun y => ((x : Int), y)) ++ mostF bl n l st f (x + st)).length = (mostF bl n l st f (x + 1)).length ∧ 0 < (bl x).length) then
      ((bl x).map fun y => ((x : Int), y)) ++ mostF bl n l st f (x + st) else mostF bl n l st f (x + 1)
def mostM (bl : Nat → List Int) (n l st x : Nat) : List (Int × Int) := mostF bl n l st (n + 1 - x) x
section
variable {bl : Nat → List Int} {n l st : Nat}
theorem mostF_any (hl : 1 ≤ l) (hs : 1 ≤ st) : ∀ (f f' x : Nat), n + 1 - x ≤ f → n + 1 - x ≤ f' → mostF bl n l st f x = mostF bl n l st f' x := by
  intro f
  induction f with
  | zero =>
    intro f' x hx _
    cases f' with
    | zero => rfl
    | succ f' => simp [mostF, show n < x + l by omega]
  | succ f ih =>
    intro f' x hx hx'
    cases f' with
    | zero => simp [mostF, show n < x + l by omega]
    | succ f' => simp only [mostF]; rw [ih f' (x + st) (by omega) (by omega), ih f' (x + 1) (by omega) (by omega)]
theorem mostM_end {x : Nat} (h : n < x + l) : mostM bl n l st x = [] := by
  unfold mostM
  cases n + 1 - x with
  | zero => rfl
  | succ f => simp [mostF, h]
theorem mostM_step (hl : 1 ≤ l) (hs : 1 ≤ st) {x : Nat} (h : x + l ≤ n) : mostM bl n l st x =
    if (mostM bl n l st (x + 1)).length < (((bl x).map fun y => ((x : Int), y)) ++ mostM bl n l st (x + st)).length ∨ ((((bl x).map fun y => ((x : Int), y)) ++ mostM bl n l st (x + st)).length = (mostM bl n l st (x + 1)).length ∧ 0 < (bl x).length) then
      ((bl x).map fun y => ((x : Int), y)) ++ mostM bl n l st (x + st) else mostM bl n l st (x + 1) := by
  have e : mostM bl n l st x = mostF bl n l st (n - x + 1) x := by unfold mostM; rw [show n + 1 - x = n - x + 1 by omega]
  rw [e]
  simp only [mostF]
  rw [if_neg (by omega)]
  rw [mostF_any hl hs (n - x) (n + 1 - (x + st)) (x + st) (by omega) (Nat.le_refl _), mostF_any hl hs (n - x) (n + 1 - (x + 1)) (x + 1) (by omega) (Nat.le_refl _)]
  rfl
end
/-- What the code's table holds, from any column on. -/
theorem ahead_end (S : Sawing) (n x : Nat) (h : n ≤ x) : aheadAt S n n x = 0 := by
  unfold aheadAt
  rw [if_pos (by omega), List.getD, List.getElem?_eq_none (by rw [aheadT_length]; omega)]
  rfl
theorem ahead_keep (S : Sawing) (n : Nat) (hl : 1 ≤ stepN S) : ∀ (d j x : Nat), d + j = n → n - j ≤ x → aheadAt S n n x = aheadAt S n j x := by
  intro d
  induction d with
  | zero => intro j x e _; rw [show j = n by omega]
  | succ d ih =>
    intro j x e hx
    rw [ih (j + 1) x (by omega) (by omega), aheadAt_succ S n j x (by omega) hl, if_neg (by omega)]
theorem ahead_step (S : Sawing) (n x : Nat) (hl : 1 ≤ stepN S) (h : x < n) : aheadAt S n n x = max (aheadAt S n n (x + 1)) ((bn S n x : Int) + aheadAt S n n (x + stepN S)) := by
  have h1 := ahead_keep S n hl (n - (n - x)) (n - x) x (by omega) (by omega)
  have h2 := ahead_keep S n hl (n - (n - x - 1)) (n - x - 1) (x + 1) (by omega) (by omega)
  have h3 := ahead_keep S n hl (n - (n - x - 1)) (n - x - 1) (x + stepN S) (by omega) (by omega)
  have h4 := aheadAt_succ S n (n - x - 1) x (by omega) hl
  rw [if_pos (by omega), show n - x - 1 + 1 = n - x by omega, show n - 1 - (n - x - 1) = x by omega] at h4
  rw [h1, h4, h2, h3]
theorem ahead_mono (S : Sawing) (n : Nat) (hl : 1 ≤ stepN S) : ∀ (d x : Nat), aheadAt S n n (x + d) ≤ aheadAt S n n x := by
  intro d
  induction d with
  | zero => intro x; exact Int.le_refl _
  | succ d ih =>
    intro x
    have h1 := ih (x + 1)
    rw [show x + 1 + d = x + (d + 1) by omega] at h1
    by_cases h : x < n
    · have := ahead_step S n x hl h
      omega
    · rw [ahead_end S n (x + (d + 1)) (by omega), ahead_end S n x (by omega)]; exact Int.le_refl _
theorem bn_end (S : Sawing) (n x l : Nat) (h : S.long = l) (hx : n < x + l) : bn S n x = 0 := by
  unfold bn LL
  rw [h, Int.toNat_natCast, if_neg (by omega)]
  rfl
theorem ahead_none (S : Sawing) (n l : Nat) (hl : S.long = l) (hs : 1 ≤ stepN S) : ∀ (d x : Nat), n - x ≤ d → n < x + l → aheadAt S n n x = 0 := by
  intro d
  induction d with
  | zero => intro x h _; exact ahead_end S n x (by omega)
  | succ d ih =>
    intro x h hx
    by_cases e : x < n
    · rw [ahead_step S n x hs e, ih (x + 1) (by omega) (by omega), bn_end S n x l hl hx]
      have := ih (x + stepN S) (by omega) (by omega)
      omega
    · exact ahead_end S n x (by omega)
theorem mostM_length (S : Sawing) (bl : Nat → List Int) (n l : Nat) (hl : S.long = l) (hl1 : 1 ≤ l) (hs : 1 ≤ stepN S) (hb : ∀ x, x + l ≤ n → (bl x).length = bn S n x) : ∀ (d x : Nat), n - x ≤ d → ((mostM bl n l (stepN S) x).length : Int) = aheadAt S n n x := by
  intro d
  induction d with
  | zero => intro x h; rw [ahead_end S n x (by omega), mostM_end (by omega)]; rfl
  | succ d ih =>
    intro x h
    by_cases e : n < x + l
    · rw [mostM_end e, ahead_none S n l hl hs (n - x) x (Nat.le_refl _) e]; rfl
    · have i1 := ih (x + 1) (by omega)
      have i2 := ih (x + stepN S) (by omega)
      rw [ahead_step S n x hs (by omega), mostM_step hl1 hs (by omega)]
      have hbx := hb x (by omega)
      split
      · rename_i hc
        rw [List.length_append, List.length_map] at *
        omega
      · rename_i hc
        rw [List.length_append, List.length_map] at hc
        omega
theorem layout_most (S : Sawing) (bl : Nat → List Int) (n l : Nat) (hl : S.long = l) (hl1 : 1 ≤ l) (hs : 1 ≤ stepN S) (hb : ∀ x, x + l ≤ n → bl x = LL S (n + 1 - l) x) : ∀ (f x : Nat), n + 1 ≤ f + x → layoutGo S n f x = mostM bl n l (stepN S) x := by
  have hbn : ∀ x, x + l ≤ n → (bl x).length = bn S n x := fun x hx => by rw [hb x hx]; unfold bn; rw [hl, Int.toNat_natCast]
  intro f
  induction f with
  | zero => intro x h; rw [layoutGo_end (by omega), mostM_end (by omega)]
  | succ f ih =>
    intro x h
    by_cases hx : x < n
    case neg => rw [layoutGo_end hx, mostM_end (by omega)]
    have m1 := mostM_length S bl n l hl hl1 hs hbn (n - (x + 1)) (x + 1) (Nat.le_refl _)
    have m2 := mostM_length S bl n l hl hl1 hs hbn (n - (x + stepN S)) (x + stepN S) (Nat.le_refl _)
    have a1 := ahead_step S n x hs hx
    have a2 := ahead_mono S n hs (stepN S - 1) (x + 1)
    rw [show x + 1 + (stepN S - 1) = x + stepN S by omega] at a2
    by_cases e : n < x + l
    · rw [layoutGo_skip hx (.inl (bn_end S n x l hl e)), ih (x + 1) (by omega), mostM_end e, mostM_end (by omega)]
    · have hbx := hbn x (by omega)
      rw [mostM_step hl1 hs (by omega)]
      by_cases hc : bn S n x = 0 ∨ (bn S n x : Int) + aheadAt S n n (x + stepN S) < aheadAt S n n x
      · rw [layoutGo_skip hx hc, ih (x + 1) (by omega), if_neg]
        rw [List.length_append, List.length_map]
        omega
      · rw [layoutGo_take hx hc, ih (x + stepN S) (by omega), if_pos]
        · rw [hb x (by omega)]
          unfold colPlaces
          rw [hl, Int.toNat_natCast]
        · rw [List.length_append, List.length_map]
          omega
end Go.Proofs.Ytiflhimmieflpaa
