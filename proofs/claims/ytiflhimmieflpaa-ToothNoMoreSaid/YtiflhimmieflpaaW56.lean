/- Wider sticks are no more: no walks. -/
import Derived.Test.YtiflhimmieflpaaW55
namespace Go.Proofs.Ytiflhimmieflpaa

theorem searchGo_spec (p : Nat → Bool) (n : Nat) : ∀ (f i j : Nat), j - i ≤ f → i ≤ j → j ≤ n → (∀ k, k < i → p k = false) → (∀ k, j ≤ k → k < n → p k = true) → (∀ a b, a ≤ b → b < n → p a = true → p b = true) →
    (∀ k, k < searchGo p f i j → p k = false) ∧ (searchGo p f i j < n → p (searchGo p f i j) = true) ∧ searchGo p f i j ≤ n := by
  intro f
  induction f with
  | zero =>
    intro i j h h1 h2 h3 h4 _
    obtain rfl : i = j := by omega
    rw [searchGo_end (by omega)]
    exact ⟨h3, fun h => h4 i (Nat.le_refl _) h, h2⟩
  | succ f ih =>
    intro i j h h1 h2 h3 h4 h5
    by_cases hij : i < j
    case neg =>
      obtain rfl : i = j := by omega
      rw [searchGo_end (by omega)]
      exact ⟨h3, fun h => h4 i (Nat.le_refl _) h, h2⟩
    cases hp : p ((i + j) / 2) with
    | true =>
      rw [searchGo_yes hij hp]
      exact ih i ((i + j) / 2) (by omega) (by omega) (by omega) h3 (fun k hk hkn => h5 _ _ hk hkn hp) h5
    | false =>
      rw [searchGo_no hij hp]
      refine ih ((i + j) / 2 + 1) j (by omega) (by omega) h2 (fun k hk => ?_) h4 h5
      cases hk2 : p k with
      | false => rfl
      | true => rw [h5 k ((i + j) / 2) (by omega) (by omega) hk2] at hp; cases hp
/-- The first that holds, where what holds goes on holding. -/
theorem searchL_spec (p : Nat → Bool) (n : Nat) (h : ∀ a b, a ≤ b → b < n → p a = true → p b = true) : (∀ k, k < searchL p n → p k = false) ∧ (searchL p n < n → p (searchL p n) = true) ∧ searchL p n ≤ n :=
  searchGo_spec p n n 0 n (by omega) (Nat.zero_le _) (Nat.le_refl _) (fun k hk => absurd hk (by omega)) (fun k h1 h2 => absurd h1 (by omega)) h

section
variable {B : Bl} {s : Sw} {TA TB K : Option Addr} {c c' d l a : Nat}
theorem fine_wide {V : Vw} {x : Nat} {u v : Int} (huv : u ≤ v) {y : Nat} (h : fineV V (s.width v) x y = true) : fineV V (s.width u) x y = true := by
  unfold fineV soundV soundTo at *
  rw [List.all_eq_true] at *
  intro j hj
  have hj' := h j hj
  unfold colSound noneOf at *
  simp only [Bool.and_eq_true, Bool.not_eq_true', decide_eq_false_iff_not, List.all_eq_true] at hj' ⊢
  obtain ⟨⟨h1, h2⟩, h3⟩ := hj'
  have e1 : (s.width v).wide = v := rfl
  have e2 : (s.width u).wide = u := rfl
  rw [e1] at h2 h3
  rw [e2]
  refine ⟨⟨h1, by omega⟩, fun k hk => ?_⟩
  have := h3 k hk
  unfold spoilV at *
  simp only [Bool.and_eq_false_iff, decide_eq_false_iff_not] at this ⊢
  rcases this with h | h
  · exact .inl h
  · exact .inr (by omega)
theorem stV_width (u : Int) : stV (s.width u) = u.toNat + s.kerf.toNat := rfl
theorem gcount_wide {V : Vw} {x : Nat} {u v : Int} (h1 : 1 ≤ u) (huv : u ≤ v) : gcount (fineV V (s.width v) x) (stV (s.width v)) 0 ≤ gcount (fineV V (s.width u) x) (stV (s.width u)) 0 := by
  have s1 : 1 ≤ stV (s.width u) := by rw [stV_width]; omega
  have s2 : 1 ≤ stV (s.width v) := by rw [stV_width]; omega
  refine gcount_most s1 (gl (fineV V (s.width v) x) (stV (s.width v)) 0) 0 (fun z hz => ?_) ((gl_apart s2 301 0 (by omega)).imp fun h => ?_)
  · obtain ⟨e1, e2, e3⟩ := gl_mem s2 301 0 (by omega) z hz
    exact ⟨fine_wide huv e1, e2, e3⟩
  · rw [stV_width] at *; omega
theorem bn_wide {u v : Int} (hok : B.Ok) (hs : s.Ok) (hc : B.cerr = 0) (hb : B.bot.length = B.n) (ht : B.top.length = B.n') (h1 : 1 ≤ u) (huv : u ≤ v) (hv : v ≤ 300) (x : Nat) : bn (B.worst (s.width v)) B.n x ≤ bn (B.worst (s.width u)) B.n x := by
  obtain ⟨l, hl⟩ := Int.eq_ofNat_of_zero_le (show 0 ≤ s.long by have := hs.l1; omega)
  have hl1 : 1 ≤ l := by have := hs.l1; omega
  by_cases hx : x + l ≤ B.n
  · have e1 := ref_LL (TA := none) (TB := none) (K := none) (c := 0) (c' := 0) (d := 0) hok (hs.width (x := v) (by omega) hv) hc hb ht hl x hx
    have e2 := ref_LL (TA := none) (TB := none) (K := none) (c := 0) (c' := 0) (d := 0) hok (hs.width (x := u) h1 (by omega)) hc hb ht hl x hx
    unfold bn
    rw [show (B.worst (s.width v)).long = s.long from rfl, show (B.worst (s.width u)).long = s.long from rfl, hl, Int.toNat_natCast, ← e1, ← e2]
    unfold refBlockL
    rw [List.length_map, List.length_map]
    exact gcount_wide h1 huv
  · rw [bn_end _ _ x l (show (B.worst (s.width v)).long = l from hl) (by omega)]
    exact Nat.zero_le _
theorem ahead_wide (S S' : Sawing) (n : Nat) (he : stepN S = stepN S') (hs : 1 ≤ stepN S) (hb : ∀ x, bn S n x ≤ bn S' n x) : ∀ (d x : Nat), n - x ≤ d → aheadAt S n n x ≤ aheadAt S' n n x := by
  intro d
  induction d with
  | zero => intro x h; rw [ahead_end S n x (by omega), ahead_end S' n x (by omega)]; exact Int.le_refl _
  | succ d ih =>
    intro x h
    by_cases hx : x < n
    · have i1 := ih (x + 1) (by omega)
      have i2 := ih (x + stepN S) (by omega)
      rw [ahead_step S n x hs hx, ahead_step S' n x (by omega) hx, ← he]
      have := hb x
      omega
    · rw [ahead_end S n x (by omega), ahead_end S' n x (by omega)]; exact Int.le_refl _
theorem count_wide {u v : Int} (hok : B.Ok) (hs : s.Ok) (hc : B.cerr = 0) (hb : B.bot.length = B.n) (ht : B.top.length = B.n') (h1 : 1 ≤ u) (huv : u ≤ v) (hv : v ≤ 300) : countL (B.worst (s.width v)) B.n ≤ countL (B.worst (s.width u)) B.n :=
  ahead_wide (B.worst (s.width v)) (B.worst (s.width u)) B.n rfl (by show 1 ≤ s.long.toNat + s.across.toNat; have := hs.l1; omega) (bn_wide hok hs hc hb ht h1 huv hv) B.n 0 (by omega)
/-- What the code finds: the greatest width with enough sticks. -/
theorem widest_spec (sticks : Int) (hok : B.Ok) (hs : s.Ok) (hc : B.cerr = 0) (hb : B.bot.length = B.n) (ht : B.top.length = B.n') : widestL B s sticks ≤ 300 ∧
    (∀ X : Nat, 1 ≤ X → X ≤ widestL B s sticks → sticks ≤ countL (B.worst (s.width X)) B.n) ∧ (∀ X : Nat, widestL B s sticks < X → X ≤ 300 → countL (B.worst (s.width X)) B.n < sticks) := by
  have hm : ∀ a b : Nat, a ≤ b → b < 300 → fewP B s sticks a = true → fewP B s sticks b = true := fun a b h1 h2 h3 => by
    unfold fewP at *
    simp only [decide_eq_true_eq] at *
    have := count_wide (u := (a : Int) + 1) (v := (b : Int) + 1) hok hs hc hb ht (by omega) (by omega) (by omega)
    omega
  obtain ⟨p1, p2, p3⟩ := searchL_spec (fewP B s sticks) 300 hm
  refine ⟨p3, fun X h1 h2 => ?_, fun X h1 h2 => ?_⟩
  · have := p1 (X - 1) (by unfold widestL at h2; omega)
    unfold fewP at this
    rw [decide_eq_false_iff_not, show (((X - 1 : Nat) : Int) + 1) = (X : Int) by omega] at this
    omega
  · have := hm (searchL (fewP B s sticks) 300) (X - 1) (by unfold widestL at h1; omega) (by omega) (p2 (by unfold widestL at h1; omega))
    unfold fewP at this
    rw [decide_eq_true_eq, show (((X - 1 : Nat) : Int) + 1) = (X : Int) by omega] at this
    exact this
theorem layout_len (hok : B.Ok) (hs : s.Ok) (hc : B.cerr = 0) (hb : B.bot.length = B.n) (ht : B.top.length = B.n') : ((layoutL (B.worst s) B.n).length : Int) = countL (B.worst s) B.n := by
  obtain ⟨l, hl⟩ := Int.eq_ofNat_of_zero_le (show 0 ≤ s.long by have := hs.l1; omega)
  obtain ⟨a, ha⟩ := Int.eq_ofNat_of_zero_le hs.a1
  have h1 := hs.l1
  rw [layout_ref (TA := none) (TB := none) (K := none) (c := 0) (c' := 0) (d := 0) hok hs hc hb ht hl ha]
  have e := mostM_length (B.worst s) (refBlockL (sureV B none none none 0 0 0) s) B.n l hl (by omega) (by rw [step_ref hl ha]; omega) (fun x hx => by rw [ref_LL hok hs hc hb ht hl x hx]; unfold bn; rw [show (B.worst s).long = s.long from rfl, hl, Int.toNat_natCast]) B.n 0 (by omega)
  rw [step_ref hl ha] at e
  exact e
end
end Go.Proofs.Ytiflhimmieflpaa
