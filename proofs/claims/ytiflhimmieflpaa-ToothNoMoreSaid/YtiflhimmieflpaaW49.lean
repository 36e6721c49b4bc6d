/- Walks: the reference's Bound. -/
import Derived.Test.YtiflhimmieflpaaW48
namespace Go.Proofs.Ytiflhimmieflpaa
open Go.RowKit Go.Maps

theorem mod_off {x d l : Nat} (h0 : 0 < d) (h1 : d < l) : (x + d) % l ≠ x % l := by
  intro h
  have h2 := Nat.sub_mod_eq_zero_of_mod_eq h
  rw [Nat.add_sub_cancel_left, Nat.mod_eq_of_lt h1] at h2
  omega
theorem sumsAt_step (s : Sawing) (n l x c : Nat) (hx : x % l = c) : ∀ d, d < l → sumsAt s n l (x + (d + 1)) c = sumsAt s n l x c + (bn s n x : Int) := by
  intro d
  induction d with
  | zero => intro _; rw [show x + (0 + 1) = x + 1 from rfl, sumsAt, if_pos hx.symm]
  | succ d ih =>
    intro hd
    rw [show x + (d + 1 + 1) = (x + (d + 1)) + 1 from rfl, sumsAt, if_neg (fun e => mod_off (x := x) (d := d + 1) (by omega) hd (by rw [← e, hx])), ih (by omega)]
theorem sumsAt_low (s : Sawing) (n l c : Nat) (hc : c < l) : ∀ k, k ≤ c → sumsAt s n l k c = 0 := by
  intro k
  induction k with
  | zero => intro _; rfl
  | succ k ih => intro hk; rw [sumsAt, if_neg (by rw [Nat.mod_eq_of_lt (by omega)]; omega), ih (by omega)]
/-- One class further: x is the next column of the class. -/
def sumTo (s : Sawing) (n l x c : Nat) : Int := sumsAt s n l (min x n) c
theorem sumTo_first (s : Sawing) (n l c : Nat) (hc : c < l) : sumTo s n l c c = 0 := sumsAt_low s n l c hc _ (by omega)
theorem sumTo_next (s : Sawing) (n l x c : Nat) (hx : x % l = c) (hl : 0 < l) (hn : x < n) : sumTo s n l (x + l) c = sumTo s n l x c + (bn s n x : Int) := by
  unfold sumTo
  rw [show min x n = x by omega]
  by_cases h : x + l ≤ n
  · rw [show min (x + l) n = x + ((l - 1) + 1) by omega, sumsAt_step s n l x c hx (l - 1) (by omega)]
  · rw [show min (x + l) n = x + ((n - x - 1) + 1) by omega, sumsAt_step s n l x c hx (n - x - 1) (by omega)]
theorem sumTo_end (s : Sawing) (n l x c : Nat) (hn : n ≤ x) : sumTo s n l x c = sumsAt s n l n c := by unfold sumTo; rw [show min x n = n by omega]
/-- What the first r classes leave: the least sum, and the first class that has it. -/
def BInv (S : Nat → Int) (r : Nat) (m c : Int) : Prop :=
  (r = 0 ∧ m = 0 ∧ c = -1) ∨ (∃ k : Nat, c = k ∧ k < r ∧ m = S k ∧ (∀ j, j < k → m < S j) ∧ ∀ j, j < r → m ≤ S j)
theorem BInv.take {S : Nat → Int} {r : Nat} {m c : Int} (h : BInv S r m c) (hc : c < 0 ∨ S r < m) : BInv S (r + 1) (S r) r := by
  rcases h with ⟨rfl, -, -⟩ | ⟨k, rfl, hk, hm, h1, h2⟩
  · exact .inr ⟨0, rfl, by omega, rfl, fun j hj => by omega, fun j hj => by rw [show j = 0 by omega]; exact Int.le_refl _⟩
  · have h3 : S r < m := by omega
    refine .inr ⟨r, rfl, by omega, rfl, fun j hj => by have := h2 j hj; omega, fun j hj => ?_⟩
    by_cases e : j = r
    · rw [e]; exact Int.le_refl _
    · have := h2 j (by omega); omega
theorem BInv.pass {S : Nat → Int} {r : Nat} {m c : Int} (h : BInv S r m c) (hc : ¬ c < 0) (hm : ¬ S r < m) : BInv S (r + 1) m c := by
  rcases h with ⟨rfl, -, rfl⟩ | ⟨k, rfl, hk, hm', h1, h2⟩
  · omega
  · refine .inr ⟨k, rfl, by omega, hm', h1, fun j hj => ?_⟩
    by_cases e : j = r
    · rw [e]; omega
    · exact h2 j (by omega)
theorem BInv.done {B : Bl} {s : Sw} {l : Nat} {m c : Int} (hl : s.long = l) (h1 : 1 ≤ l) (h : BInv (fun r => sumsAt (B.worst s.one) B.n l B.n r) l m c) : m = boundL B s ∧ c = classL B s := by
  rcases h with ⟨rfl, -, -⟩ | ⟨k, rfl, hk, hm, h2, h3⟩
  · omega
  · have hat : ∀ j, j < l → (sumsL (B.worst s.one) B.n l).getD j 0 = sumsAt (B.worst s.one) B.n l B.n j := fun j hj => by simp [sumsL, List.getD, hj]
    have hb : boundL B s = m := by
      unfold boundL
      rw [hl, Int.toNat_natCast]
      have e1 := (le_minTo (sumsL (B.worst s.one) B.n l) m (l - 1)).2 fun j hj => by rw [hat j (by omega)]; exact h3 j (by omega)
      have e2 := (le_minTo (sumsL (B.worst s.one) B.n l) (minTo (sumsL (B.worst s.one) B.n l) (l - 1)) (l - 1)).1 (Int.le_refl _) k (by omega)
      rw [hat k hk] at e2
      dsimp only at hm
      omega
    refine ⟨hb.symm, ?_⟩
    unfold classL
    rw [hb, hl, Int.toNat_natCast]
    have hlen : (sumsL (B.worst s.one) B.n l).length = l := by simp [sumsL]
    refine (idx_hit 0 (by rw [hlen]; exact hk) ?_ (by rw [hat k hk]; simpa using hm)).symm
    unfold noneOf
    rw [List.all_eq_true]
    intro y hy
    obtain ⟨j, hj, rfl⟩ := List.mem_take_iff_getElem.1 hy
    have := h2 j (by omega)
    have e := hat j (by omega)
    rw [List.getD, List.getElem?_eq_getElem (by rw [hlen]; omega)] at e
    simp only [Option.getD_some] at e
    rw [e]
    dsimp only at this
    simp
    omega
end Go.Proofs.Ytiflhimmieflpaa
