/- Plain functions: what bent comes to. -/
namespace Go.Proofs.Ytiflhimmieflpaa

def fw (xs : List (Int × Int)) (bend : Int) : Nat → Int × Int
  | 0 => xs.getD 0 (0, 0)
  | k + 1 => (max (xs.getD (k + 1) (0, 0)).1 ((fw xs bend k).1 - bend), min (xs.getD (k + 1) (0, 0)).2 ((fw xs bend k).2 + bend))
def fwOk (xs : List (Int × Int)) (bend : Int) (n : Nat) : Bool := (List.range n).all fun k => decide ((fw xs bend k).1 ≤ (fw xs bend k).2)
/-- j steps from the end, of n columns. -/
def bw (xs : List (Int × Int)) (bend : Int) (n : Nat) : Nat → Int × Int
  | 0 => fw xs bend (n - 1)
  | j + 1 => (max (fw xs bend (n - 1 - (j + 1))).1 ((bw xs bend n j).1 - bend), min (fw xs bend (n - 1 - (j + 1))).2 ((bw xs bend n j).2 + bend))
def bentL (xs : List (Int × Int)) (bend : Int) : List (Int × Int) := (List.range xs.length).map fun k => bw xs bend xs.length (xs.length - 1 - k)
def bentOk (xs : List (Int × Int)) (bend : Int) : Bool := fwOk xs bend xs.length

def InR (s : Int × Int) : Prop := 0 ≤ s.1 ∧ s.1 ≤ 300 ∧ 0 ≤ s.2 ∧ s.2 ≤ 300
theorem fwOk_succ (xs : List (Int × Int)) (bend : Int) (k : Nat) : fwOk xs bend (k + 1) = (fwOk xs bend k && decide ((fw xs bend k).1 ≤ (fw xs bend k).2)) := by
  simp [fwOk, List.range_succ, List.all_append]
theorem fwOk_no {xs : List (Int × Int)} {bend : Int} {k n : Nat} (hk : k < n) (h : decide ((fw xs bend k).1 ≤ (fw xs bend k).2) = false) : fwOk xs bend n = false := by
  unfold fwOk
  rw [List.all_eq_false]
  exact ⟨k, List.mem_range.2 hk, by rw [h]; decide⟩
theorem fw_in {xs : List (Int × Int)} {bend : Int} (hx : ∀ s ∈ xs, InR s) (hb : 0 ≤ bend) (k : Nat) (hk : k < xs.length) : InR (fw xs bend k) := by
  have hg : ∀ i, i < xs.length → InR (xs.getD i (0, 0)) := fun i hi => by
    have : xs.getD i (0, 0) = xs[i] := by simp [hi, List.getD]
    rw [this]
    exact hx _ (List.getElem_mem hi)
  induction k with
  | zero => exact hg 0 hk
  | succ k ih =>
    have h1 := ih (by omega)
    have h2 := hg (k + 1) hk
    unfold InR at *
    simp only [fw]
    omega
theorem bw_in {xs : List (Int × Int)} {bend : Int} (hx : ∀ s ∈ xs, InR s) (hb : 0 ≤ bend) (j : Nat) (hj : j < xs.length) : InR (bw xs bend xs.length j) := by
  induction j with
  | zero => exact fw_in hx hb _ (by omega)
  | succ j ih =>
    have h1 := ih (by omega)
    have h2 := fw_in hx hb (xs.length - 1 - (j + 1)) (by omega)
    unfold InR at *
    simp only [bw]
    omega
theorem fw_zero (xs : List (Int × Int)) (bend : Int) : fw xs bend 0 = xs.getD 0 (0, 0) := rfl
theorem fw_succ (xs : List (Int × Int)) (bend : Int) (k : Nat) : fw xs bend (k + 1) = (max (xs.getD (k + 1) (0, 0)).1 ((fw xs bend k).1 - bend), min (xs.getD (k + 1) (0, 0)).2 ((fw xs bend k).2 + bend)) := rfl
theorem bw_zero (xs : List (Int × Int)) (bend : Int) (n : Nat) : bw xs bend n 0 = fw xs bend (n - 1) := rfl
theorem bw_succ (xs : List (Int × Int)) (bend : Int) (n j : Nat) : bw xs bend n (j + 1) = (max (fw xs bend (n - 1 - (j + 1))).1 ((bw xs bend n j).1 - bend), min (fw xs bend (n - 1 - (j + 1))).2 ((bw xs bend n j).2 + bend)) := rfl
theorem bentL_length (xs : List (Int × Int)) (bend : Int) : (bentL xs bend).length = xs.length := by simp [bentL]
theorem bentL_getD (xs : List (Int × Int)) (bend : Int) (k : Nat) (hk : k < xs.length) : (bentL xs bend).getD k (0, 0) = bw xs bend xs.length (xs.length - 1 - k) := by
  simp [bentL, List.getD, hk]
theorem bentL_in {xs : List (Int × Int)} {bend : Int} (hx : ∀ s ∈ xs, InR s) (hb : 0 ≤ bend) : ∀ s ∈ bentL xs bend, InR s := by
  intro s hs
  simp only [bentL, List.mem_map, List.mem_range] at hs
  obtain ⟨k, hk, rfl⟩ := hs
  exact bw_in hx hb _ (by omega)
end Go.Proofs.Ytiflhimmieflpaa
