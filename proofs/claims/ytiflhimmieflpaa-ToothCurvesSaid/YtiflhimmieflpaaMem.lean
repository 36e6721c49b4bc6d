/- Words for memory: a slice that reads as a list of cells. -/
import Derived.Test.YtiflhimmieflpaaProg
import Derived.WalkKit
import Derived.WalkSpells
import Derived.Lib.Hide
namespace Go.Proofs.Ytiflhimmieflpaa
open Go.RowKit

theorem block_of_add (a : Addr) (n : Nat) : (a.add n).block = a.block := by unfold Addr.add; split <;> rfl
theorem add_of_add (a : Addr) (i j : Nat) : (a.add i).add j = a.add (i + j) := by
  unfold Addr.add
  by_cases hi : i = 0 <;> by_cases hj : j = 0 <;> simp [hi, hj, Nat.add_assoc]

theorem lt_of_cell {w : World} {a : Addr} {v : Value} (h : w.cell? a = some v) : a.block < w.heap.size := by
  rcases Nat.lt_or_ge a.block w.heap.size with hlt | hge
  · exact hlt
  · have : w.heap[a.block]? = none := Array.getElem?_eq_none hge
    simp [World.cell?, this] at h

/-- The slice `.slice A n c` reads as the cells xs, size cells an element. -/
def Reads (w : World) (size : Nat) (A : Option Addr) (n : Nat) (xs : List Value) : Prop :=
  xs.length = n * size ∧ (0 < n → ∃ b off, A = some ⟨b, off, none⟩ ∧ b < w.heap.size ∧ ∀ j u, xs[j]? = some u → w.cell? ⟨b, off + j, none⟩ = some u)

section
variable {w w' : World} {size n : Nat} {A : Option Addr} {xs : List Value}
theorem Reads.none_ : Reads w size A 0 [] := ⟨by simp, fun h => absurd h (by omega)⟩
theorem Reads.below (h : Reads w size A n xs) (hb : Below w.heap.size w w') : Reads w' size A n xs :=
  ⟨h.1, fun hn => by
    obtain ⟨b, off, e, hlt, hc⟩ := h.2 hn
    exact ⟨b, off, e, Nat.lt_of_lt_of_le hlt hb.size, fun j u hu => (hb.cell (p := ⟨b, off + j, none⟩) hlt).trans (hc j u hu)⟩⟩
theorem Reads.at1 {k : Nat} (h : Reads w 1 A n xs) (hk : k < n) : ∃ b off u, A = some ⟨b, off, none⟩ ∧ b < w.heap.size ∧ xs[k]? = some u ∧ w.cell? ⟨b, off + k, none⟩ = some u := by
  obtain ⟨b, off, e, hb, hc⟩ := h.2 (by omega)
  have hl : k < xs.length := by have := h.1; omega
  exact ⟨b, off, xs[k], e, hb, List.getElem?_eq_getElem hl, hc k _ (List.getElem?_eq_getElem hl)⟩
end

/-- ints -/
def Ints (w : World) (A : Option Addr) (n : Nat) (xs : List Int) : Prop := Reads w 1 A n (xs.map (Value.int .i64))
/-- pairs of ints: spans, places -/
def flat2 (xs : List (Int × Int)) : List Value := xs.flatMap fun s => [.int .i64 s.1, .int .i64 s.2]
def Pairs (w : World) (A : Option Addr) (n : Nat) (xs : List (Int × Int)) : Prop := Reads w 2 A n (flat2 xs)

theorem flat2_length (xs : List (Int × Int)) : (flat2 xs).length = xs.length * 2 := by
  unfold flat2; induction xs with
  | nil => rfl
  | cons a r ih => simp only [List.flatMap_cons, List.length_append, ih, List.length_cons, List.length_nil]; omega
theorem flat2_at (xs : List (Int × Int)) (k : Nat) (h : k < xs.length) : (flat2 xs)[k * 2]? = some (.int .i64 (xs[k]).1) ∧ (flat2 xs)[k * 2 + 1]? = some (.int .i64 (xs[k]).2) := by
  unfold flat2; induction xs generalizing k with
  | nil => simp at h
  | cons a r ih =>
    cases k with
    | zero => simp
    | succ m =>
      have := ih m (by simpa using h)
      rw [show (m + 1) * 2 = m * 2 + 2 from by omega]
      simpa using this
section
variable {w w' : World} {n k : Nat} {A : Option Addr}
theorem Ints.len {xs : List Int} (h : Ints w A n xs) : xs.length = n := by have := h.1; simpa using this
theorem Ints.below {xs : List Int} (h : Ints w A n xs) (hb : Below w.heap.size w w') : Ints w' A n xs := Reads.below h hb
theorem Ints.at_ {xs : List Int} (h : Ints w A n xs) (hk : k < n) : ∃ b off, A = some ⟨b, off, none⟩ ∧ b < w.heap.size ∧ w.cell? ⟨b, off + k, none⟩ = some (.int .i64 (xs.getD k 0)) := by
  obtain ⟨b, off, u, e, hb, hx, hc⟩ := Reads.at1 h hk
  have hl : k < xs.length := by rw [h.len]; exact hk
  refine ⟨b, off, e, hb, ?_⟩
  rw [hc, ← hx]; simp [hl, List.getD]
theorem Pairs.len {xs : List (Int × Int)} (h : Pairs w A n xs) : xs.length = n := by have := h.1; rw [flat2_length] at this; omega
theorem Pairs.below {xs : List (Int × Int)} (h : Pairs w A n xs) (hb : Below w.heap.size w w') : Pairs w' A n xs := Reads.below h hb
theorem Pairs.at_ {xs : List (Int × Int)} (h : Pairs w A n xs) (hk : k < n) : ∃ b off, A = some ⟨b, off, none⟩ ∧ b < w.heap.size ∧ w.cell? ⟨b, off + k * 2, none⟩ = some (.int .i64 (xs.getD k (0, 0)).1) ∧ w.cell? ⟨b, off + k * 2 + 1, none⟩ = some (.int .i64 (xs.getD k (0, 0)).2) := by
  obtain ⟨b, off, e, hb, hc⟩ := h.2 (by omega)
  have hl : k < xs.length := by rw [h.len]; exact hk
  have h2 := flat2_at xs k hl
  refine ⟨b, off, e, hb, ?_, ?_⟩
  · rw [hc _ _ h2.1]; simp [hl, List.getD]
  · rw [Nat.add_assoc, hc _ _ h2.2]; simp [hl, List.getD]
end
theorem ints_new1 (w : World) (x : Int) (t : TypeId) {g : Nat} (hg : g = w.heap.size) : Ints (w.alloc (.cells #[.int .i64 x] t)) (some ⟨g, 0, none⟩) 1 [x] := by
  subst hg
  refine ⟨rfl, fun _ => ⟨_, _, rfl, by simp, fun j u hj => ?_⟩⟩
  match j, hj with
  | 0, hj => simp at hj; subst hj; simp
theorem ints_new2 (w : World) (x y : Int) (t : TypeId) {g : Nat} (hg : g = w.heap.size) : Ints (w.alloc (.cells #[.int .i64 x, .int .i64 y] t)) (some ⟨g, 0, none⟩) 2 [x, y] := by
  subst hg
  refine ⟨rfl, fun _ => ⟨_, _, rfl, by simp, fun j u hj => ?_⟩⟩
  match j, hj with
  | 0, hj => simp at hj; subst hj; simp
  | 1, hj => simp at hj; subst hj; simp
theorem pairs_new1 (w : World) (x y : Int) (t : TypeId) {g : Nat} (hg : g = w.heap.size) : Pairs (w.alloc (.cells #[.int .i64 x, .int .i64 y] t)) (some ⟨g, 0, none⟩) 1 [(x, y)] := by
  subst hg
  refine ⟨rfl, fun _ => ⟨_, _, rfl, by simp, fun j u hj => ?_⟩⟩
  match j, hj with
  | 0, hj => simp [flat2] at hj; subst hj; simp
  | 1, hj => simp [flat2] at hj; subst hj; simp
theorem pairs_new2 (w : World) (x y x' y' : Int) (t : TypeId) {g : Nat} (hg : g = w.heap.size) : Pairs (w.alloc (.cells #[.int .i64 x, .int .i64 y, .int .i64 x', .int .i64 y'] t)) (some ⟨g, 0, none⟩) 2 [(x, y), (x', y')] := by
  subst hg
  refine ⟨rfl, fun _ => ⟨_, _, rfl, by simp, fun j u hj => ?_⟩⟩
  match j, hj with
  | 0, hj => simp [flat2] at hj; subst hj; simp
  | 1, hj => simp [flat2] at hj; subst hj; simp
  | 2, hj => simp [flat2] at hj; subst hj; simp
  | 3, hj => simp [flat2] at hj; subst hj; simp
theorem ret_bool {a b : Bool} (h : a = b) : Ending.returned (.bool a) = .returned (.bool b) := by rw [h]
theorem ret_int {k : IntKind} {a b : Int} (h : a = b) : Ending.returned (.int k a) = .returned (.int k b) := by rw [h]
end Go.Proofs.Ytiflhimmieflpaa
