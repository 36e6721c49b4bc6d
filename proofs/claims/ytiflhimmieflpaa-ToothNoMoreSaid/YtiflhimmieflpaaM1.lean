/- Merged: Pure, Mem, Blk, W1, W2, W3, W4, W5, W6, W7, W8, W9. -/
import Derived.Test.YtiflhimmieflpaaProg
import Derived.WalkKit
import Derived.WalkSpells
import Derived.Lib.Hide
import Derived.WalkSmall
import Derived.Deep.QuietTactic
import Derived.Laws.Rows
import Derived.WalkLawsBesides
import Derived.BigQuiet
import Derived.BigRegion
import Derived.StillTailTactics
import Derived.ChangeAlike
import Derived.Lib.LazyBuf
import Derived.Maps.AppendAt
import Derived.Deep.LoopGhost
import Derived.Laws.ResultCell
import Derived.Deep.RegionHeld3
import Derived.Deep.DeepCutAuto

/- Plain functions: what bent comes to. -/
namespace Go.Proofs.Ytiflhimmieflpaa

def fw (xs : List (Int × Int)) (bend : Int) : Nat → Int × Int
  | 0 => xs.getD 0 (0, 0)
  | k + 1 => (max (xs.getD (k + 1) (0, 0)).1 ((fw xs bend k).1 - bend), min (xs.getD (k + 1) (0, 0)).2 ((fw xs bend k).2 + bend))
def fwOk (xs : List (Int × Int)) (bend : Int) (n : Nat) : Bool := (List.range n).all fun k => decide ((fw xs bend k).1 ≤ (fw xs bend k).2)
/-- j steps from the end, of n columns. -/
def bw (xs : List (Int × Int)) (bend : Int) (n : Nat) : Nat → Int × Int
  | 0 => fw xs bend (n - 1)
  | j + 1 => (max (fw xs bend (n - 1 - (j + 1))).1 ((bw xs bend n j).1 - bend), min (fw xs bend (n - 1 - (j + 1))).2 ((bw xs bend n j).2 + bend))
def bentL (xs : List (Int × Int)) (bend : Int) : List (Int × Int) := (List.range xs.length).map fun k => bw xs bend xs.length (xs.length - 1 - k)
def bentOk (xs : List (Int × Int)) (bend : Int) : Bool := fwOk xs bend xs.length

def InR (s : Int × Int) : Prop := 0 ≤ s.1 ∧ s.1 ≤ 300 ∧ 0 ≤ s.2 ∧ s.2 ≤ 300
theorem fwOk_succ (xs : List (Int × Int)) (bend : Int) (k : Nat) : fwOk xs bend (k + 1) = (fwOk xs bend k && decide ((fw xs bend k).1 ≤ (fw xs bend k).2)) := by
  simp [fwOk, List.range_succ, List.all_append]
theorem fwOk_no {xs : List (Int × Int)} {bend : Int} {k n : Nat} (hk : k < n) (h : decide ((fw xs bend k).1 ≤ (fw xs bend k).2) = false) : fwOk xs bend n = false := by
  unfold fwOk
  rw [List.all_eq_false]
  exact ⟨k, List.mem_range.2 hk, by rw [h]; decide⟩
theorem fw_in {xs : List (Int × Int)} {bend : Int} (hx : ∀ s ∈ xs, InR s) (hb : 0 ≤ bend) (k : Nat) (hk : k < xs.length) : InR (fw xs bend k) := by
  have hg : ∀ i, i < xs.length → InR (xs.getD i (0, 0)) := fun i hi => by
    have : xs.getD i (0, 0) = xs[i] := by simp [hi, List.getD]
    rw [this]
    exact hx _ (List.getElem_mem hi)
  induction k with
  | zero => exact hg 0 hk
  | succ k ih =>
    have h1 := ih (by omega)
    have h2 := hg (k + 1) hk
    unfold InR at *
    simp only [fw]
    omega
theorem bw_in {xs : List (Int × Int)} {bend : Int} (hx : ∀ s ∈ xs, InR s) (hb : 0 ≤ bend) (j : Nat) (hj : j < xs.length) : InR (bw xs bend xs.length j) := by
  induction j with
  | zero => exact fw_in hx hb _ (by omega)
  | succ j ih =>
    have h1 := ih (by omega)
    have h2 := fw_in hx hb (xs.length - 1 - (j + 1)) (by omega)
    unfold InR at *
    simp only [bw]
    omega
theorem fw_zero (xs : List (Int × Int)) (bend : Int) : fw xs bend 0 = xs.getD 0 (0, 0) := rfl
theorem fw_succ (xs : List (Int × Int)) (bend : Int) (k : Nat) : fw xs bend (k + 1) = (max (xs.getD (k + 1) (0, 0)).1 ((fw xs bend k).1 - bend), min (xs.getD (k + 1) (0, 0)).2 ((fw xs bend k).2 + bend)) := rfl
theorem bw_zero (xs : List (Int × Int)) (bend : Int) (n : Nat) : bw xs bend n 0 = fw xs bend (n - 1) := rfl
theorem bw_succ (xs : List (Int × Int)) (bend : Int) (n j : Nat) : bw xs bend n (j + 1) = (max (fw xs bend (n - 1 - (j + 1))).1 ((bw xs bend n j).1 - bend), min (fw xs bend (n - 1 - (j + 1))).2 ((bw xs bend n j).2 + bend)) := rfl
theorem bentL_length (xs : List (Int × Int)) (bend : Int) : (bentL xs bend).length = xs.length := by simp [bentL]
theorem bentL_getD (xs : List (Int × Int)) (bend : Int) (k : Nat) (hk : k < xs.length) : (bentL xs bend).getD k (0, 0) = bw xs bend xs.length (xs.length - 1 - k) := by
  simp [bentL, List.getD, hk]
theorem bentL_in {xs : List (Int × Int)} {bend : Int} (hx : ∀ s ∈ xs, InR s) (hb : 0 ≤ bend) : ∀ s ∈ bentL xs bend, InR s := by
  intro s hs
  simp only [bentL, List.mem_map, List.mem_range] at hs
  obtain ⟨k, hk, rfl⟩ := hs
  exact bw_in hx hb _ (by omega)
end Go.Proofs.Ytiflhimmieflpaa

/- Words for memory: a slice that reads as a list of cells. -/
namespace Go.Proofs.Ytiflhimmieflpaa
open Go.RowKit

theorem block_of_add (a : Addr) (n : Nat) : (a.add n).block = a.block := by unfold Addr.add; split <;> rfl
theorem add_of_add (a : Addr) (i j : Nat) : (a.add i).add j = a.add (i + j) := by
  unfold Addr.add
  by_cases hi : i = 0 <;> by_cases hj : j = 0 <;> simp [hi, hj, Nat.add_assoc]

theorem lt_of_cell {w : World} {a : Addr} {v : Value} (h : w.cell? a = some v) : a.block < w.heap.size := by
  rcases Nat.lt_or_ge a.block w.heap.size with hlt | hge
  · exact hlt
  · have : w.heap[a.block]? = none := Array.getElem?_eq_none hge
    simp [World.cell?, this] at h

/-- The slice `.slice A n c` reads as the cells xs, size cells an element. -/
def Reads (w : World) (size : Nat) (A : Option Addr) (n : Nat) (xs : List Value) : Prop :=
  xs.length = n * size ∧ (0 < n → ∃ b off, A = some ⟨b, off, none⟩ ∧ b < w.heap.size ∧ ∀ j u, xs[j]? = some u → w.cell? ⟨b, off + j, none⟩ = some u)

section
variable {w w' : World} {size n : Nat} {A : Option Addr} {xs : List Value}
theorem Reads.none_ : Reads w size A 0 [] := ⟨by simp, fun h => absurd h (by omega)⟩
theorem Reads.below (h : Reads w size A n xs) (hb : Below w.heap.size w w') : Reads w' size A n xs :=
  ⟨h.1, fun hn => by
    obtain ⟨b, off, e, hlt, hc⟩ := h.2 hn
    exact ⟨b, off, e, Nat.lt_of_lt_of_le hlt hb.size, fun j u hu => (hb.cell (p := ⟨b, off + j, none⟩) hlt).trans (hc j u hu)⟩⟩
theorem Reads.at1 {k : Nat} (h : Reads w 1 A n xs) (hk : k < n) : ∃ b off u, A = some ⟨b, off, none⟩ ∧ b < w.heap.size ∧ xs[k]? = some u ∧ w.cell? ⟨b, off + k, none⟩ = some u := by
  obtain ⟨b, off, e, hb, hc⟩ := h.2 (by omega)
  have hl : k < xs.length := by have := h.1; omega
  exact ⟨b, off, xs[k], e, hb, List.getElem?_eq_getElem hl, hc k _ (List.getElem?_eq_getElem hl)⟩
end

/-- ints -/
def Ints (w : World) (A : Option Addr) (n : Nat) (xs : List Int) : Prop := Reads w 1 A n (xs.map (Value.int .i64))
/-- pairs of ints: spans, places -/
def flat2 (xs : List (Int × Int)) : List Value := xs.flatMap fun s => [.int .i64 s.1, .int .i64 s.2]
def Pairs (w : World) (A : Option Addr) (n : Nat) (xs : List (Int × Int)) : Prop := Reads w 2 A n (flat2 xs)

theorem flat2_length (xs : List (Int × Int)) : (flat2 xs).length = xs.length * 2 := by
  unfold flat2; induction xs with
  | nil => rfl
  | cons a r ih => simp only [List.flatMap_cons, List.length_append, ih, List.length_cons, List.length_nil]; omega
theorem flat2_at (xs : List (Int × Int)) (k : Nat) (h : k < xs.length) : (flat2 xs)[k * 2]? = some (.int .i64 (xs[k]).1) ∧ (flat2 xs)[k * 2 + 1]? = some (.int .i64 (xs[k]).2) := by
  unfold flat2; induction xs generalizing k with
  | nil => simp at h
  | cons a r ih =>
    cases k with
    | zero => simp
    | succ m =>
      have := ih m (by simpa using h)
      rw [show (m + 1) * 2 = m * 2 + 2 from by omega]
      simpa using this
section
variable {w w' : World} {n k : Nat} {A : Option Addr}
theorem Ints.len {xs : List Int} (h : Ints w A n xs) : xs.length = n := by have := h.1; simpa using this
theorem Ints.below {xs : List Int} (h : Ints w A n xs) (hb : Below w.heap.size w w') : Ints w' A n xs := Reads.below h hb
theorem Ints.at_ {xs : List Int} (h : Ints w A n xs) (hk : k < n) : ∃ b off, A = some ⟨b, off, none⟩ ∧ b < w.heap.size ∧ w.cell? ⟨b, off + k, none⟩ = some (.int .i64 (xs.getD k 0)) := by
  obtain ⟨b, off, u, e, hb, hx, hc⟩ := Reads.at1 h hk
  have hl : k < xs.length := by rw [h.len]; exact hk
  refine ⟨b, off, e, hb, ?_⟩
  rw [hc, ← hx]; simp [hl, List.getD]
theorem Pairs.len {xs : List (Int × Int)} (h : Pairs w A n xs) : xs.length = n := by have := h.1; rw [flat2_length] at this; omega
theorem Pairs.below {xs : List (Int × Int)} (h : Pairs w A n xs) (hb : Below w.heap.size w w') : Pairs w' A n xs := Reads.below h hb
theorem Pairs.at_ {xs : List (Int × Int)} (h : Pairs w A n xs) (hk : k < n) : ∃ b off, A = some ⟨b, off, none⟩ ∧ b < w.heap.size ∧ w.cell? ⟨b, off + k * 2, none⟩ = some (.int .i64 (xs.getD k (0, 0)).1) ∧ w.cell? ⟨b, off + k * 2 + 1, none⟩ = some (.int .i64 (xs.getD k (0, 0)).2) := by
  obtain ⟨b, off, e, hb, hc⟩ := h.2 (by omega)
  have hl : k < xs.length := by rw [h.len]; exact hk
  have h2 := flat2_at xs k hl
  refine ⟨b, off, e, hb, ?_, ?_⟩
  · rw [hc _ _ h2.1]; simp [hl, List.getD]
  · rw [Nat.add_assoc, hc _ _ h2.2]; simp [hl, List.getD]
end
theorem ints_new1 (w : World) (x : Int) (t : TypeId) {g : Nat} (hg : g = w.heap.size) : Ints (w.alloc (.cells #[.int .i64 x] t)) (some ⟨g, 0, none⟩) 1 [x] := by
  subst hg
  refine ⟨rfl, fun _ => ⟨_, _, rfl, by simp, fun j u hj => ?_⟩⟩
  match j, hj with
  | 0, hj => simp at hj; subst hj; simp
theorem ints_new2 (w : World) (x y : Int) (t : TypeId) {g : Nat} (hg : g = w.heap.size) : Ints (w.alloc (.cells #[.int .i64 x, .int .i64 y] t)) (some ⟨g, 0, none⟩) 2 [x, y] := by
  subst hg
  refine ⟨rfl, fun _ => ⟨_, _, rfl, by simp, fun j u hj => ?_⟩⟩
  match j, hj with
  | 0, hj => simp at hj; subst hj; simp
  | 1, hj => simp at hj; subst hj; simp
theorem pairs_new1 (w : World) (x y : Int) (t : TypeId) {g : Nat} (hg : g = w.heap.size) : Pairs (w.alloc (.cells #[.int .i64 x, .int .i64 y] t)) (some ⟨g, 0, none⟩) 1 [(x, y)] := by
  subst hg
  refine ⟨rfl, fun _ => ⟨_, _, rfl, by simp, fun j u hj => ?_⟩⟩
  match j, hj with
  | 0, hj => simp [flat2] at hj; subst hj; simp
  | 1, hj => simp [flat2] at hj; subst hj; simp
theorem pairs_new2 (w : World) (x y x' y' : Int) (t : TypeId) {g : Nat} (hg : g = w.heap.size) : Pairs (w.alloc (.cells #[.int .i64 x, .int .i64 y, .int .i64 x', .int .i64 y'] t)) (some ⟨g, 0, none⟩) 2 [(x, y), (x', y')] := by
  subst hg
  refine ⟨rfl, fun _ => ⟨_, _, rfl, by simp, fun j u hj => ?_⟩⟩
  match j, hj with
  | 0, hj => simp [flat2] at hj; subst hj; simp
  | 1, hj => simp [flat2] at hj; subst hj; simp
  | 2, hj => simp [flat2] at hj; subst hj; simp
  | 3, hj => simp [flat2] at hj; subst hj; simp
theorem ret_bool {a b : Bool} (h : a = b) : Ending.returned (.bool a) = .returned (.bool b) := by rw [h]
theorem ret_int {k : IntKind} {a b : Int} (h : a = b) : Ending.returned (.int k a) = .returned (.int k b) := by rw [h]
end Go.Proofs.Ytiflhimmieflpaa

/- A block that is known whole. -/
namespace Go.Proofs.Ytiflhimmieflpaa
open Go.RowKit

/-- Block g is just these cells, none of them frozen. -/
def Blk (w : World) (g : Nat) (t : TypeId) (cs : Array Value) : Prop := w.heap[g]? = some (.cells cs t (0, 0))
section
variable {w w' : World} {g : Nat} {t : TypeId} {cs : Array Value}
theorem Blk.lt (h : Blk w g t cs) : g < w.heap.size := by
  rcases Nat.lt_or_ge g w.heap.size with hlt | hge
  · exact hlt
  · unfold Blk at h; rw [Array.getElem?_eq_none hge] at h; cases h
theorem Blk.cell (h : Blk w g t cs) (i : Nat) : w.cell? ⟨g, i, none⟩ = cs[i]? := cell_of_row w g i cs t (0, 0) h
theorem Blk.frozen (h : Blk w g t cs) (i : Nat) : w.frozen? ⟨g, i, none⟩ = false := by
  unfold Blk at h
  simp [World.frozen?, h]
theorem Blk.new (w : World) (t : TypeId) (cs : Array Value) {g : Nat} (hg : g = w.heap.size) : Blk (w.alloc (.cells cs t)) g t cs := by subst hg; exact heap_alloc_new w _
theorem Blk.alloc (h : Blk w g t cs) (o : Obj) : Blk (w.alloc o) g t cs := (Below.heap_alloc w o g h.lt).trans h
theorem Blk.set_ (h : Blk w g t cs) (i : Nat) (u : Value) : Blk (w.setCell ⟨g, i, none⟩ u) g t (cs.setIfInBounds i u) := by
  unfold Blk at h ⊢
  simp [World.setCell, Array.getElem?_modify, h]
theorem Blk.far (h : Blk w g t cs) {p : Addr} (hp : g ≠ p.block) (u : Value) : Blk (w.setCell p u) g t cs := (Below.heap_setCell w p u g hp).trans h
theorem Blk.below {B : Nat} (h : Blk w g t cs) (hb : Below B w w') (hg : g < B) : Blk w' g t cs := (hb.block g hg).trans h
theorem Blk.drewN (h : Blk w g t cs) (n : Nat) : Blk (w.drewN n) g t cs := h
end
end Go.Proofs.Ytiflhimmieflpaa

/- Walks: span.Within, span.Valid. -/
namespace Go.Proofs.Ytiflhimmieflpaa
open Go.RowKit

def within (lo hi : Int) (xs : List Int) : Bool := xs.all fun n => decide (lo ≤ n) && decide (n ≤ hi)

theorem within_take {lo hi : Int} {xs : List Int} {k : Nat} (hk : k < xs.length) : within lo hi (xs.take (k + 1)) = (within lo hi (xs.take k) && (decide (lo ≤ xs.getD k 0) && decide (xs.getD k 0 ≤ hi))) := by
  unfold within
  rw [List.take_succ_eq_append_getElem hk, List.all_append]
  simp [hk, List.getD]
theorem within_no {lo hi : Int} {xs : List Int} {k : Nat} (hk : k < xs.length) (h : (decide (lo ≤ xs.getD k 0) && decide (xs.getD k 0 ≤ hi)) = false) : within lo hi xs = false := by
  have h2 := within_take (lo := lo) (hi := hi) hk
  rw [h, Bool.and_false] at h2
  unfold within at *
  rw [← List.take_append_drop (k + 1) xs, List.all_append, h2, Bool.false_and]

set_option maxHeartbeats 400000 in
theorem within_any (lo hi : Int) (A : Option Addr) (n c : Nat) (xs : List Int) (w : World) (h : Ints w A n xs) (hn : n ≤ maxLen) :
    Calls Try.prog 88 #[.int .i64 lo, .int .i64 hi, .slice A n c] w fun e w' => e = .returned (.bool (within lo hi xs)) ∧ w = w' := by
  unfold maxLen at hn
  have hl := h.len
  go_enter Try.func88, Try.ntmps88
  go_wp2
  go_loop [11] (fun i => ∃ k : Nat, k ≤ n ∧ i = .int .i64 k ∧ within lo hi (xs.take k) = true) (fun i => n - (intOf i).toNat)
  case atStart => exact ⟨0, Nat.zero_le _, rfl, rfl⟩
  case round =>
    obtain ⟨k, hk, rfl, hin⟩ := hrel
    by_cases hlt : k < n
    · obtain ⟨b, off, rfl, hb, hc⟩ := h.at_ hlt
      have hx : k < xs.length := by omega
      have H := Lib.hid (within_take (lo := lo) (hi := hi) hx)
      have Hin := Lib.hid hin
      have Hno := Lib.hid (within_no (lo := lo) (hi := hi) hx)
      clear hin hl
      generalize xs.getD k 0 = y at *
      by_cases h1 : y < lo
      · go_wp2
        go_ret
        exact ⟨ret_bool (Hno.out (by simp; omega)).symm, rfl⟩
      · by_cases h2 : hi < y
        · go_wp2
          go_ret
          exact ⟨ret_bool (Hno.out (by simp; omega)).symm, rfl⟩
        · go_wp2
          go_round
          case rel => exact ⟨k + 1, by omega, by go_num, by rw [H.out, Hin.out]; simp; omega⟩
          case measure => simp [intOf]; omega
    · have he : within lo hi xs = true := by rw [← hin, List.take_of_length_le (by omega)]
      clear hin
      have He := Lib.hid he
      clear he
      go_wp2
      go_ret
      exact ⟨ret_bool He.out.symm, rfl⟩
theorem within1 (lo hi x : Int) (t : TypeId) (g : Nat) (w : World) (hg : g = w.heap.size) : Calls Try.prog 88 #[.int .i64 lo, .int .i64 hi, .slice (some ⟨g, 0, none⟩) 1 1] (w.alloc (.cells #[.int .i64 x] t))
    fun e w' => e = .returned (.bool (within lo hi [x])) ∧ w.alloc (.cells #[.int .i64 x] t) = w' := within_any lo hi _ 1 1 [x] _ (ints_new1 w x t hg) (by decide)
theorem within2 (lo hi x y : Int) (t : TypeId) (g : Nat) (w : World) (hg : g = w.heap.size) : Calls Try.prog 88 #[.int .i64 lo, .int .i64 hi, .slice (some ⟨g, 0, none⟩) 2 2] (w.alloc (.cells #[.int .i64 x, .int .i64 y] t))
    fun e w' => e = .returned (.bool (within lo hi [x, y])) ∧ w.alloc (.cells #[.int .i64 x, .int .i64 y] t) = w' := within_any lo hi _ 2 2 [x, y] _ (ints_new2 w x y t hg) (by decide)

def validS (lo hi : Int) (xs : List (Int × Int)) : Bool := xs.all fun s => decide (s.1 ≤ s.2) && (decide (lo ≤ s.1) && decide (s.1 ≤ hi) && (decide (lo ≤ s.2) && decide (s.2 ≤ hi)))
theorem validS_take {lo hi : Int} {xs : List (Int × Int)} {k : Nat} (hk : k < xs.length) : validS lo hi (xs.take (k + 1)) = (validS lo hi (xs.take k) &&
    (decide ((xs.getD k (0, 0)).1 ≤ (xs.getD k (0, 0)).2) && (decide (lo ≤ (xs.getD k (0, 0)).1) && decide ((xs.getD k (0, 0)).1 ≤ hi) && (decide (lo ≤ (xs.getD k (0, 0)).2) && decide ((xs.getD k (0, 0)).2 ≤ hi))))) := by
  unfold validS
  rw [List.take_succ_eq_append_getElem hk, List.all_append]
  simp [hk, List.getD]
theorem validS_no {lo hi : Int} {xs : List (Int × Int)} {k : Nat} (hk : k < xs.length) (h : (decide ((xs.getD k (0, 0)).1 ≤ (xs.getD k (0, 0)).2) && (decide (lo ≤ (xs.getD k (0, 0)).1) && decide ((xs.getD k (0, 0)).1 ≤ hi) && (decide (lo ≤ (xs.getD k (0, 0)).2) && decide ((xs.getD k (0, 0)).2 ≤ hi)))) = false) : validS lo hi xs = false := by
  have h2 := validS_take (lo := lo) (hi := hi) hk
  rw [h, Bool.and_false] at h2
  unfold validS at *
  rw [← List.take_append_drop (k + 1) xs, List.all_append, h2, Bool.false_and]

set_option maxHeartbeats 400000 in
theorem valid_any (lo hi : Int) (A : Option Addr) (n c : Nat) (xs : List (Int × Int)) (w : World) (h : Pairs w A n xs) (hn : n ≤ maxLen) :
    Calls Try.prog 111 #[.int .i64 lo, .int .i64 hi, .slice A n c] w fun e w' => e = .returned (.bool (validS lo hi xs)) ∧ Below w.heap.size w w' := by
  unfold maxLen at hn
  have hl := h.len
  go_enter Try.func111, Try.ntmps111
  go_wp2
  go_loopw [11] (fun i wr => ∃ k : Nat, k ≤ n ∧ i = .int .i64 k ∧ validS lo hi (xs.take k) = true ∧ Below w.heap.size w wr) (fun i _ => n - (intOf i).toNat)
  case atStart => exact ⟨0, Nat.zero_le _, rfl, rfl, Below.refl _ _⟩
  case round =>
    obtain ⟨k, hk, rfl, hin, hbel⟩ := hrel
    by_cases hlt : k < n
    · obtain ⟨b, off, rfl, hb, hc1, hc2⟩ := (h.below hbel).at_ hlt
      have hx : k < xs.length := by omega
      have H := Lib.hid (validS_take (lo := lo) (hi := hi) hx)
      have Hin := Lib.hid hin
      have Hno := Lib.hid (validS_no (lo := lo) (hi := hi) hx)
      clear hin hl
      generalize xs.getD k (0, 0) = y at *
      have hw : within lo hi [y.1, y.2] = (decide (lo ≤ y.1) && decide (y.1 ≤ hi) && (decide (lo ≤ y.2) && decide (y.2 ≤ hi))) := by simp [within]
      rw [← hw] at H Hno
      clear hw
      by_cases h1 : y.2 < y.1
      · go_wp2
        go_ret
        exact ⟨ret_bool (Hno.out (by simp; omega)).symm, hbel.trans ((Below.refl _ _).alloc hbel.size _)⟩
      · cases hq : within lo hi [y.1, y.2]
        · go_wp2_with (go_at_call 88; refine (within2 _ _ _ _ _ _ _ (by simp)).mono ?_; rintro e w' ⟨rfl, rfl⟩)
          go_ret
          exact ⟨ret_bool (Hno.out (by simp [hq])).symm, hbel.trans (((Below.refl _ _).alloc hbel.size _).alloc (by simp; have := hbel.size; omega) _)⟩
        · go_wp2_with (go_at_call 88; refine (within2 _ _ _ _ _ _ _ (by simp)).mono ?_; rintro e w' ⟨rfl, rfl⟩)
          go_roundw
          case rel => exact ⟨k + 1, by omega, by go_num, by rw [H.out, Hin.out, hq]; simp; omega, hbel.trans (((Below.refl _ _).alloc hbel.size _).alloc (by simp; have := hbel.size; omega) _)⟩
          case measure => simp [intOf]; omega
    · have he : validS lo hi xs = true := by rw [← hin, List.take_of_length_le (by omega)]
      clear hin
      have He := Lib.hid he
      clear he
      go_wp2
      go_ret
      exact ⟨ret_bool He.out.symm, hbel⟩
end Go.Proofs.Ytiflhimmieflpaa

/- Walks: edgesValid. -/
namespace Go.Proofs.Ytiflhimmieflpaa
open Go.RowKit

def below2 (bot top : List (Int × Int)) (k : Nat) : Bool := (List.range k).all fun j => decide ((bot.getD j (0, 0)).2 ≤ (top.getD j (0, 0)).1)
theorem below2_succ (bot top : List (Int × Int)) (k : Nat) : below2 bot top (k + 1) = (below2 bot top k && decide ((bot.getD k (0, 0)).2 ≤ (top.getD k (0, 0)).1)) := by
  simp [below2, List.range_succ, List.all_append]
theorem below2_no {bot top : List (Int × Int)} {k n : Nat} (hk : k < n) (h : decide ((bot.getD k (0, 0)).2 ≤ (top.getD k (0, 0)).1) = false) : below2 bot top n = false := by
  unfold below2
  rw [List.all_eq_false]
  exact ⟨k, List.mem_range.2 hk, by rw [h]; decide⟩
def edgesOk (bend : Int) (bot top : List (Int × Int)) : Bool := within 0 300 [bend] && validS 0 300 bot && validS 0 300 top && below2 bot top bot.length

set_option maxHeartbeats 800000 in
theorem edges_any (A A' K : Option Addr) (n c c' m d : Nat) (bend : Int) (bot top : List (Int × Int)) (w : World) (h : Pairs w A n bot) (h' : Pairs w A' n top) (hn : n ≤ maxLen) :
    Calls Try.prog 95 #[.agg #[.slice A n c, .slice A' n c', .int .i64 bend, .slice K m d]] w
      fun e w' => e = .returned (.bool (edgesOk bend bot top)) ∧ Below w.heap.size w w' := by
  have hl := h.len
  have HE : Hid (edgesOk bend bot top = (within 0 300 [bend] && validS 0 300 bot && validS 0 300 top && below2 bot top n)) := by unfold Hid edgesOk; rw [hl]
  clear hl
  have hno1 : ∀ W : World, Below w.heap.size w ((w.alloc (.cells #[.slice A n c, .slice A' n c', .int .i64 bend, .slice K m d] 25)).alloc (.cells #[.int .i64 bend] 3)) := fun _ => ((Below.refl _ _).alloc (Nat.le_refl _) _).alloc (by simp) _
  cases q1 : within 0 300 [bend]
  · go_enter Try.func95, Try.ntmps95
    go_wp2_with (go_at_call 88; refine (within1 _ _ _ _ _ _ (by simp)).mono ?_; rintro e w' ⟨rfl, rfl⟩)
    go_ret
    exact ⟨ret_bool (by rw [HE.out, q1]; rfl), hno1 w⟩
  have B1 := hno1 w
  clear hno1
  have P1 := h.below B1
  cases q2 : validS 0 300 bot
  · go_enter Try.func95, Try.ntmps95
    go_wp2_with (first | (go_at_call 88; refine (within1 _ _ _ _ _ _ (by simp)).mono ?_; rintro e w' ⟨rfl, rfl⟩) | (go_at_call 111; refine (valid_any _ _ _ _ _ _ _ P1 hn).mono ?_; rintro e w2 ⟨rfl, hb2⟩))
    go_ret
    exact ⟨ret_bool (by rw [HE.out, q1, q2]; rfl), B1.trans (hb2.mono B1.size)⟩
  cases q3 : validS 0 300 top
  · go_enter Try.func95, Try.ntmps95
    go_wp2_with (go_at_call 88; refine (within1 _ _ _ _ _ _ (by simp)).mono ?_; rintro e w' ⟨rfl, rfl⟩)
    refine (valid_any _ _ _ _ _ _ _ P1 hn).mono ?_
    rintro e w2 ⟨rfl, hb2⟩
    have c1 : w2.cell? ⟨w.heap.size, 1, none⟩ = some (.slice A' n c') := (hb2.cell (p := ⟨w.heap.size, 1, none⟩) (by simp <;> omega)).trans (by simp)
    have P2 := h'.below (B1.trans (hb2.mono B1.size))
    go_wp2_with (go_at_call 111; refine (valid_any _ _ _ _ _ _ _ P2 hn).mono ?_; rintro e w3 ⟨rfl, hb3⟩)
    go_ret
    exact ⟨ret_bool (by rw [HE.out, q1, q2, q3]; rfl), (B1.trans (hb2.mono B1.size)).trans (hb3.mono (B1.trans (hb2.mono B1.size)).size)⟩
  have P2 := fun w2 hb2 => h'.below (B1.trans (Below.mono (w' := w2) hb2 B1.size))
  unfold maxLen at hn
  go_enter Try.func95, Try.ntmps95
  go_wp2_with (go_at_call 88; refine (within1 _ _ _ _ _ _ (by simp)).mono ?_; rintro e w' ⟨rfl, rfl⟩)
  refine (valid_any _ _ _ _ _ _ _ P1 hn).mono ?_
  rintro e w2 ⟨rfl, hb2⟩
  have hz2 : w.heap.size + 2 ≤ w2.heap.size := by have := hb2.size; simpa using this
  have c1 : w2.cell? ⟨w.heap.size, 1, none⟩ = some (.slice A' n c') := (hb2.cell (p := ⟨w.heap.size, 1, none⟩) (by simp <;> omega)).trans (by simp)
  have c0 : w2.cell? ⟨w.heap.size, 0, none⟩ = some (.slice A n c) := (hb2.cell (p := ⟨w.heap.size, 0, none⟩) (by simp <;> omega)).trans (by simp)
  replace P2 := P2 w2 hb2
  have B2 := B1.trans (hb2.mono B1.size)
  clear hb2 B1 P1
  go_wp2_with fail
  refine (valid_any _ _ _ _ _ _ _ P2 hn).mono ?_
  rintro e w3 ⟨rfl, hb3⟩
  have d1 : w3.cell? ⟨w.heap.size, 1, none⟩ = some (.slice A' n c') := (hb3.cell (p := ⟨w.heap.size, 1, none⟩) (by show w.heap.size < w2.heap.size; omega)).trans c1
  have d0 : w3.cell? ⟨w.heap.size, 0, none⟩ = some (.slice A n c) := (hb3.cell (p := ⟨w.heap.size, 0, none⟩) (by show w.heap.size < w2.heap.size; omega)).trans c0
  have hz3 : w.heap.size < w3.heap.size := by have := hb3.size; omega
  have B3 := B2.trans (hb3.mono B2.size)
  clear hb3 B2 c0 c1 P2 hz2
  go_wp2
  go_loopw [24] (fun i wr => ∃ k : Nat, k ≤ n ∧ i = .int .i64 k ∧ below2 bot top k = true ∧ Below w3.heap.size w3 wr) (fun i _ => n - (intOf i).toNat)
  case atStart => exact ⟨0, Nat.zero_le _, rfl, rfl, Below.refl _ _⟩
  case round =>
    obtain ⟨k, hk, rfl, hin, hbel⟩ := hrel
    by_cases hlt : k < n
    · obtain ⟨b, off, rfl, hb, hc1, hc2⟩ := (h.below (B3.trans (hbel.mono B3.size))).at_ hlt
      obtain ⟨b', off', rfl, hb', hc1', hc2'⟩ := (h'.below (B3.trans (hbel.mono B3.size))).at_ hlt
      have e1 : wr.cell? ⟨w.heap.size, 1, none⟩ = some (.slice (some ⟨b', off', none⟩) n c') := (hbel.cell (p := ⟨w.heap.size, 1, none⟩) hz3).trans d1
      have e0 : wr.cell? ⟨w.heap.size, 0, none⟩ = some (.slice (some ⟨b, off, none⟩) n c) := (hbel.cell (p := ⟨w.heap.size, 0, none⟩) hz3).trans d0
      have H := Lib.hid (below2_succ bot top k)
      have Hin := Lib.hid hin
      have Hno := Lib.hid (below2_no (bot := bot) (top := top) hlt)
      clear hin d1 d0
      generalize bot.getD k (0, 0) = y at *
      generalize top.getD k (0, 0) = y' at *
      by_cases h1 : y'.1 < y.2
      · go_wp2
        go_quiet (fail)
        go_wp2
        go_ret
        exact ⟨ret_bool (by rw [HE.out, q1, q2, q3, Hno.out (by simp; omega)]; rfl), B3.trans ((below_drewN hbel _).mono B3.size)⟩
      · go_wp2
        go_quiet (fail)
        go_wp2
        go_roundw
        case rel => exact ⟨k + 1, by omega, by go_num, by rw [H.out, Hin.out]; simp; omega, below_drewN hbel _⟩
        case measure => simp [intOf]; omega
    · have he : below2 bot top n = true := by rw [← hin, show k = n from by omega]
      clear hin
      have He := Lib.hid he
      clear he
      go_wp2
      go_ret
      exact ⟨ret_bool (by rw [HE.out, q1, q2, q3, He.out]; rfl), B3.trans (hbel.mono B3.size)⟩
end Go.Proofs.Ytiflhimmieflpaa

/- Walks: crackValid, curve's closure, slices.IndexFunc and ContainsFunc over cracks. -/
namespace Go.Proofs.Ytiflhimmieflpaa
open Go.RowKit

structure Crack where
  cl : Int
  ch : Int
  fl : Int
  fh : Int
  tl : Int
  th : Int
def Crack.cells (k : Crack) : List Value := [.int .i64 k.cl, .int .i64 k.ch, .int .i64 k.fl, .int .i64 k.fh, .int .i64 k.tl, .int .i64 k.th]
def Crack.zero : Crack := ⟨0, 0, 0, 0, 0, 0⟩
def flat6 (xs : List Crack) : List Value := xs.flatMap Crack.cells
def Cracks (w : World) (A : Option Addr) (n : Nat) (xs : List Crack) : Prop := Reads w 6 A n (flat6 xs)

theorem flat6_length (xs : List Crack) : (flat6 xs).length = xs.length * 6 := by
  unfold flat6; induction xs with
  | nil => rfl
  | cons a r ih => simp only [List.flatMap_cons, List.length_append, ih, List.length_cons, Crack.cells, List.length_nil]; omega
theorem flat6_at (xs : List Crack) (k j : Nat) (h : k < xs.length) (hj : j < 6) : (flat6 xs)[k * 6 + j]? = (xs[k]).cells[j]? := by
  unfold flat6; induction xs generalizing k with
  | nil => simp at h
  | cons a r ih =>
    cases k with
    | zero => rw [List.flatMap_cons, List.getElem?_append_left (by simp [Crack.cells]; omega)]; simp
    | succ m =>
      rw [List.flatMap_cons, List.getElem?_append_right (by simp [Crack.cells]; omega)]
      have := ih m (by simpa using h)
      simp only [Crack.cells, List.length_cons, List.length_nil] at this ⊢
      rw [show (m + 1) * 6 + j - (0 + 1 + 1 + 1 + 1 + 1 + 1) = m * 6 + j from by omega, this]
      simp
section
variable {w w' : World} {n k : Nat} {A : Option Addr} {xs : List Crack}
theorem Cracks.len (h : Cracks w A n xs) : xs.length = n := by have := h.1; rw [flat6_length] at this; omega
theorem Cracks.below (h : Cracks w A n xs) (hb : Below w.heap.size w w') : Cracks w' A n xs := Reads.below h hb
theorem Cracks.at_ (h : Cracks w A n xs) (hk : k < n) : ∃ b off, A = some ⟨b, off, none⟩ ∧ b < w.heap.size ∧ w.cell? ⟨b, off + k * 6, none⟩ = some (.int .i64 (xs.getD k Crack.zero).cl) ∧ w.cell? ⟨b, off + k * 6 + 1, none⟩ = some (.int .i64 (xs.getD k Crack.zero).ch) ∧
    w.cell? ⟨b, off + k * 6 + 2, none⟩ = some (.int .i64 (xs.getD k Crack.zero).fl) ∧ w.cell? ⟨b, off + k * 6 + 3, none⟩ = some (.int .i64 (xs.getD k Crack.zero).fh) ∧
    w.cell? ⟨b, off + k * 6 + 4, none⟩ = some (.int .i64 (xs.getD k Crack.zero).tl) ∧ w.cell? ⟨b, off + k * 6 + 5, none⟩ = some (.int .i64 (xs.getD k Crack.zero).th) := by
  obtain ⟨b, off, e, hb, hc⟩ := h.2 (by omega)
  have hl : k < xs.length := by rw [h.len]; exact hk
  have hx : xs.getD k Crack.zero = xs[k] := by simp [hl, List.getD]
  have g : ∀ j u, j < 6 → (xs[k]).cells[j]? = some u → w.cell? ⟨b, off + k * 6 + j, none⟩ = some u := fun j u hj hu => by
    rw [Nat.add_assoc]
    exact hc _ _ ((flat6_at xs k j hl hj).trans hu)
  rw [hx]
  exact ⟨b, off, e, hb, g 0 _ (by omega) rfl, g 1 _ (by omega) rfl, g 2 _ (by omega) rfl, g 3 _ (by omega) rfl, g 4 _ (by omega) rfl, g 5 _ (by omega) rfl⟩
end

def crackOk (columns : Int) (k : Crack) : Bool := validS 0 (columns - 1) [(k.cl, k.ch)] && decide (k.ch - k.cl < 5) && validS 0 300 [(k.fl, k.fh), (k.tl, k.th)] && decide (k.fh ≤ k.tl)

theorem valid1 (lo hi x y : Int) (t : TypeId) (g : Nat) (w : World) (hg : g = w.heap.size) : Calls Try.prog 111 #[.int .i64 lo, .int .i64 hi, .slice (some ⟨g, 0, none⟩) 1 1] (w.alloc (.cells #[.int .i64 x, .int .i64 y] t))
    fun e w' => e = .returned (.bool (validS lo hi [(x, y)])) ∧ Below (w.heap.size + 1) (w.alloc (.cells #[.int .i64 x, .int .i64 y] t)) w' := (valid_any lo hi _ 1 1 [(x, y)] _ (pairs_new1 w x y t hg) (by decide)).mono fun e w' h => ⟨h.1, by have := h.2; simpa using this⟩
theorem valid2 (lo hi x y x' y' : Int) (t : TypeId) (g : Nat) (w : World) (hg : g = w.heap.size) : Calls Try.prog 111 #[.int .i64 lo, .int .i64 hi, .slice (some ⟨g, 0, none⟩) 2 2] (w.alloc (.cells #[.int .i64 x, .int .i64 y, .int .i64 x', .int .i64 y'] t))
    fun e w' => e = .returned (.bool (validS lo hi [(x, y), (x', y')])) ∧ Below (w.heap.size + 1) (w.alloc (.cells #[.int .i64 x, .int .i64 y, .int .i64 x', .int .i64 y'] t)) w' := (valid_any lo hi _ 2 2 [(x, y), (x', y')] _ (pairs_new2 w x y x' y' t hg) (by decide)).mono fun e w' h => ⟨h.1, by have := h.2; simpa using this⟩

set_option maxHeartbeats 800000 in
theorem crackValid_any (k : Crack) (columns : Int) (w : World) (h0 : 1 ≤ columns) (h30 : columns ≤ 30) :
    Calls Try.prog 94 #[.agg #[.int .i64 k.cl, .int .i64 k.ch, .int .i64 k.fl, .int .i64 k.fh, .int .i64 k.tl, .int .i64 k.th], .int .i64 columns] w
      fun e w' => e = .returned (.bool (crackOk columns k)) ∧ Below w.heap.size w w' := by
  obtain ⟨cl, ch, fl, fh, tl, th⟩ := k
  have HE : Hid (crackOk columns ⟨cl, ch, fl, fh, tl, th⟩ = (validS 0 (columns - 1) [(cl, ch)] && decide (ch - cl < 5) && validS 0 300 [(fl, fh), (tl, th)] && decide (fh ≤ tl))) := rfl
  generalize crackOk columns ⟨cl, ch, fl, fh, tl, th⟩ = r at *
  simp only
  have B1 : Below w.heap.size w ((w.alloc (.cells #[.int .i64 cl, .int .i64 ch, .int .i64 fl, .int .i64 fh, .int .i64 tl, .int .i64 th] 111)).alloc (.cells #[.int .i64 cl, .int .i64 ch] 98)) := ((Below.refl _ _).alloc (Nat.le_refl _) _).alloc (by simp) _
  cases q1 : validS 0 (columns - 1) [(cl, ch)]
  · go_enter Try.func94, Try.ntmps94
    go_wp2_with (go_at_call 111; refine (valid1 _ _ _ _ _ _ _ (by simp)).mono ?_; rintro e w' ⟨rfl, hb⟩)
    go_ret
    exact ⟨ret_bool (by rw [HE.out, q1]; rfl), B1.trans (hb.mono (by simp <;> omega))⟩
  have hq : 0 ≤ cl ∧ cl ≤ ch ∧ ch ≤ columns - 1 := by simp [validS] at q1; omega
  obtain ⟨hq1, hq2, hq3⟩ := hq
  go_enter Try.func94, Try.ntmps94
  go_wp2_with fail
  refine (valid1 _ _ _ _ _ _ _ (by simp)).mono ?_
  rintro e w2 ⟨rfl, hb2⟩
  have hz2 : w.heap.size + 2 ≤ w2.heap.size := by have := hb2.size; simpa using this
  have B2 := B1.trans (hb2.mono (by simp <;> omega))
  have c0 : w2.cell? ⟨w.heap.size, 0, none⟩ = some (.int .i64 cl) := (hb2.cell (p := ⟨w.heap.size, 0, none⟩) (by simp <;> omega)).trans (by simp)
  have c1 : w2.cell? ⟨w.heap.size, 1, none⟩ = some (.int .i64 ch) := (hb2.cell (p := ⟨w.heap.size, 1, none⟩) (by simp <;> omega)).trans (by simp)
  have c2 : w2.cell? ⟨w.heap.size, 2, none⟩ = some (.int .i64 fl) := (hb2.cell (p := ⟨w.heap.size, 2, none⟩) (by simp <;> omega)).trans (by simp)
  have c3 : w2.cell? ⟨w.heap.size, 3, none⟩ = some (.int .i64 fh) := (hb2.cell (p := ⟨w.heap.size, 3, none⟩) (by simp <;> omega)).trans (by simp)
  have c4 : w2.cell? ⟨w.heap.size, 4, none⟩ = some (.int .i64 tl) := (hb2.cell (p := ⟨w.heap.size, 4, none⟩) (by simp <;> omega)).trans (by simp)
  have c5 : w2.cell? ⟨w.heap.size, 5, none⟩ = some (.int .i64 th) := (hb2.cell (p := ⟨w.heap.size, 5, none⟩) (by simp <;> omega)).trans (by simp)
  clear hb2 B1
  by_cases h5 : ch - cl < 5
  · cases q3 : validS 0 300 [(fl, fh), (tl, th)]
    · go_wp2_with (go_at_call 111; refine (valid2 _ _ _ _ _ _ _ _ _ (by simp)).mono ?_; rintro e w3 ⟨rfl, hb3⟩)
      go_ret
      exact ⟨ret_bool (by rw [HE.out, q1, q3]; simp), (B2.alloc (by omega) _).trans (hb3.mono (by omega))⟩
    · go_wp2_with fail
      refine (valid2 _ _ _ _ _ _ _ _ _ (by simp)).mono ?_
      rintro e w3 ⟨rfl, hb3⟩
      have d3 : w3.cell? ⟨w.heap.size, 3, none⟩ = some (.int .i64 fh) := (hb3.cell (p := ⟨w.heap.size, 3, none⟩) (by show w.heap.size < _; omega)).trans ((World.cell?_alloc_past _ _ _ (by omega)).trans c3)
      have d4 : w3.cell? ⟨w.heap.size, 4, none⟩ = some (.int .i64 tl) := (hb3.cell (p := ⟨w.heap.size, 4, none⟩) (by show w.heap.size < _; omega)).trans ((World.cell?_alloc_past _ _ _ (by omega)).trans c4)
      have B3 := (B2.alloc (by omega) _).trans (hb3.mono (by omega))
      clear hb3
      go_wp2
      go_ret
      exact ⟨ret_bool (by rw [HE.out, q1, q3]; simp [h5]), B3⟩
  · go_wp2
    go_ret
    exact ⟨ret_bool (by rw [HE.out, q1]; simp; omega), B2⟩

set_option maxHeartbeats 800000 in
theorem curve1_any (k : Crack) (columns : Int) (B : Nat) (w : World) (h0 : 1 ≤ columns) (h30 : columns ≤ 30) (hc : w.cell? ⟨B, 0, none⟩ = some (.int .i64 columns)) (hB : B < w.heap.size) :
    Calls Try.prog 93 #[.agg #[.int .i64 k.cl, .int .i64 k.ch, .int .i64 k.fl, .int .i64 k.fh, .int .i64 k.tl, .int .i64 k.th], .pointer (some ⟨B, 0, none⟩)] w
      fun e w' => e = .returned (.bool (!crackOk columns k)) ∧ Below w.heap.size w w' := by
  have B1 : Below w.heap.size w (w.alloc (.cells #[.int .i64 k.cl, .int .i64 k.ch, .int .i64 k.fl, .int .i64 k.fh, .int .i64 k.tl, .int .i64 k.th] 111)) := (Below.refl _ _).alloc (Nat.le_refl _) _
  go_enter Try.func93, Try.ntmps93
  go_wp2_with (go_at_call 94; refine (crackValid_any _ _ _ h0 h30).mono ?_; rintro e w2 ⟨rfl, hb⟩)
  go_ret
  exact ⟨rfl, B1.trans (hb.mono (by simp <;> omega))⟩

def idx {α : Type} (p : α → Bool) (xs : List α) : Int := match xs.findIdx? p with
  | some i => i
  | none => -1
def noneOf {α : Type} (p : α → Bool) (xs : List α) : Bool := xs.all fun x => !p x
theorem noneOf_succ {α : Type} {p : α → Bool} {xs : List α} {k : Nat} (z : α) (hk : k < xs.length) : noneOf p (xs.take (k + 1)) = (noneOf p (xs.take k) && !p (xs.getD k z)) := by
  unfold noneOf
  rw [List.take_succ_eq_append_getElem hk, List.all_append]
  simp [hk, List.getD]
theorem idx_none {α : Type} {p : α → Bool} {xs : List α} (h : noneOf p xs = true) : idx p xs = -1 := by
  have : xs.findIdx? p = none := by
    rw [List.findIdx?_eq_none_iff]
    intro x hx
    have := (List.all_eq_true.1 h) x hx
    simpa using this
  rw [idx, this]
theorem idx_hit {α : Type} {p : α → Bool} {xs : List α} {k : Nat} (z : α) (hk : k < xs.length) (h : noneOf p (xs.take k) = true) (hp : p (xs.getD k z) = true) : idx p xs = k := by
  have hx : xs.getD k z = xs[k] := by simp [hk, List.getD]
  rw [hx] at hp
  have : xs.findIdx? p = some k := by
    rw [List.findIdx?_eq_some_iff_getElem]
    refine ⟨hk, hp, fun j hj => ?_⟩
    have hm : xs[j]'(by omega) ∈ xs.take k := by
      rw [List.mem_take_iff_getElem]
      exact ⟨j, by omega, rfl⟩
    have := (List.all_eq_true.1 h) _ hm
    simpa using this
  rw [idx, this]
theorem idx_any {α : Type} {p : α → Bool} {xs : List α} : decide (0 ≤ idx p xs) = xs.any p := by
  unfold idx
  cases h : xs.findIdx? p with
  | none =>
    rw [List.findIdx?_eq_none_iff] at h
    have h2 : xs.any p = false := by rw [List.any_eq_false]; intro x hx; simp [h x hx]
    rw [h2]; decide
  | some i =>
    rw [List.findIdx?_eq_some_iff_getElem] at h
    obtain ⟨hi, hp, _⟩ := h
    have h2 : xs.any p = true := List.any_eq_true.2 ⟨_, List.getElem_mem hi, hp⟩
    rw [h2]; simp

set_option maxHeartbeats 1000000 in
theorem indexCrack_any (columns : Int) (B : Nat) (A : Option Addr) (n c : Nat) (xs : List Crack) (w : World) (h0 : 1 ≤ columns) (h30 : columns ≤ 30) (hc : w.cell? ⟨B, 0, none⟩ = some (.int .i64 columns)) (hB : B < w.heap.size)
    (h : Cracks w A n xs) (hn : n ≤ maxLen) :
    Calls Try.prog 112 #[.slice A n c, .func (.func 93) #[] #[.pointer (some ⟨B, 0, none⟩)]] w
      fun e w' => e = .returned (.int .i64 (idx (fun k => !crackOk columns k) xs)) ∧ Below w.heap.size w w' := by
  unfold maxLen at hn
  have hl := h.len
  generalize hp : (fun k => !crackOk columns k) = p
  have hcall := fun k W (hb : Below w.heap.size w W) => curve1_any k columns B W h0 h30 ((hb.cell (p := ⟨B, 0, none⟩) hB).trans hc) (Nat.lt_of_lt_of_le hB hb.size)
  have hpk : ∀ k, (!crackOk columns k) = p k := fun k => by rw [← hp]
  simp only [hpk] at hcall
  clear hp hpk
  have Hcall := Lib.hid hcall
  clear hcall
  go_enter Try.func112, Try.ntmps112
  go_wp2
  go_loopw [8] (fun i wr => ∃ k : Nat, k ≤ n ∧ i = .int .i64 k ∧ noneOf p (xs.take k) = true ∧ Below w.heap.size w wr) (fun i _ => n - (intOf i).toNat)
  case atStart => exact ⟨0, Nat.zero_le _, rfl, rfl, Below.refl _ _⟩
  case round =>
    obtain ⟨k, hk, rfl, hin, hbel⟩ := hrel
    by_cases hlt : k < n
    · obtain ⟨b, off, rfl, hb, hc0, hc1, hc2, hc3, hc4, hc5⟩ := (h.below hbel).at_ hlt
      have H := Lib.hid (noneOf_succ (p := p) Crack.zero (xs := xs) (k := k) (by omega))
      have Hin := Lib.hid hin
      have Hit := Lib.hid (idx_hit (p := p) Crack.zero (xs := xs) (k := k) (by omega) hin)
      clear hin hl
      generalize xs.getD k Crack.zero = y at *
      have C := Lib.hid (Hcall.out y wr hbel)
      cases hq : p y
      · go_wp2_with (go_at_call 93; refine C.out.mono ?_; rintro e w2 ⟨rfl, hb2⟩)
        go_roundw
        case rel => exact ⟨k + 1, by omega, by go_num, by rw [H.out, Hin.out, hq]; rfl, hbel.trans (hb2.mono hbel.size)⟩
        case measure => simp [intOf]; omega
      · go_wp2_with (go_at_call 93; refine C.out.mono ?_; rintro e w2 ⟨rfl, hb2⟩)
        go_ret
        exact ⟨ret_int (Hit.out hq).symm, hbel.trans (hb2.mono hbel.size)⟩
    · have he : idx p xs = -1 := idx_none (by rw [← hin, List.take_of_length_le (by omega)])
      clear hin
      have He := Lib.hid he
      clear he
      go_wp2
      go_ret
      exact ⟨ret_int He.out.symm, hbel⟩

theorem containsCrack_any (columns : Int) (B : Nat) (A : Option Addr) (n c : Nat) (xs : List Crack) (w : World) (h0 : 1 ≤ columns) (h30 : columns ≤ 30) (hc : w.cell? ⟨B, 0, none⟩ = some (.int .i64 columns)) (hB : B < w.heap.size)
    (h : Cracks w A n xs) (hn : n ≤ maxLen) :
    Calls Try.prog 96 #[.slice A n c, .func (.func 93) #[] #[.pointer (some ⟨B, 0, none⟩)]] w
      fun e w' => e = .returned (.bool (xs.any fun k => !crackOk columns k)) ∧ Below w.heap.size w w' := by
  have C := Lib.hid (indexCrack_any columns B A n c xs w h0 h30 hc hB h hn)
  have HE := Lib.hid (idx_any (p := fun k => !crackOk columns k) (xs := xs))
  generalize (xs.any fun k => !crackOk columns k) = r at *
  generalize idx (fun k => !crackOk columns k) xs = i at *
  go_enter Try.func96, Try.ntmps96
  go_wp2_with (go_at_call 112; refine C.out.mono ?_; rintro e w2 ⟨rfl, hb2⟩)
  go_ret
  exact ⟨ret_bool HE.out, hb2⟩
end Go.Proofs.Ytiflhimmieflpaa

/- Walks: bent's closure. -/
namespace Go.Proofs.Ytiflhimmieflpaa
open Go.RowKit

theorem drew2 (X : World) (a : Addr) (v : Value) (n : Nat) : ((X.drew).setCell a v).drew.drewN n = (X.setCell a v).drewN (n + 2) := by
  simp only [World.drewN, World.drew, World.setCell, World.mk.injEq, and_true, true_and]
  omega

set_option maxRecDepth 100000 in
set_option maxHeartbeats 2000000 in
theorem near_any (x y L Bd g n cap : Nat) (lx hx ly hy bend : Int) (w : World) (hxn : x < n) (hyn : y < n)
    (hL : w.cell? ⟨L, 0, none⟩ = some (.slice (some ⟨g, 0, none⟩) n cap)) (hB : w.cell? ⟨Bd, 0, none⟩ = some (.int .i64 bend))
    (c1 : w.cell? ⟨g, x * 2, none⟩ = some (.int .i64 lx)) (c2 : w.cell? ⟨g, x * 2 + 1, none⟩ = some (.int .i64 hx))
    (c3 : w.cell? ⟨g, y * 2, none⟩ = some (.int .i64 ly)) (c4 : w.cell? ⟨g, y * 2 + 1, none⟩ = some (.int .i64 hy))
    (f1 : w.frozen? ⟨g, x * 2, none⟩ = false) (f2 : w.frozen? ⟨g, x * 2 + 1, none⟩ = false)
    (hgL : L ≠ g) (hgB : Bd ≠ g)
    (b1 : -1000000 ≤ lx) (b1' : lx ≤ 1000000) (b3 : -1000000 ≤ ly) (b3' : ly ≤ 1000000) (b4 : -1000000 ≤ hy) (b4' : hy ≤ 1000000) (b5 : 0 ≤ bend) (b5' : bend ≤ 1000000) :
    Calls Try.prog 114 #[.int .i64 x, .int .i64 y, .pointer (some ⟨L, 0, none⟩), .pointer (some ⟨Bd, 0, none⟩)] w
      fun e w' => e = .returned (.bool (decide (max lx (ly - bend) ≤ min hx (hy + bend)))) ∧ ∃ m, w' = ((w.setCell ⟨g, x * 2, none⟩ (.int .i64 (max lx (ly - bend)))).setCell ⟨g, x * 2 + 1, none⟩ (.int .i64 (min hx (hy + bend)))).drewN m := by
  go_enter Try.func114, Try.ntmps114
  go_wp2
  have V1 : Hid ((if lx < ly - bend then ly - bend else lx) = max lx (ly - bend)) := by unfold Hid; split <;> omega
  have b6 : -3000000 ≤ max lx (ly - bend) := by omega
  have b6' : max lx (ly - bend) ≤ 3000000 := by omega
  have k1 : IntKind.i64.wrap (ly - bend) = ly - bend := IntWalk.i64_in _ (by omega)
  go_still_tail 17, (by kernel_rfl)
  clear k1
  change wpList _ _ _ _ _ w.drew
  rw [V1.out]
  clear V1
  generalize hv1 : max lx (ly - bend) = v1 at *
  have HV1 := Lib.hid hv1
  clear hv1
  go_wp2
  have d0 : ∀ (p : Addr), p ≠ ⟨g, x * 2, none⟩ → ((w.setCell ⟨g, x * 2, none⟩ (.int .i64 v1)).drew).cell? p = w.cell? p := fun p hp => World.cell?_setCell_other _ _ _ _ (fun e => hp e.symm)
  have e0 := (d0 ⟨L, 0, none⟩ (by simp)).trans hL
  have e1 := (d0 ⟨Bd, 0, none⟩ (by simp)).trans hB
  have e2 := (d0 ⟨g, x * 2 + 1, none⟩ (by simp)).trans c2
  have e3 := (d0 ⟨g, y * 2 + 1, none⟩ (by simp <;> omega)).trans c4
  have e4 : ((w.setCell ⟨g, x * 2, none⟩ (.int .i64 v1)).drew).cell? ⟨g, x * 2, none⟩ = some (.int .i64 v1) := World.cell?_setCell_same _ _ _ c1
  have e5 : ((w.setCell ⟨g, x * 2, none⟩ (.int .i64 v1)).drew).frozen? ⟨g, x * 2 + 1, none⟩ = false := (World.frozen?_setCell _ _ _ _).trans f2
  clear d0
  obtain ⟨W1, hW1⟩ : ∃ W1, W1 = (w.setCell ⟨g, x * 2, none⟩ (.int .i64 v1)).drew := ⟨_, rfl⟩
  rw [← hW1] at e0 e1 e2 e3 e4 e5 ⊢
  have HW1 := Lib.hid hW1
  clear hW1 hL hB c1 c2 c3 c4 f1 f2
  have V2 : Hid ((if hy + bend < hx then hy + bend else hx) = min hx (hy + bend)) := by unfold Hid; split <;> omega
  have k2 : IntKind.i64.wrap (hy + bend) = hy + bend := IntWalk.i64_in _ (by omega)
  go_still_tail 17, (by kernel_rfl)
  clear k2
  change wpList _ _ _ _ _ W1.drew
  rw [V2.out]
  clear V2
  generalize hv2 : min hx (hy + bend) = v2 at *
  have HV2 := Lib.hid hv2
  clear hv2
  go_wp2
  have d0 : ∀ (p : Addr), p ≠ ⟨g, x * 2 + 1, none⟩ → ((W1.setCell ⟨g, x * 2 + 1, none⟩ (.int .i64 v2)).drew).cell? p = W1.cell? p := fun p hp => World.cell?_setCell_other _ _ _ _ (fun e => hp e.symm)
  have g0 := (d0 ⟨L, 0, none⟩ (by simp)).trans e0
  have g1 := (d0 ⟨g, x * 2, none⟩ (by simp)).trans e4
  have g2 : ((W1.setCell ⟨g, x * 2 + 1, none⟩ (.int .i64 v2)).drew).cell? ⟨g, x * 2 + 1, none⟩ = some (.int .i64 v2) := World.cell?_setCell_same _ _ _ e2
  obtain ⟨W2, hW2⟩ : ∃ W2, W2 = (W1.setCell ⟨g, x * 2 + 1, none⟩ (.int .i64 v2)).drew := ⟨_, rfl⟩
  rw [← hW2] at g0 g1 g2 ⊢
  have HW2 := Lib.hid hW2
  clear hW2 d0 e0 e1 e2 e3 e4 e5
  go_quiet (fail)
  go_wp2
  go_ret
  exact ⟨ret_bool (by rw [HV1.out, HV2.out]), nq + 2, by rw [HW2.out, HW1.out, HV1.out, HV2.out]; exact drew2 _ _ _ _⟩
end Go.Proofs.Ytiflhimmieflpaa

/- Walks: slices.Clone over spans, cracks, ints. -/
namespace Go.Proofs.Ytiflhimmieflpaa
open Go.RowKit

theorem addr_add (b off j : Nat) : (⟨b, off, none⟩ : Addr).add j = ⟨b, off + j, none⟩ := by
  unfold Addr.add
  by_cases h : j = 0 <;> simp [h]
theorem ints_oneCell1 (xs : List Int) : ∀ u ∈ xs.map (Value.int .i64), u.oneCell' = true := by
  intro u hu
  simp only [List.mem_map] at hu
  obtain ⟨a, _, rfl⟩ := hu
  rfl
theorem flat2_oneCell (xs : List (Int × Int)) : ∀ u ∈ flat2 xs, u.oneCell' = true := by
  intro u hu
  simp only [flat2, List.mem_flatMap, List.mem_cons, List.not_mem_nil, or_false] at hu
  obtain ⟨a, _, h⟩ := hu
  rcases h with rfl | rfl <;> rfl
theorem flat6_oneCell (xs : List Crack) : ∀ u ∈ flat6 xs, u.oneCell' = true := by
  intro u hu
  simp only [flat6, Crack.cells, List.mem_flatMap, List.mem_cons, List.not_mem_nil, or_false] at hu
  obtain ⟨a, _, h⟩ := hu
  rcases h with rfl | rfl | rfl | rfl | rfl | rfl <;> rfl

theorem Try.infoInt : (Try.prog.info? 3).map (fun i => (i.zero, i.size, i.bytes)) = some (some (.int .i64 0), 1, 8) := by kernel_rfl
theorem Try.infoSpan : (Try.prog.info? 98).map (fun i => (i.zero, i.size, i.bytes)) = some (some (.agg #[.int .i64 0, .int .i64 0]), 2, 16) := by kernel_rfl
theorem Try.infoPlace : (Try.prog.info? 39).map (fun i => (i.zero, i.size, i.bytes)) = some (some (.agg #[.int .i64 0, .int .i64 0]), 2, 16) := by kernel_rfl
theorem Try.infoCrack : (Try.prog.info? 111).map (fun i => (i.zero, i.size, i.bytes)) = some (some (.agg #[.int .i64 0, .int .i64 0, .int .i64 0, .int .i64 0, .int .i64 0, .int .i64 0]), 6, 48) := by kernel_rfl
theorem Try.infoSplit : (Try.prog.info? 161).map (fun i => (i.zero, i.size, i.bytes)) = some (some (.agg #[.int .i64 0, .int .i64 0, .int .i64 0, .int .i64 0]), 4, 32) := by kernel_rfl

/-- What a clone is. -/
def Cloned (w : World) (t size n : Nat) (xs : List Value) (e : Ending) (w' : World) : Prop :=
  ∃ g cap, e = .returned (.slice (some ⟨g, 0, none⟩) n cap) ∧ w'.ownsRow w.heap.size t size (.slice (some ⟨g, 0, none⟩) n cap) n xs ∧ Below w.heap.size w w'

set_option maxRecDepth 100000 in
set_option maxHeartbeats 400000 in
theorem cloneSpan_any (b off n c : Nat) (xs : List (Int × Int)) (w : World) (h : Pairs w (some ⟨b, off, none⟩) n xs) (h0 : 0 < n) (hn : n ≤ 1000000) :
    Calls Try.prog 113 #[.slice (some ⟨b, off, none⟩) n c] w (Cloned w 98 2 n (flat2 xs)) := by
  obtain ⟨i0, hi, hz0, hz1, hz2⟩ := info_parts Try.infoSpan
  obtain ⟨b', off', hA, hb, hc⟩ := h.2 h0
  simp only [Option.some.injEq, Addr.mk.injEq, and_true] at hA
  obtain ⟨rfl, rfl⟩ := hA
  have hl := h.1
  have heq := fun w => Lib.run_eql_slice_nil (P := Try.prog) w 22 98 (some ⟨b, off, none⟩) n c 0 0 Try.underlying22
  have hm : n ≤ maxLen := by unfold maxLen; omega
  have hnews : ∀ j u, (flat2 xs)[j]? = some u → (w.alloc (.cells #[] 98)).cell? ((⟨b, off, none⟩ : Addr).add j) = some u := fun j u hj => by
    rw [addr_add, World.cell?_alloc_past _ _ _ hb]
    exact hc j u hj
  have hl' := Lib.hid hl
  have Hnews := Lib.hid hnews
  clear hl hnews hc h
  go_enter Try.func113, Try.ntmps113
  go_wp2_with (first
    | (at_builtin; refine wpList_append_own _ rfl _ _ 22 rfl w.heap.size 98 i0 (.agg #[.int .i64 0, .int .i64 0]) 2 16 Try.underlying22 hi hz0 hz1 hz2 rfl (by decide) _ _ _ rfl (World.ownsRow_lit w #[] 0 (Nat.le_refl _) (by decide) rfl) ⟨b, off, none⟩ n c (flat2 xs) rfl hl'.out Hnews.out ?c1 ?c2 ?c3 ?c4 ?_))
  case c1 => exact flat2_oneCell xs
  case c2 => simpa using hm
  case c3 => omega
  case c4 => simp
  intro v' w1 hown hgrow hnil
  have Hnil := Lib.hid hnil
  clear hnil
  go_wp2
  go_ret
  have hg : ∃ g cap, v' = .slice (some ⟨g, 0, none⟩) n cap := by
    rcases hown.2 with ⟨_, hz⟩ | ⟨g, cap, _, hv, _⟩
    · omega
    · exact ⟨g, cap, hv⟩
  obtain ⟨g, cap, rfl⟩ := hg
  exact ⟨g, cap, rfl, hown, ((Below.refl _ _).alloc (Nat.le_refl _) _).grown hgrow (by simp) (by rintro k hk; simp [Value.ownBlock] at hk; omega)⟩

set_option maxRecDepth 100000 in
set_option maxHeartbeats 400000 in
theorem cloneCrack_any (b off n c : Nat) (xs : List Crack) (w : World) (h : Cracks w (some ⟨b, off, none⟩) n xs) (h0 : 0 < n) (hn : n ≤ 1000000) :
    Calls Try.prog 108 #[.slice (some ⟨b, off, none⟩) n c] w (Cloned w 111 6 n (flat6 xs)) := by
  obtain ⟨i0, hi, hz0, hz1, hz2⟩ := info_parts Try.infoCrack
  obtain ⟨b', off', hA, hb, hc⟩ := h.2 h0
  simp only [Option.some.injEq, Addr.mk.injEq, and_true] at hA
  obtain ⟨rfl, rfl⟩ := hA
  have hl := h.1
  have heq := fun w => Lib.run_eql_slice_nil (P := Try.prog) w 23 111 (some ⟨b, off, none⟩) n c 0 0 Try.underlying23
  have hm : n ≤ maxLen := by unfold maxLen; omega
  have hnews : ∀ j u, (flat6 xs)[j]? = some u → (w.alloc (.cells #[] 111)).cell? ((⟨b, off, none⟩ : Addr).add j) = some u := fun j u hj => by
    rw [addr_add, World.cell?_alloc_past _ _ _ hb]
    exact hc j u hj
  have hl' := Lib.hid hl
  have Hnews := Lib.hid hnews
  clear hl hnews hc h
  go_enter Try.func108, Try.ntmps108
  go_wp2_with (first
    | (at_builtin; refine wpList_append_own _ rfl _ _ 23 rfl w.heap.size 111 i0 (.agg #[.int .i64 0, .int .i64 0, .int .i64 0, .int .i64 0, .int .i64 0, .int .i64 0]) 6 48 Try.underlying23 hi hz0 hz1 hz2 rfl (by decide) _ _ _ rfl (World.ownsRow_lit w #[] 0 (Nat.le_refl _) (by decide) rfl) ⟨b, off, none⟩ n c (flat6 xs) rfl hl'.out Hnews.out ?c1 ?c2 ?c3 ?c4 ?_))
  case c1 => exact flat6_oneCell xs
  case c2 => simpa using hm
  case c3 => omega
  case c4 => simp
  intro v' w1 hown hgrow hnil
  have Hnil := Lib.hid hnil
  clear hnil
  go_wp2
  go_ret
  have hg : ∃ g cap, v' = .slice (some ⟨g, 0, none⟩) n cap := by
    rcases hown.2 with ⟨_, hz⟩ | ⟨g, cap, _, hv, _⟩
    · omega
    · exact ⟨g, cap, hv⟩
  obtain ⟨g, cap, rfl⟩ := hg
  exact ⟨g, cap, rfl, hown, ((Below.refl _ _).alloc (Nat.le_refl _) _).grown hgrow (by simp) (by rintro k hk; simp [Value.ownBlock] at hk; omega)⟩
end Go.Proofs.Ytiflhimmieflpaa

/- Walks: bent. -/
namespace Go.Proofs.Ytiflhimmieflpaa
open Go.RowKit

/-- Block g holds pairs of ints, none of them frozen. -/
def Row2 (w : World) (g n : Nat) (S : Nat → Int × Int) : Prop := ∀ i, i < n → w.cell? ⟨g, i * 2, none⟩ = some (.int .i64 (S i).1) ∧ w.cell? ⟨g, i * 2 + 1, none⟩ = some (.int .i64 (S i).2) ∧ w.frozen? ⟨g, i * 2, none⟩ = false ∧ w.frozen? ⟨g, i * 2 + 1, none⟩ = false

theorem Row2.congr {w : World} {g n : Nat} {S S' : Nat → Int × Int} (h : Row2 w g n S) (he : ∀ i, i < n → S' i = S i) : Row2 w g n S' := fun i hi => by rw [he i hi]; exact h i hi
theorem Row2.set {w : World} {g n : Nat} {S : Nat → Int × Int} (h : Row2 w g n S) (x : Nat) (hx : x < n) (a b : Int) (m : Nat) :
    Row2 (((w.setCell ⟨g, x * 2, none⟩ (.int .i64 a)).setCell ⟨g, x * 2 + 1, none⟩ (.int .i64 b)).drewN m) g n (fun i => if i = x then (a, b) else S i) := by
  intro i hi
  obtain ⟨h1, h2, h3, h4⟩ := h i hi
  obtain ⟨k1, k2, _, _⟩ := h x hx
  have e1 : ((w.setCell ⟨g, x * 2, none⟩ (.int .i64 a)).setCell ⟨g, x * 2 + 1, none⟩ (.int .i64 b)).cell? ⟨g, i * 2, none⟩ = some (.int .i64 (if i = x then (a, b) else S i).1) := by
    rw [World.cell?_setCell_other _ _ _ _ (by simp <;> omega)]
    by_cases e : i = x
    · subst e; rw [World.cell?_setCell_same _ _ _ k1]; simp
    · rw [World.cell?_setCell_other _ _ _ _ (by simp <;> omega), h1, if_neg e]
  have e2 : ((w.setCell ⟨g, x * 2, none⟩ (.int .i64 a)).setCell ⟨g, x * 2 + 1, none⟩ (.int .i64 b)).cell? ⟨g, i * 2 + 1, none⟩ = some (.int .i64 (if i = x then (a, b) else S i).2) := by
    by_cases e : i = x
    · subst e
      rw [World.cell?_setCell_same _ _ _ (u := .int .i64 (S i).2) (by rw [World.cell?_setCell_other _ _ _ _ (by simp)]; exact k2)]; simp
    · rw [World.cell?_setCell_other _ _ _ _ (by simp <;> omega), World.cell?_setCell_other _ _ _ _ (by simp <;> omega), h2, if_neg e]
  exact ⟨e1, e2, (World.frozen?_setCell _ _ _ _).trans ((World.frozen?_setCell _ _ _ _).trans h3), (World.frozen?_setCell _ _ _ _).trans ((World.frozen?_setCell _ _ _ _).trans h4)⟩
theorem set_far (w : World) (g x m : Nat) (u v : Value) (p : Addr) (hp : p.block ≠ g) : (((w.setCell ⟨g, x * 2, none⟩ u).setCell ⟨g, x * 2 + 1, none⟩ v).drewN m).cell? p = w.cell? p := by
  show ((w.setCell ⟨g, x * 2, none⟩ u).setCell ⟨g, x * 2 + 1, none⟩ v).cell? p = w.cell? p
  rw [World.cell?_setCell_other _ _ _ _ (by rintro rfl; exact hp rfl), World.cell?_setCell_other _ _ _ _ (by rintro rfl; exact hp rfl)]
theorem set_below {B : Nat} {a w : World} (h : Below B a w) {g : Nat} (hg : B ≤ g) (x m : Nat) (u v : Value) : Below B a (((w.setCell ⟨g, x * 2, none⟩ u).setCell ⟨g, x * 2 + 1, none⟩ v).drewN m) :=
  below_drewN ((h.setCell (p := ⟨g, x * 2, none⟩) hg u).setCell (p := ⟨g, x * 2 + 1, none⟩) hg v) m

theorem near_int {X Y : Int} {x y L Bd g n cap : Nat} {S : Nat → Int × Int} {bend : Int} {w : World} (hX : X = x) (hY : Y = y) (hxn : x < n) (hyn : y < n)
    (hL : w.cell? ⟨L, 0, none⟩ = some (.slice (some ⟨g, 0, none⟩) n cap)) (hB : w.cell? ⟨Bd, 0, none⟩ = some (.int .i64 bend)) (hR : Row2 w g n S) (hgL : L ≠ g) (hgB : Bd ≠ g)
    (b1 : InR (S x)) (b3 : InR (S y)) (b5 : 0 ≤ bend) (b5' : bend ≤ 300) :
    Calls Try.prog 114 #[.int .i64 X, .int .i64 Y, .pointer (some ⟨L, 0, none⟩), .pointer (some ⟨Bd, 0, none⟩)] w
      fun e w' => e = .returned (.bool (decide (max (S x).1 ((S y).1 - bend) ≤ min (S x).2 ((S y).2 + bend)))) ∧
        ∃ m, w' = ((w.setCell ⟨g, x * 2, none⟩ (.int .i64 (max (S x).1 ((S y).1 - bend)))).setCell ⟨g, x * 2 + 1, none⟩ (.int .i64 (min (S x).2 ((S y).2 + bend)))).drewN m := by
  subst hX; subst hY
  obtain ⟨c1, c2, f1, f2⟩ := hR x hxn
  obtain ⟨c3, c4, _, _⟩ := hR y hyn
  unfold InR at b1 b3
  exact near_any x y L Bd g n cap _ _ _ _ bend w hxn hyn hL hB c1 c2 c3 c4 f1 f2 hgL hgB (by omega) (by omega) (by omega) (by omega) (by omega) (by omega) b5 (by omega)

def BentRes (w : World) (n : Nat) (xs : List (Int × Int)) (bend : Int) (e : Ending) (w' : World) : Prop :=
  Below w.heap.size w w' ∧ ((bentOk xs bend = false ∧ e = .returned (.tuple #[.slice none 0 0, .bool false])) ∨
    (bentOk xs bend = true ∧ ∃ g cap, e = .returned (.tuple #[.slice (some ⟨g, 0, none⟩) n cap, .bool true]) ∧ Pairs w' (some ⟨g, 0, none⟩) n (bentL xs bend) ∧ w.heap.size ≤ g))
theorem pairs_of_row2 {w : World} {g n : Nat} {S : Nat → Int × Int} {xs : List (Int × Int)} (h : Row2 w g n S) (hl : xs.length = n) (he : ∀ k, k < n → xs.getD k (0, 0) = S k) : Pairs w (some ⟨g, 0, none⟩) n xs := by
  refine ⟨by rw [flat2_length, hl], fun hn => ⟨g, 0, rfl, block_lt_of_cell (h 0 hn).1, fun j u hj => ?_⟩⟩
  have hjl : j < xs.length * 2 := by rw [← flat2_length]; exact (List.getElem?_eq_some_iff.1 hj).1
  have hk : j / 2 < xs.length := by omega
  have hx := he (j / 2) (by omega)
  have hg : xs.getD (j / 2) (0, 0) = xs[j / 2] := by simp [hk, List.getD]
  rw [hg] at hx
  obtain ⟨a1, a2⟩ := flat2_at xs (j / 2) hk
  obtain ⟨c1, c2, _, _⟩ := h (j / 2) (by omega)
  rcases Nat.mod_two_eq_zero_or_one j with h0 | h1
  · have e : j = j / 2 * 2 := by omega
    rw [← e] at a1 c1
    rw [a1] at hj
    rw [Nat.zero_add, c1, ← hj, hx]
  · have e : j = j / 2 * 2 + 1 := by omega
    rw [← e] at a2 c2
    rw [a2] at hj
    rw [Nat.zero_add, c2, ← hj, hx]
theorem row2_of_own {w : World} {base g cap n : Nat} {t : TypeId} {xs : List (Int × Int)} (h : w.ownsRow base t 2 (.slice (some ⟨g, 0, none⟩) n cap) n (flat2 xs)) (hl : xs.length = n) : Row2 w g n (fun i => xs.getD i (0, 0)) := by
  intro i hi
  have hx : xs.getD i (0, 0) = xs[i] := by simp [hl, hi, List.getD]
  obtain ⟨a1, a2⟩ := flat2_at xs i (by omega)
  dsimp only
  refine ⟨?_, ?_, h.frozenAt _, h.frozenAt _⟩
  · rw [h.cellAt (i * 2) (by omega), a1, hx]
  · rw [h.cellAt (i * 2 + 1) (by omega), a2, hx]

set_option maxRecDepth 100000 in
set_option maxHeartbeats 2000000 in
theorem bent_any (b off n c : Nat) (xs : List (Int × Int)) (bend : Int) (w : World) (h : Pairs w (some ⟨b, off, none⟩) n xs) (h0 : 0 < n) (hn : n ≤ 1000) (hx : ∀ s ∈ xs, InR s) (b5 : 0 ≤ bend) (b5' : bend ≤ 300) (hx0 : (xs.getD 0 (0, 0)).1 ≤ (xs.getD 0 (0, 0)).2) :
    Calls Try.prog 97 #[.slice (some ⟨b, off, none⟩) n c, .int .i64 bend] w (BentRes w n xs bend) := by
  have hmf : ∀ (fn : Fn) (first cap : Array Value) (w : World), (Instr.makeFunc fn first cap).run Try.prog w = .ok (.func fn first cap) w := fun _ _ _ _ => rfl
  have hl := h.len
  have P1 : Pairs (w.alloc (.cells #[.int .i64 bend] 3)) (some ⟨b, off, none⟩) n xs := h.below ((Below.refl _ _).alloc (Nat.le_refl _) _)
  have HC := Lib.hid (cloneSpan_any b off n c xs _ P1 h0 (by omega))
  have Hl := Lib.hid hl
  clear hl h P1
  go_enter Try.func97, Try.ntmps97
  go_wp2_with fail
  refine HC.out.mono ?_
  rintro e w1 ⟨g, cap, rfl, hown, hb1⟩
  have hz1 : w.heap.size + 1 ≤ w1.heap.size := by have := hb1.size; simpa using this
  have hgb := hown.lt g rfl
  simp only [World.size_alloc] at hgb
  have R1 := row2_of_own hown Hl.out
  have cB : w1.cell? ⟨w.heap.size, 0, none⟩ = some (.int .i64 bend) := (hb1.cell (p := ⟨w.heap.size, 0, none⟩) (by simp)).trans (by simp)
  have B1 : Below w.heap.size w w1 := ((Below.refl _ _).alloc (Nat.le_refl _) _).trans (hb1.mono (by simp))
  clear hown hb1 HC
  have R2 : Row2 (w1.alloc (.cells #[.slice (some ⟨g, 0, none⟩) n cap] 22)) g n (fun i => xs.getD i (0, 0)) := fun i hi => by
    obtain ⟨k1, k2, k3, k4⟩ := R1 i hi
    exact ⟨(World.cell?_alloc_past _ _ _ hgb.2).trans k1, (World.cell?_alloc_past _ _ _ hgb.2).trans k2, (World.frozen?_alloc_past _ _ _ hgb.2).trans k3, (World.frozen?_alloc_past _ _ _ hgb.2).trans k4⟩
  have B2 := B1.alloc B1.size (.cells #[.slice (some ⟨g, 0, none⟩) n cap] 22)
  have dB : (w1.alloc (.cells #[.slice (some ⟨g, 0, none⟩) n cap] 22)).cell? ⟨w.heap.size, 0, none⟩ = some (.int .i64 bend) := (World.cell?_alloc_past _ _ _ (by omega)).trans cB
  clear R1 B1 cB
  have hf0 : fw xs bend 0 = xs.getD 0 (0, 0) := rfl
  have hok1 : fwOk xs bend 1 = true := by simp [fwOk, List.range_succ, hf0, -List.getD_eq_getElem?_getD]; exact hx0
  have HFI := Lib.hid (fun k (hk : k < n) => fw_in (xs := xs) (bend := bend) hx b5 k (by rw [Hl.out]; exact hk))
  have HBI := Lib.hid (fun k (hk : k < n) => by have := bw_in (xs := xs) (bend := bend) hx b5 k (by rw [Hl.out]; exact hk); rw [Hl.out] at this; exact this)
  have HXI := Lib.hid (fun k (hk : k < n) => (by
    have e : xs.getD k (0, 0) = xs[k]'(by rw [Hl.out]; exact hk) := by simp [Hl.out, hk, List.getD]
    rw [e]; exact hx _ (List.getElem_mem _) : InR (xs.getD k (0, 0))))
  have HOS := Lib.hid (fun k => fwOk_succ xs bend k)
  have HON := Lib.hid (fun k (hk : k < n) => fwOk_no (xs := xs) (bend := bend) (k := k) (n := n) hk)
  have HE : Hid (bentOk xs bend = fwOk xs bend n) := by unfold Hid bentOk; rw [Hl.out]
  have R3 := R2.congr (S' := fun i => if i < 1 then fw xs bend i else xs.getD i (0, 0)) (fun i _ => by
    by_cases e : i < 1
    · obtain rfl : i = 0 := by omega
      simp [hf0]
    · simp [e])
  clear hf0 R2 hx hx0
  have hgL : w1.heap.size ≠ g := by omega
  have hgB : w.heap.size ≠ g := by omega
  go_wp2_with fail
  go_loopw [8] (fun i wr => ∃ k : Nat, 1 ≤ k ∧ k ≤ n ∧ i = .int .i64 k ∧ fwOk xs bend k = true ∧ Row2 wr g n (fun i => if i < k then fw xs bend i else xs.getD i (0, 0)) ∧
    wr.cell? ⟨w1.heap.size, 0, none⟩ = some (.slice (some ⟨g, 0, none⟩) n cap) ∧ wr.cell? ⟨w.heap.size, 0, none⟩ = some (.int .i64 bend) ∧ Below w.heap.size w wr) (fun i _ => n - (intOf i).toNat)
  case atStart => exact ⟨1, by omega, by omega, rfl, hok1, R3, by simp, dB, B2⟩
  case round =>
    obtain ⟨k, hk1, hk, rfl, hin, R, cL, cB, hbel⟩ := hrel
    have Hin := Lib.hid hin
    clear hin dB R3 B2 hok1
    by_cases hlt : k < n
    · have HN := Lib.hid (near_int (X := (k : Int)) (Y := (k : Int) - 1) (x := k) (y := k - 1) rfl (by omega) hlt (by omega) cL cB R hgL hgB (by rw [if_neg (Nat.lt_irrefl k)]; exact HXI.out k hlt) (by rw [if_pos (by omega)]; exact HFI.out _ (by omega)) b5 b5')
      have HF : Hid (fw xs bend k = (max (xs.getD k (0, 0)).1 ((fw xs bend (k - 1)).1 - bend), min (xs.getD k (0, 0)).2 ((fw xs bend (k - 1)).2 + bend))) := by
        obtain ⟨m, rfl⟩ : ∃ m, k = m + 1 := ⟨k - 1, by omega⟩
        exact fw_succ xs bend m
      have HN2 : Hid (Calls Try.prog 114 #[.int .i64 (k : Int), .int .i64 ((k : Int) - 1), .pointer (some ⟨w1.heap.size, 0, none⟩), .pointer (some ⟨w.heap.size, 0, none⟩)] wr
          fun e w' => e = .returned (.bool (decide ((fw xs bend k).1 ≤ (fw xs bend k).2))) ∧ ∃ m, w' = ((wr.setCell ⟨g, k * 2, none⟩ (.int .i64 (fw xs bend k).1)).setCell ⟨g, k * 2 + 1, none⟩ (.int .i64 (fw xs bend k).2)).drewN m) := by
        have := HN.out
        simp only [Nat.lt_irrefl, if_false, show k - 1 < k from by omega, if_true] at this
        rw [HF.out]
        exact this
      clear HN
      cases hq : decide ((fw xs bend k).1 ≤ (fw xs bend k).2)
      · rw [hq] at HN2
        go_wp2_with (go_at_call 114; refine HN2.out.mono ?_; rintro e w2 ⟨rfl, m, rfl⟩)
        go_ret2
        exact ⟨set_below hbel (by omega) k m _ _, .inl ⟨by rw [HE.out]; exact HON.out k hlt hq, rfl⟩⟩
      · rw [hq] at HN2
        have R' := fun m => (R.set k hlt (fw xs bend k).1 (fw xs bend k).2 m).congr (S' := fun i => if i < k + 1 then fw xs bend i else xs.getD i (0, 0)) (fun i _ => by
          by_cases e : i = k
          · subst e; simp
          · by_cases e2 : i < k
            · simp [e, e2, show i < k + 1 from by omega]
            · simp [e, e2, show ¬ i < k + 1 from by omega])
        go_wp2_with (go_at_call 114; refine HN2.out.mono ?_; rintro e w2 ⟨rfl, m, rfl⟩)
        go_roundw
        case rel => exact ⟨k + 1, by omega, by omega, by go_num, by rw [HOS.out, Hin.out, hq]; rfl, R' _, (set_far _ _ _ _ _ _ _ hgL).trans cL, (set_far _ _ _ _ _ _ _ hgB).trans cB, set_below hbel (by omega) k _ _ _⟩
        case measure => simp [intOf]; omega
    · obtain rfl : k = n := by omega
      have R0 := R.congr (S' := fun i => if ((k : Int) - 2 < (i : Int)) then bw xs bend k (k - 1 - i) else fw xs bend i) (fun i hi => by
        by_cases e : (k : Int) - 2 < (i : Int)
        · rw [if_pos e, if_pos hi, show k - 1 - i = 0 from by omega, bw_zero, show k - 1 = i from by omega]
        · rw [if_neg e, if_pos hi])
      clear R HON HXI
      go_wp2_with fail
      go_loopw [9] (fun i wr => ∃ x : Int, i = .int .i64 x ∧ -1 ≤ x ∧ x ≤ (k : Int) - 2 ∧ Row2 wr g k (fun i => if x < (i : Int) then bw xs bend k (k - 1 - i) else fw xs bend i) ∧
        wr.cell? ⟨w1.heap.size, 0, none⟩ = some (.slice (some ⟨g, 0, none⟩) k cap) ∧ wr.cell? ⟨w.heap.size, 0, none⟩ = some (.int .i64 bend) ∧ Below w.heap.size w wr) (fun i _ => (intOf i + 1).toNat)
      case atStart => exact ⟨_, rfl, by omega, by omega, R0, cL, cB, hbel⟩
      case round =>
        obtain ⟨x, rfl, hx1, hx2, R, dL, dB, hbel2⟩ := hrel
        clear R0 cL cB hbel
        by_cases hge : 0 ≤ x
        · obtain ⟨m, rfl⟩ := Int.eq_ofNat_of_zero_le hge
          have HN := Lib.hid (near_int (X := (m : Int)) (Y := (m : Int) + 1) (x := m) (y := m + 1) rfl (by omega) (by omega) (by omega) dL dB R hgL hgB (by rw [if_neg (by omega)]; exact HFI.out m (by omega)) (by rw [if_pos (by omega)]; exact HBI.out _ (by omega)) b5 b5')
          have HF : Hid (bw xs bend k (k - 1 - m) = (max (fw xs bend m).1 ((bw xs bend k (k - 1 - (m + 1))).1 - bend), min (fw xs bend m).2 ((bw xs bend k (k - 1 - (m + 1))).2 + bend))) := by
            have := bw_succ xs bend k (k - 1 - (m + 1))
            rw [show k - 1 - (m + 1) + 1 = k - 1 - m from by omega, show k - 1 - (k - 1 - m) = m from by omega] at this
            exact this
          have HN2 : Hid (Calls Try.prog 114 #[.int .i64 (m : Int), .int .i64 ((m : Int) + 1), .pointer (some ⟨w1.heap.size, 0, none⟩), .pointer (some ⟨w.heap.size, 0, none⟩)] wr
              fun e w' => e = .returned (.bool (decide ((bw xs bend k (k - 1 - m)).1 ≤ (bw xs bend k (k - 1 - m)).2))) ∧ ∃ q, w' = ((wr.setCell ⟨g, m * 2, none⟩ (.int .i64 (bw xs bend k (k - 1 - m)).1)).setCell ⟨g, m * 2 + 1, none⟩ (.int .i64 (bw xs bend k (k - 1 - m)).2)).drewN q) := by
            have := HN.out
            simp only [show ¬ ((m : Int) < (m : Int)) from by omega, if_false, show (m : Int) < ((m + 1 : Nat) : Int) from by omega, if_true] at this
            rw [HF.out]
            exact this
          clear HN
          have R' := fun q => (R.set m (by omega) (bw xs bend k (k - 1 - m)).1 (bw xs bend k (k - 1 - m)).2 q).congr (S' := fun i => if (m : Int) - 1 < (i : Int) then bw xs bend k (k - 1 - i) else fw xs bend i) (fun i _ => by
            by_cases e : i = m
            · subst e; rw [if_pos rfl, if_pos (by omega)]
            · by_cases e2 : (m : Int) < (i : Int)
              · rw [if_neg e, if_pos e2, if_pos (by omega)]
              · rw [if_neg e, if_neg e2, if_neg (by omega)])
          go_wp2_with (go_at_call 114; refine HN2.out.mono ?_; rintro e w2 ⟨rfl, q, rfl⟩)
          go_roundw
          case rel => exact ⟨_, rfl, by omega, by omega, R' _, (set_far _ _ _ _ _ _ _ hgL).trans dL, (set_far _ _ _ _ _ _ _ hgB).trans dB, set_below hbel2 (by omega) m _ _ _⟩
          case measure => simp [intOf] <;> omega
        · obtain rfl : x = -1 := by omega
          have HP := Lib.hid (pairs_of_row2 (xs := bentL xs bend) R (by rw [bentL_length]; exact Hl.out) (fun i hi => by
            rw [if_pos (by omega), bentL_getD _ _ _ (by rw [Hl.out]; exact hi), Hl.out]))
          go_wp2
          go_ret2
          exact ⟨hbel2, .inr ⟨by rw [HE.out]; exact Hin.out, g, cap, rfl, HP.out, by omega⟩⟩
end Go.Proofs.Ytiflhimmieflpaa

/- Walks: curve. -/
namespace Go.Proofs.Ytiflhimmieflpaa
open Go.RowKit

theorem results_ct {fn : Func} {p u : Tmp} {ty : TypeId} (h : fn.results = #[.cell p ty, .tmp u]) (tmps : Array Value) (P : Program) (w : World) (g : Nat) (t : TypeId) (cs : Array Value) (fs : Array Field)
    (hp : tmps.getD p undef = .pointer (some ⟨g, 0, none⟩)) (hg : Blk w g t cs) (hu : P.underlying ty = some (.struct fs)) (hi : (P.info? ty).map (·.size) = some cs.size) :
    (results fn tmps).run P w = .ok (.tuple #[.agg cs, tmps.getD u undef]) w := by
  rw [results_cell_tmp h, hp]
  simp [asAddr, run_loadVar_row w g t ty cs (0, 0) _ hg hu rfl hi]
theorem results_c {fn : Func} {p : Tmp} {ty : TypeId} (h : fn.results = #[.cell p ty]) (tmps : Array Value) (P : Program) (w : World) (g : Nat) (t : TypeId) (cs : Array Value) (fs : Array Field)
    (hp : tmps.getD p undef = .pointer (some ⟨g, 0, none⟩)) (hg : Blk w g t cs) (hu : P.underlying ty = some (.struct fs)) (hi : (P.info? ty).map (·.size) = some cs.size) :
    (results fn tmps).run P w = .ok (.agg cs) w := results_cell_row h tmps w g t cs (0, 0) _ hp hg hu rfl hi

theorem Blk.setRow {w : World} {g : Nat} {t : TypeId} {cs : Array Value} (h : Blk w g t cs) (cs' : Array Value) : Blk (w.setRow g cs') g t cs' := setRow_heap w g cs _ t _ h
theorem Blk.setRow_far {w : World} {g g' : Nat} {t : TypeId} {cs : Array Value} (h : Blk w g t cs) (hg : g ≠ g') (cs' : Array Value) : Blk (w.setRow g' cs') g t cs := (setRow_other w g' g cs' hg).trans h
theorem below_setR {B : Nat} {a w : World} (h : Below B a w) {g : Nat} (hg : B ≤ g) (cs : Array Value) : Below B a (w.setRow g cs) :=
  h.trans ⟨rfl, rfl, rfl, by simp, fun k hk => setRow_other w g k cs (by omega)⟩

/-- What curve's own variables hold. -/
structure CurveEnv (w W : World) (bl : Array Value) (n : Nat) : Prop where
  b : Blk W w.heap.size 25 bl
  r : Blk W (w.heap.size + 1) 106 #[.slice none 0 0, .slice none 0 0, .int .i64 0, .slice none 0 0, .slice none 0 0, .slice none 0 0]
  c : Blk W (w.heap.size + 2) 3 #[.int .i64 n]
  bel : Below w.heap.size w W
theorem CurveEnv.below {w W W' : World} {bl : Array Value} {n : Nat} (h : CurveEnv w W bl n) (hb : Below W.heap.size W W') : CurveEnv w W' bl n :=
  ⟨h.b.below hb h.b.lt, h.r.below hb h.r.lt, h.c.below hb h.c.lt, h.bel.trans (hb.mono h.bel.size)⟩
theorem CurveEnv.new (w : World) (bl : Array Value) (n : Nat) : CurveEnv w (((w.alloc (.cells bl 25)).alloc (.cells #[.slice none 0 0, .slice none 0 0, .int .i64 0, .slice none 0 0, .slice none 0 0, .slice none 0 0] 106)).alloc (.cells #[.int .i64 n] 3)) bl n :=
  ⟨((Blk.new w _ _ rfl).alloc _).alloc _, (Blk.new _ _ _ (by simp)).alloc _, Blk.new _ _ _ (by simp), (((Below.refl _ _).alloc (Nat.le_refl _) _).alloc (by simp) _).alloc (by simp <;> omega) _⟩

def curveErr (n n' m : Nat) (bend : Int) (bot top : List (Int × Int)) (cr : List Crack) : Int :=
  if n ≠ n' then 4 else if within 1 30 [(n : Int)] = false then 4 else if 4 < m then 5 else if edgesOk bend bot top = false then 2 else if (cr.any fun k => !crackOk n k) = true then 2
  else if bentOk bot bend = false then 9 else if bentOk top bend = false then 9 else 0

def zeroCurved : Value := .agg #[.slice none 0 0, .slice none 0 0, .int .i64 0, .slice none 0 0, .slice none 0 0, .slice none 0 0]
def CurveRes (w : World) (A A' K : Option Addr) (n c n' c' m d : Nat) (bend : Int) (bot top : List (Int × Int)) (cr : List Crack) (e : Ending) (w' : World) : Prop :=
  Below w.heap.size w w' ∧ ((curveErr n n' m bend bot top cr ≠ 0 ∧ e = .returned (.tuple #[zeroCurved, .int .i64 (curveErr n n' m bend bot top cr)])) ∨
    (curveErr n n' m bend bot top cr = 0 ∧ ∃ g cap g' cap', e = .returned (.tuple #[.agg #[.slice A n c, .slice A' n' c', .int .i64 bend, .slice K m d, .slice (some ⟨g, 0, none⟩) n cap, .slice (some ⟨g', 0, none⟩) n cap'], .int .i64 0]) ∧
      Pairs w' (some ⟨g, 0, none⟩) n (bentL bot bend) ∧ Pairs w' (some ⟨g', 0, none⟩) n (bentL top bend) ∧ w.heap.size ≤ g ∧ w.heap.size ≤ g'))

theorem Pairs.setRow_far {w : World} {g off n r : Nat} {t : TypeId} {cs : Array Value} {a : Option Addr} {n' c' : Nat} {xs : List (Int × Int)} (h : Pairs w (some ⟨g, off, none⟩) n xs) (hr : Blk w r t cs) (h0 : cs.all (fun v => match v with | .int _ _ => false | _ => true) = true ∨ (off = 0 ∧ cs[0]? = some (.slice a n' c'))) (cs' : Array Value) : Pairs (w.setRow r cs') (some ⟨g, off, none⟩) n xs := by
  refine ⟨h.1, fun hn => ?_⟩
  obtain ⟨b, o, hA, hb, hc⟩ := h.2 hn
  simp only [Option.some.injEq, Addr.mk.injEq, and_true] at hA
  obtain ⟨rfl, rfl⟩ := hA
  have hne : g ≠ r := by
    rintro rfl
    have h1 := (Pairs.at_ h hn)
    obtain ⟨b2, o2, hA2, _, c0, _⟩ := h1
    simp only [Option.some.injEq, Addr.mk.injEq, and_true] at hA2
    obtain ⟨rfl, rfl⟩ := hA2
    rw [hr.cell] at c0
    rcases h0 with h0 | ⟨rfl, h0⟩
    · have := Array.all_eq_true_iff_forall_mem.1 h0 _ (Array.mem_of_getElem? c0)
      simp at this
    · simp at c0
      rw [c0] at h0
      simp at h0
  refine ⟨g, off, rfl, by simpa using hb, fun j u hu => ?_⟩
  rw [World.cell?_of_block (w := w) (setRow_other w r g cs' hne)]
  exact hc j u hu

theorem edgesOk_in {bend : Int} {bot top : List (Int × Int)} (h : edgesOk bend bot top = true) : (0 ≤ bend ∧ bend ≤ 300) ∧ (∀ s ∈ bot, InR s ∧ s.1 ≤ s.2) ∧ (∀ s ∈ top, InR s ∧ s.1 ≤ s.2) := by
  simp only [edgesOk, within, validS, Bool.and_eq_true, List.all_eq_true, decide_eq_true_eq, List.mem_singleton, forall_eq] at h
  obtain ⟨⟨⟨h1, h2⟩, h3⟩, _⟩ := h
  refine ⟨h1, fun s hs => ?_, fun s hs => ?_⟩
  · have := h2 s hs; unfold InR; omega
  · have := h3 s hs; unfold InR; omega
theorem getD0_valid {xs : List (Int × Int)} (h : ∀ s ∈ xs, InR s ∧ s.1 ≤ s.2) : (xs.getD 0 (0, 0)).1 ≤ (xs.getD 0 (0, 0)).2 := by
  cases xs with
  | nil => simp
  | cons a r => simpa using (h a (by simp)).2

set_option maxRecDepth 100000 in
set_option maxHeartbeats 4000000 in
theorem curve_any (A A' K : Option Addr) (n c n' c' m d : Nat) (bend : Int) (bot top : List (Int × Int)) (cr : List Crack) (w : World) (h : Pairs w A n bot) (h' : Pairs w A' n' top) (hk : Cracks w K m cr) (hn : n ≤ maxLen) (hn' : n' ≤ maxLen) (hm : m ≤ maxLen) :
    Calls Try.prog 60 #[.agg #[.slice A n c, .slice A' n' c', .int .i64 bend, .slice K m d]] w (CurveRes w A A' K n c n' c' m d bend bot top cr) := by
  have hmf : ∀ (fn : Fn) (first cap : Array Value) (w : World), (Instr.makeFunc fn first cap).run Try.prog w = .ok (.func fn first cap) w := fun _ _ _ _ => rfl
  have E0 := CurveEnv.new w #[.slice A n c, .slice A' n' c', .int .i64 bend, .slice K m d] n
  by_cases hne : n = n'
  case neg =>
    have HN := Lib.hid (show curveErr n n' m bend bot top cr = 4 by simp [curveErr, hne])
    have hd : (!((n : Int) == (n' : Int))) = true := by simp; omega
    have hd2 : ((n : Int) != (n' : Int)) = true := by simp; omega
    have hrow := E0.r
    go_enter Try.func60, Try.ntmps60
    go_wp2
    exact bodyPost_ret (results_ct rfl _ _ _ _ _ _ _ rfl E0.r Try.underlying106 (by kernel_rfl)) rfl ⟨E0.bel, .inl ⟨by rw [HN.out]; decide, by rw [HN.out]; rfl⟩⟩
  subst hne
  have hd : ((n : Int) == (n : Int)) = true := by simp
  have hd2 : ((n : Int) != (n : Int)) = false := by simp
  have b0 := E0.b.cell
  have EW := E0.below ((Below.refl _ _).alloc (Nat.le_refl _) (.cells #[.int .i64 n] 3))
  cases q1 : within 1 30 [(n : Int)]
  · have HN := Lib.hid (show curveErr n n m bend bot top cr = 4 by simp [curveErr, q1])
    go_enter Try.func60, Try.ntmps60
    go_wp2_with (go_at_call 88; refine (within1 _ _ _ _ _ _ (by simp)).mono ?_; rintro e w' ⟨rfl, rfl⟩)
    exact bodyPost_ret (results_ct rfl _ _ _ _ _ _ _ rfl EW.r Try.underlying106 (by kernel_rfl)) rfl ⟨EW.bel, .inl ⟨by rw [HN.out]; decide, by rw [HN.out]; rfl⟩⟩
  have hn30 : 1 ≤ n ∧ n ≤ 30 := by simp [within] at q1; omega
  by_cases hm4 : m ≤ 4
  case neg =>
    have HN := Lib.hid (show curveErr n n m bend bot top cr = 5 by simp [curveErr, q1]; omega)
    unfold maxLen at hm
    go_enter Try.func60, Try.ntmps60
    go_wp2_with (go_at_call 88; refine (within1 _ _ _ _ _ _ (by simp)).mono ?_; rintro e w' ⟨rfl, rfl⟩)
    exact bodyPost_ret (results_ct rfl _ _ _ _ _ _ _ rfl EW.r Try.underlying106 (by kernel_rfl)) rfl ⟨EW.bel, .inl ⟨by rw [HN.out]; decide, by rw [HN.out]; rfl⟩⟩
  have HE := Lib.hid (edges_any A A' K n c c' m d bend bot top _ (h.below EW.bel) (h'.below EW.bel) hn)
  have Hhn := Lib.hid hn30
  clear hn30 hn hn' hm E0
  go_enter Try.func60, Try.ntmps60
  go_wp2_with (go_at_call 88; refine (within1 _ _ _ _ _ _ (by simp)).mono ?_; rintro e w' ⟨rfl, rfl⟩)
  refine HE.out.mono ?_
  rintro e w2 ⟨rfl, hb2⟩
  have E2 := EW.below hb2
  clear HE hb2 EW b0
  cases q2 : edgesOk bend bot top
  · have HN := Lib.hid (show curveErr n n m bend bot top cr = 2 by simp [curveErr, q1, q2]; omega)
    go_wp2_with (refine wpList_store_row rfl 106 _ _ rfl (w.heap.size + 1) _ rfl rfl 106 _ E2.r (by kernel_rfl) rfl (by kernel_rfl) ?_)
    exact bodyPost_ret (results_ct rfl _ _ _ _ _ _ _ rfl (E2.r.setRow _) Try.underlying106 (by kernel_rfl)) rfl ⟨below_setR E2.bel (by omega) _, .inl ⟨by rw [HN.out]; decide, by rw [HN.out]; rfl⟩⟩
  obtain ⟨b5, hbot, htop⟩ := edgesOk_in q2
  have Hb5 := Lib.hid b5
  clear b5
  have HC := Lib.hid (containsCrack_any n (w.heap.size + 2) K m d cr w2 (by have := Hhn.out; omega) (by have := Hhn.out; omega) (E2.c.cell 0) E2.c.lt (hk.below E2.bel) (by unfold maxLen; omega))
  have b2 := E2.b.cell
  go_wp2_with fail
  refine HC.out.mono ?_
  rintro e w3 ⟨rfl, hb3⟩
  have E3 := E2.below hb3
  clear HC hb3 b2 E2
  cases q3 : cr.any fun k => !crackOk n k
  case true =>
    have HN := Lib.hid (show curveErr n n m bend bot top cr = 2 by simp only [curveErr, q1, q2, q3]; simp; omega)
    go_wp2_with (refine wpList_store_row rfl 106 _ _ rfl (w.heap.size + 1) _ rfl rfl 106 _ E3.r (by kernel_rfl) rfl (by kernel_rfl) ?_)
    exact bodyPost_ret (results_ct rfl _ _ _ _ _ _ _ rfl (E3.r.setRow _) Try.underlying106 (by kernel_rfl)) rfl ⟨below_setR E3.bel (by omega) _, .inl ⟨by rw [HN.out]; decide, by rw [HN.out]; rfl⟩⟩
  have hn1 := Hhn.out
  obtain ⟨bb, off, rfl, _, _⟩ := h.2 (by omega)
  obtain ⟨bb', off', rfl, _, _⟩ := h'.2 (by omega)
  have HB := Lib.hid (bent_any bb off n c bot bend w3 (h.below E3.bel) (by omega) (by omega) (fun s hs => (hbot s hs).1) Hb5.out.1 Hb5.out.2 (getD0_valid hbot))
  clear hn1
  have b3 := E3.b.cell
  go_wp2_with fail
  refine HB.out.mono ?_
  rintro e w4 ⟨hb4, ⟨ok4, rfl⟩ | ⟨ok4, g, cap, rfl, P4, hg4⟩⟩
  · have E4 := E3.below hb4
    have HN := Lib.hid (show curveErr n n m bend bot top cr = 9 by simp only [curveErr, q1, q2, q3, ok4]; simp; omega)
    have HT := Lib.hid (bent_any bb' off' n c' top bend w4 (h'.below E4.bel) (by have := Hhn.out; omega) (by have := Hhn.out; omega) (fun s hs => (htop s hs).1) Hb5.out.1 Hb5.out.2 (getD0_valid htop))
    clear hb4 b3 HB E3
    have b4 := E4.b.cell
    go_wp2_with fail
    refine HT.out.mono ?_
    rintro e w5 ⟨hb5, ⟨ok5, rfl⟩ | ⟨ok5, g', cap', rfl, P5⟩⟩
    all_goals
      have E5 := E4.below hb5
      clear hb5 b4 HT E4
      go_wp2_with (refine wpList_store_row rfl 106 _ _ rfl (w.heap.size + 1) _ rfl rfl 106 _ E5.r (by kernel_rfl) rfl (by kernel_rfl) ?_)
      exact bodyPost_ret (results_ct rfl _ _ _ _ _ _ _ rfl (E5.r.setRow _) Try.underlying106 (by kernel_rfl)) rfl ⟨below_setR E5.bel (by omega) _, .inl ⟨by rw [HN.out]; decide, by rw [HN.out]; rfl⟩⟩
  · have E4 := E3.below hb4
    have Hg4 := Lib.hid (Nat.le_trans E3.bel.size hg4)
    clear hg4
    have HT := Lib.hid (bent_any bb' off' n c' top bend w4 (h'.below E4.bel) (by have := Hhn.out; omega) (by have := Hhn.out; omega) (fun s hs => (htop s hs).1) Hb5.out.1 Hb5.out.2 (getD0_valid htop))
    clear hb4 b3 HB E3
    have b4 := E4.b.cell
    go_wp2_with fail
    refine HT.out.mono ?_
    rintro e w5 ⟨hb5, ⟨ok5, rfl⟩ | ⟨ok5, g', cap', rfl, P5, hg5⟩⟩
    · have HN := Lib.hid (show curveErr n n m bend bot top cr = 9 by simp only [curveErr, q1, q2, q3, ok4, ok5]; simp; omega)
      have E5 := E4.below hb5
      clear hb5 b4 HT E4
      go_wp2_with (refine wpList_store_row rfl 106 _ _ rfl (w.heap.size + 1) _ rfl rfl 106 _ E5.r (by kernel_rfl) rfl (by kernel_rfl) ?_)
      exact bodyPost_ret (results_ct rfl _ _ _ _ _ _ _ rfl (E5.r.setRow _) Try.underlying106 (by kernel_rfl)) rfl ⟨below_setR E5.bel (by omega) _, .inl ⟨by rw [HN.out]; decide, by rw [HN.out]; rfl⟩⟩
    · have HN := Lib.hid (show curveErr n n m bend bot top cr = 0 by simp only [curveErr, q1, q2, q3, ok4, ok5]; simp; omega)
      have E5 := E4.below hb5
      have P4' := P4.below hb5
      have Hg5 := Lib.hid (Nat.le_trans E4.bel.size hg5)
      clear hb5 b4 HT E4 P4 hg5
      have b5 := E5.b.cell
      go_wp2_with (refine wpList_store_row rfl 106 _ _ rfl (w.heap.size + 1) _ rfl rfl 106 _ E5.r (by kernel_rfl) rfl (by kernel_rfl) ?_)
      exact bodyPost_ret (results_ct rfl _ _ _ _ _ _ _ rfl (E5.r.setRow _) Try.underlying106 (by kernel_rfl)) rfl ⟨below_setR E5.bel (by omega) _, .inr ⟨HN.out, g, cap, g', cap', rfl, P4'.setRow_far E5.r (.inr ⟨rfl, rfl⟩) _, P5.setRow_far E5.r (.inr ⟨rfl, rfl⟩) _, Hg4.out, Hg5.out⟩⟩
end Go.Proofs.Ytiflhimmieflpaa

/- Walks: heights, room, spoiler. -/
namespace Go.Proofs.Ytiflhimmieflpaa
open Go.RowKit

theorem grown_of_below {a w : World} (h : Below a.heap.size a w) (row : Option Nat) : a.grownBy w row := ⟨h.os, h.tape, h.output, h.size, fun i hi _ => h.block i hi⟩
theorem ownsRow_below {w w' : World} {base : Nat} {e : TypeId} {size : Nat} {v : Value} {n : Nat} {xs : List Value} (h : w.ownsRow base e size v n xs) (hb : Below w.heap.size w w') : w'.ownsRow base e size v n xs :=
  h.kept (grown_of_below hb none) (by cases v.ownBlock <;> simp)
theorem ints_of_own {w : World} {base g cap n : Nat} {t : TypeId} {xs : List Int} (h : w.ownsRow base t 1 (.slice (some ⟨g, 0, none⟩) n cap) n (xs.map (Value.int .i64))) : Ints w (some ⟨g, 0, none⟩) n xs := by
  refine ⟨by have := h.1; simpa using this, fun hn => ⟨g, 0, rfl, (h.lt g rfl).2, fun j u hj => ?_⟩⟩
  have hjl : j < n * 1 := by have := (List.getElem?_eq_some_iff.1 hj).1; have := h.1; simp at *; omega
  rw [Nat.zero_add, h.cellAt j hjl, hj]
theorem pairs_of_own {w : World} {base g cap n : Nat} {t : TypeId} {xs : List (Int × Int)} (h : w.ownsRow base t 2 (.slice (some ⟨g, 0, none⟩) n cap) n (flat2 xs)) : Pairs w (some ⟨g, 0, none⟩) n xs := by
  refine ⟨h.1, fun hn => ⟨g, 0, rfl, (h.lt g rfl).2, fun j u hj => ?_⟩⟩
  have hjl : j < n * 2 := by have := (List.getElem?_eq_some_iff.1 hj).1; have := h.1; omega
  rw [Nat.zero_add, h.cellAt j hjl, hj]
theorem own_form {w : World} {base : Nat} {e : TypeId} {size : Nat} {v : Value} {n : Nat} {xs : List Value} (h : w.ownsRow base e size v n xs) (hn : 0 < n) : ∃ g cap, v = .slice (some ⟨g, 0, none⟩) n cap := by
  rcases h.2 with ⟨_, hz⟩ | ⟨g, cap, _, hv, _⟩
  · omega
  · exact ⟨g, cap, hv⟩
theorem take_map_succ {α β : Type} (f : α → β) (xs : List α) (k : Nat) (z : α) (hk : k < xs.length) : (xs.take (k + 1)).map f = (xs.take k).map f ++ [f (xs.getD k z)] := by
  rw [List.take_succ_eq_append_getElem hk, List.map_append]
  simp [hk, List.getD]

set_option maxHeartbeats 400000 in
theorem high_any (lo hi : Int) (w : World) :
    Calls Try.prog 99 #[.agg #[.int .i64 lo, .int .i64 hi]] w fun e w' => e = .returned (.int .i64 hi) ∧ Below w.heap.size w w' := by
  go_enter Try.func99, Try.ntmps99
  go_wp2
  go_ret
  exact ⟨rfl, (Below.refl _ _).alloc (Nat.le_refl _) _⟩

set_option maxHeartbeats 400000 in
theorem low_any (lo hi : Int) (w : World) :
    Calls Try.prog 100 #[.agg #[.int .i64 lo, .int .i64 hi]] w fun e w' => e = .returned (.int .i64 lo) ∧ Below w.heap.size w w' := by
  go_enter Try.func100, Try.ntmps100
  go_wp2
  go_ret
  exact ⟨rfl, (Below.refl _ _).alloc (Nat.le_refl _) _⟩

set_option maxRecDepth 100000 in
set_option maxHeartbeats 1000000 in
theorem heightsHigh_any (b off n c : Nat) (xs : List (Int × Int)) (w : World) (h : Pairs w (some ⟨b, off, none⟩) n xs) (h0 : 0 < n) (hn : n ≤ 1000) :
    Calls Try.prog 98 #[.slice (some ⟨b, off, none⟩) n c, .func (.func 99) #[] #[]] w (Cloned w 3 1 n ((xs.map fun s => s.2).map (Value.int .i64))) := by
  obtain ⟨i0, hi, hz0, hz1, hz2⟩ := info_parts Try.infoInt
  have hl := h.len
  go_enter Try.func98, Try.ntmps98
  go_wp2_with fail
  go_loopw [5, 10] (fun v i wr => ∃ k : Nat, k ≤ n ∧ i = .int .i64 k ∧ wr.ownsRow w.heap.size 3 1 v k (((xs.take k).map fun s => s.2).map (Value.int .i64)) ∧ Below w.heap.size w wr) (fun _ i _ => n - (intOf i).toNat)
  case atStart => exact ⟨0, Nat.zero_le _, rfl, World.ownsRow_nil _ _ _ _, Below.refl _ _⟩
  case round =>
    obtain ⟨k, hk, rfl, hown, hbel⟩ := hrel
    by_cases hlt : k < n
    · obtain ⟨b', off', hA, hb, hc1, hc2⟩ := (h.below hbel).at_ hlt
      simp only [Option.some.injEq, Addr.mk.injEq, and_true] at hA
      obtain ⟨rfl, rfl⟩ := hA
      have HT := Lib.hid (take_map_succ (fun s : Int × Int => s.2) xs k (0, 0) (by omega))
      have Hl := Lib.hid hl
      clear hl
      generalize xs.getD k (0, 0) = y at *
      go_wp2_with fail
      refine (high_any _ _ _).mono ?_
      rintro e w3 ⟨rfl, hb3⟩
      have hown3 := ownsRow_below (hown.alloc (.cells #[.int .i64 y.1, .int .i64 y.2] 98)) hb3
      have B3 := (hbel.alloc hbel.size (.cells #[.int .i64 y.1, .int .i64 y.2] 98)).trans (hb3.mono (by have := hbel.size; simp; omega))
      clear hb3 hown hbel hc1 hc2 hb
      go_wp2_with (at_builtin; refine wpList_append_own _ rfl _ _ 44 rfl w.heap.size 3 i0 (.int .i64 0) 1 8 Try.underlying44 hi hz0 hz1 hz2 rfl (by decide) _ _ _ rfl (hown3.alloc _) ⟨w3.heap.size, 0, none⟩ 1 1 [.int .i64 y.2] rfl rfl (cell_one_new _ _ _) ?c2 ?c3 ?c4 ?c5 ?_)
      case c2 => intro u hu; simp at hu; subst hu; rfl
      case c3 => unfold maxLen; omega
      case c4 => omega
      case c5 => have := B3.size; simp; omega
      intro v' w4 hown4 hgrow _
      have B4 := (B3.alloc B3.size _).grown hgrow (by have := B3.size; simp; omega) (fun q hq => (hown3.lt q hq).1)
      have hown5 : Hid (w4.ownsRow w.heap.size 3 1 v' (k + 1) (((xs.take (k + 1)).map fun s => s.2).map (Value.int .i64))) := by
        unfold Hid; rw [HT.out]; simpa [List.map_take] using hown4
      clear hown4 hgrow hown3 B3
      go_wp2
      go_roundw
      case rel => exact ⟨k + 1, by omega, by go_num, hown5.out, B4⟩
      case measure => simp [intOf]; omega
    · obtain rfl : k = n := by omega
      rw [List.take_of_length_le (by omega)] at hown
      obtain ⟨g, cap, rfl⟩ := own_form hown h0
      go_wp2
      go_ret
      exact ⟨g, cap, rfl, hown, hbel⟩

set_option maxRecDepth 100000 in
set_option maxHeartbeats 1000000 in
theorem heightsLow_any (b off n c : Nat) (xs : List (Int × Int)) (w : World) (h : Pairs w (some ⟨b, off, none⟩) n xs) (h0 : 0 < n) (hn : n ≤ 1000) :
    Calls Try.prog 98 #[.slice (some ⟨b, off, none⟩) n c, .func (.func 100) #[] #[]] w (Cloned w 3 1 n ((xs.map fun s => s.1).map (Value.int .i64))) := by
  obtain ⟨i0, hi, hz0, hz1, hz2⟩ := info_parts Try.infoInt
  have hl := h.len
  go_enter Try.func98, Try.ntmps98
  go_wp2_with fail
  go_loopw [5, 10] (fun v i wr => ∃ k : Nat, k ≤ n ∧ i = .int .i64 k ∧ wr.ownsRow w.heap.size 3 1 v k (((xs.take k).map fun s => s.1).map (Value.int .i64)) ∧ Below w.heap.size w wr) (fun _ i _ => n - (intOf i).toNat)
  case atStart => exact ⟨0, Nat.zero_le _, rfl, World.ownsRow_nil _ _ _ _, Below.refl _ _⟩
  case round =>
    obtain ⟨k, hk, rfl, hown, hbel⟩ := hrel
    by_cases hlt : k < n
    · obtain ⟨b', off', hA, hb, hc1, hc2⟩ := (h.below hbel).at_ hlt
      simp only [Option.some.injEq, Addr.mk.injEq, and_true] at hA
      obtain ⟨rfl, rfl⟩ := hA
      have HT := Lib.hid (take_map_succ (fun s : Int × Int => s.1) xs k (0, 0) (by omega))
      have Hl := Lib.hid hl
      clear hl
      generalize xs.getD k (0, 0) = y at *
      go_wp2_with fail
      refine (low_any _ _ _).mono ?_
      rintro e w3 ⟨rfl, hb3⟩
      have hown3 := ownsRow_below (hown.alloc (.cells #[.int .i64 y.1, .int .i64 y.2] 98)) hb3
      have B3 := (hbel.alloc hbel.size (.cells #[.int .i64 y.1, .int .i64 y.2] 98)).trans (hb3.mono (by have := hbel.size; simp; omega))
      clear hb3 hown hbel hc1 hc2 hb
      go_wp2_with (at_builtin; refine wpList_append_own _ rfl _ _ 44 rfl w.heap.size 3 i0 (.int .i64 0) 1 8 Try.underlying44 hi hz0 hz1 hz2 rfl (by decide) _ _ _ rfl (hown3.alloc _) ⟨w3.heap.size, 0, none⟩ 1 1 [.int .i64 y.1] rfl rfl (cell_one_new _ _ _) ?c2 ?c3 ?c4 ?c5 ?_)
      case c2 => intro u hu; simp at hu; subst hu; rfl
      case c3 => unfold maxLen; omega
      case c4 => omega
      case c5 => have := B3.size; simp; omega
      intro v' w4 hown4 hgrow _
      have B4 := (B3.alloc B3.size _).grown hgrow (by have := B3.size; simp; omega) (fun q hq => (hown3.lt q hq).1)
      have hown5 : Hid (w4.ownsRow w.heap.size 3 1 v' (k + 1) (((xs.take (k + 1)).map fun s => s.1).map (Value.int .i64))) := by
        unfold Hid; rw [HT.out]; simpa [List.map_take] using hown4
      clear hown4 hgrow hown3 B3
      go_wp2
      go_roundw
      case rel => exact ⟨k + 1, by omega, by go_num, hown5.out, B4⟩
      case measure => simp [intOf]; omega
    · obtain rfl : k = n := by omega
      rw [List.take_of_length_le (by omega)] at hown
      obtain ⟨g, cap, rfl⟩ := own_form hown h0
      go_wp2
      go_ret
      exact ⟨g, cap, rfl, hown, hbel⟩
end Go.Proofs.Ytiflhimmieflpaa

/- Walks: worst. -/
namespace Go.Proofs.Ytiflhimmieflpaa
open Go.RowKit

structure Split where
  cl : Int
  ch : Int
  fr : Int
  up : Int
def Split.cells (k : Split) : List Value := [.int .i64 k.cl, .int .i64 k.ch, .int .i64 k.fr, .int .i64 k.up]
def Split.zero : Split := ⟨0, 0, 0, 0⟩
def flat4 (xs : List Split) : List Value := xs.flatMap Split.cells
def Splits (w : World) (A : Option Addr) (n : Nat) (xs : List Split) : Prop := Reads w 4 A n (flat4 xs)
theorem flat4_length (xs : List Split) : (flat4 xs).length = xs.length * 4 := by
  unfold flat4; induction xs with
  | nil => rfl
  | cons a r ih => simp only [List.flatMap_cons, List.length_append, ih, List.length_cons, Split.cells, List.length_nil]; omega
theorem flat4_at (xs : List Split) (k j : Nat) (h : k < xs.length) (hj : j < 4) : (flat4 xs)[k * 4 + j]? = (xs[k]).cells[j]? := by
  unfold flat4; induction xs generalizing k with
  | nil => simp at h
  | cons a r ih =>
    cases k with
    | zero => rw [List.flatMap_cons, List.getElem?_append_left (by simp [Split.cells]; omega)]; simp
    | succ m =>
      rw [List.flatMap_cons, List.getElem?_append_right (by simp [Split.cells]; omega)]
      have := ih m (by simpa using h)
      simp only [Split.cells, List.length_cons, List.length_nil] at this ⊢
      rw [show (m + 1) * 4 + j - (0 + 1 + 1 + 1 + 1) = m * 4 + j from by omega, this]
      simp
theorem flat4_snoc (xs : List Split) (k : Nat) (hk : k < xs.length) : flat4 (xs.take (k + 1)) = flat4 (xs.take k) ++ (xs.getD k Split.zero).cells := by
  have hx : xs.getD k Split.zero = xs[k] := by simp [hk, List.getD]
  rw [List.take_succ_eq_append_getElem hk, hx]
  simp only [flat4, List.flatMap_append, List.flatMap_cons, List.flatMap_nil, List.append_nil]
section
variable {w w' : World} {n k : Nat} {A : Option Addr} {xs : List Split}
theorem Splits.len (h : Splits w A n xs) : xs.length = n := by have := h.1; rw [flat4_length] at this; omega
theorem Splits.below (h : Splits w A n xs) (hb : Below w.heap.size w w') : Splits w' A n xs := Reads.below h hb
theorem Splits.at_ (h : Splits w A n xs) (hk : k < n) : ∃ b off, A = some ⟨b, off, none⟩ ∧ b < w.heap.size ∧ w.cell? ⟨b, off + k * 4, none⟩ = some (.int .i64 (xs.getD k Split.zero).cl) ∧ w.cell? ⟨b, off + k * 4 + 1, none⟩ = some (.int .i64 (xs.getD k Split.zero).ch) ∧
    w.cell? ⟨b, off + k * 4 + 2, none⟩ = some (.int .i64 (xs.getD k Split.zero).fr) ∧ w.cell? ⟨b, off + k * 4 + 3, none⟩ = some (.int .i64 (xs.getD k Split.zero).up) := by
  obtain ⟨b, off, e, hb, hc⟩ := h.2 (by omega)
  have hl : k < xs.length := by rw [h.len]; exact hk
  have hx : xs.getD k Split.zero = xs[k] := by simp [hl, List.getD]
  have g : ∀ j u, j < 4 → (xs[k]).cells[j]? = some u → w.cell? ⟨b, off + k * 4 + j, none⟩ = some u := fun j u hj hu => by
    rw [Nat.add_assoc]
    exact hc _ _ ((flat4_at xs k j hl hj).trans hu)
  rw [hx]
  exact ⟨b, off, e, hb, g 0 _ (by omega) rfl, g 1 _ (by omega) rfl, g 2 _ (by omega) rfl, g 3 _ (by omega) rfl⟩
end

/-- A saw and what it saws. -/
structure Sawing where
  long : Int
  wide : Int
  kerf : Int
  across : Int
  bottom : List Int
  top : List Int
  splits : List Split
def sawVal (s : Sawing) (b b' : Addr) (n c c' : Nat) (K : Option Addr) (m d : Nat) : Value :=
  .agg #[.int .i64 s.long, .int .i64 s.wide, .int .i64 s.kerf, .int .i64 s.across, .slice (some b) n c, .slice (some b') n c', .slice K m d]
def SawAt (w : World) (s : Sawing) (b b' : Addr) (n : Nat) (K : Option Addr) (m : Nat) : Prop :=
  Ints w (some b) n s.bottom ∧ Ints w (some b') n s.top ∧ Splits w K m s.splits
theorem SawAt.below {w w' : World} {s : Sawing} {b b' : Addr} {n : Nat} {K : Option Addr} {m : Nat} (h : SawAt w s b b' n K m) (hb : Below w.heap.size w w') : SawAt w' s b b' n K m := ⟨h.1.below hb, h.2.1.below hb, h.2.2.below hb⟩

def worstSplit (k : Crack) : Split := ⟨k.cl, k.ch, k.fl, k.th⟩
def worstL (long wide kerf across : Int) (bot top : List (Int × Int)) (cr : List Crack) : Sawing := ⟨long, wide, kerf, across, bot.map (·.2), top.map (·.1), cr.map worstSplit⟩

theorem own_blk_ne {w : World} {base : Nat} {e t : TypeId} {size n g : Nat} {v : Value} {xs : List Value} {cs : Array Value} (h : w.ownsRow base e size v n xs) (hg : Blk w g t cs) (hne : e ≠ t) : v.ownBlock ≠ some g := by
  rcases h.2 with ⟨rfl, _⟩ | ⟨g', cap, cur, rfl, _, hh, _⟩
  · simp [Value.ownBlock]
  · intro he
    have : g' = g := by simpa [Value.ownBlock] using he
    subst this
    unfold Blk at hg
    rw [hh] at hg
    simp only [Option.some.injEq, Obj.cells.injEq] at hg
    exact hne hg.2.1
theorem own_own_ne {w : World} {base base' : Nat} {e e' : TypeId} {size n size' n' : Nat} {v v' : Value} {xs xs' : List Value} (h : w.ownsRow base e size v n xs) (h' : w.ownsRow base' e' size' v' n' xs') (hne : e ≠ e') : v.ownBlock = none ∨ v.ownBlock ≠ v'.ownBlock := by
  rcases h.2 with ⟨rfl, _⟩ | ⟨g, cap, cur, rfl, _, hh, _⟩
  · left; rfl
  · right
    rcases h'.2 with ⟨rfl, _⟩ | ⟨g', cap', cur', rfl, _, hh', _⟩
    · simp [Value.ownBlock]
    · intro he
      have : g = g' := by simpa [Value.ownBlock] using he
      subst this
      rw [hh] at hh'
      simp only [Option.some.injEq, Obj.cells.injEq] at hh'
      exact hne hh'.2.1
theorem Blk.grown {w w' : World} {g : Nat} {t : TypeId} {cs : Array Value} {row : Option Nat} (h : Blk w g t cs) (hb : w.grownBy w' row) (hg : row ≠ some g) : Blk w' g t cs := (hb.block g h.lt (fun e => hg e.symm)).trans h
theorem own_setRow {w : World} {base : Nat} {e t : TypeId} {size n g : Nat} {v : Value} {xs : List Value} {cs : Array Value} (h : w.ownsRow base e size v n xs) (hg : Blk w g t cs) (hne : e ≠ t) (cs' : Array Value) : (w.setRow g cs').ownsRow base e size v n xs :=
  h.kept (row := some g) ⟨rfl, rfl, rfl, by simp, fun k _ hk => setRow_other w g k cs' (fun e => hk (by rw [e]))⟩ (by have := own_blk_ne h hg hne; right; exact this)
theorem own_setCell {w : World} {base : Nat} {e t : TypeId} {size n g : Nat} {v : Value} {xs : List Value} {cs : Array Value} (h : w.ownsRow base e size v n xs) (hg : Blk w g t cs) (hne : e ≠ t) (i : Nat) (u : Value) : (w.setCell ⟨g, i, none⟩ u).ownsRow base e size v n xs :=
  ownsRow_setCell_other h (own_blk_ne h hg hne) u

/-- In the midst of worst: block g is the new sawing. -/
structure WorstMid (w W : World) (cur : Array Value) (saw : Array Value) (g : Nat) (v1 v2 sv : Value) (n : Nat) (H L : List Value) (k : Nat) (sp : List Value) : Prop where
  fc : Blk W w.heap.size 106 cur
  fr : Blk W (w.heap.size + 2) 120 #[.int .i64 0, .int .i64 0, .int .i64 0, .int .i64 0, .slice none 0 0, .slice none 0 0, .slice none 0 0]
  fg : Blk W g 120 (saw ++ #[v1, v2, sv])
  ng : g ≠ w.heap.size + 2
  lg : w.heap.size ≤ g
  o1 : W.ownsRow w.heap.size 3 1 v1 n H
  o2 : W.ownsRow w.heap.size 3 1 v2 n L
  os : W.ownsRow w.heap.size 161 4 sv k sp
  bel : Below w.heap.size w W
theorem WorstMid.below {w W W' : World} {cur saw : Array Value} {g n k : Nat} {v1 v2 sv : Value} {H L sp : List Value} (h : WorstMid w W cur saw g v1 v2 sv n H L k sp) (hb : Below W.heap.size W W') : WorstMid w W' cur saw g v1 v2 sv n H L k sp :=
  ⟨h.fc.below hb h.fc.lt, h.fr.below hb h.fr.lt, h.fg.below hb h.fg.lt, h.ng, h.lg, ownsRow_below h.o1 hb, ownsRow_below h.o2 hb, ownsRow_below h.os hb, h.bel.trans (hb.mono h.bel.size)⟩
/-- Behind an append to the splits. -/
theorem WorstMid.appended {w W W' : World} {cur saw : Array Value} {g n k k' : Nat} {v1 v2 sv sv' : Value} {H L sp sp' : List Value} (h : WorstMid w W cur saw g v1 v2 sv n H L k sp) (hg : W.grownBy W' sv.ownBlock) (ho : W'.ownsRow w.heap.size 161 4 sv' k' sp')
    (hsz : saw.size = 4) : WorstMid w (W'.setCell ⟨g, 6, none⟩ sv') cur saw g v1 v2 sv' n H L k' sp' := by
  have gc := h.fc.grown hg (own_blk_ne h.os h.fc (by decide))
  have gr := h.fr.grown hg (own_blk_ne h.os h.fr (by decide))
  have gg := h.fg.grown hg (own_blk_ne h.os h.fg (by decide))
  have g1 := h.o1.kept hg (own_own_ne h.o1 h.os (by decide))
  have g2 := h.o2.kept hg (own_own_ne h.o2 h.os (by decide))
  refine ⟨gc.far (p := ⟨g, 6, none⟩) ?_ _, gr.far (p := ⟨g, 6, none⟩) (fun e => h.ng e.symm) _, ?_, h.ng, h.lg, own_setCell g1 gg (by decide) 6 _, own_setCell g2 gg (by decide) 6 _, own_setCell ho gg (by decide) 6 _, (h.bel.grown hg h.bel.size (fun q hq => (h.os.lt q hq).1)).setCell (p := ⟨g, 6, none⟩) h.lg _⟩
  · intro e
    have := h.fg
    simp only at e
    subst e
    have hc := h.fc
    unfold Blk at this hc
    rw [this] at hc
    simp at hc
  · have := gg.set_ 6 sv'
    have e : (saw ++ #[v1, v2, sv]).setIfInBounds 6 sv' = saw ++ #[v1, v2, sv'] := by
      obtain ⟨l⟩ := saw
      match l, hsz with
      | [a, b, c, d], _ => rfl
    rw [e] at this
    exact this
end Go.Proofs.Ytiflhimmieflpaa
