/- Merged: Ra, Rb, Rc. -/
import Derived.Test.YtdekickmplkdiaaProg
import Derived.WalkKit
import Derived.WalkSpells
import Derived.Lib.Hide
import Derived.WalkSmall
import Derived.Deep.QuietTactic
import Derived.Laws.Rows
import Derived.WalkLawsBesides
import Derived.BigQuiet
import Derived.BigRegion
import Derived.StillTailTactics
import Derived.ChangeAlike
import Derived.Lib.LazyBuf
import Derived.Maps.AppendAt
import Derived.Deep.LoopGhost
import Derived.Laws.ResultCell
import Derived.Deep.RegionHeld3
import Derived.Lib.QuietBelow
import Derived.IntWalk

/- Base words: memory, blocks, span.Within and span.Valid, over the text of stage 5. -/

/- Words for memory: a slice that reads as a list of cells. -/
namespace Go.Proofs.Ytdekickmplkdiaa
open Go.RowKit

theorem block_of_add (a : Addr) (n : Nat) : (a.add n).block = a.block := by unfold Addr.add; split <;> rfl
theorem add_of_add (a : Addr) (i j : Nat) : (a.add i).add j = a.add (i + j) := by
  unfold Addr.add
  by_cases hi : i = 0 <;> by_cases hj : j = 0 <;> simp [hi, hj, Nat.add_assoc]

theorem lt_of_cell {w : World} {a : Addr} {v : Value} (h : w.cell? a = some v) : a.block < w.heap.size := by
  rcases Nat.lt_or_ge a.block w.heap.size with hlt | hge
  · exact hlt
  · have : w.heap[a.block]? = none := Array.getElem?_eq_none hge
    simp [World.cell?, this] at h

/-- The slice `.slice A n c` reads as the cells xs, size cells an element. -/
def Reads (w : World) (size : Nat) (A : Option Addr) (n : Nat) (xs : List Value) : Prop :=
  xs.length = n * size ∧ (0 < n → ∃ b off, A = some ⟨b, off, none⟩ ∧ b < w.heap.size ∧ ∀ j u, xs[j]? = some u → w.cell? ⟨b, off + j, none⟩ = some u)

section
variable {w w' : World} {size n : Nat} {A : Option Addr} {xs : List Value}
theorem Reads.none_ : Reads w size A 0 [] := ⟨by simp, fun h => absurd h (by omega)⟩
theorem Reads.below (h : Reads w size A n xs) (hb : Below w.heap.size w w') : Reads w' size A n xs :=
  ⟨h.1, fun hn => by
    obtain ⟨b, off, e, hlt, hc⟩ := h.2 hn
    exact ⟨b, off, e, Nat.lt_of_lt_of_le hlt hb.size, fun j u hu => (hb.cell (p := ⟨b, off + j, none⟩) hlt).trans (hc j u hu)⟩⟩
theorem Reads.at1 {k : Nat} (h : Reads w 1 A n xs) (hk : k < n) : ∃ b off u, A = some ⟨b, off, none⟩ ∧ b < w.heap.size ∧ xs[k]? = some u ∧ w.cell? ⟨b, off + k, none⟩ = some u := by
  obtain ⟨b, off, e, hb, hc⟩ := h.2 (by omega)
  have hl : k < xs.length := by have := h.1; omega
  exact ⟨b, off, xs[k], e, hb, List.getElem?_eq_getElem hl, hc k _ (List.getElem?_eq_getElem hl)⟩
end

/-- ints -/
def Ints (w : World) (A : Option Addr) (n : Nat) (xs : List Int) : Prop := Reads w 1 A n (xs.map (Value.int .i64))
/-- pairs of ints: spans, places -/
def flat2 (xs : List (Int × Int)) : List Value := xs.flatMap fun s => [.int .i64 s.1, .int .i64 s.2]
def Pairs (w : World) (A : Option Addr) (n : Nat) (xs : List (Int × Int)) : Prop := Reads w 2 A n (flat2 xs)

theorem flat2_length (xs : List (Int × Int)) : (flat2 xs).length = xs.length * 2 := by
  unfold flat2; induction xs with
  | nil => rfl
  | cons a r ih => simp only [List.flatMap_cons, List.length_append, ih, List.length_cons, List.length_nil]; omega
theorem flat2_at (xs : List (Int × Int)) (k : Nat) (h : k < xs.length) : (flat2 xs)[k * 2]? = some (.int .i64 (xs[k]).1) ∧ (flat2 xs)[k * 2 + 1]? = some (.int .i64 (xs[k]).2) := by
  unfold flat2; induction xs generalizing k with
  | nil => simp at h
  | cons a r ih =>
    cases k with
    | zero => simp
    | succ m =>
      have := ih m (by simpa using h)
      rw [show (m + 1) * 2 = m * 2 + 2 from by omega]
      simpa using this
section
variable {w w' : World} {n k : Nat} {A : Option Addr}
theorem Ints.len {xs : List Int} (h : Ints w A n xs) : xs.length = n := by have := h.1; simpa using this
theorem Ints.below {xs : List Int} (h : Ints w A n xs) (hb : Below w.heap.size w w') : Ints w' A n xs := Reads.below h hb
theorem Ints.at_ {xs : List Int} (h : Ints w A n xs) (hk : k < n) : ∃ b off, A = some ⟨b, off, none⟩ ∧ b < w.heap.size ∧ w.cell? ⟨b, off + k, none⟩ = some (.int .i64 (xs.getD k 0)) := by
  obtain ⟨b, off, u, e, hb, hx, hc⟩ := Reads.at1 h hk
  have hl : k < xs.length := by rw [h.len]; exact hk
  refine ⟨b, off, e, hb, ?_⟩
  rw [hc, ← hx]; simp [hl, List.getD]
theorem Pairs.len {xs : List (Int × Int)} (h : Pairs w A n xs) : xs.length = n := by have := h.1; rw [flat2_length] at this; omega
theorem Pairs.below {xs : List (Int × Int)} (h : Pairs w A n xs) (hb : Below w.heap.size w w') : Pairs w' A n xs := Reads.below h hb
theorem Pairs.at_ {xs : List (Int × Int)} (h : Pairs w A n xs) (hk : k < n) : ∃ b off, A = some ⟨b, off, none⟩ ∧ b < w.heap.size ∧ w.cell? ⟨b, off + k * 2, none⟩ = some (.int .i64 (xs.getD k (0, 0)).1) ∧ w.cell? ⟨b, off + k * 2 + 1, none⟩ = some (.int .i64 (xs.getD k (0, 0)).2) := by
  obtain ⟨b, off, e, hb, hc⟩ := h.2 (by omega)
  have hl : k < xs.length := by rw [h.len]; exact hk
  have h2 := flat2_at xs k hl
  refine ⟨b, off, e, hb, ?_, ?_⟩
  · rw [hc _ _ h2.1]; simp [hl, List.getD]
  · rw [Nat.add_assoc, hc _ _ h2.2]; simp [hl, List.getD]
end
theorem ints_new1 (w : World) (x : Int) (t : TypeId) {g : Nat} (hg : g = w.heap.size) : Ints (w.alloc (.cells #[.int .i64 x] t)) (some ⟨g, 0, none⟩) 1 [x] := by
  subst hg
  refine ⟨rfl, fun _ => ⟨_, _, rfl, by simp, fun j u hj => ?_⟩⟩
  match j, hj with
  | 0, hj => simp at hj; subst hj; simp
theorem ints_new2 (w : World) (x y : Int) (t : TypeId) {g : Nat} (hg : g = w.heap.size) : Ints (w.alloc (.cells #[.int .i64 x, .int .i64 y] t)) (some ⟨g, 0, none⟩) 2 [x, y] := by
  subst hg
  refine ⟨rfl, fun _ => ⟨_, _, rfl, by simp, fun j u hj => ?_⟩⟩
  match j, hj with
  | 0, hj => simp at hj; subst hj; simp
  | 1, hj => simp at hj; subst hj; simp
theorem pairs_new1 (w : World) (x y : Int) (t : TypeId) {g : Nat} (hg : g = w.heap.size) : Pairs (w.alloc (.cells #[.int .i64 x, .int .i64 y] t)) (some ⟨g, 0, none⟩) 1 [(x, y)] := by
  subst hg
  refine ⟨rfl, fun _ => ⟨_, _, rfl, by simp, fun j u hj => ?_⟩⟩
  match j, hj with
  | 0, hj => simp [flat2] at hj; subst hj; simp
  | 1, hj => simp [flat2] at hj; subst hj; simp
theorem pairs_new2 (w : World) (x y x' y' : Int) (t : TypeId) {g : Nat} (hg : g = w.heap.size) : Pairs (w.alloc (.cells #[.int .i64 x, .int .i64 y, .int .i64 x', .int .i64 y'] t)) (some ⟨g, 0, none⟩) 2 [(x, y), (x', y')] := by
  subst hg
  refine ⟨rfl, fun _ => ⟨_, _, rfl, by simp, fun j u hj => ?_⟩⟩
  match j, hj with
  | 0, hj => simp [flat2] at hj; subst hj; simp
  | 1, hj => simp [flat2] at hj; subst hj; simp
  | 2, hj => simp [flat2] at hj; subst hj; simp
  | 3, hj => simp [flat2] at hj; subst hj; simp
theorem ret_bool {a b : Bool} (h : a = b) : Ending.returned (.bool a) = .returned (.bool b) := by rw [h]
theorem ret_int {k : IntKind} {a b : Int} (h : a = b) : Ending.returned (.int k a) = .returned (.int k b) := by rw [h]
end Go.Proofs.Ytdekickmplkdiaa

/- A block that is known whole. -/
namespace Go.Proofs.Ytdekickmplkdiaa
open Go.RowKit

/-- Block g is just these cells, none of them frozen. -/
def Blk (w : World) (g : Nat) (t : TypeId) (cs : Array Value) : Prop := w.heap[g]? = some (.cells cs t (0, 0))
section
variable {w w' : World} {g : Nat} {t : TypeId} {cs : Array Value}
theorem Blk.lt (h : Blk w g t cs) : g < w.heap.size := by
  rcases Nat.lt_or_ge g w.heap.size with hlt | hge
  · exact hlt
  · unfold Blk at h; rw [Array.getElem?_eq_none hge] at h; cases h
theorem Blk.cell (h : Blk w g t cs) (i : Nat) : w.cell? ⟨g, i, none⟩ = cs[i]? := cell_of_row w g i cs t (0, 0) h
theorem Blk.frozen (h : Blk w g t cs) (i : Nat) : w.frozen? ⟨g, i, none⟩ = false := by
  unfold Blk at h
  simp [World.frozen?, h]
theorem Blk.new (w : World) (t : TypeId) (cs : Array Value) {g : Nat} (hg : g = w.heap.size) : Blk (w.alloc (.cells cs t)) g t cs := by subst hg; exact heap_alloc_new w _
theorem Blk.alloc (h : Blk w g t cs) (o : Obj) : Blk (w.alloc o) g t cs := (Below.heap_alloc w o g h.lt).trans h
theorem Blk.set_ (h : Blk w g t cs) (i : Nat) (u : Value) : Blk (w.setCell ⟨g, i, none⟩ u) g t (cs.setIfInBounds i u) := by
  unfold Blk at h ⊢
  simp [World.setCell, Array.getElem?_modify, h]
theorem Blk.far (h : Blk w g t cs) {p : Addr} (hp : g ≠ p.block) (u : Value) : Blk (w.setCell p u) g t cs := (Below.heap_setCell w p u g hp).trans h
theorem Blk.below {B : Nat} (h : Blk w g t cs) (hb : Below B w w') (hg : g < B) : Blk w' g t cs := (hb.block g hg).trans h
theorem Blk.drewN (h : Blk w g t cs) (n : Nat) : Blk (w.drewN n) g t cs := h
end
end Go.Proofs.Ytdekickmplkdiaa

/- Walks: span.Within, span.Valid. -/
namespace Go.Proofs.Ytdekickmplkdiaa
open Go.RowKit

def within (lo hi : Int) (xs : List Int) : Bool := xs.all fun n => decide (lo ≤ n) && decide (n ≤ hi)

theorem within_take {lo hi : Int} {xs : List Int} {k : Nat} (hk : k < xs.length) : within lo hi (xs.take (k + 1)) = (within lo hi (xs.take k) && (decide (lo ≤ xs.getD k 0) && decide (xs.getD k 0 ≤ hi))) := by
  unfold within
  rw [List.take_succ_eq_append_getElem hk, List.all_append]
  simp [hk, List.getD]
theorem within_no {lo hi : Int} {xs : List Int} {k : Nat} (hk : k < xs.length) (h : (decide (lo ≤ xs.getD k 0) && decide (xs.getD k 0 ≤ hi)) = false) : within lo hi xs = false := by
  have h2 := within_take (lo := lo) (hi := hi) hk
  rw [h, Bool.and_false] at h2
  unfold within at *
  rw [← List.take_append_drop (k + 1) xs, List.all_append, h2, Bool.false_and]

set_option maxHeartbeats 400000 in
theorem within_any (lo hi : Int) (A : Option Addr) (n c : Nat) (xs : List Int) (w : World) (h : Ints w A n xs) (hn : n ≤ maxLen) :
    Calls Try.prog 73 #[.int .i64 lo, .int .i64 hi, .slice A n c] w fun e w' => e = .returned (.bool (within lo hi xs)) ∧ w = w' := by
  unfold maxLen at hn
  have hl := h.len
  go_enter Try.func73, Try.ntmps73
  go_wp2
  go_loop [11] (fun i => ∃ k : Nat, k ≤ n ∧ i = .int .i64 k ∧ within lo hi (xs.take k) = true) (fun i => n - (intOf i).toNat)
  case atStart => exact ⟨0, Nat.zero_le _, rfl, rfl⟩
  case round =>
    obtain ⟨k, hk, rfl, hin⟩ := hrel
    by_cases hlt : k < n
    · obtain ⟨b, off, rfl, hb, hc⟩ := h.at_ hlt
      have hx : k < xs.length := by omega
      have H := Lib.hid (within_take (lo := lo) (hi := hi) hx)
      have Hin := Lib.hid hin
      have Hno := Lib.hid (within_no (lo := lo) (hi := hi) hx)
      clear hin hl
      generalize xs.getD k 0 = y at *
      by_cases h1 : y < lo
      · go_wp2
        go_ret
        exact ⟨ret_bool (Hno.out (by simp; omega)).symm, rfl⟩
      · by_cases h2 : hi < y
        · go_wp2
          go_ret
          exact ⟨ret_bool (Hno.out (by simp; omega)).symm, rfl⟩
        · go_wp2
          go_round
          case rel => exact ⟨k + 1, by omega, by go_num, by rw [H.out, Hin.out]; simp; omega⟩
          case measure => simp [intOf]; omega
    · have he : within lo hi xs = true := by rw [← hin, List.take_of_length_le (by omega)]
      clear hin
      have He := Lib.hid he
      clear he
      go_wp2
      go_ret
      exact ⟨ret_bool He.out.symm, rfl⟩
theorem within1 (lo hi x : Int) (t : TypeId) (g : Nat) (w : World) (hg : g = w.heap.size) : Calls Try.prog 73 #[.int .i64 lo, .int .i64 hi, .slice (some ⟨g, 0, none⟩) 1 1] (w.alloc (.cells #[.int .i64 x] t))
    fun e w' => e = .returned (.bool (within lo hi [x])) ∧ w.alloc (.cells #[.int .i64 x] t) = w' := within_any lo hi _ 1 1 [x] _ (ints_new1 w x t hg) (by decide)
theorem within2 (lo hi x y : Int) (t : TypeId) (g : Nat) (w : World) (hg : g = w.heap.size) : Calls Try.prog 73 #[.int .i64 lo, .int .i64 hi, .slice (some ⟨g, 0, none⟩) 2 2] (w.alloc (.cells #[.int .i64 x, .int .i64 y] t))
    fun e w' => e = .returned (.bool (within lo hi [x, y])) ∧ w.alloc (.cells #[.int .i64 x, .int .i64 y] t) = w' := within_any lo hi _ 2 2 [x, y] _ (ints_new2 w x y t hg) (by decide)

def validS (lo hi : Int) (xs : List (Int × Int)) : Bool := xs.all fun s => decide (s.1 ≤ s.2) && (decide (lo ≤ s.1) && decide (s.1 ≤ hi) && (decide (lo ≤ s.2) && decide (s.2 ≤ hi)))
theorem validS_take {lo hi : Int} {xs : List (Int × Int)} {k : Nat} (hk : k < xs.length) : validS lo hi (xs.take (k + 1)) = (validS lo hi (xs.take k) &&
    (decide ((xs.getD k (0, 0)).1 ≤ (xs.getD k (0, 0)).2) && (decide (lo ≤ (xs.getD k (0, 0)).1) && decide ((xs.getD k (0, 0)).1 ≤ hi) && (decide (lo ≤ (xs.getD k (0, 0)).2) && decide ((xs.getD k (0, 0)).2 ≤ hi))))) := by
  unfold validS
  rw [List.take_succ_eq_append_getElem hk, List.all_append]
  simp [hk, List.getD]
theorem validS_no {lo hi : Int} {xs : List (Int × Int)} {k : Nat} (hk : k < xs.length) (h : (decide ((xs.getD k (0, 0)).1 ≤ (xs.getD k (0, 0)).2) && (decide (lo ≤ (xs.getD k (0, 0)).1) && decide ((xs.getD k (0, 0)).1 ≤ hi) && (decide (lo ≤ (xs.getD k (0, 0)).2) && decide ((xs.getD k (0, 0)).2 ≤ hi)))) = false) : validS lo hi xs = false := by
  have h2 := validS_take (lo := lo) (hi := hi) hk
  rw [h, Bool.and_false] at h2
  unfold validS at *
  rw [← List.take_append_drop (k + 1) xs, List.all_append, h2, Bool.false_and]

set_option maxHeartbeats 400000 in
theorem valid_any (lo hi : Int) (A : Option Addr) (n c : Nat) (xs : List (Int × Int)) (w : World) (h : Pairs w A n xs) (hn : n ≤ maxLen) :
    Calls Try.prog 76 #[.int .i64 lo, .int .i64 hi, .slice A n c] w fun e w' => e = .returned (.bool (validS lo hi xs)) ∧ Below w.heap.size w w' := by
  unfold maxLen at hn
  have hl := h.len
  go_enter Try.func76, Try.ntmps76
  go_wp2
  go_loopw [11] (fun i wr => ∃ k : Nat, k ≤ n ∧ i = .int .i64 k ∧ validS lo hi (xs.take k) = true ∧ Below w.heap.size w wr) (fun i _ => n - (intOf i).toNat)
  case atStart => exact ⟨0, Nat.zero_le _, rfl, rfl, Below.refl _ _⟩
  case round =>
    obtain ⟨k, hk, rfl, hin, hbel⟩ := hrel
    by_cases hlt : k < n
    · obtain ⟨b, off, rfl, hb, hc1, hc2⟩ := (h.below hbel).at_ hlt
      have hx : k < xs.length := by omega
      have H := Lib.hid (validS_take (lo := lo) (hi := hi) hx)
      have Hin := Lib.hid hin
      have Hno := Lib.hid (validS_no (lo := lo) (hi := hi) hx)
      clear hin hl
      generalize xs.getD k (0, 0) = y at *
      have hw : within lo hi [y.1, y.2] = (decide (lo ≤ y.1) && decide (y.1 ≤ hi) && (decide (lo ≤ y.2) && decide (y.2 ≤ hi))) := by simp [within]
      rw [← hw] at H Hno
      clear hw
      by_cases h1 : y.2 < y.1
      · go_wp2
        go_ret
        exact ⟨ret_bool (Hno.out (by simp; omega)).symm, hbel.trans ((Below.refl _ _).alloc hbel.size _)⟩
      · cases hq : within lo hi [y.1, y.2]
        · go_wp2_with (go_at_call 73; refine (within2 _ _ _ _ _ _ _ (by simp)).mono ?_; rintro e w' ⟨rfl, rfl⟩)
          go_ret
          exact ⟨ret_bool (Hno.out (by simp [hq])).symm, hbel.trans (((Below.refl _ _).alloc hbel.size _).alloc (by simp; have := hbel.size; omega) _)⟩
        · go_wp2_with (go_at_call 73; refine (within2 _ _ _ _ _ _ _ (by simp)).mono ?_; rintro e w' ⟨rfl, rfl⟩)
          go_roundw
          case rel => exact ⟨k + 1, by omega, by go_num, by rw [H.out, Hin.out, hq]; simp; omega, hbel.trans (((Below.refl _ _).alloc hbel.size _).alloc (by simp; have := hbel.size; omega) _)⟩
          case measure => simp [intOf]; omega
    · have he : validS lo hi xs = true := by rw [← hin, List.take_of_length_le (by omega)]
      clear hin
      have He := Lib.hid he
      clear he
      go_wp2
      go_ret
      exact ⟨ret_bool He.out.symm, hbel⟩
end Go.Proofs.Ytdekickmplkdiaa

namespace Go.Proofs.Ytdekickmplkdiaa
open Go.RowKit

theorem valid1 (lo hi x y : Int) (t : TypeId) (g : Nat) (w : World) (hg : g = w.heap.size) : Calls Try.prog 76 #[.int .i64 lo, .int .i64 hi, .slice (some ⟨g, 0, none⟩) 1 1] (w.alloc (.cells #[.int .i64 x, .int .i64 y] t))
    fun e w' => e = .returned (.bool (validS lo hi [(x, y)])) ∧ Below (w.heap.size + 1) (w.alloc (.cells #[.int .i64 x, .int .i64 y] t)) w' := (valid_any lo hi _ 1 1 [(x, y)] _ (pairs_new1 w x y t hg) (by decide)).mono fun e w' h => ⟨h.1, by have := h.2; simpa using this⟩
theorem valid2 (lo hi x y x' y' : Int) (t : TypeId) (g : Nat) (w : World) (hg : g = w.heap.size) : Calls Try.prog 76 #[.int .i64 lo, .int .i64 hi, .slice (some ⟨g, 0, none⟩) 2 2] (w.alloc (.cells #[.int .i64 x, .int .i64 y, .int .i64 x', .int .i64 y'] t))
    fun e w' => e = .returned (.bool (validS lo hi [(x, y), (x', y')])) ∧ Below (w.heap.size + 1) (w.alloc (.cells #[.int .i64 x, .int .i64 y, .int .i64 x', .int .i64 y'] t)) w' := (valid_any lo hi _ 2 2 [(x, y), (x', y')] _ (pairs_new2 w x y x' y' t hg) (by decide)).mono fun e w' h => ⟨h.1, by have := h.2; simpa using this⟩
def idx {α : Type} (p : α → Bool) (xs : List α) : Int := match xs.findIdx? p with
  | some i => i
  | none => -1
def noneOf {α : Type} (p : α → Bool) (xs : List α) : Bool := xs.all fun x => !p x
theorem noneOf_succ {α : Type} {p : α → Bool} {xs : List α} {k : Nat} (z : α) (hk : k < xs.length) : noneOf p (xs.take (k + 1)) = (noneOf p (xs.take k) && !p (xs.getD k z)) := by
  unfold noneOf
  rw [List.take_succ_eq_append_getElem hk, List.all_append]
  simp [hk, List.getD]
theorem idx_none {α : Type} {p : α → Bool} {xs : List α} (h : noneOf p xs = true) : idx p xs = -1 := by
  have : xs.findIdx? p = none := by
    rw [List.findIdx?_eq_none_iff]
    intro x hx
    have := (List.all_eq_true.1 h) x hx
    simpa using this
  rw [idx, this]
theorem idx_hit {α : Type} {p : α → Bool} {xs : List α} {k : Nat} (z : α) (hk : k < xs.length) (h : noneOf p (xs.take k) = true) (hp : p (xs.getD k z) = true) : idx p xs = k := by
  have hx : xs.getD k z = xs[k] := by simp [hk, List.getD]
  rw [hx] at hp
  have : xs.findIdx? p = some k := by
    rw [List.findIdx?_eq_some_iff_getElem]
    refine ⟨hk, hp, fun j hj => ?_⟩
    have hm : xs[j]'(by omega) ∈ xs.take k := by
      rw [List.mem_take_iff_getElem]
      exact ⟨j, by omega, rfl⟩
    have := (List.all_eq_true.1 h) _ hm
    simpa using this
  rw [idx, this]
theorem idx_any {α : Type} {p : α → Bool} {xs : List α} : decide (0 ≤ idx p xs) = xs.any p := by
  unfold idx
  cases h : xs.findIdx? p with
  | none =>
    rw [List.findIdx?_eq_none_iff] at h
    have h2 : xs.any p = false := by rw [List.any_eq_false]; intro x hx; simp [h x hx]
    rw [h2]; decide
  | some i =>
    rw [List.findIdx?_eq_some_iff_getElem] at h
    obtain ⟨hi, hp, _⟩ := h
    have h2 : xs.any p = true := List.any_eq_true.2 ⟨_, List.getElem_mem hi, hp⟩
    rw [h2]; simp

theorem addr_add (b off j : Nat) : (⟨b, off, none⟩ : Addr).add j = ⟨b, off + j, none⟩ := by
  unfold Addr.add
  by_cases h : j = 0 <;> simp [h]
theorem ints_oneCell1 (xs : List Int) : ∀ u ∈ xs.map (Value.int .i64), u.oneCell' = true := by
  intro u hu
  simp only [List.mem_map] at hu
  obtain ⟨a, _, rfl⟩ := hu
  rfl
theorem flat2_oneCell (xs : List (Int × Int)) : ∀ u ∈ flat2 xs, u.oneCell' = true := by
  intro u hu
  simp only [flat2, List.mem_flatMap, List.mem_cons, List.not_mem_nil, or_false] at hu
  obtain ⟨a, _, h⟩ := hu
  rcases h with rfl | rfl <;> rfl
theorem Try.infoInt : (Try.prog.info? 3).map (fun i => (i.zero, i.size, i.bytes)) = some (some (.int .i64 0), 1, 8) := by kernel_rfl
theorem Try.infoSpan : (Try.prog.info? 23).map (fun i => (i.zero, i.size, i.bytes)) = some (some (.agg #[.int .i64 0, .int .i64 0]), 2, 16) := by kernel_rfl
/-- What a clone is. -/
def Cloned (w : World) (t size n : Nat) (xs : List Value) (e : Ending) (w' : World) : Prop :=
  ∃ g cap, e = .returned (.slice (some ⟨g, 0, none⟩) n cap) ∧ w'.ownsRow w.heap.size t size (.slice (some ⟨g, 0, none⟩) n cap) n xs ∧ Below w.heap.size w w'

theorem results_ct {fn : Func} {p u : Tmp} {ty : TypeId} (h : fn.results = #[.cell p ty, .tmp u]) (tmps : Array Value) (P : Program) (w : World) (g : Nat) (t : TypeId) (cs : Array Value) (fs : Array Field)
    (hp : tmps.getD p undef = .pointer (some ⟨g, 0, none⟩)) (hg : Blk w g t cs) (hu : P.underlying ty = some (.struct fs)) (hi : (P.info? ty).map (·.size) = some cs.size) :
    (results fn tmps).run P w = .ok (.tuple #[.agg cs, tmps.getD u undef]) w := by
  rw [results_cell_tmp h, hp]
  simp [asAddr, run_loadVar_row w g t ty cs (0, 0) _ hg hu rfl hi]
theorem results_c {fn : Func} {p : Tmp} {ty : TypeId} (h : fn.results = #[.cell p ty]) (tmps : Array Value) (P : Program) (w : World) (g : Nat) (t : TypeId) (cs : Array Value) (fs : Array Field)
    (hp : tmps.getD p undef = .pointer (some ⟨g, 0, none⟩)) (hg : Blk w g t cs) (hu : P.underlying ty = some (.struct fs)) (hi : (P.info? ty).map (·.size) = some cs.size) :
    (results fn tmps).run P w = .ok (.agg cs) w := results_cell_row h tmps w g t cs (0, 0) _ hp hg hu rfl hi
theorem Blk.setRow {w : World} {g : Nat} {t : TypeId} {cs : Array Value} (h : Blk w g t cs) (cs' : Array Value) : Blk (w.setRow g cs') g t cs' := setRow_heap w g cs _ t _ h
theorem Blk.setRow_far {w : World} {g g' : Nat} {t : TypeId} {cs : Array Value} (h : Blk w g t cs) (hg : g ≠ g') (cs' : Array Value) : Blk (w.setRow g' cs') g t cs := (setRow_other w g' g cs' hg).trans h
theorem below_setR {B : Nat} {a w : World} (h : Below B a w) {g : Nat} (hg : B ≤ g) (cs : Array Value) : Below B a (w.setRow g cs) :=
  h.trans ⟨rfl, rfl, rfl, by simp, fun k hk => setRow_other w g k cs (by omega)⟩
theorem grown_of_below {a w : World} (h : Below a.heap.size a w) (row : Option Nat) : a.grownBy w row := ⟨h.os, h.tape, h.output, h.size, fun i hi _ => h.block i hi⟩
theorem ownsRow_below {w w' : World} {base : Nat} {e : TypeId} {size : Nat} {v : Value} {n : Nat} {xs : List Value} (h : w.ownsRow base e size v n xs) (hb : Below w.heap.size w w') : w'.ownsRow base e size v n xs :=
  h.kept (grown_of_below hb none) (by cases v.ownBlock <;> simp)
theorem ints_of_own {w : World} {base g cap n : Nat} {t : TypeId} {xs : List Int} (h : w.ownsRow base t 1 (.slice (some ⟨g, 0, none⟩) n cap) n (xs.map (Value.int .i64))) : Ints w (some ⟨g, 0, none⟩) n xs := by
  refine ⟨by have := h.1; simpa using this, fun hn => ⟨g, 0, rfl, (h.lt g rfl).2, fun j u hj => ?_⟩⟩
  have hjl : j < n * 1 := by have := (List.getElem?_eq_some_iff.1 hj).1; have := h.1; simp at *; omega
  rw [Nat.zero_add, h.cellAt j hjl, hj]
theorem pairs_of_own {w : World} {base g cap n : Nat} {t : TypeId} {xs : List (Int × Int)} (h : w.ownsRow base t 2 (.slice (some ⟨g, 0, none⟩) n cap) n (flat2 xs)) : Pairs w (some ⟨g, 0, none⟩) n xs := by
  refine ⟨h.1, fun hn => ⟨g, 0, rfl, (h.lt g rfl).2, fun j u hj => ?_⟩⟩
  have hjl : j < n * 2 := by have := (List.getElem?_eq_some_iff.1 hj).1; have := h.1; omega
  rw [Nat.zero_add, h.cellAt j hjl, hj]
theorem own_form {w : World} {base : Nat} {e : TypeId} {size : Nat} {v : Value} {n : Nat} {xs : List Value} (h : w.ownsRow base e size v n xs) (hn : 0 < n) : ∃ g cap, v = .slice (some ⟨g, 0, none⟩) n cap := by
  rcases h.2 with ⟨_, hz⟩ | ⟨g, cap, _, hv, _⟩
  · omega
  · exact ⟨g, cap, hv⟩
theorem own_blk_ne {w : World} {base : Nat} {e t : TypeId} {size n g : Nat} {v : Value} {xs : List Value} {cs : Array Value} (h : w.ownsRow base e size v n xs) (hg : Blk w g t cs) (hne : e ≠ t) : v.ownBlock ≠ some g := by
  rcases h.2 with ⟨rfl, _⟩ | ⟨g', cap, cur, rfl, _, hh, _⟩
  · simp [Value.ownBlock]
  · intro he
    have : g' = g := by simpa [Value.ownBlock] using he
    subst this
    unfold Blk at hg
    rw [hh] at hg
    simp only [Option.some.injEq, Obj.cells.injEq] at hg
    exact hne hg.2.1
theorem Blk.grown {w w' : World} {g : Nat} {t : TypeId} {cs : Array Value} {row : Option Nat} (h : Blk w g t cs) (hb : w.grownBy w' row) (hg : row ≠ some g) : Blk w' g t cs := (hb.block g h.lt (fun e => hg e.symm)).trans h
theorem own_setRow {w : World} {base : Nat} {e t : TypeId} {size n g : Nat} {v : Value} {xs : List Value} {cs : Array Value} (h : w.ownsRow base e size v n xs) (hg : Blk w g t cs) (hne : e ≠ t) (cs' : Array Value) : (w.setRow g cs').ownsRow base e size v n xs :=
  h.kept (row := some g) ⟨rfl, rfl, rfl, by simp, fun k _ hk => setRow_other w g k cs' (fun e => hk (by rw [e]))⟩ (by have := own_blk_ne h hg hne; right; exact this)
theorem below_allocd {w W : World} (h : Below w.heap.size w W.drew) (o : Obj) : Below w.heap.size w (W.alloc o).drew := Below.alloc (w := W.drew) h h.size o
theorem below_alloc' {w W : World} (h : Below w.heap.size w W) (o : Obj) : Below w.heap.size w (W.alloc o) := h.alloc h.size o
theorem below_then {w W W' : World} (h : Below w.heap.size w W) (hb : Below W.heap.size W W') : Below w.heap.size w W' := h.trans (hb.mono h.size)
theorem blk_keep {W W1 : World} {g : Nat} {t : TypeId} {cs : Array Value} (hb : Below W.heap.size W W1) (h : Blk W g t cs) : Blk W1 g t cs := h.below hb h.lt
theorem below_self (W : World) (o : Obj) : Below W.heap.size W (W.alloc o) := (Below.refl _ _).alloc (Nat.le_refl _) o
theorem own_base {w : World} {base base' : Nat} {e : TypeId} {size n : Nat} {v : Value} {xs : List Value} (h : w.ownsRow base e size v n xs) (hb : base' ≤ base) : w.ownsRow base' e size v n xs := by
  refine ⟨h.1, ?_⟩
  rcases h.2 with h1 | ⟨g, cap, cur, h1, h2, h3⟩
  · exact .inl h1
  · exact .inr ⟨g, cap, cur, h1, Nat.le_trans hb h2, h3⟩
theorem own_cap {w : World} {base n size cap : Nat} {A : Option Addr} {t : TypeId} {xs : List Value} (h : w.ownsRow base t size (.slice A n cap) n xs) : n ≤ cap ∧ cap ≤ maxLen := by
  rcases h.2 with ⟨h1, h2⟩ | ⟨g, cap', _, hv, _, _, h3, h4, _⟩
  · simp only [Value.slice.injEq] at h1
    obtain ⟨_, _, rfl⟩ := h1
    subst h2
    exact ⟨Nat.le_refl _, Nat.zero_le _⟩
  · simp only [Value.slice.injEq] at hv
    obtain ⟨_, _, rfl⟩ := hv
    exact ⟨h3, h4⟩
theorem own_slice {w : World} {base n size : Nat} {t : TypeId} {v : Value} {xs : List Value} (h : w.ownsRow base t size v n xs) : ∃ A cap, v = .slice A n cap := by
  rcases h.2 with ⟨rfl, rfl⟩ | ⟨g, cap, _, hv, _⟩
  · exact ⟨none, 0, rfl⟩
  · exact ⟨_, _, hv⟩
theorem run_append_any {P : Program} (w : World) (base : Nat) (t ty e : TypeId) (i : TypeInfo) (z : Value) (size bytes : Nat) (ht : P.underlying t = some (.slice e)) (hi : P.info? e = some i) (hz : i.zero = some z) (hsize : i.size = size) (hby : i.bytes = bytes) (hzs : z.cells.size = size) (hsz : 0 < size)
    (v : Value) (n : Nat) (xs : List Value) (hown : w.ownsRow base e size v n xs) (A : Option Addr) (m c : Nat) (news : List Value) (hr : Reads w size A m news) (h1 : ∀ u ∈ news, u.oneCell' = true) (h63 : n + m ≤ maxLen) (hbytes : (n + m) * bytes ≤ 140737488355328) (hbase : base ≤ w.heap.size) :
    ∃ v' w', (Builtin.append_ #[t, t] ty #[v, .slice A m c]).run P w = .ok v' w' ∧ w'.ownsRow base e size v' (n + m) (xs ++ news) ∧ w.grownBy w' v.ownBlock := by
  rcases Nat.eq_zero_or_pos m with rfl | hpos
  · have hx : news = [] := List.eq_nil_of_length_eq_zero (by have := hr.1; omega)
    subst hx
    refine ⟨v, w, ?_, by simpa using hown, World.grownBy.refl w _⟩
    rcases hown.2 with ⟨rfl, rfl⟩ | ⟨g, cap, cur, rfl, _, _, hc, _, _⟩
    · cases A with
      | none => simp [Builtin.append_, run_underlying ht, sizeOf, typeInfo, hi, Builtin.lenOf, Builtin.firstCells]
      | some ad => simp [Builtin.append_, run_underlying ht, sizeOf, typeInfo, hi, Builtin.lenOf, Builtin.firstCells, loadCells, loadCellsFrom]
    · cases A with
      | none => simp [Builtin.append_, run_underlying ht, sizeOf, typeInfo, hi, Builtin.lenOf, Builtin.firstCells, storeCells, hc]
      | some ad => simp [Builtin.append_, run_underlying ht, sizeOf, typeInfo, hi, Builtin.lenOf, Builtin.firstCells, storeCells, loadCells, loadCellsFrom, hc]
  · obtain ⟨b, o, rfl, _, hc⟩ := hr.2 hpos
    obtain ⟨v', w', hrun, r1, r2, _⟩ := run_append_own (P := P) w base t ty e i z size bytes ht hi hz hsize hby hzs hsz v n xs hown ⟨b, o, none⟩ m c news hr.1 (fun j u hj => by rw [addr_add]; exact hc j u hj) h1 h63 hbytes hbase
    exact ⟨v', w', hrun, r1, r2⟩
theorem wpList_append_any {P : Program} {ops : Array Oper} {rest : List Oper} {o : Oper} {a : Act} {w : World} {Q : Exit → Act → World → Prop} (hgd : o.guard = none) (s x : Operand) (t : TypeId)
    (ho : o.op = .call { callee := .builtin .append, args := #[s, x], argTypes := #[t, t] })
    (base : Nat) (e : TypeId) (i : TypeInfo) (z : Value) (size bytes : Nat) (ht : P.underlying t = some (.slice e)) (hi : P.info? e = some i) (hz : i.zero = some z)
    (hsize : i.size = size) (hby : i.bytes = bytes) (hzs : z.cells.size = size) (hsz : 0 < size)
    (v : Value) (n : Nat) (xs : List Value) (hs : a.eval s = v) (hown : w.ownsRow base e size v n xs)
    (A : Option Addr) (m c : Nat) (news : List Value) (hx : a.eval x = .slice A m c) (hr : Reads w size A m news) (h1 : ∀ u ∈ news, u.oneCell' = true)
    (h63 : n + m ≤ maxLen) (hbytes : (n + m) * bytes ≤ 140737488355328) (hbase : base ≤ w.heap.size)
    (h : ∀ v' w', w'.ownsRow base e size v' (n + m) (xs ++ news) → w.grownBy w' v.ownBlock → wpList P ops Q rest (a.put o.dst v') w') : wpList P ops Q (o :: rest) a w := by
  refine wpList_plain hgd fun K hK => ?_
  obtain ⟨v', w', hrun, r1, r2⟩ := run_append_any (P := P) w base t o.type e i z size bytes ht hi hz hsize hby hzs hsz v n xs hown A m c news hr h1 h63 hbytes hbase
  unfold Oper.wp
  simp [execOp, ho, resolve, invoke, builtin, hs, hx, hrun, Result.andThen]
  exact hK _ _ (h v' w' r1 r2)
/-- Two lists of the call's own, of two types, lie in two blocks. -/
theorem own_apart {w : World} {b b' size size' n n' : Nat} {e e' : TypeId} {v v' : Value} {xs xs' : List Value} (h : w.ownsRow b e size v n xs) (h' : w.ownsRow b' e' size' v' n' xs') (hne : e ≠ e') : v.ownBlock = none ∨ v.ownBlock ≠ v'.ownBlock := by
  rcases h.2 with ⟨rfl, _⟩ | ⟨g, cap, cur, rfl, _, hh, _⟩
  · exact .inl rfl
  · refine .inr fun he => ?_
    rcases h'.2 with ⟨rfl, _⟩ | ⟨g', cap', cur', rfl, _, hh', _⟩
    · simp [Value.ownBlock] at he
    · have : g = g' := by simpa [Value.ownBlock] using he
      subst this
      rw [hh] at hh'
      simp only [Option.some.injEq, Obj.cells.injEq] at hh'
      exact hne hh'.2.1
structure Gap where
  ll : Int
  lh : Int
  fl : Int
  fh : Int
  deriving DecidableEq
def Gap.zero : Gap := ⟨0, 0, 0, 0⟩
def Gap.cells (g : Gap) : List Value := [.int .i64 g.ll, .int .i64 g.lh, .int .i64 g.fl, .int .i64 g.fh]
def flatG (xs : List Gap) : List Value := xs.flatMap Gap.cells
def Gaps (w : World) (A : Option Addr) (n : Nat) (xs : List Gap) : Prop := Reads w 4 A n (flatG xs)
theorem flatG_length (xs : List Gap) : (flatG xs).length = xs.length * 4 := by
  unfold flatG; induction xs with
  | nil => rfl
  | cons a r ih => simp only [List.flatMap_cons, List.length_append, ih, List.length_cons, Gap.cells, List.length_nil]; omega
theorem flatG_at (xs : List Gap) (k j : Nat) (h : k < xs.length) (hj : j < 4) : (flatG xs)[k * 4 + j]? = (xs[k]).cells[j]? := by
  unfold flatG; induction xs generalizing k with
  | nil => simp at h
  | cons a r ih =>
    cases k with
    | zero => rw [List.flatMap_cons, List.getElem?_append_left (by simp [Gap.cells]; omega)]; simp
    | succ m =>
      rw [List.flatMap_cons, List.getElem?_append_right (by simp [Gap.cells]; omega)]
      have := ih m (by simpa using h)
      simp only [Gap.cells, List.length_cons, List.length_nil] at this ⊢
      rw [show (m + 1) * 4 + j - (0 + 1 + 1 + 1 + 1) = m * 4 + j from by omega, this]
      simp
theorem flatG_append (xs ys : List Gap) : flatG (xs ++ ys) = flatG xs ++ flatG ys := by simp [flatG]
theorem flatG_oneCell (xs : List Gap) : ∀ u ∈ flatG xs, u.oneCell' = true := by
  intro u hu
  simp only [flatG, Gap.cells, List.mem_flatMap, List.mem_cons, List.not_mem_nil, or_false] at hu
  obtain ⟨a, _, h⟩ := hu
  rcases h with rfl | rfl | rfl | rfl <;> rfl
section
variable {w w' : World} {n k : Nat} {A : Option Addr} {xs : List Gap}
theorem Gaps.len (h : Gaps w A n xs) : xs.length = n := by have := h.1; rw [flatG_length] at this; omega
theorem Gaps.below (h : Gaps w A n xs) (hb : Below w.heap.size w w') : Gaps w' A n xs := Reads.below h hb
theorem Gaps.at_ (h : Gaps w A n xs) (hk : k < n) : ∃ b off, A = some ⟨b, off, none⟩ ∧ b < w.heap.size ∧ w.cell? ⟨b, off + k * 4, none⟩ = some (.int .i64 (xs.getD k Gap.zero).ll) ∧ w.cell? ⟨b, off + k * 4 + 1, none⟩ = some (.int .i64 (xs.getD k Gap.zero).lh) ∧
    w.cell? ⟨b, off + k * 4 + 2, none⟩ = some (.int .i64 (xs.getD k Gap.zero).fl) ∧ w.cell? ⟨b, off + k * 4 + 3, none⟩ = some (.int .i64 (xs.getD k Gap.zero).fh) := by
  obtain ⟨b, off, e, hb, hc⟩ := h.2 (by omega)
  have hl : k < xs.length := by rw [h.len]; exact hk
  have hx : xs.getD k Gap.zero = xs[k] := by simp [hl, List.getD]
  have g : ∀ j u, j < 4 → (xs[k]).cells[j]? = some u → w.cell? ⟨b, off + k * 4 + j, none⟩ = some u := fun j u hj hu => by
    rw [Nat.add_assoc]
    exact hc _ _ ((flatG_at xs k j hl hj).trans hu)
  rw [hx]
  exact ⟨b, off, e, hb, g 0 _ (by omega) rfl, g 1 _ (by omega) rfl, g 2 _ (by omega) rfl, g 3 _ (by omega) rfl⟩
end
theorem gaps_of_own {w : World} {base g cap n : Nat} {t : TypeId} {xs : List Gap} (h : w.ownsRow base t 4 (.slice (some ⟨g, 0, none⟩) n cap) n (flatG xs)) : Gaps w (some ⟨g, 0, none⟩) n xs := by
  refine ⟨h.1, fun hn => ⟨g, 0, rfl, (h.lt g rfl).2, fun j u hj => ?_⟩⟩
  have hjl : j < n * 4 := by have := (List.getElem?_eq_some_iff.1 hj).1; have := h.1; omega
  rw [Nat.zero_add, h.cellAt j hjl, hj]

/-- A stick of a closed fan. -/
structure Stk where
  wl : Int
  wh : Int
  tl : Int
  th : Int
  pl : Int
  deriving DecidableEq
def Stk.zero : Stk := ⟨0, 0, 0, 0, 0⟩
def Stk.cells (g : Stk) : List Value := [.int .i64 g.wl, .int .i64 g.wh, .int .i64 g.tl, .int .i64 g.th, .int .i64 g.pl]
def flatT (xs : List Stk) : List Value := xs.flatMap Stk.cells
def Stks (w : World) (A : Option Addr) (n : Nat) (xs : List Stk) : Prop := Reads w 5 A n (flatT xs)
theorem flatT_length (xs : List Stk) : (flatT xs).length = xs.length * 5 := by
  unfold flatT; induction xs with
  | nil => rfl
  | cons a r ih => simp only [List.flatMap_cons, List.length_append, ih, List.length_cons, Stk.cells, List.length_nil]; omega
theorem flatT_at (xs : List Stk) (k j : Nat) (h : k < xs.length) (hj : j < 5) : (flatT xs)[k * 5 + j]? = (xs[k]).cells[j]? := by
  unfold flatT; induction xs generalizing k with
  | nil => simp at h
  | cons a r ih =>
    cases k with
    | zero => rw [List.flatMap_cons, List.getElem?_append_left (by simp [Stk.cells]; omega)]; simp
    | succ m =>
      rw [List.flatMap_cons, List.getElem?_append_right (by simp [Stk.cells]; omega)]
      have := ih m (by simpa using h)
      simp only [Stk.cells, List.length_cons, List.length_nil] at this ⊢
      rw [show (m + 1) * 5 + j - (0 + 1 + 1 + 1 + 1 + 1) = m * 5 + j from by omega, this]
      simp
theorem flatT_oneCell (xs : List Stk) : ∀ u ∈ flatT xs, u.oneCell' = true := by
  intro u hu
  simp only [flatT, Stk.cells, List.mem_flatMap, List.mem_cons, List.not_mem_nil, or_false] at hu
  obtain ⟨a, _, h⟩ := hu
  rcases h with rfl | rfl | rfl | rfl | rfl <;> rfl
section
variable {w w' : World} {n k : Nat} {A : Option Addr} {xs : List Stk}
theorem Stks.len (h : Stks w A n xs) : xs.length = n := by have := h.1; rw [flatT_length] at this; omega
theorem Stks.below (h : Stks w A n xs) (hb : Below w.heap.size w w') : Stks w' A n xs := Reads.below h hb
theorem Stks.at_ (h : Stks w A n xs) (hk : k < n) : ∃ b off, A = some ⟨b, off, none⟩ ∧ b < w.heap.size ∧ w.cell? ⟨b, off + k * 5, none⟩ = some (.int .i64 (xs.getD k Stk.zero).wl) ∧ w.cell? ⟨b, off + k * 5 + 1, none⟩ = some (.int .i64 (xs.getD k Stk.zero).wh) ∧
    w.cell? ⟨b, off + k * 5 + 2, none⟩ = some (.int .i64 (xs.getD k Stk.zero).tl) ∧ w.cell? ⟨b, off + k * 5 + 3, none⟩ = some (.int .i64 (xs.getD k Stk.zero).th) ∧ w.cell? ⟨b, off + k * 5 + 4, none⟩ = some (.int .i64 (xs.getD k Stk.zero).pl) := by
  obtain ⟨b, off, e, hb, hc⟩ := h.2 (by omega)
  have hl : k < xs.length := by rw [h.len]; exact hk
  have hx : xs.getD k Stk.zero = xs[k] := by simp [hl, List.getD]
  have g : ∀ j u, j < 5 → (xs[k]).cells[j]? = some u → w.cell? ⟨b, off + k * 5 + j, none⟩ = some u := fun j u hj hu => by
    rw [Nat.add_assoc]
    exact hc _ _ ((flatT_at xs k j hl hj).trans hu)
  rw [hx]
  exact ⟨b, off, e, hb, g 0 _ (by omega) rfl, g 1 _ (by omega) rfl, g 2 _ (by omega) rfl, g 3 _ (by omega) rfl, g 4 _ (by omega) rfl⟩
end
theorem Try.infoGap : (Try.prog.info? 42).map (fun i => (i.zero, i.size, i.bytes)) = some (some (.agg #[.int .i64 0, .int .i64 0, .int .i64 0, .int .i64 0]), 4, 32) := by kernel_rfl
theorem Try.infoStk : (Try.prog.info? 106).map (fun i => (i.zero, i.size, i.bytes)) = some (some (.agg #[.int .i64 0, .int .i64 0, .int .i64 0, .int .i64 0, .int .i64 0]), 5, 40) := by kernel_rfl
theorem Try.infoRatio : (Try.prog.info? 77).map (fun i => (i.zero, i.size, i.bytes)) = some (some (.agg #[.int .i64 0, .int .i64 0]), 2, 16) := by kernel_rfl
theorem Try.infoStop : (Try.prog.info? 39).map (fun i => (i.zero, i.size, i.bytes)) = some (some (.int .i64 0), 1, 8) := by kernel_rfl
/-- An append of whatever list onto a slice of the call's own, as one step of a region that draws. -/
theorem step_append_any {P : Program} {ops : Array Oper} {o : Oper} {a : Act} {w : World} {K : Act → World → Prop} {Q : Exit → Act → World → Prop} {E : Prop}
    (hg : o.guard = none) (s x : Operand) (t : TypeId) (hop : o.op = Op.call { callee := Callee.builtin Builtin.append, args := #[s, x], argTypes := #[t, t] })
    (base : Nat) (e : TypeId) (i : TypeInfo) (z : Value) (size bytes : Nat) (ht : P.underlying t = some (.slice e)) (hi : P.info? e = some i) (hz : i.zero = some z) (hsz : i.size = size) (hby : i.bytes = bytes) (hzs : z.cells.size = size) (h0 : 0 < size)
    (v : Value) (n : Nat) (xs : List Value) (hs : a.eval s = v) (hown : w.ownsRow base e size v n xs) (A : Option Addr) (m c : Nat) (hx : a.eval x = .slice A m c) (news : List Value) (hr : Reads w size A m news) (h1 : ∀ u ∈ news, u.oneCell' = true)
    (h63 : n + m ≤ maxLen) (hb : (n + m) * bytes ≤ 140737488355328) (hbase : base ≤ w.heap.size)
    (hK : ∀ v' w', w'.ownsRow base e size v' (n + m) (xs ++ news) → w.grownBy w' v.ownBlock → K (a.put o.dst v') w') :
    if Region.wanted o (yielded ops a.tmps) = true then Oper.wp P o a w K Q else E := by
  have hw : Region.wanted o (yielded ops a.tmps) = true := by simp [Region.wanted, hg]
  rw [if_pos hw]
  obtain ⟨v', w', hrun, r1, r2⟩ := run_append_any (P := P) w base t o.type e i z size bytes ht hi hz hsz hby hzs h0 v n xs hown A m c news hr h1 h63 hb hbase
  unfold Oper.wp
  simp [execOp, hop, resolve, invoke, builtin, hs, hx, hrun, Result.andThen]
  exact hK v' w' r1 r2
end Go.Proofs.Ytdekickmplkdiaa

/- Walks: the error of a fan. -/
namespace Go.Proofs.Ytdekickmplkdiaa
open Go.RowKit

def gapOk (g : Gap) : Bool := validS 0 1000 [(g.ll, g.lh)] && validS 0 500 [(g.fl, g.fh)]
def gv (g : Gap) : Value := .agg #[.int .i64 g.ll, .int .i64 g.lh, .int .i64 g.fl, .int .i64 g.fh]

set_option maxHeartbeats 800000 in
theorem wrongGap_any (ll lh fl fh : Int) (w : World) :
    Calls Try.prog 93 #[.agg #[.int .i64 ll, .int .i64 lh, .int .i64 fl, .int .i64 fh]] w
      fun e w' => e = .returned (.bool (!gapOk ⟨ll, lh, fl, fh⟩)) ∧ Below w.heap.size w w' := by
  have HE : Hid (gapOk ⟨ll, lh, fl, fh⟩ = (validS 0 1000 [(ll, lh)] && validS 0 500 [(fl, fh)])) := rfl
  generalize gapOk ⟨ll, lh, fl, fh⟩ = r at *
  have B1 : Below w.heap.size w ((w.alloc (.cells #[.int .i64 ll, .int .i64 lh, .int .i64 fl, .int .i64 fh] 42)).alloc (.cells #[.int .i64 ll, .int .i64 lh] 23)) := ((Below.refl _ _).alloc (Nat.le_refl _) _).alloc (by simp) _
  cases q1 : validS 0 1000 [(ll, lh)]
  · go_enter Try.func93, Try.ntmps93
    go_wp2_with (go_at_call 76; refine (valid1 _ _ _ _ _ _ _ (by simp)).mono ?_; rintro e w' ⟨rfl, hb⟩)
    go_ret
    exact ⟨ret_bool (by rw [HE.out, q1]; rfl), B1.trans (hb.mono (by simp <;> omega))⟩
  go_enter Try.func93, Try.ntmps93
  go_wp2_with fail
  refine (valid1 _ _ _ _ _ _ _ (by simp)).mono ?_
  rintro e w2 ⟨rfl, hb2⟩
  have hz2 : w.heap.size + 2 ≤ w2.heap.size := by have := hb2.size; simpa using this
  have B2 := B1.trans (hb2.mono (by simp <;> omega))
  have c2 : w2.cell? ⟨w.heap.size, 2, none⟩ = some (.int .i64 fl) := (hb2.cell (p := ⟨w.heap.size, 2, none⟩) (by simp <;> omega)).trans (by simp)
  have c3 : w2.cell? ⟨w.heap.size, 3, none⟩ = some (.int .i64 fh) := (hb2.cell (p := ⟨w.heap.size, 3, none⟩) (by simp <;> omega)).trans (by simp)
  clear hb2 B1
  go_wp2_with (go_at_call 76; refine (valid1 _ _ _ _ _ _ _ (by simp)).mono ?_; rintro e w3 ⟨rfl, hb3⟩)
  go_ret
  exact ⟨ret_bool (by rw [HE.out, q1]; rfl), (B2.alloc (by omega) _).trans (hb3.mono (by omega))⟩

set_option maxHeartbeats 1000000 in
theorem indexGap_any (A : Option Addr) (n c : Nat) (xs : List Gap) (w : World) (h : Gaps w A n xs) (hn : n ≤ maxLen) :
    Calls Try.prog 117 #[.slice A n c, .func (.func 93) #[] #[]] w
      fun e w' => e = .returned (.int .i64 (idx (fun g => !gapOk g) xs)) ∧ Below w.heap.size w w' := by
  unfold maxLen at hn
  have hl := h.len
  generalize hpp : (fun g : Gap => !gapOk g) = p
  have hcall : ∀ (k : Gap) W, Calls Try.prog 93 #[.agg #[.int .i64 k.ll, .int .i64 k.lh, .int .i64 k.fl, .int .i64 k.fh]] W fun e w' => e = .returned (.bool (p k)) ∧ Below W.heap.size W w' := fun k W => by
    rw [← hpp]; exact wrongGap_any k.ll k.lh k.fl k.fh W
  clear hpp
  have Hcall := Lib.hid hcall
  clear hcall
  go_enter Try.func117, Try.ntmps117
  go_wp2
  go_loopw [8] (fun i wr => ∃ k : Nat, k ≤ n ∧ i = .int .i64 k ∧ noneOf p (xs.take k) = true ∧ Below w.heap.size w wr) (fun i _ => n - (intOf i).toNat)
  case atStart => exact ⟨0, Nat.zero_le _, rfl, rfl, Below.refl _ _⟩
  case round =>
    obtain ⟨k, hk, rfl, hin, hbel⟩ := hrel
    by_cases hlt : k < n
    · obtain ⟨bb, off, rfl, hb, hc0, hc1, hc2, hc3⟩ := (h.below hbel).at_ hlt
      have H := Lib.hid (noneOf_succ (p := p) Gap.zero (xs := xs) (k := k) (by omega))
      have Hin := Lib.hid hin
      have Hit := Lib.hid (idx_hit (p := p) Gap.zero (xs := xs) (k := k) (by omega) hin)
      clear hin hl
      generalize xs.getD k Gap.zero = y at *
      have C := Lib.hid (Hcall.out y wr)
      cases hq : p y
      · go_wp2_with (go_at_call 93; refine C.out.mono ?_; rintro e w2 ⟨rfl, hb2⟩)
        go_roundw
        case rel => exact ⟨k + 1, by omega, by go_num, by rw [H.out, Hin.out, hq]; rfl, hbel.trans (hb2.mono hbel.size)⟩
        case measure => simp [intOf]; omega
      · go_wp2_with (go_at_call 93; refine C.out.mono ?_; rintro e w2 ⟨rfl, hb2⟩)
        go_ret
        exact ⟨ret_int (Hit.out hq).symm, hbel.trans (hb2.mono hbel.size)⟩
    · have he : idx p xs = -1 := idx_none (by rw [← hin, List.take_of_length_le (by omega)])
      clear hin
      have He := Lib.hid he
      clear he
      go_wp2
      go_ret
      exact ⟨ret_int He.out.symm, hbel⟩

theorem containsGap_any (A : Option Addr) (n c : Nat) (xs : List Gap) (w : World) (h : Gaps w A n xs) (hn : n ≤ maxLen) :
    Calls Try.prog 94 #[.slice A n c, .func (.func 93) #[] #[]] w
      fun e w' => e = .returned (.bool (xs.any (fun g => !gapOk g))) ∧ Below w.heap.size w w' := by
  have C := Lib.hid (indexGap_any A n c xs w h hn)
  have HE := Lib.hid (idx_any (p := (fun g => !gapOk g)) (xs := xs))
  generalize (xs.any (fun g => !gapOk g)) = r at *
  generalize idx (fun g => !gapOk g) xs = i at *
  go_enter Try.func94, Try.ntmps94
  go_wp2_with (go_at_call 117; refine C.out.mono ?_; rintro e w2 ⟨rfl, hb2⟩)
  go_ret
  exact ⟨ret_bool HE.out, hb2⟩

/-- A fan: where the shoulder and the foot are, and its gaps. -/
structure Fan where
  a : Int
  b : Int
  c : Int
  d : Int
  gs : List Gap
def headOk (f : Fan) : Bool := validS 1 5000 [(f.a, f.b), (f.c, f.d)] && decide (f.d < f.a)
def fanErr (f : Fan) : Int := if headOk f = false then 3 else if 40 < f.gs.length then 5 else if f.gs.any (fun g => !gapOk g) = true then 2 else 0

set_option maxHeartbeats 1000000 in
theorem fanError_any (f : Fan) (A : Option Addr) (n c : Nat) (w : World) (h : Gaps w A n f.gs) (hn : n ≤ maxLen) :
    Calls Try.prog 60 #[.agg #[.int .i64 f.a, .int .i64 f.b, .int .i64 f.c, .int .i64 f.d, .slice A n c]] w
      fun e w' => e = .returned (.int .i64 (fanErr f)) ∧ Below w.heap.size w w' := by
  obtain ⟨fa, fb, fc, fd, gs⟩ := f
  simp only at h ⊢
  have hl := h.len
  have HE : Hid (fanErr ⟨fa, fb, fc, fd, gs⟩ = if (validS 1 5000 [(fa, fb), (fc, fd)] && decide (fd < fa)) = false then 3 else if 40 < n then 5 else if gs.any (fun g => !gapOk g) = true then 2 else 0) := by
    unfold Hid fanErr headOk; rw [hl]
  clear hl
  generalize fanErr ⟨fa, fb, fc, fd, gs⟩ = r at *
  have B1 : Below w.heap.size w ((w.alloc (.cells #[.int .i64 fa, .int .i64 fb, .int .i64 fc, .int .i64 fd, .slice A n c] 26)).alloc (.cells #[.int .i64 fa, .int .i64 fb, .int .i64 fc, .int .i64 fd] 23)) := ((Below.refl _ _).alloc (Nat.le_refl _) _).alloc (by simp) _
  cases q1 : validS 1 5000 [(fa, fb), (fc, fd)]
  · go_enter Try.func60, Try.ntmps60
    go_wp2_with (go_at_call 76; refine (valid2 _ _ _ _ _ _ _ _ _ (by simp)).mono ?_; rintro e w' ⟨rfl, hb⟩)
    go_ret
    exact ⟨ret_int (by rw [HE.out, q1]; rfl), B1.trans (hb.mono (by simp <;> omega))⟩
  have Hg := Lib.hid (fun W (hb : Below w.heap.size w W) => containsGap_any A n c gs W (h.below hb) hn)
  unfold maxLen at hn
  clear h
  go_enter Try.func60, Try.ntmps60
  go_wp2_with fail
  refine (valid2 _ _ _ _ _ _ _ _ _ (by simp)).mono ?_
  rintro e w2 ⟨rfl, hb2⟩
  have hz2 : w.heap.size + 2 ≤ w2.heap.size := by have := hb2.size; simpa using this
  have B2 := Lib.hid (B1.trans (hb2.mono (by simp <;> omega)))
  have c0 : w2.cell? ⟨w.heap.size, 0, none⟩ = some (.int .i64 fa) := (hb2.cell (p := ⟨w.heap.size, 0, none⟩) (by simp <;> omega)).trans (by simp)
  have c3 : w2.cell? ⟨w.heap.size, 3, none⟩ = some (.int .i64 fd) := (hb2.cell (p := ⟨w.heap.size, 3, none⟩) (by simp <;> omega)).trans (by simp)
  have c4 : w2.cell? ⟨w.heap.size, 4, none⟩ = some (.slice A n c) := (hb2.cell (p := ⟨w.heap.size, 4, none⟩) (by simp <;> omega)).trans (by simp)
  have C := Lib.hid (Hg.out _ B2.out)
  clear hb2 B1 Hg
  by_cases h5 : fa ≤ fd
  · go_wp2
    go_ret
    exact ⟨ret_int (by rw [HE.out, q1]; simp; omega), B2.out⟩
  by_cases h6 : 40 < n
  · go_wp2
    go_ret
    exact ⟨ret_int (by rw [HE.out, q1]; simp [h6]; omega), B2.out⟩
  cases q2 : gs.any (fun g => !gapOk g)
  · rw [q2] at C HE
    go_wp2_with (go_at_call 94; refine C.out.mono ?_; rintro e w3 ⟨rfl, hb3⟩)
    go_ret
    exact ⟨ret_int (by rw [HE.out, q1]; simp [h6]; omega), B2.out.trans (hb3.mono B2.out.size)⟩
  · rw [q2] at C HE
    go_wp2_with (go_at_call 94; refine C.out.mono ?_; rintro e w3 ⟨rfl, hb3⟩)
    go_ret
    exact ⟨ret_int (by rw [HE.out, q1]; simp [h6]; omega), B2.out.trans (hb3.mono B2.out.size)⟩
end Go.Proofs.Ytdekickmplkdiaa

/- Walks: the ends, parts, sum, angles. -/
namespace Go.Proofs.Ytdekickmplkdiaa
open Go.RowKit

theorem mul_bd {x y X Y : Int} (h1 : 0 ≤ x) (h2 : x ≤ X) (h3 : 0 ≤ y) (h4 : y ≤ Y) : 0 ≤ x * y ∧ x * y ≤ X * Y := ⟨Int.mul_nonneg h1 h3, Int.mul_le_mul h2 h4 h3 (by omega)⟩

/-- Two boxes of the call's own. -/
structure Env2 (w W : World) (t1 t2 : TypeId) (c1 c2 : Array Value) : Prop where
  p : Blk W w.heap.size t1 c1
  q : Blk W (w.heap.size + 1) t2 c2
  bel : Below w.heap.size w W
section
variable {w W W' : World} {t1 t2 : TypeId} {c1 c2 : Array Value}
theorem Env2.below (h : Env2 w W t1 t2 c1 c2) (hb : Below W.heap.size W W') : Env2 w W' t1 t2 c1 c2 := ⟨blk_keep hb h.p, blk_keep hb h.q, below_then h.bel hb⟩
theorem Env2.alloc (h : Env2 w W t1 t2 c1 c2) (o : Obj) : Env2 w (W.alloc o) t1 t2 c1 c2 := h.below (below_self W o)
theorem Env2.drewd (h : Env2 w W t1 t2 c1 c2) : Env2 w W.drew t1 t2 c1 c2 := ⟨h.p, h.q, h.bel.drew⟩
theorem Env2.allocd (h : Env2 w W.drew t1 t2 c1 c2) (o : Obj) : Env2 w (W.alloc o).drew t1 t2 c1 c2 := Env2.alloc (W := W.drew) h o
theorem Env2.start (w : World) (t1 t2 : TypeId) (c1 c2 : Array Value) : Env2 w ((w.alloc (.cells c1 t1)).alloc (.cells c2 t2)) t1 t2 c1 c2 :=
  ⟨(Blk.new w _ _ rfl).alloc _, Blk.new _ _ _ (by simp), ((Below.refl _ _).alloc (Nat.le_refl _) _).alloc (by simp) _⟩
theorem Env2.grown (h : Env2 w W t1 t2 c1 c2) {base n size : Nat} {e : TypeId} {v : Value} {xs : List Value} (ho : W.ownsRow base e size v n xs) (h1 : e ≠ t1) (h2 : e ≠ t2) (hb : w.heap.size ≤ base) (hg : W.grownBy W' v.ownBlock) : Env2 w W' t1 t2 c1 c2 :=
  ⟨h.p.grown hg (own_blk_ne ho h.p h1), h.q.grown hg (own_blk_ne ho h.q h2), h.bel.grown hg h.bel.size (fun k e => Nat.le_trans hb (ho.lt k e.symm.symm).1)⟩
end

def lowV : Value := .func (.func 99) #[] #[]
def highV : Value := .func (.func 100) #[] #[]
def pickV : Bool → Value
  | false => .func (.func 101) #[] #[]
  | true => .func (.func 106) #[] #[]
def endA : Bool → Array Value
  | false => #[.func (.func 99) #[] #[], .func (.func 100) #[] #[], .func (.func 101) #[] #[]]
  | true => #[.func (.func 100) #[] #[], .func (.func 99) #[] #[], .func (.func 106) #[] #[]]
def ris (u : Bool) (l h : Int) : Int := bif u then h else l
def fal (u : Bool) (l h : Int) : Int := bif u then l else h

theorem low_any (l h : Int) (w : World) : Calls Try.prog 99 #[.agg #[.int .i64 l, .int .i64 h]] w fun e w' => e = .returned (.int .i64 l) ∧ Below w.heap.size w w' := by
  go_enter Try.func99, Try.ntmps99
  go_wp2
  go_ret
  exact ⟨rfl, below_self w _⟩
theorem high_any (l h : Int) (w : World) : Calls Try.prog 100 #[.agg #[.int .i64 l, .int .i64 h]] w fun e w' => e = .returned (.int .i64 h) ∧ Below w.heap.size w w' := by
  go_enter Try.func100, Try.ntmps100
  go_wp2
  go_ret
  exact ⟨rfl, below_self w _⟩
theorem leastEnd_any (w : World) : Calls Try.prog 69 #[] w fun e w' => e = .returned (.agg (endA false)) ∧ Below w.heap.size w w' := by
  have H := Lib.hid (Blk.new w 117 #[Value.nilFunc, Value.nilFunc, Value.nilFunc] rfl)
  have B := Lib.hid (below_self w (.cells #[Value.nilFunc, Value.nilFunc, Value.nilFunc] 117))
  unfold endA
  go_enter Try.func69, Try.ntmps69
  go_wp2_with (refine wpList_store_row rfl 117 _ _ rfl w.heap.size _ rfl rfl 117 _ H.out (by kernel_rfl) rfl (by kernel_rfl) ?_)
  exact bodyPost_ret (results_c rfl _ _ _ _ _ _ _ rfl (H.out.setRow _) Try.underlying117 (by kernel_rfl)) rfl ⟨rfl, below_setR B.out (by omega) _⟩
theorem mostEnd_any (w : World) : Calls Try.prog 71 #[] w fun e w' => e = .returned (.agg (endA true)) ∧ Below w.heap.size w w' := by
  have H := Lib.hid (Blk.new w 117 #[Value.nilFunc, Value.nilFunc, Value.nilFunc] rfl)
  have B := Lib.hid (below_self w (.cells #[Value.nilFunc, Value.nilFunc, Value.nilFunc] 117))
  unfold endA
  go_enter Try.func71, Try.ntmps71
  go_wp2_with (refine wpList_store_row rfl 117 _ _ rfl w.heap.size _ rfl rfl 117 _ H.out (by kernel_rfl) rfl (by kernel_rfl) ?_)
  exact bodyPost_ret (results_c rfl _ _ _ _ _ _ _ rfl (H.out.setRow _) Try.underlying117 (by kernel_rfl)) rfl ⟨rfl, below_setR B.out (by omega) _⟩
theorem sum_take (xs : List Int) (k : Nat) (hk : k < xs.length) : (xs.take (k + 1)).sum = (xs.take k).sum + xs.getD k 0 := by
  rw [List.take_succ_eq_append_getElem hk, List.sum_append]; simp [List.getD, hk]
theorem sum_bd (xs : List Int) (hb : ∀ v ∈ xs, 0 ≤ v ∧ v ≤ 1000000000) : 0 ≤ xs.sum ∧ xs.sum ≤ xs.length * 1000000000 := by
  induction xs with
  | nil => simp
  | cons a r ih =>
    have h1 := hb a (by simp)
    have h2 := ih (fun v hv => hb v (by simp [hv]))
    simp only [List.sum_cons, List.length_cons]; omega
set_option maxHeartbeats 400000 in
theorem sum_any (A : Option Addr) (n c : Nat) (xs : List Int) (w : World) (h : Ints w A n xs) (hn : n ≤ 1000000) (hb : ∀ v ∈ xs, 0 ≤ v ∧ v ≤ 1000000000) :
    Calls Try.prog 103 #[.slice A n c] w fun e w' => e = .returned (.int .i64 xs.sum) ∧ w' = w := by
  have hl := h.len
  have HB := Lib.hid (fun k => sum_bd (xs.take k) (fun v hv => hb v (List.mem_of_mem_take hv)))
  have HV : Hid (∀ k, k < n → 0 ≤ xs.getD k 0 ∧ xs.getD k 0 ≤ 1000000000) := fun k hk => by
    have e : xs.getD k 0 = xs[k]'(by omega) := by simp [List.getD, show k < xs.length from by omega]
    rw [e]; exact hb _ (List.getElem_mem _)
  clear hb
  have Hl := Lib.hid hl
  clear hl
  go_enter Try.func103, Try.ntmps103
  go_wp2
  go_loop [3, 8] (fun s i => ∃ k : Nat, k ≤ n ∧ i = .int .i64 k ∧ s = .int .i64 (xs.take k).sum) (fun _ i => n - (intOf i).toNat)
  case atStart => exact ⟨0, Nat.zero_le _, rfl, rfl⟩
  case round =>
    obtain ⟨k, hk, rfl, rfl⟩ := hrel
    by_cases hlt : k < n
    · obtain ⟨b, off, rfl, hbb, hc⟩ := h.at_ hlt
      have H := Lib.hid (sum_take xs k (by rw [Hl.out]; exact hlt))
      have h1 := HB.out k
      have h2 := HV.out k hlt
      have h3 : (xs.take k).length ≤ k := List.length_take_le _ _
      generalize (xs.take k).sum = s at *
      generalize xs.getD k 0 = y at *
      go_wp2
      go_round
      case rel => exact ⟨k + 1, by omega, by go_num, by rw [H.out]⟩
      case measure => simp [intOf]; omega
    · have he := Lib.hid (show xs.take k = xs from List.take_of_length_le (by rw [Hl.out]; omega))
      go_wp2
      go_ret
      exact ⟨ret_int (by rw [he.out]), rfl⟩
end Go.Proofs.Ytdekickmplkdiaa
