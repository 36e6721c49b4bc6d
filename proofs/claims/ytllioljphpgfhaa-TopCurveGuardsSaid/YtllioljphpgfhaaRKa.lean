/- What is needed of Ka. -/
import Derived.Test.YtllioljphpgfhaaProg
import Derived.WalkKit
import Derived.WalkSpells
import Derived.Lib.Hide
import Derived.WalkSmall
import Derived.Deep.QuietTactic
import Derived.Laws.Rows
import Derived.WalkLawsBesides
import Derived.BigQuiet
import Derived.BigRegion
import Derived.StillTailTactics
import Derived.ChangeAlike
import Derived.Lib.LazyBuf
import Derived.Maps.AppendAt
import Derived.Deep.LoopGhost
import Derived.Laws.ResultCell
import Derived.Deep.RegionHeld3
import Derived.Lib.QuietBelow
import Derived.IntWalk
namespace Go.Proofs.Ytllioljphpgfhaa
open Go.RowKit
/-- The slice `.slice A n c` reads as the cells xs, size cells an element. -/
def Reads (w : World) (size : Nat) (A : Option Addr) (n : Nat) (xs : List Value) : Prop :=
  xs.length = n * size ∧ (0 < n → ∃ b off, A = some ⟨b, off, none⟩ ∧ b < w.heap.size ∧ ∀ j u, xs[j]? = some u → w.cell? ⟨b, off + j, none⟩ = some u)
section
variable {w w' : World} {size n : Nat} {A : Option Addr} {xs : List Value}
theorem Reads.below (h : Reads w size A n xs) (hb : Below w.heap.size w w') : Reads w' size A n xs :=
  ⟨h.1, fun hn => by
    obtain ⟨b, off, e, hlt, hc⟩ := h.2 hn
    exact ⟨b, off, e, Nat.lt_of_lt_of_le hlt hb.size, fun j u hu => (hb.cell (p := ⟨b, off + j, none⟩) hlt).trans (hc j u hu)⟩⟩
theorem Reads.at1 {k : Nat} (h : Reads w 1 A n xs) (hk : k < n) : ∃ b off u, A = some ⟨b, off, none⟩ ∧ b < w.heap.size ∧ xs[k]? = some u ∧ w.cell? ⟨b, off + k, none⟩ = some u := by
  obtain ⟨b, off, e, hb, hc⟩ := h.2 (by omega)
  have hl : k < xs.length := by have := h.1; omega
  exact ⟨b, off, xs[k], e, hb, List.getElem?_eq_getElem hl, hc k _ (List.getElem?_eq_getElem hl)⟩
end
/-- ints -/
def Ints (w : World) (A : Option Addr) (n : Nat) (xs : List Int) : Prop := Reads w 1 A n (xs.map (Value.int .i64))
/-- pairs of ints: spans, places -/
def flat2 (xs : List (Int × Int)) : List Value := xs.flatMap fun s => [.int .i64 s.1, .int .i64 s.2]
def Pairs (w : World) (A : Option Addr) (n : Nat) (xs : List (Int × Int)) : Prop := Reads w 2 A n (flat2 xs)
theorem flat2_length (xs : List (Int × Int)) : (flat2 xs).length = xs.length * 2 := by
  unfold flat2; induction xs with
  | nil => rfl
  | cons a r ih => simp only [List.flatMap_cons, List.length_append, ih, List.length_cons, List.length_nil]; omega
theorem flat2_at (xs : List (Int × Int)) (k : Nat) (h : k < xs.length) : (flat2 xs)[k * 2]? = some (.int .i64 (xs[k]).1) ∧ (flat2 xs)[k * 2 + 1]? = some (.int .i64 (xs[k]).2) := by
  unfold flat2; induction xs generalizing k with
  | nil => simp at h
  | cons a r ih =>
    cases k with
    | zero => simp
    | succ m =>
      have := ih m (by simpa using h)
      rw [show (m + 1) * 2 = m * 2 + 2 from by omega]
      simpa using this
section
variable {w w' : World} {n k : Nat} {A : Option Addr}
theorem Ints.len {xs : List Int} (h : Ints w A n xs) : xs.length = n := by have := h.1; simpa using this
theorem Ints.below {xs : List Int} (h : Ints w A n xs) (hb : Below w.heap.size w w') : Ints w' A n xs := Reads.below h hb
theorem Ints.at_ {xs : List Int} (h : Ints w A n xs) (hk : k < n) : ∃ b off, A = some ⟨b, off, none⟩ ∧ b < w.heap.size ∧ w.cell? ⟨b, off + k, none⟩ = some (.int .i64 (xs.getD k 0)) := by
  obtain ⟨b, off, u, e, hb, hx, hc⟩ := Reads.at1 h hk
  have hl : k < xs.length := by rw [h.len]; exact hk
  refine ⟨b, off, e, hb, ?_⟩
  rw [hc, ← hx]; simp [hl, List.getD]
theorem Pairs.len {xs : List (Int × Int)} (h : Pairs w A n xs) : xs.length = n := by have := h.1; rw [flat2_length] at this; omega
theorem Pairs.below {xs : List (Int × Int)} (h : Pairs w A n xs) (hb : Below w.heap.size w w') : Pairs w' A n xs := Reads.below h hb
theorem Pairs.at_ {xs : List (Int × Int)} (h : Pairs w A n xs) (hk : k < n) : ∃ b off, A = some ⟨b, off, none⟩ ∧ b < w.heap.size ∧ w.cell? ⟨b, off + k * 2, none⟩ = some (.int .i64 (xs.getD k (0, 0)).1) ∧ w.cell? ⟨b, off + k * 2 + 1, none⟩ = some (.int .i64 (xs.getD k (0, 0)).2) := by
  obtain ⟨b, off, e, hb, hc⟩ := h.2 (by omega)
  have hl : k < xs.length := by rw [h.len]; exact hk
  have h2 := flat2_at xs k hl
  refine ⟨b, off, e, hb, ?_, ?_⟩
  · rw [hc _ _ h2.1]; simp [hl, List.getD]
  · rw [Nat.add_assoc, hc _ _ h2.2]; simp [hl, List.getD]
end
theorem ints_new1 (w : World) (x : Int) (t : TypeId) {g : Nat} (hg : g = w.heap.size) : Ints (w.alloc (.cells #[.int .i64 x] t)) (some ⟨g, 0, none⟩) 1 [x] := by
  subst hg
  refine ⟨rfl, fun _ => ⟨_, _, rfl, by simp, fun j u hj => ?_⟩⟩
  match j, hj with
  | 0, hj => simp at hj; subst hj; simp
theorem ints_new2 (w : World) (x y : Int) (t : TypeId) {g : Nat} (hg : g = w.heap.size) : Ints (w.alloc (.cells #[.int .i64 x, .int .i64 y] t)) (some ⟨g, 0, none⟩) 2 [x, y] := by
  subst hg
  refine ⟨rfl, fun _ => ⟨_, _, rfl, by simp, fun j u hj => ?_⟩⟩
  match j, hj with
  | 0, hj => simp at hj; subst hj; simp
  | 1, hj => simp at hj; subst hj; simp
theorem pairs_new1 (w : World) (x y : Int) (t : TypeId) {g : Nat} (hg : g = w.heap.size) : Pairs (w.alloc (.cells #[.int .i64 x, .int .i64 y] t)) (some ⟨g, 0, none⟩) 1 [(x, y)] := by
  subst hg
  refine ⟨rfl, fun _ => ⟨_, _, rfl, by simp, fun j u hj => ?_⟩⟩
  match j, hj with
  | 0, hj => simp [flat2] at hj; subst hj; simp
  | 1, hj => simp [flat2] at hj; subst hj; simp
theorem pairs_new2 (w : World) (x y x' y' : Int) (t : TypeId) {g : Nat} (hg : g = w.heap.size) : Pairs (w.alloc (.cells #[.int .i64 x, .int .i64 y, .int .i64 x', .int .i64 y'] t)) (some ⟨g, 0, none⟩) 2 [(x, y), (x', y')] := by
  subst hg
  refine ⟨rfl, fun _ => ⟨_, _, rfl, by simp, fun j u hj => ?_⟩⟩
  match j, hj with
  | 0, hj => simp [flat2] at hj; subst hj; simp
  | 1, hj => simp [flat2] at hj; subst hj; simp
  | 2, hj => simp [flat2] at hj; subst hj; simp
  | 3, hj => simp [flat2] at hj; subst hj; simp
theorem ret_bool {a b : Bool} (h : a = b) : Ending.returned (.bool a) = .returned (.bool b) := by rw [h]
theorem ret_int {k : IntKind} {a b : Int} (h : a = b) : Ending.returned (.int k a) = .returned (.int k b) := by rw [h]
end Go.Proofs.Ytllioljphpgfhaa

namespace Go.Proofs.Ytllioljphpgfhaa
open Go.RowKit
/-- Block g is just these cells, none of them frozen. -/
def Blk (w : World) (g : Nat) (t : TypeId) (cs : Array Value) : Prop := w.heap[g]? = some (.cells cs t (0, 0))
section
variable {w w' : World} {g : Nat} {t : TypeId} {cs : Array Value}
theorem Blk.lt (h : Blk w g t cs) : g < w.heap.size := by
  rcases Nat.lt_or_ge g w.heap.size with hlt | hge
  · exact hlt
  · unfold Blk at h; rw [Array.getElem?_eq_none hge] at h; cases h
theorem Blk.cell (h : Blk w g t cs) (i : Nat) : w.cell? ⟨g, i, none⟩ = cs[i]? := cell_of_row w g i cs t (0, 0) h
theorem Blk.frozen (h : Blk w g t cs) (i : Nat) : w.frozen? ⟨g, i, none⟩ = false := by
  unfold Blk at h
  simp [World.frozen?, h]
theorem Blk.new (w : World) (t : TypeId) (cs : Array Value) {g : Nat} (hg : g = w.heap.size) : Blk (w.alloc (.cells cs t)) g t cs := by subst hg; exact heap_alloc_new w _
theorem Blk.alloc (h : Blk w g t cs) (o : Obj) : Blk (w.alloc o) g t cs := (Below.heap_alloc w o g h.lt).trans h
theorem Blk.set_ (h : Blk w g t cs) (i : Nat) (u : Value) : Blk (w.setCell ⟨g, i, none⟩ u) g t (cs.setIfInBounds i u) := by
  unfold Blk at h ⊢
  simp [World.setCell, Array.getElem?_modify, h]
theorem Blk.far (h : Blk w g t cs) {p : Addr} (hp : g ≠ p.block) (u : Value) : Blk (w.setCell p u) g t cs := (Below.heap_setCell w p u g hp).trans h
theorem Blk.below {B : Nat} (h : Blk w g t cs) (hb : Below B w w') (hg : g < B) : Blk w' g t cs := (hb.block g hg).trans h
end
end Go.Proofs.Ytllioljphpgfhaa

namespace Go.Proofs.Ytllioljphpgfhaa
open Go.RowKit
def within (lo hi : Int) (xs : List Int) : Bool := xs.all fun n => decide (lo ≤ n) && decide (n ≤ hi)
theorem within_take {lo hi : Int} {xs : List Int} {k : Nat} (hk : k < xs.length) : within lo hi (xs.take (k + 1)) = (within lo hi (xs.take k) && (decide (lo ≤ xs.getD k 0) && decide (xs.getD k 0 ≤ hi))) := by
  unfold within
  rw [List.take_succ_eq_append_getElem hk, List.all_append]
  simp [hk, List.getD]
theorem within_no {lo hi : Int} {xs : List Int} {k : Nat} (hk : k < xs.length) (h : (decide (lo ≤ xs.getD k 0) && decide (xs.getD k 0 ≤ hi)) = false) : within lo hi xs = false := by
  have h2 := within_take (lo := lo) (hi := hi) hk
  rw [h, Bool.and_false] at h2
  unfold within at *
  rw [← List.take_append_drop (k + 1) xs, List.all_append, h2, Bool.false_and]
set_option maxHeartbeats 400000 in
theorem within_any (lo hi : Int) (A : Option Addr) (n c : Nat) (xs : List Int) (w : World) (h : Ints w A n xs) (hn : n ≤ maxLen) :
    Calls Try.prog 25 #[.int .i64 lo, .int .i64 hi, .slice A n c] w fun e w' => e = .returned (.bool (within lo hi xs)) ∧ w = w' := by
  unfold maxLen at hn
  have hl := h.len
  go_enter Try.func25, Try.ntmps25
  go_wp2
  go_loop [11] (fun i => ∃ k : Nat, k ≤ n ∧ i = .int .i64 k ∧ within lo hi (xs.take k) = true) (fun i => n - (intOf i).toNat)
  case atStart => exact ⟨0, Nat.zero_le _, rfl, rfl⟩
  case round =>
    obtain ⟨k, hk, rfl, hin⟩ := hrel
    by_cases hlt : k < n
    · obtain ⟨b, off, rfl, hb, hc⟩ := h.at_ hlt
      have hx : k < xs.length := by omega
      have H := Lib.hid (within_take (lo := lo) (hi := hi) hx)
      have Hin := Lib.hid hin
      have Hno := Lib.hid (within_no (lo := lo) (hi := hi) hx)
      clear hin hl
      generalize xs.getD k 0 = y at *
      by_cases h1 : y < lo
      · go_wp2
        go_ret
        exact ⟨ret_bool (Hno.out (by simp; omega)).symm, rfl⟩
      · by_cases h2 : hi < y
        · go_wp2
          go_ret
          exact ⟨ret_bool (Hno.out (by simp; omega)).symm, rfl⟩
        · go_wp2
          go_round
          case rel => exact ⟨k + 1, by omega, by go_num, by rw [H.out, Hin.out]; simp; omega⟩
          case measure => simp [intOf]; omega
    · have he : within lo hi xs = true := by rw [← hin, List.take_of_length_le (by omega)]
      clear hin
      have He := Lib.hid he
      clear he
      go_wp2
      go_ret
      exact ⟨ret_bool He.out.symm, rfl⟩
theorem within1 (lo hi x : Int) (t : TypeId) (g : Nat) (w : World) (hg : g = w.heap.size) : Calls Try.prog 25 #[.int .i64 lo, .int .i64 hi, .slice (some ⟨g, 0, none⟩) 1 1] (w.alloc (.cells #[.int .i64 x] t))
    fun e w' => e = .returned (.bool (within lo hi [x])) ∧ w.alloc (.cells #[.int .i64 x] t) = w' := within_any lo hi _ 1 1 [x] _ (ints_new1 w x t hg) (by decide)
theorem within2 (lo hi x y : Int) (t : TypeId) (g : Nat) (w : World) (hg : g = w.heap.size) : Calls Try.prog 25 #[.int .i64 lo, .int .i64 hi, .slice (some ⟨g, 0, none⟩) 2 2] (w.alloc (.cells #[.int .i64 x, .int .i64 y] t))
    fun e w' => e = .returned (.bool (within lo hi [x, y])) ∧ w.alloc (.cells #[.int .i64 x, .int .i64 y] t) = w' := within_any lo hi _ 2 2 [x, y] _ (ints_new2 w x y t hg) (by decide)
def validS (lo hi : Int) (xs : List (Int × Int)) : Bool := xs.all fun s => decide (s.1 ≤ s.2) && (decide (lo ≤ s.1) && decide (s.1 ≤ hi) && (decide (lo ≤ s.2) && decide (s.2 ≤ hi)))
theorem validS_take {lo hi : Int} {xs : List (Int × Int)} {k : Nat} (hk : k < xs.length) : validS lo hi (xs.take (k + 1)) = (validS lo hi (xs.take k) &&
    (decide ((xs.getD k (0, 0)).1 ≤ (xs.getD k (0, 0)).2) && (decide (lo ≤ (xs.getD k (0, 0)).1) && decide ((xs.getD k (0, 0)).1 ≤ hi) && (decide (lo ≤ (xs.getD k (0, 0)).2) && decide ((xs.getD k (0, 0)).2 ≤ hi))))) := by
  unfold validS
  rw [List.take_succ_eq_append_getElem hk, List.all_append]
  simp [hk, List.getD]
theorem validS_no {lo hi : Int} {xs : List (Int × Int)} {k : Nat} (hk : k < xs.length) (h : (decide ((xs.getD k (0, 0)).1 ≤ (xs.getD k (0, 0)).2) && (decide (lo ≤ (xs.getD k (0, 0)).1) && decide ((xs.getD k (0, 0)).1 ≤ hi) && (decide (lo ≤ (xs.getD k (0, 0)).2) && decide ((xs.getD k (0, 0)).2 ≤ hi)))) = false) : validS lo hi xs = false := by
  have h2 := validS_take (lo := lo) (hi := hi) hk
  rw [h, Bool.and_false] at h2
  unfold validS at *
  rw [← List.take_append_drop (k + 1) xs, List.all_append, h2, Bool.false_and]
set_option maxHeartbeats 400000 in
theorem valid_any (lo hi : Int) (A : Option Addr) (n c : Nat) (xs : List (Int × Int)) (w : World) (h : Pairs w A n xs) (hn : n ≤ maxLen) :
    Calls Try.prog 36 #[.int .i64 lo, .int .i64 hi, .slice A n c] w fun e w' => e = .returned (.bool (validS lo hi xs)) ∧ Below w.heap.size w w' := by
  unfold maxLen at hn
  have hl := h.len
  go_enter Try.func36, Try.ntmps36
  go_wp2
  go_loopw [11] (fun i wr => ∃ k : Nat, k ≤ n ∧ i = .int .i64 k ∧ validS lo hi (xs.take k) = true ∧ Below w.heap.size w wr) (fun i _ => n - (intOf i).toNat)
  case atStart => exact ⟨0, Nat.zero_le _, rfl, rfl, Below.refl _ _⟩
  case round =>
    obtain ⟨k, hk, rfl, hin, hbel⟩ := hrel
    by_cases hlt : k < n
    · obtain ⟨b, off, rfl, hb, hc1, hc2⟩ := (h.below hbel).at_ hlt
      have hx : k < xs.length := by omega
      have H := Lib.hid (validS_take (lo := lo) (hi := hi) hx)
      have Hin := Lib.hid hin
      have Hno := Lib.hid (validS_no (lo := lo) (hi := hi) hx)
      clear hin hl
      generalize xs.getD k (0, 0) = y at *
      have hw : within lo hi [y.1, y.2] = (decide (lo ≤ y.1) && decide (y.1 ≤ hi) && (decide (lo ≤ y.2) && decide (y.2 ≤ hi))) := by simp [within]
      rw [← hw] at H Hno
      clear hw
      by_cases h1 : y.2 < y.1
      · go_wp2
        go_ret
        exact ⟨ret_bool (Hno.out (by simp; omega)).symm, hbel.trans ((Below.refl _ _).alloc hbel.size _)⟩
      · cases hq : within lo hi [y.1, y.2]
        · go_wp2_with (go_at_call 25; refine (within2 _ _ _ _ _ _ _ (by simp)).mono ?_; rintro e w' ⟨rfl, rfl⟩)
          go_ret
          exact ⟨ret_bool (Hno.out (by simp [hq])).symm, hbel.trans (((Below.refl _ _).alloc hbel.size _).alloc (by simp; have := hbel.size; omega) _)⟩
        · go_wp2_with (go_at_call 25; refine (within2 _ _ _ _ _ _ _ (by simp)).mono ?_; rintro e w' ⟨rfl, rfl⟩)
          go_roundw
          case rel => exact ⟨k + 1, by omega, by go_num, by rw [H.out, Hin.out, hq]; simp; omega, hbel.trans (((Below.refl _ _).alloc hbel.size _).alloc (by simp; have := hbel.size; omega) _)⟩
          case measure => simp [intOf]; omega
    · have he : validS lo hi xs = true := by rw [← hin, List.take_of_length_le (by omega)]
      clear hin
      have He := Lib.hid he
      clear he
      go_wp2
      go_ret
      exact ⟨ret_bool He.out.symm, hbel⟩
end Go.Proofs.Ytllioljphpgfhaa

namespace Go.Proofs.Ytllioljphpgfhaa
open Go.RowKit
theorem valid1 (lo hi x y : Int) (t : TypeId) (g : Nat) (w : World) (hg : g = w.heap.size) : Calls Try.prog 36 #[.int .i64 lo, .int .i64 hi, .slice (some ⟨g, 0, none⟩) 1 1] (w.alloc (.cells #[.int .i64 x, .int .i64 y] t))
    fun e w' => e = .returned (.bool (validS lo hi [(x, y)])) ∧ Below (w.heap.size + 1) (w.alloc (.cells #[.int .i64 x, .int .i64 y] t)) w' := (valid_any lo hi _ 1 1 [(x, y)] _ (pairs_new1 w x y t hg) (by decide)).mono fun e w' h => ⟨h.1, by have := h.2; simpa using this⟩
def idx {α : Type} (p : α → Bool) (xs : List α) : Int := match xs.findIdx? p with
  | some i => i
  | none => -1
def noneOf {α : Type} (p : α → Bool) (xs : List α) : Bool := xs.all fun x => !p x
theorem noneOf_succ {α : Type} {p : α → Bool} {xs : List α} {k : Nat} (z : α) (hk : k < xs.length) : noneOf p (xs.take (k + 1)) = (noneOf p (xs.take k) && !p (xs.getD k z)) := by
  unfold noneOf
  rw [List.take_succ_eq_append_getElem hk, List.all_append]
  simp [hk, List.getD]
theorem idx_none {α : Type} {p : α → Bool} {xs : List α} (h : noneOf p xs = true) : idx p xs = -1 := by
  have : xs.findIdx? p = none := by
    rw [List.findIdx?_eq_none_iff]
    intro x hx
    have := (List.all_eq_true.1 h) x hx
    simpa using this
  rw [idx, this]
theorem idx_hit {α : Type} {p : α → Bool} {xs : List α} {k : Nat} (z : α) (hk : k < xs.length) (h : noneOf p (xs.take k) = true) (hp : p (xs.getD k z) = true) : idx p xs = k := by
  have hx : xs.getD k z = xs[k] := by simp [hk, List.getD]
  rw [hx] at hp
  have : xs.findIdx? p = some k := by
    rw [List.findIdx?_eq_some_iff_getElem]
    refine ⟨hk, hp, fun j hj => ?_⟩
    have hm : xs[j]'(by omega) ∈ xs.take k := by
      rw [List.mem_take_iff_getElem]
      exact ⟨j, by omega, rfl⟩
    have := (List.all_eq_true.1 h) _ hm
    simpa using this
  rw [idx, this]
theorem idx_any {α : Type} {p : α → Bool} {xs : List α} : decide (0 ≤ idx p xs) = xs.any p := by
  unfold idx
  cases h : xs.findIdx? p with
  | none =>
    rw [List.findIdx?_eq_none_iff] at h
    have h2 : xs.any p = false := by rw [List.any_eq_false]; intro x hx; simp [h x hx]
    rw [h2]; decide
  | some i =>
    rw [List.findIdx?_eq_some_iff_getElem] at h
    obtain ⟨hi, hp, _⟩ := h
    have h2 : xs.any p = true := List.any_eq_true.2 ⟨_, List.getElem_mem hi, hp⟩
    rw [h2]; simp
theorem addr_add (b off j : Nat) : (⟨b, off, none⟩ : Addr).add j = ⟨b, off + j, none⟩ := by
  unfold Addr.add
  by_cases h : j = 0 <;> simp [h]
theorem results_c {fn : Func} {p : Tmp} {ty : TypeId} (h : fn.results = #[.cell p ty]) (tmps : Array Value) (P : Program) (w : World) (g : Nat) (t : TypeId) (cs : Array Value) (fs : Array Field)
    (hp : tmps.getD p undef = .pointer (some ⟨g, 0, none⟩)) (hg : Blk w g t cs) (hu : P.underlying ty = some (.struct fs)) (hi : (P.info? ty).map (·.size) = some cs.size) :
    (results fn tmps).run P w = .ok (.agg cs) w := results_cell_row h tmps w g t cs (0, 0) _ hp hg hu rfl hi
theorem Blk.setRow {w : World} {g : Nat} {t : TypeId} {cs : Array Value} (h : Blk w g t cs) (cs' : Array Value) : Blk (w.setRow g cs') g t cs' := setRow_heap w g cs _ t _ h
theorem Blk.setRow_far {w : World} {g g' : Nat} {t : TypeId} {cs : Array Value} (h : Blk w g t cs) (hg : g ≠ g') (cs' : Array Value) : Blk (w.setRow g' cs') g t cs := (setRow_other w g' g cs' hg).trans h
theorem below_setR {B : Nat} {a w : World} (h : Below B a w) {g : Nat} (hg : B ≤ g) (cs : Array Value) : Below B a (w.setRow g cs) :=
  h.trans ⟨rfl, rfl, rfl, by simp, fun k hk => setRow_other w g k cs (by omega)⟩
theorem grown_of_below {a w : World} (h : Below a.heap.size a w) (row : Option Nat) : a.grownBy w row := ⟨h.os, h.tape, h.output, h.size, fun i hi _ => h.block i hi⟩
theorem ownsRow_below {w w' : World} {base : Nat} {e : TypeId} {size : Nat} {v : Value} {n : Nat} {xs : List Value} (h : w.ownsRow base e size v n xs) (hb : Below w.heap.size w w') : w'.ownsRow base e size v n xs :=
  h.kept (grown_of_below hb none) (by cases v.ownBlock <;> simp)
theorem pairs_of_own {w : World} {base g cap n : Nat} {t : TypeId} {xs : List (Int × Int)} (h : w.ownsRow base t 2 (.slice (some ⟨g, 0, none⟩) n cap) n (flat2 xs)) : Pairs w (some ⟨g, 0, none⟩) n xs := by
  refine ⟨h.1, fun hn => ⟨g, 0, rfl, (h.lt g rfl).2, fun j u hj => ?_⟩⟩
  have hjl : j < n * 2 := by have := (List.getElem?_eq_some_iff.1 hj).1; have := h.1; omega
  rw [Nat.zero_add, h.cellAt j hjl, hj]
theorem own_form {w : World} {base : Nat} {e : TypeId} {size : Nat} {v : Value} {n : Nat} {xs : List Value} (h : w.ownsRow base e size v n xs) (hn : 0 < n) : ∃ g cap, v = .slice (some ⟨g, 0, none⟩) n cap := by
  rcases h.2 with ⟨_, hz⟩ | ⟨g, cap, _, hv, _⟩
  · omega
  · exact ⟨g, cap, hv⟩
theorem own_blk_ne {w : World} {base : Nat} {e t : TypeId} {size n g : Nat} {v : Value} {xs : List Value} {cs : Array Value} (h : w.ownsRow base e size v n xs) (hg : Blk w g t cs) (hne : e ≠ t) : v.ownBlock ≠ some g := by
  rcases h.2 with ⟨rfl, _⟩ | ⟨g', cap, cur, rfl, _, hh, _⟩
  · simp [Value.ownBlock]
  · intro he
    have : g' = g := by simpa [Value.ownBlock] using he
    subst this
    unfold Blk at hg
    rw [hh] at hg
    simp only [Option.some.injEq, Obj.cells.injEq] at hg
    exact hne hg.2.1
theorem Blk.grown {w w' : World} {g : Nat} {t : TypeId} {cs : Array Value} {row : Option Nat} (h : Blk w g t cs) (hb : w.grownBy w' row) (hg : row ≠ some g) : Blk w' g t cs := (hb.block g h.lt (fun e => hg e.symm)).trans h
theorem below_alloc' {w W : World} (h : Below w.heap.size w W) (o : Obj) : Below w.heap.size w (W.alloc o) := h.alloc h.size o
theorem below_then {w W W' : World} (h : Below w.heap.size w W) (hb : Below W.heap.size W W') : Below w.heap.size w W' := h.trans (hb.mono h.size)
theorem blk_keep {W W1 : World} {g : Nat} {t : TypeId} {cs : Array Value} (hb : Below W.heap.size W W1) (h : Blk W g t cs) : Blk W1 g t cs := h.below hb h.lt
theorem below_self (W : World) (o : Obj) : Below W.heap.size W (W.alloc o) := (Below.refl _ _).alloc (Nat.le_refl _) o
theorem own_slice {w : World} {base n size : Nat} {t : TypeId} {v : Value} {xs : List Value} (h : w.ownsRow base t size v n xs) : ∃ A cap, v = .slice A n cap := by
  rcases h.2 with ⟨rfl, rfl⟩ | ⟨g, cap, _, hv, _⟩
  · exact ⟨none, 0, rfl⟩
  · exact ⟨_, _, hv⟩
theorem run_append_any {P : Program} (w : World) (base : Nat) (t ty e : TypeId) (i : TypeInfo) (z : Value) (size bytes : Nat) (ht : P.underlying t = some (.slice e)) (hi : P.info? e = some i) (hz : i.zero = some z) (hsize : i.size = size) (hby : i.bytes = bytes) (hzs : z.cells.size = size) (hsz : 0 < size)
    (v : Value) (n : Nat) (xs : List Value) (hown : w.ownsRow base e size v n xs) (A : Option Addr) (m c : Nat) (news : List Value) (hr : Reads w size A m news) (h1 : ∀ u ∈ news, u.oneCell' = true) (h63 : n + m ≤ maxLen) (hbytes : (n + m) * bytes ≤ 140737488355328) (hbase : base ≤ w.heap.size) :
    ∃ v' w', (Builtin.append_ #[t, t] ty #[v, .slice A m c]).run P w = .ok v' w' ∧ w'.ownsRow base e size v' (n + m) (xs ++ news) ∧ w.grownBy w' v.ownBlock := by
  rcases Nat.eq_zero_or_pos m with rfl | hpos
  · have hx : news = [] := List.eq_nil_of_length_eq_zero (by have := hr.1; omega)
    subst hx
    refine ⟨v, w, ?_, by simpa using hown, World.grownBy.refl w _⟩
    rcases hown.2 with ⟨rfl, rfl⟩ | ⟨g, cap, cur, rfl, _, _, hc, _, _⟩
    · cases A with
      | none => simp [Builtin.append_, run_underlying ht, sizeOf, typeInfo, hi, Builtin.lenOf, Builtin.firstCells]
      | some ad => simp [Builtin.append_, run_underlying ht, sizeOf, typeInfo, hi, Builtin.lenOf, Builtin.firstCells, loadCells, loadCellsFrom]
    · cases A with
      | none => simp [Builtin.append_, run_underlying ht, sizeOf, typeInfo, hi, Builtin.lenOf, Builtin.firstCells, storeCells, hc]
      | some ad => simp [Builtin.append_, run_underlying ht, sizeOf, typeInfo, hi, Builtin.lenOf, Builtin.firstCells, storeCells, loadCells, loadCellsFrom, hc]
  · obtain ⟨b, o, rfl, _, hc⟩ := hr.2 hpos
    obtain ⟨v', w', hrun, r1, r2, _⟩ := run_append_own (P := P) w base t ty e i z size bytes ht hi hz hsize hby hzs hsz v n xs hown ⟨b, o, none⟩ m c news hr.1 (fun j u hj => by rw [addr_add]; exact hc j u hj) h1 h63 hbytes hbase
    exact ⟨v', w', hrun, r1, r2⟩
theorem wpList_append_any {P : Program} {ops : Array Oper} {rest : List Oper} {o : Oper} {a : Act} {w : World} {Q : Exit → Act → World → Prop} (hgd : o.guard = none) (s x : Operand) (t : TypeId)
    (ho : o.op = .call { callee := .builtin .append, args := #[s, x], argTypes := #[t, t] })
    (base : Nat) (e : TypeId) (i : TypeInfo) (z : Value) (size bytes : Nat) (ht : P.underlying t = some (.slice e)) (hi : P.info? e = some i) (hz : i.zero = some z)
    (hsize : i.size = size) (hby : i.bytes = bytes) (hzs : z.cells.size = size) (hsz : 0 < size)
    (v : Value) (n : Nat) (xs : List Value) (hs : a.eval s = v) (hown : w.ownsRow base e size v n xs)
    (A : Option Addr) (m c : Nat) (news : List Value) (hx : a.eval x = .slice A m c) (hr : Reads w size A m news) (h1 : ∀ u ∈ news, u.oneCell' = true)
    (h63 : n + m ≤ maxLen) (hbytes : (n + m) * bytes ≤ 140737488355328) (hbase : base ≤ w.heap.size)
    (h : ∀ v' w', w'.ownsRow base e size v' (n + m) (xs ++ news) → w.grownBy w' v.ownBlock → wpList P ops Q rest (a.put o.dst v') w') : wpList P ops Q (o :: rest) a w := by
  refine wpList_plain hgd fun K hK => ?_
  obtain ⟨v', w', hrun, r1, r2⟩ := run_append_any (P := P) w base t o.type e i z size bytes ht hi hz hsize hby hzs hsz v n xs hown A m c news hr h1 h63 hbytes hbase
  unfold Oper.wp
  simp [execOp, ho, resolve, invoke, builtin, hs, hx, hrun, Result.andThen]
  exact hK _ _ (h v' w' r1 r2)
/-- A stick of a closed fan. -/
structure Stk where
  wl : Int
  wh : Int
  tl : Int
  th : Int
  pl : Int
  deriving DecidableEq
def Stk.zero : Stk := ⟨0, 0, 0, 0, 0⟩
def Stk.cells (g : Stk) : List Value := [.int .i64 g.wl, .int .i64 g.wh, .int .i64 g.tl, .int .i64 g.th, .int .i64 g.pl]
def flatT (xs : List Stk) : List Value := xs.flatMap Stk.cells
def Stks (w : World) (A : Option Addr) (n : Nat) (xs : List Stk) : Prop := Reads w 5 A n (flatT xs)
theorem flatT_length (xs : List Stk) : (flatT xs).length = xs.length * 5 := by
  unfold flatT; induction xs with
  | nil => rfl
  | cons a r ih => simp only [List.flatMap_cons, List.length_append, ih, List.length_cons, Stk.cells, List.length_nil]; omega
theorem flatT_at (xs : List Stk) (k j : Nat) (h : k < xs.length) (hj : j < 5) : (flatT xs)[k * 5 + j]? = (xs[k]).cells[j]? := by
  unfold flatT; induction xs generalizing k with
  | nil => simp at h
  | cons a r ih =>
    cases k with
    | zero => rw [List.flatMap_cons, List.getElem?_append_left (by simp [Stk.cells]; omega)]; simp
    | succ m =>
      rw [List.flatMap_cons, List.getElem?_append_right (by simp [Stk.cells]; omega)]
      have := ih m (by simpa using h)
      simp only [Stk.cells, List.length_cons, List.length_nil] at this ⊢
      rw [show (m + 1) * 5 + j - (0 + 1 + 1 + 1 + 1 + 1) = m * 5 + j from by omega, this]
      simp
section
variable {w w' : World} {n k : Nat} {A : Option Addr} {xs : List Stk}
theorem Stks.len (h : Stks w A n xs) : xs.length = n := by have := h.1; rw [flatT_length] at this; omega
theorem Stks.below (h : Stks w A n xs) (hb : Below w.heap.size w w') : Stks w' A n xs := Reads.below h hb
theorem Stks.at_ (h : Stks w A n xs) (hk : k < n) : ∃ b off, A = some ⟨b, off, none⟩ ∧ b < w.heap.size ∧ w.cell? ⟨b, off + k * 5, none⟩ = some (.int .i64 (xs.getD k Stk.zero).wl) ∧ w.cell? ⟨b, off + k * 5 + 1, none⟩ = some (.int .i64 (xs.getD k Stk.zero).wh) ∧
    w.cell? ⟨b, off + k * 5 + 2, none⟩ = some (.int .i64 (xs.getD k Stk.zero).tl) ∧ w.cell? ⟨b, off + k * 5 + 3, none⟩ = some (.int .i64 (xs.getD k Stk.zero).th) ∧ w.cell? ⟨b, off + k * 5 + 4, none⟩ = some (.int .i64 (xs.getD k Stk.zero).pl) := by
  obtain ⟨b, off, e, hb, hc⟩ := h.2 (by omega)
  have hl : k < xs.length := by rw [h.len]; exact hk
  have hx : xs.getD k Stk.zero = xs[k] := by simp [hl, List.getD]
  have g : ∀ j u, j < 5 → (xs[k]).cells[j]? = some u → w.cell? ⟨b, off + k * 5 + j, none⟩ = some u := fun j u hj hu => by
    rw [Nat.add_assoc]
    exact hc _ _ ((flatT_at xs k j hl hj).trans hu)
  rw [hx]
  exact ⟨b, off, e, hb, g 0 _ (by omega) rfl, g 1 _ (by omega) rfl, g 2 _ (by omega) rfl, g 3 _ (by omega) rfl, g 4 _ (by omega) rfl⟩
end
theorem Try.infoRatio : (Try.prog.info? 54).map (fun i => (i.zero, i.size, i.bytes)) = some (some (.agg #[.int .i64 0, .int .i64 0]), 2, 16) := by kernel_rfl
end Go.Proofs.Ytllioljphpgfhaa

namespace Go.Proofs.Ytllioljphpgfhaa
open Go.RowKit
theorem mul_bd {x y X Y : Int} (h1 : 0 ≤ x) (h2 : x ≤ X) (h3 : 0 ≤ y) (h4 : y ≤ Y) : 0 ≤ x * y ∧ x * y ≤ X * Y := ⟨Int.mul_nonneg h1 h3, Int.mul_le_mul h2 h4 h3 (by omega)⟩
/-- Two boxes of the call's own. -/
structure Env2 (w W : World) (t1 t2 : TypeId) (c1 c2 : Array Value) : Prop where
  p : Blk W w.heap.size t1 c1
  q : Blk W (w.heap.size + 1) t2 c2
  bel : Below w.heap.size w W
section
variable {w W W' : World} {t1 t2 : TypeId} {c1 c2 : Array Value}
theorem Env2.below (h : Env2 w W t1 t2 c1 c2) (hb : Below W.heap.size W W') : Env2 w W' t1 t2 c1 c2 := ⟨blk_keep hb h.p, blk_keep hb h.q, below_then h.bel hb⟩
theorem Env2.alloc (h : Env2 w W t1 t2 c1 c2) (o : Obj) : Env2 w (W.alloc o) t1 t2 c1 c2 := h.below (below_self W o)
theorem Env2.drewd (h : Env2 w W t1 t2 c1 c2) : Env2 w W.drew t1 t2 c1 c2 := ⟨h.p, h.q, h.bel.drew⟩
theorem Env2.start (w : World) (t1 t2 : TypeId) (c1 c2 : Array Value) : Env2 w ((w.alloc (.cells c1 t1)).alloc (.cells c2 t2)) t1 t2 c1 c2 :=
  ⟨(Blk.new w _ _ rfl).alloc _, Blk.new _ _ _ (by simp), ((Below.refl _ _).alloc (Nat.le_refl _) _).alloc (by simp) _⟩
theorem Env2.grown (h : Env2 w W t1 t2 c1 c2) {base n size : Nat} {e : TypeId} {v : Value} {xs : List Value} (ho : W.ownsRow base e size v n xs) (h1 : e ≠ t1) (h2 : e ≠ t2) (hb : w.heap.size ≤ base) (hg : W.grownBy W' v.ownBlock) : Env2 w W' t1 t2 c1 c2 :=
  ⟨h.p.grown hg (own_blk_ne ho h.p h1), h.q.grown hg (own_blk_ne ho h.q h2), h.bel.grown hg h.bel.size (fun k e => Nat.le_trans hb (ho.lt k e.symm.symm).1)⟩
end
def endA : Bool → Array Value
  | false => #[.func (.func 39) #[] #[], .func (.func 40) #[] #[], .func (.func 41) #[] #[]]
  | true => #[.func (.func 40) #[] #[], .func (.func 39) #[] #[], .func (.func 45) #[] #[]]
def ris (u : Bool) (l h : Int) : Int := bif u then h else l
def fal (u : Bool) (l h : Int) : Int := bif u then l else h
theorem low_any (l h : Int) (w : World) : Calls Try.prog 39 #[.agg #[.int .i64 l, .int .i64 h]] w fun e w' => e = .returned (.int .i64 l) ∧ Below w.heap.size w w' := by
  go_enter Try.func39, Try.ntmps39
  go_wp2
  go_ret
  exact ⟨rfl, below_self w _⟩
theorem high_any (l h : Int) (w : World) : Calls Try.prog 40 #[.agg #[.int .i64 l, .int .i64 h]] w fun e w' => e = .returned (.int .i64 h) ∧ Below w.heap.size w w' := by
  go_enter Try.func40, Try.ntmps40
  go_wp2
  go_ret
  exact ⟨rfl, below_self w _⟩
theorem leastEnd_any (w : World) : Calls Try.prog 22 #[] w fun e w' => e = .returned (.agg (endA false)) ∧ Below w.heap.size w w' := by
  have H := Lib.hid (Blk.new w 71 #[Value.nilFunc, Value.nilFunc, Value.nilFunc] rfl)
  have B := Lib.hid (below_self w (.cells #[Value.nilFunc, Value.nilFunc, Value.nilFunc] 71))
  unfold endA
  go_enter Try.func22, Try.ntmps22
  go_wp2_with (refine wpList_store_row rfl 71 _ _ rfl w.heap.size _ rfl rfl 71 _ H.out (by kernel_rfl) rfl (by kernel_rfl) ?_)
  exact bodyPost_ret (results_c rfl _ _ _ _ _ _ _ rfl (H.out.setRow _) Try.underlying71 (by kernel_rfl)) rfl ⟨rfl, below_setR B.out (by omega) _⟩
theorem mostEnd_any (w : World) : Calls Try.prog 24 #[] w fun e w' => e = .returned (.agg (endA true)) ∧ Below w.heap.size w w' := by
  have H := Lib.hid (Blk.new w 71 #[Value.nilFunc, Value.nilFunc, Value.nilFunc] rfl)
  have B := Lib.hid (below_self w (.cells #[Value.nilFunc, Value.nilFunc, Value.nilFunc] 71))
  unfold endA
  go_enter Try.func24, Try.ntmps24
  go_wp2_with (refine wpList_store_row rfl 71 _ _ rfl w.heap.size _ rfl rfl 71 _ H.out (by kernel_rfl) rfl (by kernel_rfl) ?_)
  exact bodyPost_ret (results_c rfl _ _ _ _ _ _ _ rfl (H.out.setRow _) Try.underlying71 (by kernel_rfl)) rfl ⟨rfl, below_setR B.out (by omega) _⟩
end Go.Proofs.Ytllioljphpgfhaa
