/- Walks: span.Within, span.Valid. -/
import Derived.Test.YtiflhimmieflpaaMem
import Derived.WalkLawsBesides
import Derived.BigQuiet
namespace Go.Proofs.Ytiflhimmieflpaa
open Go.RowKit

def within (lo hi : Int) (xs : List Int) : Bool := xs.all fun n => decide (lo ≤ n) && decide (n ≤ hi)

theorem within_take {lo hi : Int} {xs : List Int} {k : Nat} (hk : k < xs.length) : within lo hi (xs.take (k + 1)) = (within lo hi (xs.take k) && (decide (lo ≤ xs.getD k 0) && decide (xs.getD k 0 ≤ hi))) := by
  unfold within
  rw [List.take_succ_eq_append_getElem hk, List.all_append]
  simp [hk, List.getD]
theorem within_no {lo hi : Int} {xs : List Int} {k : Nat} (hk : k < xs.length) (h : (decide (lo ≤ xs.getD k 0) && decide (xs.getD k 0 ≤ hi)) = false) : within lo hi xs = false := by
  have h2 := within_take (lo := lo) (hi := hi) hk
  rw [h, Bool.and_false] at h2
  unfold within at *
  rw [← List.take_append_drop (k + 1) xs, List.all_append, h2, Bool.false_and]

set_option maxHeartbeats 400000 in
theorem within_any (lo hi : Int) (A : Option Addr) (n c : Nat) (xs : List Int) (w : World) (h : Ints w A n xs) (hn : n ≤ maxLen) :
    Calls Try.prog 88 #[.int .i64 lo, .int .i64 hi, .slice A n c] w fun e w' => e = .returned (.bool (within lo hi xs)) ∧ w = w' := by
  unfold maxLen at hn
  have hl := h.len
  go_enter Try.func88, Try.ntmps88
  go_wp2
  go_loop [11] (fun i => ∃ k : Nat, k ≤ n ∧ i = .int .i64 k ∧ within lo hi (xs.take k) = true) (fun i => n - (intOf i).toNat)
  case atStart => exact ⟨0, Nat.zero_le _, rfl, rfl⟩
  case round =>
    obtain ⟨k, hk, rfl, hin⟩ := hrel
    by_cases hlt : k < n
    · obtain ⟨b, off, rfl, hb, hc⟩ := h.at_ hlt
      have hx : k < xs.length := by omega
      have H := Lib.hid (within_take (lo := lo) (hi := hi) hx)
      have Hin := Lib.hid hin
      have Hno := Lib.hid (within_no (lo := lo) (hi := hi) hx)
      clear hin hl
      generalize xs.getD k 0 = y at *
      by_cases h1 : y < lo
      · go_wp2
        go_ret
        exact ⟨ret_bool (Hno.out (by simp; omega)).symm, rfl⟩
      · by_cases h2 : hi < y
        · go_wp2
          go_ret
          exact ⟨ret_bool (Hno.out (by simp; omega)).symm, rfl⟩
        · go_wp2
          go_round
          case rel => exact ⟨k + 1, by omega, by go_num, by rw [H.out, Hin.out]; simp; omega⟩
          case measure => simp [intOf]; omega
    · have he : within lo hi xs = true := by rw [← hin, List.take_of_length_le (by omega)]
      clear hin
      have He := Lib.hid he
      clear he
      go_wp2
      go_ret
      exact ⟨ret_bool He.out.symm, rfl⟩
theorem within1 (lo hi x : Int) (t : TypeId) (g : Nat) (w : World) (hg : g = w.heap.size) : Calls Try.prog 88 #[.int .i64 lo, .int .i64 hi, .slice (some ⟨g, 0, none⟩) 1 1] (w.alloc (.cells #[.int .i64 x] t))
    fun e w' => e = .returned (.bool (within lo hi [x])) ∧ w.alloc (.cells #[.int .i64 x] t) = w' := within_any lo hi _ 1 1 [x] _ (ints_new1 w x t hg) (by decide)
theorem within2 (lo hi x y : Int) (t : TypeId) (g : Nat) (w : World) (hg : g = w.heap.size) : Calls Try.prog 88 #[.int .i64 lo, .int .i64 hi, .slice (some ⟨g, 0, none⟩) 2 2] (w.alloc (.cells #[.int .i64 x, .int .i64 y] t))
    fun e w' => e = .returned (.bool (within lo hi [x, y])) ∧ w.alloc (.cells #[.int .i64 x, .int .i64 y] t) = w' := within_any lo hi _ 2 2 [x, y] _ (ints_new2 w x y t hg) (by decide)

def validS (lo hi : Int) (xs : List (Int × Int)) : Bool := xs.all fun s => decide (s.1 ≤ s.2) && (decide (lo ≤ s.1) && decide (s.1 ≤ hi) && (decide (lo ≤ s.2) && decide (s.2 ≤ hi)))
theorem validS_take {lo hi : Int} {xs : List (Int × Int)} {k : Nat} (hk : k < xs.length) : validS lo hi (xs.take (k + 1)) = (validS lo hi (xs.take k) &&
    (decide ((xs.getD k (0, 0)).1 ≤ (xs.getD k (0, 0)).2) && (decide (lo ≤ (xs.getD k (0, 0)).1) && decide ((xs.getD k (0, 0)).1 ≤ hi) && (decide (lo ≤ (xs.getD k (0, 0)).2) && decide ((xs.getD k (0, 0)).2 ≤ hi))))) := by
  unfold validS
  rw [List.take_succ_eq_append_getElem hk, List.all_append]
  simp [hk, List.getD]
theorem validS_no {lo hi : Int} {xs : List (Int × Int)} {k : Nat} (hk : k < xs.length) (h : (decide ((xs.getD k (0, 0)).1 ≤ (xs.getD k (0, 0)).2) && (decide (lo ≤ (xs.getD k (0, 0)).1) && decide ((xs.getD k (0, 0)).1 ≤ hi) && (decide (lo ≤ (xs.getD k (0, 0)).2) && decide ((xs.getD k (0, 0)).2 ≤ hi)))) = false) : validS lo hi xs = false := by
  have h2 := validS_take (lo := lo) (hi := hi) hk
  rw [h, Bool.and_false] at h2
  unfold validS at *
  rw [← List.take_append_drop (k + 1) xs, List.all_append, h2, Bool.false_and]

set_option maxHeartbeats 400000 in
theorem valid_any (lo hi : Int) (A : Option Addr) (n c : Nat) (xs : List (Int × Int)) (w : World) (h : Pairs w A n xs) (hn : n ≤ maxLen) :
    Calls Try.prog 111 #[.int .i64 lo, .int .i64 hi, .slice A n c] w fun e w' => e = .returned (.bool (validS lo hi xs)) ∧ Below w.heap.size w w' := by
  unfold maxLen at hn
  have hl := h.len
  go_enter Try.func111, Try.ntmps111
  go_wp2
  go_loopw [11] (fun i wr => ∃ k : Nat, k ≤ n ∧ i = .int .i64 k ∧ validS lo hi (xs.take k) = true ∧ Below w.heap.size w wr) (fun i _ => n - (intOf i).toNat)
  case atStart => exact ⟨0, Nat.zero_le _, rfl, rfl, Below.refl _ _⟩
  case round =>
    obtain ⟨k, hk, rfl, hin, hbel⟩ := hrel
    by_cases hlt : k < n
    · obtain ⟨b, off, rfl, hb, hc1, hc2⟩ := (h.below hbel).at_ hlt
      have hx : k < xs.length := by omega
      have H := Lib.hid (validS_take (lo := lo) (hi := hi) hx)
      have Hin := Lib.hid hin
      have Hno := Lib.hid (validS_no (lo := lo) (hi := hi) hx)
      clear hin hl
      generalize xs.getD k (0, 0) = y at *
      have hw : within lo hi [y.1, y.2] = (decide (lo ≤ y.1) && decide (y.1 ≤ hi) && (decide (lo ≤ y.2) && decide (y.2 ≤ hi))) := by simp [within]
      rw [← hw] at H Hno
      clear hw
      by_cases h1 : y.2 < y.1
      · go_wp2
        go_ret
        exact ⟨ret_bool (Hno.out (by simp; omega)).symm, hbel.trans ((Below.refl _ _).alloc hbel.size _)⟩
      · cases hq : within lo hi [y.1, y.2]
        · go_wp2_with (go_at_call 88; refine (within2 _ _ _ _ _ _ _ (by simp)).mono ?_; rintro e w' ⟨rfl, rfl⟩)
          go_ret
          exact ⟨ret_bool (Hno.out (by simp [hq])).symm, hbel.trans (((Below.refl _ _).alloc hbel.size _).alloc (by simp; have := hbel.size; omega) _)⟩
        · go_wp2_with (go_at_call 88; refine (within2 _ _ _ _ _ _ _ (by simp)).mono ?_; rintro e w' ⟨rfl, rfl⟩)
          go_roundw
          case rel => exact ⟨k + 1, by omega, by go_num, by rw [H.out, Hin.out, hq]; simp; omega, hbel.trans (((Below.refl _ _).alloc hbel.size _).alloc (by simp; have := hbel.size; omega) _)⟩
          case measure => simp [intOf]; omega
    · have he : validS lo hi xs = true := by rw [← hin, List.take_of_length_le (by omega)]
      clear hin
      have He := Lib.hid he
      clear he
      go_wp2
      go_ret
      exact ⟨ret_bool He.out.symm, hbel⟩
end Go.Proofs.Ytiflhimmieflpaa
