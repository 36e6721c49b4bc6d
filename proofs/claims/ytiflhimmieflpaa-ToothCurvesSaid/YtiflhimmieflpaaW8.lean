/- Walks: heights, room, spoiler. -/
import Derived.Test.YtiflhimmieflpaaW7
namespace Go.Proofs.Ytiflhimmieflpaa
open Go.RowKit

theorem grown_of_below {a w : World} (h : Below a.heap.size a w) (row : Option Nat) : a.grownBy w row := ⟨h.os, h.tape, h.output, h.size, fun i hi _ => h.block i hi⟩
theorem ownsRow_below {w w' : World} {base : Nat} {e : TypeId} {size : Nat} {v : Value} {n : Nat} {xs : List Value} (h : w.ownsRow base e size v n xs) (hb : Below w.heap.size w w') : w'.ownsRow base e size v n xs :=
  h.kept (grown_of_below hb none) (by cases v.ownBlock <;> simp)
theorem ints_of_own {w : World} {base g cap n : Nat} {t : TypeId} {xs : List Int} (h : w.ownsRow base t 1 (.slice (some ⟨g, 0, none⟩) n cap) n (xs.map (Value.int .i64))) : Ints w (some ⟨g, 0, none⟩) n xs := by
  refine ⟨by have := h.1; simpa using this, fun hn => ⟨g, 0, rfl, (h.lt g rfl).2, fun j u hj => ?_⟩⟩
  have hjl : j < n * 1 := by have := (List.getElem?_eq_some_iff.1 hj).1; have := h.1; simp at *; omega
  rw [Nat.zero_add, h.cellAt j hjl, hj]
theorem pairs_of_own {w : World} {base g cap n : Nat} {t : TypeId} {xs : List (Int × Int)} (h : w.ownsRow base t 2 (.slice (some ⟨g, 0, none⟩) n cap) n (flat2 xs)) : Pairs w (some ⟨g, 0, none⟩) n xs := by
  refine ⟨h.1, fun hn => ⟨g, 0, rfl, (h.lt g rfl).2, fun j u hj => ?_⟩⟩
  have hjl : j < n * 2 := by have := (List.getElem?_eq_some_iff.1 hj).1; have := h.1; omega
  rw [Nat.zero_add, h.cellAt j hjl, hj]
theorem own_form {w : World} {base : Nat} {e : TypeId} {size : Nat} {v : Value} {n : Nat} {xs : List Value} (h : w.ownsRow base e size v n xs) (hn : 0 < n) : ∃ g cap, v = .slice (some ⟨g, 0, none⟩) n cap := by
  rcases h.2 with ⟨_, hz⟩ | ⟨g, cap, _, hv, _⟩
  · omega
  · exact ⟨g, cap, hv⟩
theorem take_map_succ {α β : Type} (f : α → β) (xs : List α) (k : Nat) (z : α) (hk : k < xs.length) : (xs.take (k + 1)).map f = (xs.take k).map f ++ [f (xs.getD k z)] := by
  rw [List.take_succ_eq_append_getElem hk, List.map_append]
  simp [hk, List.getD]

set_option maxHeartbeats 400000 in
theorem high_any (lo hi : Int) (w : World) :
    Calls Try.prog 99 #[.agg #[.int .i64 lo, .int .i64 hi]] w fun e w' => e = .returned (.int .i64 hi) ∧ Below w.heap.size w w' := by
  go_enter Try.func99, Try.ntmps99
  go_wp2
  go_ret
  exact ⟨rfl, (Below.refl _ _).alloc (Nat.le_refl _) _⟩

set_option maxHeartbeats 400000 in
theorem low_any (lo hi : Int) (w : World) :
    Calls Try.prog 100 #[.agg #[.int .i64 lo, .int .i64 hi]] w fun e w' => e = .returned (.int .i64 lo) ∧ Below w.heap.size w w' := by
  go_enter Try.func100, Try.ntmps100
  go_wp2
  go_ret
  exact ⟨rfl, (Below.refl _ _).alloc (Nat.le_refl _) _⟩

set_option maxRecDepth 100000 in
set_option maxHeartbeats 1000000 in
theorem heightsHigh_any (b off n c : Nat) (xs : List (Int × Int)) (w : World) (h : Pairs w (some ⟨b, off, none⟩) n xs) (h0 : 0 < n) (hn : n ≤ 1000) :
    Calls Try.prog 98 #[.slice (some ⟨b, off, none⟩) n c, .func (.func 99) #[] #[]] w (Cloned w 3 1 n ((xs.map fun s => s.2).map (Value.int .i64))) := by
  obtain ⟨i0, hi, hz0, hz1, hz2⟩ := info_parts Try.infoInt
  have hl := h.len
  go_enter Try.func98, Try.ntmps98
  go_wp2_with fail
  go_loopw [5, 10] (fun v i wr => ∃ k : Nat, k ≤ n ∧ i = .int .i64 k ∧ wr.ownsRow w.heap.size 3 1 v k (((xs.take k).map fun s => s.2).map (Value.int .i64)) ∧ Below w.heap.size w wr) (fun _ i _ => n - (intOf i).toNat)
  case atStart => exact ⟨0, Nat.zero_le _, rfl, World.ownsRow_nil _ _ _ _, Below.refl _ _⟩
  case round =>
    obtain ⟨k, hk, rfl, hown, hbel⟩ := hrel
    by_cases hlt : k < n
    · obtain ⟨b', off', hA, hb, hc1, hc2⟩ := (h.below hbel).at_ hlt
      simp only [Option.some.injEq, Addr.mk.injEq, and_true] at hA
      obtain ⟨rfl, rfl⟩ := hA
      have HT := Lib.hid (take_map_succ (fun s : Int × Int => s.2) xs k (0, 0) (by omega))
      have Hl := Lib.hid hl
      clear hl
      generalize xs.getD k (0, 0) = y at *
      go_wp2_with fail
      refine (high_any _ _ _).mono ?_
      rintro e w3 ⟨rfl, hb3⟩
      have hown3 := ownsRow_below (hown.alloc (.cells #[.int .i64 y.1, .int .i64 y.2] 98)) hb3
      have B3 := (hbel.alloc hbel.size (.cells #[.int .i64 y.1, .int .i64 y.2] 98)).trans (hb3.mono (by have := hbel.size; simp; omega))
      clear hb3 hown hbel hc1 hc2 hb
      go_wp2_with (at_builtin; refine wpList_append_own _ rfl _ _ 44 rfl w.heap.size 3 i0 (.int .i64 0) 1 8 Try.underlying44 hi hz0 hz1 hz2 rfl (by decide) _ _ _ rfl (hown3.alloc _) ⟨w3.heap.size, 0, none⟩ 1 1 [.int .i64 y.2] rfl rfl (cell_one_new _ _ _) ?c2 ?c3 ?c4 ?c5 ?_)
      case c2 => intro u hu; simp at hu; subst hu; rfl
      case c3 => unfold maxLen; omega
      case c4 => omega
      case c5 => have := B3.size; simp; omega
      intro v' w4 hown4 hgrow _
      have B4 := (B3.alloc B3.size _).grown hgrow (by have := B3.size; simp; omega) (fun q hq => (hown3.lt q hq).1)
      have hown5 : Hid (w4.ownsRow w.heap.size 3 1 v' (k + 1) (((xs.take (k + 1)).map fun s => s.2).map (Value.int .i64))) := by
        unfold Hid; rw [HT.out]; simpa [List.map_take] using hown4
      clear hown4 hgrow hown3 B3
      go_wp2
      go_roundw
      case rel => exact ⟨k + 1, by omega, by go_num, hown5.out, B4⟩
      case measure => simp [intOf]; omega
    · obtain rfl : k = n := by omega
      rw [List.take_of_length_le (by omega)] at hown
      obtain ⟨g, cap, rfl⟩ := own_form hown h0
      go_wp2
      go_ret
      exact ⟨g, cap, rfl, hown, hbel⟩

set_option maxRecDepth 100000 in
set_option maxHeartbeats 1000000 in
theorem heightsLow_any (b off n c : Nat) (xs : List (Int × Int)) (w : World) (h : Pairs w (some ⟨b, off, none⟩) n xs) (h0 : 0 < n) (hn : n ≤ 1000) :
    Calls Try.prog 98 #[.slice (some ⟨b, off, none⟩) n c, .func (.func 100) #[] #[]] w (Cloned w 3 1 n ((xs.map fun s => s.1).map (Value.int .i64))) := by
  obtain ⟨i0, hi, hz0, hz1, hz2⟩ := info_parts Try.infoInt
  have hl := h.len
  go_enter Try.func98, Try.ntmps98
  go_wp2_with fail
  go_loopw [5, 10] (fun v i wr => ∃ k : Nat, k ≤ n ∧ i = .int .i64 k ∧ wr.ownsRow w.heap.size 3 1 v k (((xs.take k).map fun s => s.1).map (Value.int .i64)) ∧ Below w.heap.size w wr) (fun _ i _ => n - (intOf i).toNat)
  case atStart => exact ⟨0, Nat.zero_le _, rfl, World.ownsRow_nil _ _ _ _, Below.refl _ _⟩
  case round =>
    obtain ⟨k, hk, rfl, hown, hbel⟩ := hrel
    by_cases hlt : k < n
    · obtain ⟨b', off', hA, hb, hc1, hc2⟩ := (h.below hbel).at_ hlt
      simp only [Option.some.injEq, Addr.mk.injEq, and_true] at hA
      obtain ⟨rfl, rfl⟩ := hA
      have HT := Lib.hid (take_map_succ (fun s : Int × Int => s.1) xs k (0, 0) (by omega))
      have Hl := Lib.hid hl
      clear hl
      generalize xs.getD k (0, 0) = y at *
      go_wp2_with fail
      refine (low_any _ _ _).mono ?_
      rintro e w3 ⟨rfl, hb3⟩
      have hown3 := ownsRow_below (hown.alloc (.cells #[.int .i64 y.1, .int .i64 y.2] 98)) hb3
      have B3 := (hbel.alloc hbel.size (.cells #[.int .i64 y.1, .int .i64 y.2] 98)).trans (hb3.mono (by have := hbel.size; simp; omega))
      clear hb3 hown hbel hc1 hc2 hb
      go_wp2_with (at_builtin; refine wpList_append_own _ rfl _ _ 44 rfl w.heap.size 3 i0 (.int .i64 0) 1 8 Try.underlying44 hi hz0 hz1 hz2 rfl (by decide) _ _ _ rfl (hown3.alloc _) ⟨w3.heap.size, 0, none⟩ 1 1 [.int .i64 y.1] rfl rfl (cell_one_new _ _ _) ?c2 ?c3 ?c4 ?c5 ?_)
      case c2 => intro u hu; simp at hu; subst hu; rfl
      case c3 => unfold maxLen; omega
      case c4 => omega
      case c5 => have := B3.size; simp; omega
      intro v' w4 hown4 hgrow _
      have B4 := (B3.alloc B3.size _).grown hgrow (by have := B3.size; simp; omega) (fun q hq => (hown3.lt q hq).1)
      have hown5 : Hid (w4.ownsRow w.heap.size 3 1 v' (k + 1) (((xs.take (k + 1)).map fun s => s.1).map (Value.int .i64))) := by
        unfold Hid; rw [HT.out]; simpa [List.map_take] using hown4
      clear hown4 hgrow hown3 B3
      go_wp2
      go_roundw
      case rel => exact ⟨k + 1, by omega, by go_num, hown5.out, B4⟩
      case measure => simp [intOf]; omega
    · obtain rfl : k = n := by omega
      rw [List.take_of_length_le (by omega)] at hown
      obtain ⟨g, cap, rfl⟩ := own_form hown h0
      go_wp2
      go_ret
      exact ⟨g, cap, rfl, hown, hbel⟩
end Go.Proofs.Ytiflhimmieflpaa
