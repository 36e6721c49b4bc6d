/- Walks: slices.Max, Min, room. -/
import Derived.Test.YtiflhimmieflpaaW10
import Derived.BigQuiet
namespace Go.Proofs.Ytiflhimmieflpaa
open Go.RowKit

def maxTo (xs : List Int) : Nat → Int
  | 0 => xs.getD 0 0
  | k + 1 => max (maxTo xs k) (xs.getD (k + 1) 0)
theorem maxTo_succ (xs : List Int) (k : Nat) : maxTo xs (k + 1) = max (maxTo xs k) (xs.getD (k + 1) 0) := rfl
theorem max_if (a b : Int) : (if a < b then b else a) = max a b := by split <;> omega
set_option maxHeartbeats 400000 in
theorem Max_any (A : Option Addr) (n c : Nat) (xs : List Int) (w : World) (h : Ints w A n xs) (h0 : 0 < n) (hn : n ≤ maxLen) :
    Calls Try.prog 115 #[.slice A n c] w fun e w' => e = .returned (.int .i64 (maxTo xs (n - 1))) ∧ w = w' := by
  unfold maxLen at hn
  have hl := h.len
  obtain ⟨b, off, rfl, hb, hc0⟩ := h.at_ h0
  rw [Nat.add_zero] at hc0
  generalize hv : xs.getD 0 0 = v at *
  have HV : Hid (maxTo xs 0 = v) := hv
  clear hv
  go_enter Try.func115, Try.ntmps115
  go_wp2_with fail
  go_loop [3, 4] (fun m i => ∃ k : Nat, 1 ≤ k ∧ k ≤ n ∧ i = .int .i64 k ∧ m = .int .i64 (maxTo xs (k - 1))) (fun _ i => n - (intOf i).toNat)
  case atStart => exact ⟨1, by omega, by omega, rfl, by rw [Nat.sub_self, HV.out]⟩
  case round =>
    obtain ⟨k, hk1, hk, rfl, rfl⟩ := hrel
    by_cases hlt : k < n
    · obtain ⟨b', off', hA, hb', hc⟩ := h.at_ hlt
      simp only [Option.some.injEq, Addr.mk.injEq, and_true] at hA
      obtain ⟨rfl, rfl⟩ := hA
      have HS : Hid (maxTo xs (k + 1 - 1) = max (maxTo xs (k - 1)) (xs.getD k 0)) := by
        unfold Hid
        have := maxTo_succ xs (k - 1)
        rw [show k - 1 + 1 = k from by omega] at this
        rw [show k + 1 - 1 = k from by omega]
        exact this
      have Hl := Lib.hid hl
      clear hl
      generalize xs.getD k 0 = y at *
      generalize maxTo xs (k - 1) = z at *
      go_wp2_with fail
      go_round
      case rel => exact ⟨k + 1, by omega, by omega, by go_num, by rw [HS.out, ← max_if]⟩
      case measure => simp [intOf]; omega
    · obtain rfl : k = n := by omega
      go_wp2
      go_ret
      exact ⟨rfl, rfl⟩

def minTo (xs : List Int) : Nat → Int
  | 0 => xs.getD 0 0
  | k + 1 => min (minTo xs k) (xs.getD (k + 1) 0)
theorem minTo_succ (xs : List Int) (k : Nat) : minTo xs (k + 1) = min (minTo xs k) (xs.getD (k + 1) 0) := rfl
theorem min_if (a b : Int) : (if b < a then b else a) = min a b := by split <;> omega
set_option maxHeartbeats 400000 in
theorem Min_any (A : Option Addr) (n c : Nat) (xs : List Int) (w : World) (h : Ints w A n xs) (h0 : 0 < n) (hn : n ≤ maxLen) :
    Calls Try.prog 79 #[.slice A n c] w fun e w' => e = .returned (.int .i64 (minTo xs (n - 1))) ∧ w = w' := by
  unfold maxLen at hn
  have hl := h.len
  obtain ⟨b, off, rfl, hb, hc0⟩ := h.at_ h0
  rw [Nat.add_zero] at hc0
  generalize hv : xs.getD 0 0 = v at *
  have HV : Hid (minTo xs 0 = v) := hv
  clear hv
  go_enter Try.func79, Try.ntmps79
  go_wp2_with fail
  go_loop [3, 4] (fun m i => ∃ k : Nat, 1 ≤ k ∧ k ≤ n ∧ i = .int .i64 k ∧ m = .int .i64 (minTo xs (k - 1))) (fun _ i => n - (intOf i).toNat)
  case atStart => exact ⟨1, by omega, by omega, rfl, by rw [Nat.sub_self, HV.out]⟩
  case round =>
    obtain ⟨k, hk1, hk, rfl, rfl⟩ := hrel
    by_cases hlt : k < n
    · obtain ⟨b', off', hA, hb', hc⟩ := h.at_ hlt
      simp only [Option.some.injEq, Addr.mk.injEq, and_true] at hA
      obtain ⟨rfl, rfl⟩ := hA
      have HS : Hid (minTo xs (k + 1 - 1) = min (minTo xs (k - 1)) (xs.getD k 0)) := by
        unfold Hid
        have := minTo_succ xs (k - 1)
        rw [show k - 1 + 1 = k from by omega] at this
        rw [show k + 1 - 1 = k from by omega]
        exact this
      have Hl := Lib.hid hl
      clear hl
      generalize xs.getD k 0 = y at *
      generalize minTo xs (k - 1) = z at *
      go_wp2_with fail
      go_round
      case rel => exact ⟨k + 1, by omega, by omega, by go_num, by rw [HS.out, ← min_if]⟩
      case measure => simp [intOf]; omega
    · obtain rfl : k = n := by omega
      go_wp2
      go_ret
      exact ⟨rfl, rfl⟩

theorem quiet_left {P : Program} {f : FuncId} {args : Array Value} {w : World} {n : Nat} {v : Value}
    (h : Calls P f args (w.drewN n) fun e w' => e = .returned v ∧ w.drewN n = w') : Calls P f args (w.drewN n) fun e w'' => e = .returned v ∧ ∃ m, w'' = w.drewN m :=
  h.mono fun _ _ ⟨he, hw⟩ => ⟨he, n, hw.symm⟩
theorem ints_cut {w : World} {b off n x m : Nat} {xs : List Int} (h : Ints w (some ⟨b, off, none⟩) n xs) (hx : x + m ≤ n) : Ints w (some ⟨b, off + x, none⟩) m ((xs.drop x).take m) := by
  have hl := h.len
  refine ⟨by simp; omega, fun hm => ?_⟩
  obtain ⟨b', off', hA, hb, hc⟩ := h.2 (by omega)
  simp only [Option.some.injEq, Addr.mk.injEq, and_true] at hA
  obtain ⟨rfl, rfl⟩ := hA
  refine ⟨b, off + x, rfl, hb, fun j u hj => ?_⟩
  have hjm : j < m := by have := (List.getElem?_eq_some_iff.1 hj).1; simp at this; omega
  rw [Nat.add_assoc]
  refine hc (x + j) u ?_
  rw [← hj]
  simp [hjm]
def roomL (s : Sawing) (x : Nat) : Int × Int := (maxTo ((s.bottom.drop x).take s.long.toNat) (s.long.toNat - 1), minTo ((s.top.drop x).take s.long.toNat) (s.long.toNat - 1))

set_option maxRecDepth 100000 in
set_option maxHeartbeats 1000000 in
theorem room_any (s : Sawing) (b o b' o' n c c' : Nat) (K : Option Addr) (m d x : Nat) (w : World) (h : SawAt w s ⟨b, o, none⟩ ⟨b', o', none⟩ n K m) (hc : n ≤ c) (hc' : n ≤ c') (hm : c ≤ maxLen) (hl : 1 ≤ s.long) (hx : (x : Int) + s.long ≤ n) :
    Calls Try.prog 101 #[sawVal s ⟨b, o, none⟩ ⟨b', o', none⟩ n c c' K m d, .int .i64 x] w
      fun e w' => e = .returned (.tuple #[.int .i64 (roomL s x).1, .int .i64 (roomL s x).2]) ∧ Below w.heap.size w w' := by
  obtain ⟨long, wide, kerf, across, bottom, top, splits⟩ := s
  simp only at hl hx
  obtain ⟨l, rfl⟩ := Int.eq_ofNat_of_zero_le (show 0 ≤ long by omega)
  unfold sawVal roomL
  simp only [Int.toNat_natCast]
  unfold maxLen at hm
  have B1 := below_self w (.cells #[.int .i64 l, .int .i64 wide, .int .i64 kerf, .int .i64 across, .slice (some ⟨b, o, none⟩) n c, .slice (some ⟨b', o', none⟩) n c', .slice K m d] 120)
  have I1 := ints_cut (x := x) (m := l) (h.1.below B1) (by omega)
  have I2 := ints_cut (x := x) (m := l) (h.2.1.below B1) (by omega)
  have I1' := Lib.hid I1
  have I2' := Lib.hid I2
  clear I1 I2 h
  have k1 : IntKind.i64.wrap ((x : Int) + (l : Int)) = (x : Int) + (l : Int) := IntWalk.i64_in _ (by omega)
  have k2 : ((x : Int) + (l : Int)).toNat = x + l := by omega
  have k3 : ¬ c = x := by omega
  have k4 : ¬ c' = x := by omega
  have k5 : 0 ≤ (x : Int) + (l : Int) := by omega
  have k6 : (x : Int) + (l : Int) ≤ (c : Int) := by omega
  have k7 : (x : Int) + (l : Int) ≤ (c' : Int) := by omega
  go_enter Try.func101, Try.ntmps101
  go_wp2
  go_quiet (first | (go_at_call 115; exact quiet_left (Max_any _ l (c - x) _ _ I1'.out (by omega) (by unfold maxLen; omega))) | (go_at_call 79; exact quiet_left (Min_any _ l (c' - x) _ _ I2'.out (by omega) (by unfold maxLen; omega))))
  clear k1 k2 k3 k4 k5 k6 k7
  go_wp2
  go_ret2
  exact ⟨rfl, below_drewN B1 _⟩
end Go.Proofs.Ytiflhimmieflpaa
