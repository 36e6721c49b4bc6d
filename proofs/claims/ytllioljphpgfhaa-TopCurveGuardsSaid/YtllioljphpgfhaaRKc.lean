/- What is needed of Kc. -/
import Derived.Test.YtllioljphpgfhaaRKb
namespace Go.Proofs.Ytllioljphpgfhaa
open Go.RowKit
def cmpL (x y : Int) : Int := if x < y then -1 else if y < x then 1 else 0
theorem isNaN_any (x : Int) (w : World) : Calls Try.prog 53 #[.int .i64 x] w fun e w' => e = .returned (.bool false) ∧ w' = w := by
  go_enter Try.func53, Try.ntmps53
  go_wp2
  go_ret
  exact ⟨rfl, rfl⟩
set_option maxHeartbeats 400000 in
theorem cmp_any (x y : Int) (w : World) : Calls Try.prog 52 #[.int .i64 x, .int .i64 y] w fun e w' => e = .returned (.int .i64 (cmpL x y)) ∧ w' = w := by
  have HO : Hid (cmpL x y = if x < y then -1 else if y < x then 1 else 0) := rfl
  generalize cmpL x y = r at *
  by_cases h1 : x < y
  · have H : Hid (r = -1) := by unfold Hid; rw [HO.out, if_pos h1]
    clear HO
    go_enter Try.func52, Try.ntmps52
    go_wp2_with (go_at_call 53; refine (isNaN_any _ _).mono ?_; rintro e w' ⟨rfl, rfl⟩)
    go_ret
    exact ⟨ret_int H.out.symm, rfl⟩
  · by_cases h2 : y < x
    · have H : Hid (r = 1) := by unfold Hid; rw [HO.out, if_neg h1, if_pos h2]
      clear HO
      go_enter Try.func52, Try.ntmps52
      go_wp2_with (go_at_call 53; refine (isNaN_any _ _).mono ?_; rintro e w' ⟨rfl, rfl⟩)
      go_ret
      exact ⟨ret_int H.out.symm, rfl⟩
    · have H : Hid (r = 0) := by unfold Hid; rw [HO.out, if_neg h1, if_neg h2]
      clear HO
      go_enter Try.func52, Try.ntmps52
      go_wp2_with (go_at_call 53; refine (isNaN_any _ _).mono ?_; rintro e w' ⟨rfl, rfl⟩)
      go_ret
      exact ⟨ret_int H.out.symm, rfl⟩
/-- Two ratios compared. -/
def ratL (a b c d : Int) : Int := cmpL (a * d) (c * b)
theorem big_bd {x y : Int} (h1 : 0 ≤ x) (h2 : x ≤ 1000000000) (h3 : 0 ≤ y) (h4 : y ≤ 25000000) : 0 ≤ x * y ∧ x * y ≤ 25000000000000000 := mul_bd h1 h2 h3 h4
set_option maxHeartbeats 400000 in
theorem compare_any (a b c d : Int) (w : World) (ha : 0 ≤ a ∧ a ≤ 1000000000) (hb : 0 ≤ b ∧ b ≤ 25000000) (hc : 0 ≤ c ∧ c ≤ 1000000000) (hd : 0 ≤ d ∧ d ≤ 25000000) :
    Calls Try.prog 43 #[.agg #[.int .i64 a, .int .i64 b], .agg #[.int .i64 c, .int .i64 d]] w fun e w' => e = .returned (.int .i64 (ratL a b c d)) ∧ Below w.heap.size w w' := by
  have B := Lib.hid ((below_self w (.cells #[.int .i64 a, .int .i64 b] 54)).alloc (by simp) (.cells #[.int .i64 c, .int .i64 d] 54))
  have q1 := big_bd ha.1 ha.2 hd.1 hd.2
  have q2 := big_bd hc.1 hc.2 hb.1 hb.2
  have H := Lib.hid (fun W => cmp_any (a * d) (c * b) W)
  unfold ratL
  generalize cmpL (a * d) (c * b) = r at *
  clear ha hb hc hd
  go_enter Try.func43, Try.ntmps43
  go_wp2_with (go_at_call 52; refine (H.out _).mono ?_; rintro e w' ⟨rfl, rfl⟩)
  go_ret
  exact ⟨rfl, B.out⟩
end Go.Proofs.Ytllioljphpgfhaa
