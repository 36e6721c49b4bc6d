/- Walks: the reference's Above, Compare. -/
import Derived.Test.YtpbepipnfpgoiaaSe
import Derived.Test.YtpbepipnfpgoiaaRh
namespace Go.Proofs.Ytpbepipnfpgoiaa
open Go.RowKit

theorem above_eq {a b c d : Int} (ha : 0 ≤ a) (hb : 1 ≤ b) (hc : 0 ≤ c) (hd : 1 ≤ d) :
    (a / b = c / d → decide (c * b < a * d) = decide (c % d * b < a % b * d)) ∧ (¬ a / b = c / d → decide (c * b < a * d) = decide (c / d < a / b)) := by
  have e1 := Int.mul_ediv_add_emod a b
  have e2 := Int.mul_ediv_add_emod c d
  have r1 := Int.emod_nonneg a (show b ≠ 0 by omega)
  have r2 := Int.emod_lt_of_pos a (show 0 < b by omega)
  have r3 := Int.emod_nonneg c (show d ≠ 0 by omega)
  have r4 := Int.emod_lt_of_pos c (show 0 < d by omega)
  generalize a / b = q1 at *
  generalize c / d = q2 at *
  generalize a % b = s1 at *
  generalize c % d = s2 at *
  subst e1 e2
  have m1 : (b * q1 + s1) * d = q1 * (b * d) + s1 * d := by rw [Int.add_mul, Int.mul_comm b q1, Int.mul_assoc]
  have m2 : (d * q2 + s2) * b = q2 * (b * d) + s2 * b := by rw [Int.add_mul, Int.mul_comm d q2, Int.mul_assoc, Int.mul_comm d b]
  have n1 : 0 ≤ s1 * d := Int.mul_nonneg r1 (by omega)
  have n2 : 0 ≤ s2 * b := Int.mul_nonneg r3 (by omega)
  have n3 : s1 * d + d ≤ b * d := by
    have := Int.mul_le_mul_of_nonneg_right (show s1 + 1 ≤ b by omega) (show 0 ≤ d by omega)
    rw [Int.add_mul, Int.one_mul] at this
    exact this
  have n4 : s2 * b + b ≤ b * d := by
    have := Int.mul_le_mul_of_nonneg_right (show s2 + 1 ≤ d by omega) (show 0 ≤ b by omega)
    rw [Int.add_mul, Int.one_mul, Int.mul_comm d b] at this
    exact this
  rw [m1, m2]
  generalize b * d = P at *
  generalize s1 * d = u1 at *
  generalize s2 * b = u2 at *
  constructor
  · rintro rfl
    exact decide_eq_decide.2 (by omega)
  · intro hne
    refine decide_eq_decide.2 ⟨fun h => ?_, fun h => ?_⟩
    · rcases Int.lt_trichotomy q1 q2 with h1 | h1 | h1
      · have := Int.mul_le_mul_of_nonneg_right (show q1 + 1 ≤ q2 by omega) (show 0 ≤ P by omega)
        rw [Int.add_mul, Int.one_mul] at this
        omega
      · exact absurd h1 hne
      · exact h1
    · have := Int.mul_le_mul_of_nonneg_right (show q2 + 1 ≤ q1 by omega) (show 0 ≤ P by omega)
      rw [Int.add_mul, Int.one_mul] at this
      omega

set_option maxHeartbeats 1000000 in
theorem RefAbove_any (a b c d : Int) (w : World) (ha : 0 ≤ a ∧ a ≤ 1000000000) (hb : 1 ≤ b ∧ b ≤ 25000000) (hc : 0 ≤ c ∧ c ≤ 1000000000) (hd : 1 ≤ d ∧ d ≤ 25000000) :
    Calls Try.prog 72 #[.int .i64 a, .int .i64 b, .int .i64 c, .int .i64 d] w fun e w' => e = .returned (.bool (decide (c * b < a * d))) ∧ Below w.heap.size w w' := by
  have HE := Lib.hid (above_eq ha.1 hb.1 hc.1 hd.1)
  have hb0 : ¬ b = 0 := by omega
  have hd0 : ¬ d = 0 := by omega
  have hb1 : (b == 0) = false := by simpa using hb0
  have hd1 : (d == 0) = false := by simpa using hd0
  have t1 : a.tdiv b = a / b := Int.tdiv_eq_ediv_of_nonneg ha.1
  have t2 : c.tdiv d = c / d := Int.tdiv_eq_ediv_of_nonneg hc.1
  have t3 : a.tmod b = a % b := Int.tmod_eq_emod_of_nonneg ha.1
  have t4 : c.tmod d = c % d := Int.tmod_eq_emod_of_nonneg hc.1
  have u1 : 0 ≤ a / b ∧ a / b ≤ a := ⟨Int.ediv_nonneg ha.1 (by omega), Int.ediv_le_self _ ha.1⟩
  have u2 : 0 ≤ c / d ∧ c / d ≤ c := ⟨Int.ediv_nonneg hc.1 (by omega), Int.ediv_le_self _ hc.1⟩
  have u3 := Int.emod_nonneg a (show b ≠ 0 by omega)
  have u4 := Int.emod_lt_of_pos a (show 0 < b by omega)
  have u5 := Int.emod_nonneg c (show d ≠ 0 by omega)
  have u6 := Int.emod_lt_of_pos c (show 0 < d by omega)
  have q1 := mul_bd u3 (show a % b ≤ 25000000 by omega) (show 0 ≤ d by omega) hd.2
  have q2 := mul_bd u5 (show c % d ≤ 25000000 by omega) (show 0 ≤ b by omega) hb.2
  have hrefl := Below.refl w.heap.size w
  have B := Lib.hid hrefl
  clear hrefl
  by_cases hne : a / b = c / d
  · have H := Lib.hid (HE.out.1 hne)
    clear HE
    generalize decide (c * b < a * d) = r at *
    go_enter Try.func72, Try.ntmps72
    go_wp2_with fail
    go_quiet (fail)
    go_wp2_with fail
    go_quiet (fail)
    go_wp2
    go_ret
    exact ⟨ret_bool H.out.symm, below_drewN (below_drewN B.out _) _⟩
  · have H := Lib.hid (HE.out.2 hne)
    clear HE
    generalize decide (c * b < a * d) = r at *
    go_enter Try.func72, Try.ntmps72
    go_wp2_with fail
    go_quiet (fail)
    go_wp2_with fail
    go_quiet (fail)
    go_wp2
    go_ret
    exact ⟨ret_bool H.out.symm, below_drewN (below_drewN B.out _) _⟩

theorem gtL_eq (x y : Fan) : gtL x y = decide (openN true y * partsL false x < openN false x * partsL true y) := by
  unfold gtL ratL cmpL
  refine decide_eq_decide.2 ?_
  split
  · omega
  · split <;> omega
set_option maxRecDepth 100000 in
set_option maxHeartbeats 2000000 in
theorem RefCompare_any (x y : Fan) (A A' : Option Addr) (n c n' c' : Nat) (w : World) (hx : FanB x) (hy : FanB y) (h : Gaps w A n x.gs) (h' : Gaps w A' n' y.gs) :
    Calls Try.prog 27 #[.agg (fanA x A n c), .agg (fanA y A' n' c')] w fun e w' => e = .returned (.int .i64 (if gtL x y = true then 1 else if gtL y x = true then 2 else 3)) ∧ Below w.heap.size w w' := by
  have E0 := Lib.hid (Env2.start w 26 26 (fanA x A n c) (fanA y A' n' c'))
  have C1 := Lib.hid (fun W (hb : Below w.heap.size w W) => RefLeast_any x A n c W hx (h.below hb))
  have C2 := Lib.hid (fun W (hb : Below w.heap.size w W) => RefMost_any x A n c W hx (h.below hb))
  have C3 := Lib.hid (fun W (hb : Below w.heap.size w W) => RefLeast_any y A' n' c' W hy (h'.below hb))
  have C4 := Lib.hid (fun W (hb : Below w.heap.size w W) => RefMost_any y A' n' c' W hy (h'.below hb))
  have g1 := gtL_eq x y
  have g2 := gtL_eq y x
  have bx1 := open_bd hx false
  have bx2 := open_bd hx true
  have by1 := open_bd hy false
  have by2 := open_bd hy true
  have C5 := Lib.hid (fun W => RefAbove_any (openN false x) (partsL false x) (openN true y) (partsL true y) W ⟨bx1.1, by omega⟩ (parts_bd hx false) ⟨by2.1, by omega⟩ (parts_bd hy true))
  have C6 := Lib.hid (fun W => RefAbove_any (openN false y) (partsL false y) (openN true x) (partsL true x) W ⟨by1.1, by omega⟩ (parts_bd hy false) ⟨bx2.1, by omega⟩ (parts_bd hx true))
  rw [← g1] at C5
  rw [← g2] at C6
  clear g1 g2 bx1 bx2 by1 by2 hx hy h h'
  generalize gtL x y = r1 at *
  generalize gtL y x = r2 at *
  generalize openN false x = a1 at *
  generalize openN true x = a2 at *
  generalize openN false y = a3 at *
  generalize openN true y = a4 at *
  generalize partsL false x = b1 at *
  generalize partsL true x = b2 at *
  generalize partsL false y = b3 at *
  generalize partsL true y = b4 at *
  obtain ⟨xa, xb, xc, xd, xs⟩ := x
  obtain ⟨ya, yb, yc, yd, ys⟩ := y
  simp only [fanA] at *
  go_enter Try.func27, Try.ntmps27
  have p0 := fan_get E0.out.p
  go_wp2_with fail
  refine (C1.out _ E0.out.bel).mono ?_
  rintro e W1 ⟨rfl, h1⟩
  have E1 := Lib.hid (E0.out.below h1)
  have p1 := fan_get E1.out.p
  clear h1 p0 E0 C1
  go_wp2_with fail
  refine (C2.out _ E1.out.bel).mono ?_
  rintro e W2 ⟨rfl, h2⟩
  have E2 := Lib.hid (E1.out.below h2)
  have p2 := fan_get E2.out.q
  clear h2 p1 E1 C2
  go_wp2_with fail
  refine (C3.out _ E2.out.bel).mono ?_
  rintro e W3 ⟨rfl, h3⟩
  have E3 := Lib.hid (E2.out.below h3)
  have p3 := fan_get E3.out.q
  clear h3 p2 E2 C3
  go_wp2_with fail
  refine (C4.out _ E3.out.bel).mono ?_
  rintro e W4 ⟨rfl, h4⟩
  have E4 := Lib.hid (E3.out.below h4)
  clear h4 p3 E3 C4
  go_wp2_with fail
  refine (C5.out _).mono ?_
  rintro e W5 ⟨rfl, h5⟩
  have E5 := Lib.hid (E4.out.below h5)
  clear h5 E4 C5
  cases r1
  · go_wp2_with fail
    refine (C6.out _).mono ?_
    rintro e W6 ⟨rfl, h6⟩
    have E6 := Lib.hid (E5.out.below h6)
    clear h6 E5 C6
    cases r2
    · go_wp2
      go_ret
      exact ⟨rfl, E6.out.bel⟩
    · go_wp2
      go_ret
      exact ⟨rfl, E6.out.bel⟩
  · go_wp2
    go_ret
    exact ⟨rfl, E5.out.bel⟩
end Go.Proofs.Ytpbepipnfpgoiaa
