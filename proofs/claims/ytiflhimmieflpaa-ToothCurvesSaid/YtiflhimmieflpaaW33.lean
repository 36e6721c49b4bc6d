/- Walks: the reference's In, Span, Spans (of equal lists), Same (of equal blades). -/
import Derived.Test.YtiflhimmieflpaaW30
namespace Go.Proofs.Ytiflhimmieflpaa
open Go.RowKit Go.Maps

def inB (n a b : Int) : Bool := decide (a ≤ n) && decide (n ≤ b)
theorem RefIn_any (n a b : Int) (w : World) : Calls Try.prog 49 #[.int .i64 n, .int .i64 a, .int .i64 b] w fun e w' => e = .returned (.bool (inB n a b)) ∧ w = w' := by
  have HD : Hid (inB n a b = (decide (a ≤ n) && decide (n ≤ b))) := rfl
  by_cases h1 : a ≤ n
  · by_cases h2 : n ≤ b
    · have HT : Hid (inB n a b = true) := by unfold Hid; rw [HD.out]; simp [h1, h2]
      go_enter Try.func49, Try.ntmps49
      go_wp2
      go_ret
      exact ⟨ret_bool HT.out.symm, rfl⟩
    · have HT : Hid (inB n a b = false) := by unfold Hid; rw [HD.out]; simp [h2]
      go_enter Try.func49, Try.ntmps49
      go_wp2
      go_ret
      exact ⟨ret_bool HT.out.symm, rfl⟩
  · have HT : Hid (inB n a b = false) := by unfold Hid; rw [HD.out]; simp [h1]
    go_enter Try.func49, Try.ntmps49
    go_wp2
    go_ret
    exact ⟨ret_bool HT.out.symm, rfl⟩
def spanB (s : Int × Int) (a b : Int) : Bool := inB s.1 a s.2 && decide (s.2 ≤ b)
theorem RefSpan_any (lo hi a b : Int) (w : World) : Calls Try.prog 61 #[.agg #[.int .i64 lo, .int .i64 hi], .int .i64 a, .int .i64 b] w fun e w' => e = .returned (.bool (spanB (lo, hi) a b)) ∧ Below w.heap.size w w' := by
  have HD : Hid (spanB (lo, hi) a b = (inB lo a hi && decide (hi ≤ b))) := rfl
  have HB := Lib.hid (below_self w (.cells #[.int .i64 lo, .int .i64 hi] 98))
  have HI := Lib.hid (fun W => RefIn_any lo a hi W)
  cases q : inB lo a hi
  · have HF : Hid (spanB (lo, hi) a b = false) := by unfold Hid; rw [HD.out, q]; rfl
    rw [q] at HI
    clear HD q
    go_enter Try.func61, Try.ntmps61
    go_wp2_with fail
    refine (HI.out _).mono ?_
    rintro e w' ⟨rfl, rfl⟩
    go_wp2
    go_ret
    exact ⟨ret_bool HF.out.symm, HB.out⟩
  · have HF : Hid (spanB (lo, hi) a b = decide (hi ≤ b)) := by unfold Hid; rw [HD.out, q]; simp
    rw [q] at HI
    clear HD q
    go_enter Try.func61, Try.ntmps61
    go_wp2_with fail
    refine (HI.out _).mono ?_
    rintro e w' ⟨rfl, rfl⟩
    go_wp2
    all_goals
      go_ret
      exact ⟨ret_bool (by rw [HF.out]), HB.out⟩

set_option maxRecDepth 100000 in
theorem RefSpans_eq (A A' : Option Addr) (n c c' : Nat) (xs : List (Int × Int)) (w : World) (h : Pairs w A n xs) (h' : Pairs w A' n xs) (hn : n ≤ maxLen) :
    Calls Try.prog 24 #[.slice A n c, .slice A' n c'] w fun e w' => e = .returned (.bool true) ∧ Below w.heap.size w w' := by
  unfold maxLen at hn
  have H := Lib.hid h
  have H' := Lib.hid h'
  have hd2 : ((n : Int) != (n : Int)) = false := by simp
  have hd : ((n : Int) == (n : Int)) = true := by simp
  clear h h'
  go_enter Try.func24, Try.ntmps24
  go_wp2
  go_loopw [5] (fun i wr => ∃ k : Nat, k ≤ n ∧ i = .int .i64 k ∧ Below w.heap.size w wr) (fun i _ => n - (intOf i).toNat)
  case atStart => exact ⟨0, Nat.zero_le _, rfl, Below.refl _ _⟩
  case round =>
    obtain ⟨k, hk, rfl, hbel⟩ := hrel
    have Hbel := Lib.hid hbel
    by_cases hlt : k < n
    · obtain ⟨b, off, hA, hb, q0, q1⟩ := (H.out.below hbel).at_ hlt
      obtain ⟨b', off', hA', hb', p0, p1⟩ := (H'.out.below hbel).at_ hlt
      subst hA hA'
      clear hbel
      generalize (xs.getD k (0, 0)).1 = x at *
      generalize (xs.getD k (0, 0)).2 = y at *
      go_wp2_with fail
      go_quiet (fail)
      go_wp2
      go_roundw
      case rel => exact ⟨k + 1, by omega, by go_num, below_drewN Hbel.out _⟩
      case measure => simp [intOf]; omega
    · obtain rfl : k = n := by omega
      go_wp2
      go_ret
      exact ⟨rfl, Hbel.out⟩
end Go.Proofs.Ytiflhimmieflpaa
