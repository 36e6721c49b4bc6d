/- Walks: ref.Ints; the law's span and saw. -/
import Derived.Test.YtiflhimmieflpaaW28
namespace Go.Proofs.Ytiflhimmieflpaa
open Go.RowKit Go.Maps

def eqTo (xs ys : List Int) (k : Nat) : Bool := (List.range k).all fun i => xs.getD i 0 == ys.getD i 0
def intsB (n n' : Nat) (xs ys : List Int) : Bool := decide (n = n') && eqTo xs ys n
theorem eqTo_succ (xs ys : List Int) (k : Nat) : eqTo xs ys (k + 1) = (eqTo xs ys k && (xs.getD k 0 == ys.getD k 0)) := by
  simp [eqTo, List.range_succ]
theorem eqTo_no {xs ys : List Int} {k n : Nat} (hk : k < n) (h : (xs.getD k 0 == ys.getD k 0) = false) : eqTo xs ys n = false := by
  unfold eqTo
  rw [List.all_eq_false]
  exact ⟨k, List.mem_range.2 hk, by simp only [h]; decide⟩

set_option maxRecDepth 100000 in
theorem RefInts_any (A A' : Option Addr) (n n' c c' : Nat) (xs ys : List Int) (w : World) (h : Ints w A n xs) (h' : Ints w A' n' ys) (hn : n ≤ maxLen) :
    Calls Try.prog 32 #[.slice A n c, .slice A' n' c'] w fun e w' => e = .returned (.bool (intsB n n' xs ys)) ∧ Below w.heap.size w w' := by
  unfold maxLen at hn
  have HD : Hid (intsB n n' xs ys = (decide (n = n') && eqTo xs ys n)) := rfl
  by_cases hne : n = n'
  case neg =>
    have HF : Hid (intsB n n' xs ys = false) := by unfold Hid; rw [HD.out]; simp [hne]
    have hd2 : ((n : Int) != (n' : Int)) = true := by simp; omega
    have hd : (!((n : Int) == (n' : Int))) = true := by simp; omega
    go_enter Try.func32, Try.ntmps32
    go_wp2
    go_ret
    exact ⟨ret_bool HF.out.symm, Below.refl _ _⟩
  subst hne
  have HT : Hid (intsB n n xs ys = eqTo xs ys n) := by unfold Hid; rw [HD.out]; simp
  have H := Lib.hid h
  have H' := Lib.hid h'
  have hd2 : ((n : Int) != (n : Int)) = false := by simp
  have hd : ((n : Int) == (n : Int)) = true := by simp
  have HS := Lib.hid (eqTo_succ xs ys)
  have HO := Lib.hid (fun k (hk : k < n) => eqTo_no (xs := xs) (ys := ys) (k := k) (n := n) hk)
  have H0 : Hid (eqTo xs ys 0 = true) := rfl
  clear h h' HD
  go_enter Try.func32, Try.ntmps32
  go_wp2
  go_loopw [5] (fun i wr => ∃ k : Nat, k ≤ n ∧ i = .int .i64 k ∧ eqTo xs ys k = true ∧ Below w.heap.size w wr) (fun i _ => n - (intOf i).toNat)
  case atStart => exact ⟨0, Nat.zero_le _, rfl, H0.out, Below.refl _ _⟩
  case round =>
    obtain ⟨k, hk, rfl, hin, hbel⟩ := hrel
    have Hin := Lib.hid hin
    have Hbel := Lib.hid hbel
    clear hin
    by_cases hlt : k < n
    · obtain ⟨b, off, hA, hb, q0⟩ := (H.out.below hbel).at_ hlt
      obtain ⟨b', off', hA', hb', q1⟩ := (H'.out.below hbel).at_ hlt
      subst hA hA'
      have hs := Lib.hid (HS.out k)
      have ho := Lib.hid (HO.out k hlt)
      clear hbel
      generalize xs.getD k 0 = x at *
      generalize ys.getD k 0 = y at *
      cases hxy : (x == y)
      · have hxn : (x != y) = true := by simp [bne, hxy]
        have HF : Hid (intsB n n xs ys = false) := by unfold Hid; rw [HT.out]; exact ho.out hxy
        go_wp2_with fail
        go_quiet (fail)
        go_wp2
        go_ret
        exact ⟨ret_bool HF.out.symm, below_drewN Hbel.out _⟩
      · have hxn : (x != y) = false := by simp [bne, hxy]
        have HT2 : Hid (eqTo xs ys (k + 1) = true) := by unfold Hid; rw [hs.out, Hin.out, hxy]; rfl
        go_wp2_with fail
        go_quiet (fail)
        go_wp2
        go_roundw
        case rel => exact ⟨k + 1, by omega, by go_num, HT2.out, below_drewN Hbel.out _⟩
        case measure => simp [intOf]; omega
    · obtain rfl : k = n := by omega
      have HF : Hid (intsB k k xs ys = true) := by unfold Hid; rw [HT.out]; exact Hin.out
      go_wp2
      go_ret
      exact ⟨ret_bool HF.out.symm, Hbel.out⟩

theorem lawSpan_any (a b : Int) (w : World) : Calls Try.prog 57 #[.int .i64 a, .int .i64 b] w fun e w' => e = .returned (.agg #[.int .i64 a, .int .i64 b]) ∧ Below w.heap.size w w' := by
  have R := Lib.hid (Blk.new w 98 #[.int .i64 0, .int .i64 0] (g := w.heap.size) rfl)
  have B := Lib.hid (below_self w (.cells #[.int .i64 0, .int .i64 0] 98))
  go_enter Try.func57, Try.ntmps57
  go_wp2_with (refine wpList_store_row rfl 98 _ _ rfl w.heap.size _ rfl rfl 98 _ R.out (by kernel_rfl) rfl (by kernel_rfl) ?_)
  exact bodyPost_ret (results_c rfl _ _ _ _ _ _ _ rfl (R.out.setRow _) Try.underlying98 (by kernel_rfl)) rfl ⟨rfl, below_setR B.out (Nat.le_refl _) _⟩
theorem lawSaw_any (a : Int) (w : World) : Calls Try.prog 59 #[.int .i64 a] w fun e w' => e = .returned (.agg #[.int .i64 2, .int .i64 a, .int .i64 1, .int .i64 0]) ∧ Below w.heap.size w w' := by
  have R := Lib.hid (Blk.new w 37 #[.int .i64 0, .int .i64 0, .int .i64 0, .int .i64 0] (g := w.heap.size) rfl)
  have B := Lib.hid (below_self w (.cells #[.int .i64 0, .int .i64 0, .int .i64 0, .int .i64 0] 37))
  go_enter Try.func59, Try.ntmps59
  go_wp2_with (refine wpList_store_row rfl 37 _ _ rfl w.heap.size _ rfl rfl 37 _ R.out (by kernel_rfl) rfl (by kernel_rfl) ?_)
  exact bodyPost_ret (results_c rfl _ _ _ _ _ _ _ rfl (R.out.setRow _) Try.underlying37 (by kernel_rfl)) rfl ⟨rfl, below_setR B.out (Nat.le_refl _) _⟩
end Go.Proofs.Ytiflhimmieflpaa
