/- Walks: the law's span and fan; ref.Ints, ref.Stops. -/
import Derived.Test.YtdekickmplkdiaaRj
import Derived.Test.YtdekickmplkdiaaRr
import Derived.KernelRfl
namespace Go.Proofs.Ytdekickmplkdiaa
open Go.RowKit

def exF : Fan := ⟨900, 1000, 40, 50, [⟨200, 210, 12, 12⟩, ⟨100, 100, 4, 5⟩]⟩
theorem reads_of_blk {W : World} {g size n : Nat} {t : TypeId} {cs : Array Value} {xs : List Value} (h : Blk W g t cs) (hx : cs.toList = xs) (hl : xs.length = n * size) : Reads W size (some ⟨g, 0, none⟩) n xs := by
  subst hx
  refine ⟨hl, fun _ => ⟨g, 0, rfl, h.lt, fun j u hu => ?_⟩⟩
  rw [Nat.zero_add, h.cell j]
  simpa using hu
theorem lawSpan_any (a b : Int) (w : World) : Calls Try.prog 53 #[.int .i64 a, .int .i64 b] w fun e w' => e = .returned (.agg #[.int .i64 a, .int .i64 b]) ∧ Below w.heap.size w w' := by
  have R := Lib.hid (Blk.new w 23 #[.int .i64 0, .int .i64 0] (g := w.heap.size) rfl)
  have B := Lib.hid (below_self w (.cells #[.int .i64 0, .int .i64 0] 23))
  go_enter Try.func53, Try.ntmps53
  go_wp2_with (refine wpList_store_row rfl 23 _ _ rfl w.heap.size _ rfl rfl 23 _ R.out (by kernel_rfl) rfl (by kernel_rfl) ?_)
  exact bodyPost_ret (results_c rfl _ _ _ _ _ _ _ rfl (R.out.setRow _) Try.underlying23 (by kernel_rfl)) rfl ⟨rfl, below_setR B.out (Nat.le_refl _) _⟩

def ExRes (w : World) (e : Ending) (w' : World) : Prop := ∃ g, e = .returned (.agg (fanA exF (some ⟨g, 0, none⟩) 2 2)) ∧ Gaps w' (some ⟨g, 0, none⟩) 2 exF.gs ∧ Below w.heap.size w w'
def exCells : Array Value := #[.int .i64 200, .int .i64 210, .int .i64 12, .int .i64 12, .int .i64 100, .int .i64 100, .int .i64 4, .int .i64 5]
set_option maxRecDepth 100000 in
set_option maxHeartbeats 4000000 in
theorem lawFan_any (w : World) : Calls Try.prog 58 #[] w (ExRes w) := by
  have R0 := Lib.hid (Blk.new w 26 #[.int .i64 0, .int .i64 0, .int .i64 0, .int .i64 0, .slice none 0 0] (g := w.heap.size) rfl)
  have B0 := Lib.hid (below_self w (.cells #[.int .i64 0, .int .i64 0, .int .i64 0, .int .i64 0, .slice none 0 0] 26))
  have HS := Lib.hid (fun a b W => lawSpan_any a b W)
  go_enter Try.func58, Try.ntmps58
  go_wp2_with fail
  refine (HS.out _ _ _).mono ?_
  rintro e w1 ⟨rfl, h1⟩
  have B1 := Lib.hid (below_then B0.out h1)
  have R1 := Lib.hid (blk_keep h1 R0.out)
  clear h1 B0 R0
  go_wp2_with fail
  refine (HS.out _ _ _).mono ?_
  rintro e w2 ⟨rfl, h2⟩
  have B2 := Lib.hid (below_then B1.out h2)
  have R2 := Lib.hid (blk_keep h2 R1.out)
  clear h2 B1 R1
  go_wp2_with fail
  refine (HS.out _ _ _).mono ?_
  rintro e w3 ⟨rfl, h3⟩
  have B3 := Lib.hid (below_then B2.out h3)
  have R3 := Lib.hid (blk_keep h3 R2.out)
  clear h3 B2 R2
  go_wp2_with fail
  refine (HS.out _ _ _).mono ?_
  rintro e w4 ⟨rfl, h4⟩
  have B4 := Lib.hid (below_then B3.out h4)
  have R4 := Lib.hid (blk_keep h4 R3.out)
  clear h4 B3 R3
  go_wp2_with fail
  refine (HS.out _ _ _).mono ?_
  rintro e w5 ⟨rfl, h5⟩
  have B5 := Lib.hid (below_then B4.out h5)
  have R5 := Lib.hid (blk_keep h5 R4.out)
  clear h5 B4 R4
  go_wp2_with fail
  refine (HS.out _ _ _).mono ?_
  rintro e w6 ⟨rfl, h6⟩
  have B6 := Lib.hid (below_then B5.out h6)
  have R6 := Lib.hid (blk_keep h6 R5.out)
  clear h6 B5 R5
  have P := Lib.hid (reads_of_blk (size := 4) (n := 2) (xs := flatG exF.gs) (Blk.new w6 42 exCells rfl) rfl rfl)
  have R7 := Lib.hid (R6.out.alloc (.cells exCells 42))
  have B7 := Lib.hid (below_alloc' B6.out (.cells exCells 42))
  have S7 := Lib.hid R6.out.lt
  unfold exCells at P R7 B7
  clear HS B6 R6
  go_wp2_with (refine wpList_store_row rfl 26 _ _ rfl w.heap.size _ rfl rfl 26 _ R7.out (by kernel_rfl) rfl (by kernel_rfl) ?_)
  refine bodyPost_ret (results_c rfl _ _ _ _ _ _ _ rfl (R7.out.setRow _) Try.underlying26 (by kernel_rfl)) rfl ⟨w6.heap.size, rfl, ?_, below_setR B7.out (Nat.le_refl _) _⟩
  exact reads_of_blk (size := 4) (n := 2) (cs := exCells) (Blk.setRow_far (Blk.new w6 _ _ rfl) (by have := S7.out; omega) _) rfl rfl

def eqTo (xs ys : List Int) (k : Nat) : Bool := (List.range k).all fun i => xs.getD i 0 == ys.getD i 0
def intsB (n n' : Nat) (xs ys : List Int) : Bool := decide (n = n') && eqTo xs ys n
theorem eqTo_succ (xs ys : List Int) (k : Nat) : eqTo xs ys (k + 1) = (eqTo xs ys k && (xs.getD k 0 == ys.getD k 0)) := by
  simp [eqTo, List.range_succ]
theorem eqTo_no {xs ys : List Int} {k n : Nat} (hk : k < n) (h : (xs.getD k 0 == ys.getD k 0) = false) : eqTo xs ys n = false := by
  unfold eqTo
  rw [List.all_eq_false]
  exact ⟨k, List.mem_range.2 hk, by simp only [h]; decide⟩

set_option maxRecDepth 100000 in
theorem RefInts_any (A A' : Option Addr) (n n' c c' : Nat) (xs ys : List Int) (w : World) (h : Ints w A n xs) (h' : Ints w A' n' ys) (hn : n ≤ maxLen) :
    Calls Try.prog 34 #[.slice A n c, .slice A' n' c'] w fun e w' => e = .returned (.bool (intsB n n' xs ys)) ∧ Below w.heap.size w w' := by
  unfold maxLen at hn
  have HD : Hid (intsB n n' xs ys = (decide (n = n') && eqTo xs ys n)) := rfl
  by_cases hne : n = n'
  case neg =>
    have HF : Hid (intsB n n' xs ys = false) := by unfold Hid; rw [HD.out]; simp [hne]
    have hd2 : ((n : Int) != (n' : Int)) = true := by simp; omega
    have hd : (!((n : Int) == (n' : Int))) = true := by simp; omega
    go_enter Try.func34, Try.ntmps34
    go_wp2
    go_ret
    exact ⟨ret_bool HF.out.symm, Below.refl _ _⟩
  subst hne
  have HT : Hid (intsB n n xs ys = eqTo xs ys n) := by unfold Hid; rw [HD.out]; simp
  have H := Lib.hid h
  have H' := Lib.hid h'
  have hd2 : ((n : Int) != (n : Int)) = false := by simp
  have hd : ((n : Int) == (n : Int)) = true := by simp
  have HS := Lib.hid (eqTo_succ xs ys)
  have HO := Lib.hid (fun k (hk : k < n) => eqTo_no (xs := xs) (ys := ys) (k := k) (n := n) hk)
  have H0 : Hid (eqTo xs ys 0 = true) := rfl
  clear h h' HD
  go_enter Try.func34, Try.ntmps34
  go_wp2
  go_loopw [5] (fun i wr => ∃ k : Nat, k ≤ n ∧ i = .int .i64 k ∧ eqTo xs ys k = true ∧ Below w.heap.size w wr) (fun i _ => n - (intOf i).toNat)
  case atStart => exact ⟨0, Nat.zero_le _, rfl, H0.out, Below.refl _ _⟩
  case round =>
    obtain ⟨k, hk, rfl, hin, hbel⟩ := hrel
    have Hin := Lib.hid hin
    have Hbel := Lib.hid hbel
    clear hin
    by_cases hlt : k < n
    · obtain ⟨b, off, hA, hb, q0⟩ := (H.out.below hbel).at_ hlt
      obtain ⟨b', off', hA', hb', q1⟩ := (H'.out.below hbel).at_ hlt
      subst hA hA'
      have hs := Lib.hid (HS.out k)
      have ho := Lib.hid (HO.out k hlt)
      clear hbel
      generalize xs.getD k 0 = x at *
      generalize ys.getD k 0 = y at *
      cases hxy : (x == y)
      · have hxn : (x != y) = true := by simp [bne, hxy]
        have HF : Hid (intsB n n xs ys = false) := by unfold Hid; rw [HT.out]; exact ho.out hxy
        go_wp2_with fail
        go_quiet (fail)
        go_wp2
        go_ret
        exact ⟨ret_bool HF.out.symm, below_drewN Hbel.out _⟩
      · have hxn : (x != y) = false := by simp [bne, hxy]
        have HT2 : Hid (eqTo xs ys (k + 1) = true) := by unfold Hid; rw [hs.out, Hin.out, hxy]; rfl
        go_wp2_with fail
        go_quiet (fail)
        go_wp2
        go_roundw
        case rel => exact ⟨k + 1, by omega, by go_num, HT2.out, below_drewN Hbel.out _⟩
        case measure => simp [intOf]; omega
    · obtain rfl : k = n := by omega
      have HF : Hid (intsB k k xs ys = true) := by unfold Hid; rw [HT.out]; exact Hin.out
      go_wp2
      go_ret
      exact ⟨ret_bool HF.out.symm, Hbel.out⟩

set_option maxRecDepth 100000 in
theorem RefStops_any (A A' : Option Addr) (n n' c c' : Nat) (xs ys : List Int) (w : World) (h : Ints w A n xs) (h' : Ints w A' n' ys) (hn : n ≤ maxLen) :
    Calls Try.prog 59 #[.slice A n c, .slice A' n' c'] w fun e w' => e = .returned (.bool (intsB n n' xs ys)) ∧ Below w.heap.size w w' := by
  unfold maxLen at hn
  have HD : Hid (intsB n n' xs ys = (decide (n = n') && eqTo xs ys n)) := rfl
  by_cases hne : n = n'
  case neg =>
    have HF : Hid (intsB n n' xs ys = false) := by unfold Hid; rw [HD.out]; simp [hne]
    have hd2 : ((n : Int) != (n' : Int)) = true := by simp; omega
    have hd : (!((n : Int) == (n' : Int))) = true := by simp; omega
    go_enter Try.func59, Try.ntmps59
    go_wp2
    go_ret
    exact ⟨ret_bool HF.out.symm, Below.refl _ _⟩
  subst hne
  have HT : Hid (intsB n n xs ys = eqTo xs ys n) := by unfold Hid; rw [HD.out]; simp
  have H := Lib.hid h
  have H' := Lib.hid h'
  have hd2 : ((n : Int) != (n : Int)) = false := by simp
  have hd : ((n : Int) == (n : Int)) = true := by simp
  have HS := Lib.hid (eqTo_succ xs ys)
  have HO := Lib.hid (fun k (hk : k < n) => eqTo_no (xs := xs) (ys := ys) (k := k) (n := n) hk)
  have H0 : Hid (eqTo xs ys 0 = true) := rfl
  clear h h' HD
  go_enter Try.func59, Try.ntmps59
  go_wp2
  go_loopw [5] (fun i wr => ∃ k : Nat, k ≤ n ∧ i = .int .i64 k ∧ eqTo xs ys k = true ∧ Below w.heap.size w wr) (fun i _ => n - (intOf i).toNat)
  case atStart => exact ⟨0, Nat.zero_le _, rfl, H0.out, Below.refl _ _⟩
  case round =>
    obtain ⟨k, hk, rfl, hin, hbel⟩ := hrel
    have Hin := Lib.hid hin
    have Hbel := Lib.hid hbel
    clear hin
    by_cases hlt : k < n
    · obtain ⟨b, off, hA, hb, q0⟩ := (H.out.below hbel).at_ hlt
      obtain ⟨b', off', hA', hb', q1⟩ := (H'.out.below hbel).at_ hlt
      subst hA hA'
      have hs := Lib.hid (HS.out k)
      have ho := Lib.hid (HO.out k hlt)
      clear hbel
      generalize xs.getD k 0 = x at *
      generalize ys.getD k 0 = y at *
      cases hxy : (x == y)
      · have hxn : (x != y) = true := by simp [bne, hxy]
        have HF : Hid (intsB n n xs ys = false) := by unfold Hid; rw [HT.out]; exact ho.out hxy
        go_wp2_with fail
        go_quiet (fail)
        go_wp2
        go_ret
        exact ⟨ret_bool HF.out.symm, below_drewN Hbel.out _⟩
      · have hxn : (x != y) = false := by simp [bne, hxy]
        have HT2 : Hid (eqTo xs ys (k + 1) = true) := by unfold Hid; rw [hs.out, Hin.out, hxy]; rfl
        go_wp2_with fail
        go_quiet (fail)
        go_wp2
        go_roundw
        case rel => exact ⟨k + 1, by omega, by go_num, HT2.out, below_drewN Hbel.out _⟩
        case measure => simp [intOf]; omega
    · obtain rfl : k = n := by omega
      have HF : Hid (intsB k k xs ys = true) := by unfold Hid; rw [HT.out]; exact Hin.out
      go_wp2
      go_ret
      exact ⟨ret_bool HF.out.symm, Hbel.out⟩

end Go.Proofs.Ytdekickmplkdiaa
