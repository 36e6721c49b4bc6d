/- Merged: Sb, Sa, Sf, Sg. -/
import Derived.Test.YtdekickmplkdiaaKd
import Derived.Test.YtdekickmplkdiaaKe
import Derived.KernelRfl
import Derived.Test.YtdekickmplkdiaaRz
import Derived.Test.YtdekickmplkdiaaKg
import Derived.Test.YtdekickmplkdiaaKc
import Derived.Deep.DrawnRows
import Derived.Test.YtdekickmplkdiaaKs

/- Walks: the law's span and fan; ref.Ints, ref.Stops. -/
namespace Go.Proofs.Ytdekickmplkdiaa
open Go.RowKit

def exF : Fan := ⟨900, 1000, 40, 50, [⟨200, 210, 12, 12⟩, ⟨100, 100, 4, 5⟩]⟩
theorem reads_of_blk {W : World} {g size n : Nat} {t : TypeId} {cs : Array Value} {xs : List Value} (h : Blk W g t cs) (hx : cs.toList = xs) (hl : xs.length = n * size) : Reads W size (some ⟨g, 0, none⟩) n xs := by
  subst hx
  refine ⟨hl, fun _ => ⟨g, 0, rfl, h.lt, fun j u hu => ?_⟩⟩
  rw [Nat.zero_add, h.cell j]
  simpa using hu
theorem lawSpan_any (a b : Int) (w : World) : Calls Try.prog 53 #[.int .i64 a, .int .i64 b] w fun e w' => e = .returned (.agg #[.int .i64 a, .int .i64 b]) ∧ Below w.heap.size w w' := by
  have R := Lib.hid (Blk.new w 23 #[.int .i64 0, .int .i64 0] (g := w.heap.size) rfl)
  have B := Lib.hid (below_self w (.cells #[.int .i64 0, .int .i64 0] 23))
  go_enter Try.func53, Try.ntmps53
  go_wp2_with (refine wpList_store_row rfl 23 _ _ rfl w.heap.size _ rfl rfl 23 _ R.out (by kernel_rfl) rfl (by kernel_rfl) ?_)
  exact bodyPost_ret (results_c rfl _ _ _ _ _ _ _ rfl (R.out.setRow _) Try.underlying23 (by kernel_rfl)) rfl ⟨rfl, below_setR B.out (Nat.le_refl _) _⟩

def ExRes (w : World) (e : Ending) (w' : World) : Prop := ∃ g, e = .returned (.agg (fanA exF (some ⟨g, 0, none⟩) 2 2)) ∧ Gaps w' (some ⟨g, 0, none⟩) 2 exF.gs ∧ Below w.heap.size w w'
def exCells : Array Value := #[.int .i64 200, .int .i64 210, .int .i64 12, .int .i64 12, .int .i64 100, .int .i64 100, .int .i64 4, .int .i64 5]
set_option maxRecDepth 100000 in
set_option maxHeartbeats 4000000 in
theorem lawFan_any (w : World) : Calls Try.prog 58 #[] w (ExRes w) := by
  have R0 := Lib.hid (Blk.new w 26 #[.int .i64 0, .int .i64 0, .int .i64 0, .int .i64 0, .slice none 0 0] (g := w.heap.size) rfl)
  have B0 := Lib.hid (below_self w (.cells #[.int .i64 0, .int .i64 0, .int .i64 0, .int .i64 0, .slice none 0 0] 26))
  have HS := Lib.hid (fun a b W => lawSpan_any a b W)
  go_enter Try.func58, Try.ntmps58
  go_wp2_with fail
  refine (HS.out _ _ _).mono ?_
  rintro e w1 ⟨rfl, h1⟩
  have B1 := Lib.hid (below_then B0.out h1)
  have R1 := Lib.hid (blk_keep h1 R0.out)
  clear h1 B0 R0
  go_wp2_with fail
  refine (HS.out _ _ _).mono ?_
  rintro e w2 ⟨rfl, h2⟩
  have B2 := Lib.hid (below_then B1.out h2)
  have R2 := Lib.hid (blk_keep h2 R1.out)
  clear h2 B1 R1
  go_wp2_with fail
  refine (HS.out _ _ _).mono ?_
  rintro e w3 ⟨rfl, h3⟩
  have B3 := Lib.hid (below_then B2.out h3)
  have R3 := Lib.hid (blk_keep h3 R2.out)
  clear h3 B2 R2
  go_wp2_with fail
  refine (HS.out _ _ _).mono ?_
  rintro e w4 ⟨rfl, h4⟩
  have B4 := Lib.hid (below_then B3.out h4)
  have R4 := Lib.hid (blk_keep h4 R3.out)
  clear h4 B3 R3
  go_wp2_with fail
  refine (HS.out _ _ _).mono ?_
  rintro e w5 ⟨rfl, h5⟩
  have B5 := Lib.hid (below_then B4.out h5)
  have R5 := Lib.hid (blk_keep h5 R4.out)
  clear h5 B4 R4
  go_wp2_with fail
  refine (HS.out _ _ _).mono ?_
  rintro e w6 ⟨rfl, h6⟩
  have B6 := Lib.hid (below_then B5.out h6)
  have R6 := Lib.hid (blk_keep h6 R5.out)
  clear h6 B5 R5
  have P := Lib.hid (reads_of_blk (size := 4) (n := 2) (xs := flatG exF.gs) (Blk.new w6 42 exCells rfl) rfl rfl)
  have R7 := Lib.hid (R6.out.alloc (.cells exCells 42))
  have B7 := Lib.hid (below_alloc' B6.out (.cells exCells 42))
  have S7 := Lib.hid R6.out.lt
  unfold exCells at P R7 B7
  clear HS B6 R6
  go_wp2_with (refine wpList_store_row rfl 26 _ _ rfl w.heap.size _ rfl rfl 26 _ R7.out (by kernel_rfl) rfl (by kernel_rfl) ?_)
  refine bodyPost_ret (results_c rfl _ _ _ _ _ _ _ rfl (R7.out.setRow _) Try.underlying26 (by kernel_rfl)) rfl ⟨w6.heap.size, rfl, ?_, below_setR B7.out (Nat.le_refl _) _⟩
  exact reads_of_blk (size := 4) (n := 2) (cs := exCells) (Blk.setRow_far (Blk.new w6 _ _ rfl) (by have := S7.out; omega) _) rfl rfl

def eqTo (xs ys : List Int) (k : Nat) : Bool := (List.range k).all fun i => xs.getD i 0 == ys.getD i 0
def intsB (n n' : Nat) (xs ys : List Int) : Bool := decide (n = n') && eqTo xs ys n
theorem eqTo_succ (xs ys : List Int) (k : Nat) : eqTo xs ys (k + 1) = (eqTo xs ys k && (xs.getD k 0 == ys.getD k 0)) := by
  simp [eqTo, List.range_succ]
theorem eqTo_no {xs ys : List Int} {k n : Nat} (hk : k < n) (h : (xs.getD k 0 == ys.getD k 0) = false) : eqTo xs ys n = false := by
  unfold eqTo
  rw [List.all_eq_false]
  exact ⟨k, List.mem_range.2 hk, by simp only [h]; decide⟩

set_option maxRecDepth 100000 in
theorem RefInts_any (A A' : Option Addr) (n n' c c' : Nat) (xs ys : List Int) (w : World) (h : Ints w A n xs) (h' : Ints w A' n' ys) (hn : n ≤ maxLen) :
    Calls Try.prog 34 #[.slice A n c, .slice A' n' c'] w fun e w' => e = .returned (.bool (intsB n n' xs ys)) ∧ Below w.heap.size w w' := by
  unfold maxLen at hn
  have HD : Hid (intsB n n' xs ys = (decide (n = n') && eqTo xs ys n)) := rfl
  by_cases hne : n = n'
  case neg =>
    have HF : Hid (intsB n n' xs ys = false) := by unfold Hid; rw [HD.out]; simp [hne]
    have hd2 : ((n : Int) != (n' : Int)) = true := by simp; omega
    have hd : (!((n : Int) == (n' : Int))) = true := by simp; omega
    go_enter Try.func34, Try.ntmps34
    go_wp2
    go_ret
    exact ⟨ret_bool HF.out.symm, Below.refl _ _⟩
  subst hne
  have HT : Hid (intsB n n xs ys = eqTo xs ys n) := by unfold Hid; rw [HD.out]; simp
  have H := Lib.hid h
  have H' := Lib.hid h'
  have hd2 : ((n : Int) != (n : Int)) = false := by simp
  have hd : ((n : Int) == (n : Int)) = true := by simp
  have HS := Lib.hid (eqTo_succ xs ys)
  have HO := Lib.hid (fun k (hk : k < n) => eqTo_no (xs := xs) (ys := ys) (k := k) (n := n) hk)
  have H0 : Hid (eqTo xs ys 0 = true) := rfl
  clear h h' HD
  go_enter Try.func34, Try.ntmps34
  go_wp2
  go_loopw [5] (fun i wr => ∃ k : Nat, k ≤ n ∧ i = .int .i64 k ∧ eqTo xs ys k = true ∧ Below w.heap.size w wr) (fun i _ => n - (intOf i).toNat)
  case atStart => exact ⟨0, Nat.zero_le _, rfl, H0.out, Below.refl _ _⟩
  case round =>
    obtain ⟨k, hk, rfl, hin, hbel⟩ := hrel
    have Hin := Lib.hid hin
    have Hbel := Lib.hid hbel
    clear hin
    by_cases hlt : k < n
    · obtain ⟨b, off, hA, hb, q0⟩ := (H.out.below hbel).at_ hlt
      obtain ⟨b', off', hA', hb', q1⟩ := (H'.out.below hbel).at_ hlt
      subst hA hA'
      have hs := Lib.hid (HS.out k)
      have ho := Lib.hid (HO.out k hlt)
      clear hbel
      generalize xs.getD k 0 = x at *
      generalize ys.getD k 0 = y at *
      cases hxy : (x == y)
      · have hxn : (x != y) = true := by simp [bne, hxy]
        have HF : Hid (intsB n n xs ys = false) := by unfold Hid; rw [HT.out]; exact ho.out hxy
        go_wp2_with fail
        go_quiet (fail)
        go_wp2
        go_ret
        exact ⟨ret_bool HF.out.symm, below_drewN Hbel.out _⟩
      · have hxn : (x != y) = false := by simp [bne, hxy]
        have HT2 : Hid (eqTo xs ys (k + 1) = true) := by unfold Hid; rw [hs.out, Hin.out, hxy]; rfl
        go_wp2_with fail
        go_quiet (fail)
        go_wp2
        go_roundw
        case rel => exact ⟨k + 1, by omega, by go_num, HT2.out, below_drewN Hbel.out _⟩
        case measure => simp [intOf]; omega
    · obtain rfl : k = n := by omega
      have HF : Hid (intsB k k xs ys = true) := by unfold Hid; rw [HT.out]; exact Hin.out
      go_wp2
      go_ret
      exact ⟨ret_bool HF.out.symm, Hbel.out⟩

set_option maxRecDepth 100000 in
theorem RefStops_any (A A' : Option Addr) (n n' c c' : Nat) (xs ys : List Int) (w : World) (h : Ints w A n xs) (h' : Ints w A' n' ys) (hn : n ≤ maxLen) :
    Calls Try.prog 59 #[.slice A n c, .slice A' n' c'] w fun e w' => e = .returned (.bool (intsB n n' xs ys)) ∧ Below w.heap.size w w' := by
  unfold maxLen at hn
  have HD : Hid (intsB n n' xs ys = (decide (n = n') && eqTo xs ys n)) := rfl
  by_cases hne : n = n'
  case neg =>
    have HF : Hid (intsB n n' xs ys = false) := by unfold Hid; rw [HD.out]; simp [hne]
    have hd2 : ((n : Int) != (n' : Int)) = true := by simp; omega
    have hd : (!((n : Int) == (n' : Int))) = true := by simp; omega
    go_enter Try.func59, Try.ntmps59
    go_wp2
    go_ret
    exact ⟨ret_bool HF.out.symm, Below.refl _ _⟩
  subst hne
  have HT : Hid (intsB n n xs ys = eqTo xs ys n) := by unfold Hid; rw [HD.out]; simp
  have H := Lib.hid h
  have H' := Lib.hid h'
  have hd2 : ((n : Int) != (n : Int)) = false := by simp
  have hd : ((n : Int) == (n : Int)) = true := by simp
  have HS := Lib.hid (eqTo_succ xs ys)
  have HO := Lib.hid (fun k (hk : k < n) => eqTo_no (xs := xs) (ys := ys) (k := k) (n := n) hk)
  have H0 : Hid (eqTo xs ys 0 = true) := rfl
  clear h h' HD
  go_enter Try.func59, Try.ntmps59
  go_wp2
  go_loopw [5] (fun i wr => ∃ k : Nat, k ≤ n ∧ i = .int .i64 k ∧ eqTo xs ys k = true ∧ Below w.heap.size w wr) (fun i _ => n - (intOf i).toNat)
  case atStart => exact ⟨0, Nat.zero_le _, rfl, H0.out, Below.refl _ _⟩
  case round =>
    obtain ⟨k, hk, rfl, hin, hbel⟩ := hrel
    have Hin := Lib.hid hin
    have Hbel := Lib.hid hbel
    clear hin
    by_cases hlt : k < n
    · obtain ⟨b, off, hA, hb, q0⟩ := (H.out.below hbel).at_ hlt
      obtain ⟨b', off', hA', hb', q1⟩ := (H'.out.below hbel).at_ hlt
      subst hA hA'
      have hs := Lib.hid (HS.out k)
      have ho := Lib.hid (HO.out k hlt)
      clear hbel
      generalize xs.getD k 0 = x at *
      generalize ys.getD k 0 = y at *
      cases hxy : (x == y)
      · have hxn : (x != y) = true := by simp [bne, hxy]
        have HF : Hid (intsB n n xs ys = false) := by unfold Hid; rw [HT.out]; exact ho.out hxy
        go_wp2_with fail
        go_quiet (fail)
        go_wp2
        go_ret
        exact ⟨ret_bool HF.out.symm, below_drewN Hbel.out _⟩
      · have hxn : (x != y) = false := by simp [bne, hxy]
        have HT2 : Hid (eqTo xs ys (k + 1) = true) := by unfold Hid; rw [hs.out, Hin.out, hxy]; rfl
        go_wp2_with fail
        go_quiet (fail)
        go_wp2
        go_roundw
        case rel => exact ⟨k + 1, by omega, by go_num, HT2.out, below_drewN Hbel.out _⟩
        case measure => simp [intOf]; omega
    · obtain rfl : k = n := by omega
      have HF : Hid (intsB k k xs ys = true) := by unfold Hid; rw [HT.out]; exact Hin.out
      go_wp2
      go_ret
      exact ⟨ret_bool HF.out.symm, Hbel.out⟩

end Go.Proofs.Ytdekickmplkdiaa

/- The document's example: closed facts. -/
namespace Go.Proofs.Ytdekickmplkdiaa
open Go.RowKit

def exT : List Stk := [⟨100, 120, 1, 1, 50⟩, ⟨30, 40, 1, 1, 200⟩]
theorem ex_err : fanErr exF = 0 := by decide
theorem ex_opens : opensL exF = (16, 19) := by decide
theorem ex_stops : stopsL exF = [1, 3] := by decide
theorem ex_widen : widenR exF 100 = (0, 18, 0) := by decide
theorem ex_stick : stickR exF 45 = (5, 0) := by decide
theorem ex_pleat : pleatR exF 18 = (235, 0) := by decide
theorem ex_bal : balR exT = ((80, 1), (650, 7), 0) := by decide
theorem ex_wrongE : wrongE exF (10, 14) = 0 := by decide
theorem ex_sort2 : sortL [10000, 4000] = [4000, 10000] := by simp [sortL, List.mergeSort, List.MergeSort.Internal.splitInTwo]
theorem ex_sort1 : sortL [4000] = [4000] := by simp [sortL]
theorem ex_sort0 : sortL [] = [] := by simp [sortL]
theorem ex_angles : anglesF false exF = [10000, 4000] := by decide
theorem ex_great1 : greatL [10000, 4000] 1 = [10000] := by unfold greatL; rw [ex_sort2]; rfl
theorem ex_manyP : manyP exF 14 1 = true := by unfold manyP; rw [ex_angles, ex_great1]; decide
theorem ex_many : manyL exF 14 = 1 := by unfold manyL; show manyGo (manyP exF 14) 2 1 = 1; unfold manyGo; rw [if_pos ex_manyP]
theorem ex_step0 : stepOk exF 14 0 ([], 0) = true := by
  unfold stepOk
  rw [ex_many, ex_angles]
  have e : greatL (([10000, 4000] : List Int).drop (0 + 1)) (1 - (([], 0) : List Int × Int).1.length - 1) = [] := by
    show greatL [4000] 0 = []
    unfold greatL; rw [ex_sort1]; rfl
  rw [e]; decide
theorem ex_go1 : wrongGo exF 14 1 = ([0], 10000) := by
  unfold wrongGo
  have e0 : wrongGo exF 14 0 = ([], 0) := rfl
  rw [e0, ex_many, ex_angles, ex_step0]; rfl
theorem ex_go2 : wrongGo exF 14 2 = ([0], 10000) := by
  unfold wrongGo
  rw [ex_go1, ex_many]; rfl
theorem ex_few : fewestL exF 14 = [0] := by unfold fewestL; show (wrongGo exF 14 2).1 = [0]; rw [ex_go2]
theorem ex_wrongL : wrongL exF (10, 14) = [0] := by
  unfold wrongL
  rw [if_pos ex_wrongE]
  exact ex_few
end Go.Proofs.Ytdekickmplkdiaa

/- Walks: known: the law's look at the document's examples. -/
namespace Go.Proofs.Ytdekickmplkdiaa
open Go.RowKit

def exA (g : Nat) : Array Value := fanA exF (some ⟨g, 0, none⟩) 2 2
theorem fan_ex (w : World) : Calls Try.prog 58 #[] w fun e w' => ∃ g, e = .returned (.agg (exA g)) ∧ Gaps w' (some ⟨g, 0, none⟩) 2 exF.gs ∧ Below w.heap.size w w' := lawFan_any w
theorem opens_ex {g : Nat} (w : World) (h : Gaps w (some ⟨g, 0, none⟩) 2 exF.gs) : Calls Try.prog 20 #[.agg (exA g)] w fun e w' => e = .returned (.tuple #[.agg #[.int .i64 16, .int .i64 19], .int .i64 0]) ∧ Below w.heap.size w w' :=
  (Opens_any exF _ 2 2 w h (by decide)).mono fun _ _ ⟨he, hb⟩ => ⟨by rw [he, ex_opens, ex_err], hb⟩
theorem stops_ex {g : Nat} (w : World) (h : Gaps w (some ⟨g, 0, none⟩) 2 exF.gs) : Calls Try.prog 24 #[.agg (exA g)] w fun e w' => ∃ l c, e = .returned (.tuple #[.slice (some ⟨l, 0, none⟩) 2 c, .int .i64 0]) ∧ Ints w' (some ⟨l, 0, none⟩) 2 [1, 3] ∧ Below w.heap.size w w' := by
  refine (Stops_any exF _ 2 2 w h (by decide)).mono ?_
  rintro e w' ⟨v, rfl, ho, hb⟩
  rw [ex_stops] at ho
  obtain ⟨l, c, rfl⟩ := own_form ho (by decide)
  rw [ex_err]
  exact ⟨l, c, rfl, ints_of_own ho, hb⟩
theorem widen_ex {g : Nat} (w : World) (h : Gaps w (some ⟨g, 0, none⟩) 2 exF.gs) : Calls Try.prog 28 #[.agg (exA g), .int .i64 100] w fun e w' => e = .returned (.tuple #[.int .i64 0, .int .i64 18, .int .i64 0]) ∧ Below w.heap.size w w' :=
  (Widen_any exF 100 _ 2 2 w h (by decide)).mono fun _ _ ⟨he, hb⟩ => ⟨by rw [he, ex_widen], hb⟩
theorem wrong_ex {g : Nat} (w : World) (h : Gaps w (some ⟨g, 0, none⟩) 2 exF.gs) : Calls Try.prog 32 #[.agg (exA g), .agg #[.int .i64 10, .int .i64 14]] w fun e w' => ∃ l c, e = .returned (.tuple #[.slice (some ⟨l, 0, none⟩) 1 c, .int .i64 0]) ∧ Ints w' (some ⟨l, 0, none⟩) 1 [0] ∧ Below w.heap.size w w' := by
  refine (Wrong_any exF 10 14 _ 2 2 w h (by decide)).mono ?_
  rintro e w' ⟨v, rfl, ho, hb⟩
  rw [ex_wrongL] at ho
  obtain ⟨l, c, rfl⟩ := own_form ho (by decide)
  rw [ex_wrongE]
  exact ⟨l, c, rfl, ints_of_own ho, hb⟩
theorem sticks_ex {g : Nat} (w : World) (h : Gaps w (some ⟨g, 0, none⟩) 2 exF.gs) : Calls Try.prog 35 #[.agg (exA g), .int .i64 45] w fun e w' => e = .returned (.tuple #[.int .i64 5, .int .i64 0]) ∧ Below w.heap.size w w' :=
  (Sticks_any exF 45 _ 2 2 w h (by decide) (by decide)).mono fun _ _ ⟨he, hb⟩ => ⟨by rw [he, ex_stick], hb⟩
theorem pleat_ex {g : Nat} (w : World) (h : Gaps w (some ⟨g, 0, none⟩) 2 exF.gs) : Calls Try.prog 37 #[.agg (exA g), .int .i64 18] w fun e w' => e = .returned (.tuple #[.int .i64 235, .int .i64 0]) ∧ Below w.heap.size w w' :=
  (Pleat_any exF 18 _ 2 2 w h (by decide)).mono fun _ _ ⟨he, hb⟩ => ⟨by rw [he, ex_pleat], hb⟩
theorem bal_ex (g : Nat) (w : World) (h : Stks w (some ⟨g, 0, none⟩) 2 exT) : Calls Try.prog 46 #[.slice (some ⟨g, 0, none⟩) 2 2] w fun e w' => e = .returned (.tuple #[.agg #[.int .i64 80, .int .i64 1], .agg #[.int .i64 650, .int .i64 7], .int .i64 0]) ∧ Below w.heap.size w w' :=
  (Balance_any exT _ 2 2 w h (by decide)).mono fun _ _ ⟨he, hb⟩ => ⟨by rw [he, ex_bal], hb⟩
def exTc : Array Value := #[.int .i64 100, .int .i64 120, .int .i64 1, .int .i64 1, .int .i64 50, .int .i64 30, .int .i64 40, .int .i64 1, .int .i64 1, .int .i64 200]
theorem exT_new (w : World) : Stks (w.alloc (.cells exTc 106)) (some ⟨w.heap.size, 0, none⟩) 2 exT := reads_of_blk (Blk.new w _ _ rfl) rfl rfl
theorem ints_two (w : World) (a b : Int) (t : TypeId) : Ints (w.alloc (.cells #[.int .i64 a, .int .i64 b] t)) (some ⟨w.heap.size, 0, none⟩) 2 [a, b] := reads_of_blk (Blk.new w _ _ rfl) rfl rfl
theorem ints_one (w : World) (a : Int) (t : TypeId) : Ints (w.alloc (.cells #[.int .i64 a] t)) (some ⟨w.heap.size, 0, none⟩) 1 [a] := reads_of_blk (Blk.new w _ _ rfl) rfl rfl
theorem RefInts_eq (A A' : Option Addr) (n c c' : Nat) (xs : List Int) (w : World) (h : Ints w A n xs) (h' : Ints w A' n xs) (hn : n ≤ maxLen) :
    Calls Try.prog 34 #[.slice A n c, .slice A' n c'] w fun e w' => e = .returned (.bool true) ∧ Below w.heap.size w w' :=
  (RefInts_any A A' n n c c' xs xs w h h' hn).mono fun _ _ ⟨he, hb⟩ => ⟨by rw [he]; simp [intsB, eqTo], hb⟩
theorem RefStops_eq (A A' : Option Addr) (n c c' : Nat) (xs : List Int) (w : World) (h : Ints w A n xs) (h' : Ints w A' n xs) (hn : n ≤ maxLen) :
    Calls Try.prog 59 #[.slice A n c, .slice A' n c'] w fun e w' => e = .returned (.bool true) ∧ Below w.heap.size w w' :=
  (RefStops_any A A' n n c c' xs xs w h h' hn).mono fun _ _ ⟨he, hb⟩ => ⟨by rw [he]; simp [intsB, eqTo], hb⟩

/-- What known has found ahead of its last statements. -/
structure K1 (w W : World) (s l : Nat) : Prop where
  sp : Blk W s 23 #[.int .i64 16, .int .i64 19]
  hl : Ints W (some ⟨l, 0, none⟩) 2 [1, 3]
  bel : Below w.heap.size w W
theorem K1.below {w W W' : World} {s l : Nat} (h : K1 w W s l) (hb : Below W.heap.size W W') : K1 w W' s l := ⟨blk_keep hb h.sp, h.hl.below hb, below_then h.bel hb⟩
structure K2 (w W : World) (s l x : Nat) : Prop where
  k : K1 w W s l
  hx : Ints W (some ⟨x, 0, none⟩) 1 [0]
theorem K2.below {w W W' : World} {s l x : Nat} (h : K2 w W s l x) (hb : Below W.heap.size W W') : K2 w W' s l x := ⟨h.k.below hb, h.hx.below hb⟩
theorem K2.alloc {w W : World} {s l x : Nat} (h : K2 w W s l x) (o : Obj) : K2 w (W.alloc o) s l x := h.below (below_self W o)
theorem K2.drewd {w W : World} {s l x : Nat} (h : K2 w W s l x) : K2 w W.drew s l x := ⟨⟨h.k.sp, h.k.hl, h.k.bel.drew⟩, h.hx⟩
structure K3 (w W : World) (s l x r r' : Nat) : Prop where
  k : K2 w W s l x
  h1 : Blk W r 77 #[.int .i64 80, .int .i64 1]
  h2 : Blk W r' 77 #[.int .i64 650, .int .i64 7]
theorem K3.below {w W W' : World} {s l x r r' : Nat} (h : K3 w W s l x r r') (hb : Below W.heap.size W W') : K3 w W' s l x r r' := ⟨h.k.below hb, blk_keep hb h.h1, blk_keep hb h.h2⟩
theorem K3.alloc {w W : World} {s l x r r' : Nat} (h : K3 w W s l x r r') (o : Obj) : K3 w (W.alloc o) s l x r r' := h.below (below_self W o)
theorem K3.drewd {w W : World} {s l x r r' : Nat} (h : K3 w W s l x r r') : K3 w W.drew s l x r r' := ⟨h.k.drewd, h.h1, h.h2⟩
theorem K3.s {w W : World} {s l x r r' : Nat} (h : K3 w W s l x r r') : W.cell? ⟨s, 0, none⟩ = some (.int .i64 16) ∧ W.cell? ⟨s, 1, none⟩ = some (.int .i64 19) ∧ W.cell? ⟨r, 0, none⟩ = some (.int .i64 80) ∧ W.cell? ⟨r, 1, none⟩ = some (.int .i64 1) ∧ W.cell? ⟨r', 0, none⟩ = some (.int .i64 650) ∧ W.cell? ⟨r', 1, none⟩ = some (.int .i64 7) :=
  ⟨h.k.k.sp.cell 0, h.k.k.sp.cell 1, h.h1.cell 0, h.h1.cell 1, h.h2.cell 0, h.h2.cell 1⟩
def KnownRes (w : World) (e : Ending) (w' : World) : Prop := e = .returned (.bool true) ∧ Below w.heap.size w w'

attribute [local go_sem ↓] Go.wp_at_zero Go.wp_at_succ
set_option maxRecDepth 100000 in
set_option maxHeartbeats 8000000 in
theorem known_any (w : World) : Calls Try.prog 17 #[] w (KnownRes w) := by
  have HF := Lib.hid (fun W => fan_ex W)
  have HP := Lib.hid (fun a b W => lawSpan_any a b W)
  go_enter Try.func17, Try.ntmps17
  go_wp2_with fail
  refine (HF.out _).mono ?_
  rintro e w1 ⟨g1, rfl, hg, b1⟩
  have D1 := Lib.hid b1
  have C1 := Lib.hid (opens_ex _ hg)
  clear hg b1
  go_wp2_with fail
  refine C1.out.mono ?_
  rintro e w2 ⟨rfl, b2⟩
  have D2 := Lib.hid (below_then D1.out b2)
  have S2 := Lib.hid (Blk.new w2 23 #[.int .i64 0, .int .i64 0] (g := w2.heap.size) rfl)
  clear b2 D1 C1
  go_wp2_with (refine wpList_store_row rfl 23 _ _ rfl w2.heap.size _ rfl rfl 23 _ S2.out (by kernel_rfl) rfl (by kernel_rfl) ?_)
  have S3 := Lib.hid (S2.out.setRow #[.int .i64 16, .int .i64 19])
  have D3 := Lib.hid (below_setR (below_alloc' D2.out (.cells #[.int .i64 0, .int .i64 0] 23)) (g := w2.heap.size) D2.out.size #[.int .i64 16, .int .i64 19])
  clear D2 S2
  generalize w2.heap.size = s at *
  generalize (w2.alloc (.cells #[.int .i64 0, .int .i64 0] 23)).setRow s #[.int .i64 16, .int .i64 19] = w3 at *
  go_wp2_with fail
  refine (HF.out _).mono ?_
  rintro e w4 ⟨g2, rfl, hg, b4⟩
  have D4 := Lib.hid (below_then D3.out b4)
  have S4 := Lib.hid (blk_keep b4 S3.out)
  have C4 := Lib.hid (stops_ex _ hg)
  clear hg b4 D3 S3
  go_wp2_with fail
  refine C4.out.mono ?_
  rintro e w5 ⟨l, lc, rfl, hl, b5⟩
  have K5 : Hid (K1 w w5 s l) := ⟨blk_keep b5 S4.out, hl, below_then D4.out b5⟩
  clear hl b5 D4 S4 C4
  go_wp2_with fail
  refine (HF.out _).mono ?_
  rintro e w6 ⟨g6, rfl, hg, b6⟩
  have K6 := Lib.hid (K5.out.below b6)
  have G6 := Lib.hid hg
  clear hg b6 K5
  have C6 := Lib.hid (widen_ex _ G6.out)
  go_wp2_with fail
  refine C6.out.mono ?_
  rintro e w7 ⟨rfl, b7⟩
  have K7 := Lib.hid (K6.out.below b7)
  clear b7 K6
  clear C6 G6
  go_wp2_with fail
  refine (HF.out _).mono ?_
  rintro e w8 ⟨g8, rfl, hg, b8⟩
  have K8 := Lib.hid (K7.out.below b8)
  have G8 := Lib.hid hg
  clear hg b8 K7
  go_wp2_with fail
  refine (HP.out _ _ _).mono ?_
  rintro e w9 ⟨rfl, b9⟩
  have K9 := Lib.hid (K8.out.below b9)
  have C9 := Lib.hid (wrong_ex _ (G8.out.below b9))
  clear b9 K8 G8
  go_wp2_with fail
  refine C9.out.mono ?_
  rintro e w10 ⟨x, xc, rfl, hx, b10⟩
  have K10 : Hid (K2 w w10 s l x) := ⟨K9.out.below b10, hx⟩
  clear hx b10 K9 C9
  go_wp2_with fail
  refine (HF.out _).mono ?_
  rintro e w11 ⟨g11, rfl, hg, b11⟩
  have K11 := Lib.hid (K10.out.below b11)
  have G11 := Lib.hid hg
  clear hg b11 K10
  have C11 := Lib.hid (sticks_ex _ G11.out)
  go_wp2_with fail
  refine C11.out.mono ?_
  rintro e w12 ⟨rfl, b12⟩
  have K12 := Lib.hid (K11.out.below b12)
  clear b12 K11
  clear C11 G11
  go_wp2_with fail
  refine (HF.out _).mono ?_
  rintro e w13 ⟨g13, rfl, hg, b13⟩
  have K13 := Lib.hid (K12.out.below b13)
  have G13 := Lib.hid hg
  clear hg b13 K12
  have C13 := Lib.hid (pleat_ex _ G13.out)
  go_wp2_with fail
  refine C13.out.mono ?_
  rintro e w14 ⟨rfl, b14⟩
  have K14 := Lib.hid (K13.out.below b14)
  clear b14 K13
  clear C13 G13
  go_wp2_with fail
  refine (HP.out _ _ _).mono ?_
  rintro e w15 ⟨rfl, b15⟩
  have K15 := Lib.hid (K14.out.below b15)
  clear b15 K14
  go_wp2_with fail
  refine (HP.out _ _ _).mono ?_
  rintro e w16 ⟨rfl, b16⟩
  have K16 := Lib.hid (K15.out.below b16)
  clear b16 K15
  go_wp2_with fail
  refine (HP.out _ _ _).mono ?_
  rintro e w17 ⟨rfl, b17⟩
  have K17 := Lib.hid (K16.out.below b17)
  clear b17 K16
  go_wp2_with fail
  refine (HP.out _ _ _).mono ?_
  rintro e w18 ⟨rfl, b18⟩
  have K18 := Lib.hid (K17.out.below b18)
  clear b18 K17
  have T18 := Lib.hid (bal_ex _ _ (exT_new w18))
  have K19 := Lib.hid (K18.out.alloc (.cells exTc 106))
  unfold exTc at T18 K19
  clear K18 HF
  go_wp2_with fail
  refine T18.out.mono ?_
  rintro e w20 ⟨rfl, b20⟩
  have K20 := Lib.hid (K19.out.below b20)
  clear b20 K19 T18
  have B21 := Lib.hid (below_alloc' (below_self w20 (.cells #[.int .i64 0, .int .i64 0] 77)) (.cells #[.int .i64 0, .int .i64 0] 77))
  have R1 := Lib.hid ((Blk.new w20 77 #[.int .i64 0, .int .i64 0] (g := w20.heap.size) rfl).alloc (.cells #[.int .i64 0, .int .i64 0] 77))
  have R2 := Lib.hid (Blk.new (w20.alloc (.cells #[.int .i64 0, .int .i64 0] 77)) 77 #[.int .i64 0, .int .i64 0] (g := w20.heap.size + 1) (by simp))
  go_wp2_with (first
    | (refine wpList_store_row rfl 77 _ _ rfl w20.heap.size _ rfl rfl 77 _ R1.out (by kernel_rfl) rfl (by kernel_rfl) ?_; have R3 := Lib.hid (R1.out.setRow #[.int .i64 80, .int .i64 1]); have R4 := Lib.hid (R2.out.setRow_far (Nat.succ_ne_self _) #[.int .i64 80, .int .i64 1]); have B22 := Lib.hid (below_setR B21.out (g := w20.heap.size) (Nat.le_refl _) #[.int .i64 80, .int .i64 1]); clear R1 R2 B21)
    | (refine wpList_store_row rfl 77 _ _ rfl (w20.heap.size + 1) _ rfl rfl 77 _ R4.out (by kernel_rfl) rfl (by kernel_rfl) ?_; have R5 := Lib.hid (R4.out.setRow #[.int .i64 650, .int .i64 7]); have R6 := Lib.hid (R3.out.setRow_far (Nat.succ_ne_self _).symm #[.int .i64 650, .int .i64 7]); have B23 := Lib.hid (below_setR B22.out (g := w20.heap.size + 1) (Nat.le_succ _) #[.int .i64 650, .int .i64 7]); have Hk := Lib.hid (K3.drewd ⟨K20.out.below B23.out, R6.out, R5.out⟩); clear R3 R4 R5 R6 B22 B23 K20))
  generalize ((((w20.alloc (.cells #[.int .i64 0, .int .i64 0] 77)).alloc (.cells #[.int .i64 0, .int .i64 0] 77)).setRow w20.heap.size #[.int .i64 80, .int .i64 1]).setRow (w20.heap.size + 1) #[.int .i64 650, .int .i64 7]) = w23 at *
  generalize w20.heap.size + 1 = r' at *
  generalize w20.heap.size = r at *
  go_region_held3 (fun W => W.cell? ⟨s, 0, none⟩ = some (.int .i64 16) ∧ W.cell? ⟨s, 1, none⟩ = some (.int .i64 19) ∧ W.cell? ⟨r, 0, none⟩ = some (.int .i64 80) ∧ W.cell? ⟨r, 1, none⟩ = some (.int .i64 1) ∧ W.cell? ⟨r', 0, none⟩ = some (.int .i64 650) ∧ W.cell? ⟨r', 1, none⟩ = some (.int .i64 7))
    (first | exact Hk.out.s | exact (Hk.out.alloc _).s)
    (first
    | (go_at_call 53; refine (HP.out _ _ _).mono ?_; rintro e x1 ⟨rfl, h1⟩; have G1 := Lib.hid (Hk.out.below h1); clear Hk h1; have Hk := G1; clear G1)
    | (go_at_call 59; with_reducible refine (RefStops_eq _ _ 2 _ _ _ _ (Hk.out.alloc _).k.k.hl (ints_two _ _ _ _) (by decide)).mono ?_; rintro e x1 ⟨rfl, h1⟩; have G1 := Lib.hid ((Hk.out.alloc _).below h1); clear Hk h1; have Hk := G1; clear G1)
    | (go_at_call 34; with_reducible refine (RefInts_eq _ _ 1 _ _ _ _ (Hk.out.alloc _).k.hx (ints_one _ _ _) (by decide)).mono ?_; rintro e x1 ⟨rfl, h1⟩; have G1 := Lib.hid ((Hk.out.alloc _).below h1); clear Hk h1; have Hk := G1; clear G1))
  all_goals
    go_wp2
    go_ret
    exact ⟨rfl, Hk.out.k.k.bel⟩
end Go.Proofs.Ytdekickmplkdiaa

/- Walks: the law of Opens. -/
namespace Go.Proofs.Ytdekickmplkdiaa
open Go.RowKit

/-- The law's fan in its box. -/
structure LA (w W : World) (f : Fan) (A : Option Addr) (n c : Nat) : Prop where
  b : Blk W w.heap.size 26 (fanA f A n c)
  bel : Below w.heap.size w W
theorem LA.below {w W W' : World} {f : Fan} {A : Option Addr} {n c : Nat} (h : LA w W f A n c) (hb : Below W.heap.size W W') : LA w W' f A n c := ⟨blk_keep hb h.b, below_then h.bel hb⟩
theorem LA.start (w : World) (f : Fan) (A : Option Addr) (n c : Nat) : LA w (w.alloc (.cells (fanA f A n c) 26)) f A n c := ⟨Blk.new w _ _ rfl, below_self w _⟩
/-- And its copy. -/
structure LB (w W : World) (f : Fan) (A : Option Addr) (n c g : Nat) (A' : Option Addr) (c' : Nat) : Prop where
  a : LA w W f A n c
  b : Blk W g 26 (fanA f A' n c')
  r : Gaps W A' n f.gs
theorem LB.below {w W W' : World} {f : Fan} {A A' : Option Addr} {n c c' g : Nat} (h : LB w W f A n c g A' c') (hb : Below W.heap.size W W') : LB w W' f A n c g A' c' := ⟨h.a.below hb, blk_keep hb h.b, h.r.below hb⟩
theorem LB.alloc {w W : World} {f : Fan} {A A' : Option Addr} {n c c' g : Nat} (h : LB w W f A n c g A' c') (o : Obj) : LB w (W.alloc o) f A n c g A' c' := h.below (below_self W o)
theorem LB.start {w W : World} {f : Fan} {A A' : Option Addr} {n c c' : Nat} (h : LA w W f A n c) (hG : Gaps W A' n f.gs) (cs : Array Value) : LB w ((W.alloc (.cells cs 26)).setRow W.heap.size (fanA f A' n c')) f A n c W.heap.size A' c' :=
  have hb := below_setR (below_self W (.cells cs 26)) (Nat.le_refl _) (fanA f A' n c')
  ⟨h.below hb, (Blk.new W _ cs rfl).setRow _, hG.below hb⟩
/-- And a span. -/
structure LC (w W : World) (f : Fan) (A : Option Addr) (n c g : Nat) (A' : Option Addr) (c' s : Nat) (x y : Int) : Prop where
  l : LB w W f A n c g A' c'
  s : Blk W s 23 #[.int .i64 x, .int .i64 y]
theorem LC.below {w W W' : World} {f : Fan} {A A' : Option Addr} {n c c' g s : Nat} {x y : Int} (h : LC w W f A n c g A' c' s x y) (hb : Below W.heap.size W W') : LC w W' f A n c g A' c' s x y := ⟨h.l.below hb, blk_keep hb h.s⟩
theorem LC.drewd {w W : World} {f : Fan} {A A' : Option Addr} {n c c' g s : Nat} {x y : Int} (h : LC w W f A n c g A' c' s x y) : LC w W.drew f A n c g A' c' s x y := ⟨⟨⟨h.l.a.b, h.l.a.bel.drew⟩, h.l.b, h.l.r⟩, h.s⟩
theorem LC.start {w W : World} {f : Fan} {A A' : Option Addr} {n c c' g : Nat} (h : LB w W f A n c g A' c') (cs : Array Value) (x y : Int) : LC w ((W.alloc (.cells cs 23)).setRow W.heap.size #[.int .i64 x, .int .i64 y]) f A n c g A' c' W.heap.size x y :=
  have hb := below_setR (below_self W (.cells cs 23)) (Nat.le_refl _) #[.int .i64 x, .int .i64 y]
  ⟨h.below hb, (Blk.new W _ cs rfl).setRow _⟩
theorem LC.get {w W : World} {fa fb fc fd : Int} {gs : List Gap} {A A' : Option Addr} {n c c' g s : Nat} {x y : Int} (h : LC w W ⟨fa, fb, fc, fd, gs⟩ A n c g A' c' s x y) :
    (W.cell? ⟨s, 0, none⟩ = some (.int .i64 x) ∧ W.cell? ⟨s, 1, none⟩ = some (.int .i64 y)) ∧ W.cell? ⟨w.heap.size, 0, none⟩ = some (.int .i64 fa) ∧ W.cell? ⟨w.heap.size, 1, none⟩ = some (.int .i64 fb) ∧ W.cell? ⟨w.heap.size, 2, none⟩ = some (.int .i64 fc) ∧ W.cell? ⟨w.heap.size, 3, none⟩ = some (.int .i64 fd) ∧ W.cell? ⟨w.heap.size, 4, none⟩ = some (.slice A n c) :=
  ⟨⟨h.s.cell 0, h.s.cell 1⟩, fan_get h.l.a.b⟩

set_option maxRecDepth 100000 in
set_option maxHeartbeats 4000000 in
theorem RivetOpens_any (f : Fan) (A : Option Addr) (n c : Nat) (w : World) (h : Gaps w A n f.gs) (hn : n ≤ maxLen) :
    Calls Try.prog 3 #[.agg (fanA f A n c)] w fun e w' => e = .returned (.bool true) ∧ Below w.heap.size w w' := by
  have L0 := Lib.hid (LA.start w f A n c)
  have HK := Lib.hid (fun W => known_any W)
  unfold KnownRes at HK
  have HN := Lib.hid hn
  have hn2 := hn
  unfold maxLen at hn2
  by_cases h50 : 50 < n
  · clear h hn HN
    obtain ⟨fa, fb, fc, fd, gs⟩ := f
    simp only [fanA] at *
    go_enter Try.func3, Try.ntmps3
    go_wp2_with fail
    refine (HK.out _).mono ?_
    rintro e w1 ⟨rfl, b1⟩
    go_wp2
    go_ret
    exact ⟨rfl, below_then L0.out.bel b1⟩
  have HC := Lib.hid (fun W (hb : Below w.heap.size w W) => RefCopy_any f A n c W (h.below hb) (by omega))
  unfold FanRes at HC
  have H1 := Lib.hid (fun A' c' W (hG : Gaps W A' n f.gs) => Check_any f A' n c' W hG HN.out)
  have H2 := Lib.hid (fun A' c' W (hG : Gaps W A' n f.gs) => Opens_any f A' n c' W hG HN.out)
  have H3 := Lib.hid (fun W (hb : Below w.heap.size w W) => RefCheck_any f A n c W (h.below hb) HN.out)
  have H4 := Lib.hid (fun A' c' W (hG : Gaps W A' n f.gs) (hb : Below w.heap.size w W) => RefSame_any f A' A n c' c W hG (h.below hb) HN.out)
  have H5 := Lib.hid (fun W (hb : Below w.heap.size w W) (hf : FanB f) => RefOpens_any f A n c W hf (h.below hb))
  have HO1 : Hid (fanErr f = 0 → opensL f = (degL false f, degL true f)) := fun hE => if_pos hE
  have HO2 : Hid (¬ fanErr f = 0 → opensL f = (0, 0)) := fun hE => if_neg hE
  have HFB : Hid (fanErr f = 0 → FanB f) := fun hE => (fanB_of hE).1
  clear h hn HN
  generalize opensL f = op at *
  generalize fanErr f = r at *
  generalize degL false f = d1 at *
  generalize degL true f = d2 at *
  obtain ⟨fa, fb, fc, fd, gs⟩ := f
  obtain ⟨x, y⟩ := op
  have hr2 : (r != r) = false := by simp
  simp only [fanA] at HC H1 H2 H3 H4 H5 ⊢
  have p0 := fan_get L0.out.b
  go_enter Try.func3, Try.ntmps3
  go_wp2_with fail
  refine (HC.out _ L0.out.bel).mono ?_
  rintro e w1 ⟨A', c', rfl, hG, b1⟩
  have L1 := Lib.hid (L0.out.below b1)
  have G1 := Lib.hid hG
  have S1 := Lib.hid (Blk.new w1 26 #[.int .i64 0, .int .i64 0, .int .i64 0, .int .i64 0, .slice none 0 0] (g := w1.heap.size) rfl)
  clear b1 hG p0 L0 HC
  go_wp2_with (refine wpList_store_row rfl 26 _ _ rfl w1.heap.size _ rfl rfl 26 _ S1.out (by kernel_rfl) rfl (by kernel_rfl) ?_; have L2 := Lib.hid (LB.start (c' := c') L1.out G1.out #[.int .i64 0, .int .i64 0, .int .i64 0, .int .i64 0, .slice none 0 0]); simp only [fanA] at L2; have p2 := fan_get L2.out.b; clear L1 G1 S1)
  refine (H1.out _ _ _ L2.out.r).mono ?_
  rintro e w3 ⟨rfl, b3⟩
  have L3 := Lib.hid (L2.out.below b3)
  have p3 := fan_get L3.out.b
  clear b3 p2 L2 H1
  generalize w1.heap.size = g at *
  go_wp2_with fail
  refine (H2.out _ _ _ L3.out.r).mono ?_
  rintro e w4 ⟨rfl, b4⟩
  have L4 := Lib.hid (L3.out.below b4)
  have S4 := Lib.hid (Blk.new w4 23 #[.int .i64 0, .int .i64 0] (g := w4.heap.size) rfl)
  clear b4 p3 L3 H2
  go_wp2_with (refine wpList_store_row rfl 23 _ _ rfl w4.heap.size _ rfl rfl 23 _ S4.out (by kernel_rfl) rfl (by kernel_rfl) ?_; have L5 := Lib.hid (LC.start L4.out #[.int .i64 0, .int .i64 0] x y); have p5 := fan_get L5.out.l.a.b; clear L4 S4)
  refine (H3.out _ L5.out.l.a.bel).mono ?_
  rintro e w6 ⟨rfl, b6⟩
  have L6 := Lib.hid (L5.out.below b6)
  have p6 := fan_get L6.out.l.a.b
  have q6 := fan_get L6.out.l.b
  clear b6 p5 L5 H3
  generalize w4.heap.size = s at *
  go_wp2_with fail
  refine (H4.out _ _ _ L6.out.l.r L6.out.l.a.bel).mono ?_
  rintro e w7 ⟨rfl, b7⟩
  have L7 := Lib.hid (L6.out.below b7)
  have p7 := L7.out.get
  clear b7 p6 q6 L6 H4
  by_cases hE : r = 0
  · have hO := HO1.out hE
    have hfb := HFB.out hE
    simp only [Prod.mk.injEq] at hO
    obtain ⟨rfl, rfl⟩ := hO
    subst hE
    have H6 := Lib.hid (fun W hb => H5.out W hb hfb)
    have L8 := Lib.hid L7.out.drewd
    clear HO1 HO2 HFB hfb H5 p7
    have hd1 : (x == x) = true := by simp
    have hd2 : (y == y) = true := by simp
    go_wp2_with fail
    go_region_held3 (fun W => (W.cell? ⟨s, 0, none⟩ = some (.int .i64 x) ∧ W.cell? ⟨s, 1, none⟩ = some (.int .i64 y)) ∧ W.cell? ⟨w.heap.size, 0, none⟩ = some (.int .i64 fa) ∧ W.cell? ⟨w.heap.size, 1, none⟩ = some (.int .i64 fb) ∧ W.cell? ⟨w.heap.size, 2, none⟩ = some (.int .i64 fc) ∧ W.cell? ⟨w.heap.size, 3, none⟩ = some (.int .i64 fd) ∧ W.cell? ⟨w.heap.size, 4, none⟩ = some (.slice A n c))
      (first | exact L8.out.get)
      (first
      | (go_at_call 23; refine (H6.out _ L8.out.l.a.bel).mono ?_; rintro e x1 ⟨rfl, h1⟩; have M1 := Lib.hid (L8.out.below h1); clear L8 h1; have L8 := M1; clear M1)
      | (go_at_call 17; refine (HK.out _).mono ?_; rintro e x1 ⟨rfl, h1⟩; have M1 := Lib.hid (L8.out.below h1); clear L8 h1; have L8 := M1; clear M1))
    all_goals
      go_wp2
      go_ret
      exact ⟨rfl, L8.out.l.a.bel⟩
  · have hO := HO2.out hE
    simp only [Prod.mk.injEq] at hO
    obtain ⟨rfl, rfl⟩ := hO
    clear HO1 HO2 HFB H5
    have hr0 : (r != 0) = true := by simpa using hE
    go_wp2_with fail
    refine (HK.out _).mono ?_
    rintro e w8 ⟨rfl, b8⟩
    go_wp2
    go_ret
    exact ⟨rfl, below_then L7.out.l.a.bel b8⟩
end Go.Proofs.Ytdekickmplkdiaa
