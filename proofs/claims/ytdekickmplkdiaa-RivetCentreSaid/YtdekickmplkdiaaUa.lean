/- Walks: the reference's Closed; together, Closed, Holds. -/
import Derived.Test.YtdekickmplkdiaaKe
import Derived.Test.YtdekickmplkdiaaKs
namespace Go.Proofs.Ytdekickmplkdiaa
open Go.RowKit

def stkB (s : Stk) : Bool := spanB (s.wl, s.wh) 1 10000 && (spanB (s.tl, s.th) 1 100 && inB s.pl 0 5000)
theorem stkB_eq (s : Stk) : stkB s = stkOk s := by
  rw [Bool.eq_iff_iff]
  simp only [stkB, spanB, inB, stkOk, validS, within, List.all_cons, List.all_nil, Bool.and_eq_true, decide_eq_true_eq, Bool.and_true]
  omega
theorem stkErr_eq (l : List Stk) : stkErr l = if 12 < l.length then 5 else if l.any (fun g => !stkB g) = true then 2 else 0 := by
  unfold stkErr; simp only [stkB_eq]
theorem anyT_take (p : Stk → Bool) (xs : List Stk) (k : Nat) (hk : k < xs.length) : (xs.take (k + 1)).any p = ((xs.take k).any p || p (xs.getD k Stk.zero)) := by
  rw [List.take_succ_eq_append_getElem hk, List.any_append]
  simp [List.getD, hk]
theorem anyT_getD {p : Stk → Bool} {xs : List Stk} {k : Nat} (hk : k < xs.length) (h : p (xs.getD k Stk.zero) = true) : xs.any p = true :=
  List.any_eq_true.2 ⟨xs[k], List.getElem_mem _, by simpa [List.getD, hk] using h⟩

set_option maxRecDepth 100000 in
set_option maxHeartbeats 4000000 in
theorem RefClosed_any (l : List Stk) (A : Option Addr) (n c : Nat) (w : World) (h : Stks w A n l) (hn : n ≤ maxLen) :
    Calls Try.prog 42 #[.slice A n c] w fun e w' => e = .returned (.int .i64 (stkErr l)) ∧ Below w.heap.size w w' := by
  have HE := Lib.hid (stkErr_eq l)
  have hl := h.len
  rw [hl] at HE
  have HS := Lib.hid (fun lo hi a b W => RefSpan_any lo hi a b W)
  have HI := Lib.hid (fun x a b W => RefIn_any x a b W)
  have HG := Lib.hid h
  have HL := Lib.hid hl
  unfold maxLen at hn
  clear h hl
  generalize stkErr l = r at *
  by_cases h4 : 12 < n
  · have H : Hid (r = 5) := by unfold Hid; rw [HE.out, if_pos h4]
    clear HE
    go_enter Try.func42, Try.ntmps42
    go_wp2
    go_ret
    exact ⟨ret_int H.out.symm, Below.refl _ _⟩
  have HE3 : Hid (r = if l.any (fun g => !stkB g) = true then 2 else 0) := by unfold Hid; rw [HE.out, if_neg h4]
  clear HE
  go_enter Try.func42, Try.ntmps42
  go_wp2_with fail
  go_loopw [3] (fun i wr => ∃ k : Nat, k ≤ n ∧ i = .int .i64 k ∧ (l.take k).any (fun g => !stkB g) = false ∧ Below w.heap.size w wr) (fun i _ => n - (intOf i).toNat)
  case atStart => exact ⟨0, Nat.zero_le _, rfl, rfl, Below.refl _ _⟩
  case round =>
    obtain ⟨k, hk, rfl, hp, hbel⟩ := hrel
    have HP := Lib.hid hp
    have B3 := Lib.hid hbel
    clear hp hbel
    by_cases hlt : k < n
    · obtain ⟨b, off, hA, hb, c0, c1, c2, c3, c4⟩ := (HG.out.below B3.out).at_ hlt
      subst hA
      have HT := Lib.hid (anyT_take (fun g => !stkB g) l k (by rw [HL.out]; exact hlt))
      have HX := Lib.hid (fun hq => anyT_getD (p := fun g => !stkB g) (xs := l) (k := k) (by rw [HL.out]; exact hlt) hq)
      have HY : Hid (stkB (l.getD k Stk.zero) = (spanB ((l.getD k Stk.zero).wl, (l.getD k Stk.zero).wh) 1 10000 && (spanB ((l.getD k Stk.zero).tl, (l.getD k Stk.zero).th) 1 100 && inB (l.getD k Stk.zero).pl 0 5000))) := rfl
      generalize l.getD k Stk.zero = y at *
      obtain ⟨wl, wh, tl, th, pl⟩ := y
      simp only at *
      have S1 := Lib.hid (HS.out wl wh 1 10000)
      have S2 := Lib.hid (HS.out tl th 1 100)
      have S3 := Lib.hid (HI.out pl 0 5000)
      cases g1 : spanB (wl, wh) 1 10000
      · rw [g1] at S1
        have H : Hid (r = 2) := by unfold Hid; rw [HE3.out, if_pos (HX.out (by rw [HY.out, g1]; rfl))]
        clear HE3 HT HX HY g1
        go_wp2_with fail
        refine (S1.out _).mono ?_
        rintro e w4 ⟨rfl, b4⟩
        go_wp2
        go_ret
        exact ⟨ret_int H.out.symm, below_then B3.out b4⟩
      rw [g1] at S1 HY
      cases g2 : spanB (tl, th) 1 100
      · rw [g2] at S2 HY
        have H : Hid (r = 2) := by unfold Hid; rw [HE3.out, if_pos (HX.out (by rw [HY.out]; rfl))]
        clear HE3 HT HX HY g1 g2
        go_wp2_with fail
        refine (S1.out _).mono ?_
        rintro e w4 ⟨rfl, b4⟩
        have e2 := (b4.cell (lt_of_cell c2)).trans c2
        have e3 := (b4.cell (lt_of_cell c3)).trans c3
        have B4 := Lib.hid (below_then B3.out b4)
        clear b4 c0 c1 c2 c3 c4
        go_wp2_with fail
        refine (S2.out _).mono ?_
        rintro e w5 ⟨rfl, b5⟩
        go_wp2
        go_ret
        exact ⟨ret_int H.out.symm, below_then B4.out b5⟩
      rw [g2] at S2 HY
      cases g3 : inB pl 0 5000
      · rw [g3] at S3 HY
        have H : Hid (r = 2) := by unfold Hid; rw [HE3.out, if_pos (HX.out (by rw [HY.out]; rfl))]
        clear HE3 HT HX HY g1 g2 g3
        go_wp2_with fail
        refine (S1.out _).mono ?_
        rintro e w4 ⟨rfl, b4⟩
        have e2 := (b4.cell (lt_of_cell c2)).trans c2
        have e3 := (b4.cell (lt_of_cell c3)).trans c3
        have e4 := (b4.cell (lt_of_cell c4)).trans c4
        have B4 := Lib.hid (below_then B3.out b4)
        clear b4 c0 c1 c2 c3 c4
        go_wp2_with fail
        refine (S2.out _).mono ?_
        rintro e w5 ⟨rfl, b5⟩
        have f4 := (b5.cell (lt_of_cell e4)).trans e4
        have B5 := Lib.hid (below_then B4.out b5)
        clear b5 e2 e3 e4
        go_wp2_with fail
        refine (S3.out _).mono ?_
        rintro e w6 ⟨rfl, rfl⟩
        go_wp2
        go_ret
        exact ⟨ret_int H.out.symm, B5.out⟩
      rw [g3] at S3 HY
      have HP2 : Hid ((l.take (k + 1)).any (fun g => !stkB g) = false) := by unfold Hid; rw [HT.out, HP.out, HY.out]; rfl
      clear HT HX HY HP g1 g2 g3
      go_wp2_with fail
      refine (S1.out _).mono ?_
      rintro e w4 ⟨rfl, b4⟩
      have e2 := (b4.cell (lt_of_cell c2)).trans c2
      have e3 := (b4.cell (lt_of_cell c3)).trans c3
      have e4 := (b4.cell (lt_of_cell c4)).trans c4
      have B4 := Lib.hid (below_then B3.out b4)
      clear b4 c0 c1 c2 c3 c4
      go_wp2_with fail
      refine (S2.out _).mono ?_
      rintro e w5 ⟨rfl, b5⟩
      have f4 := (b5.cell (lt_of_cell e4)).trans e4
      have B5 := Lib.hid (below_then B4.out b5)
      clear b5 e2 e3 e4
      go_wp2_with fail
      refine (S3.out _).mono ?_
      rintro e w6 ⟨rfl, rfl⟩
      go_wp2
      go_roundw
      case rel => exact ⟨k + 1, by omega, by go_num, HP2.out, B5.out⟩
      case measure => simp [intOf]; omega
    · obtain rfl : k = n := by omega
      have H : Hid (r = 0) := by
        unfold Hid
        have := HP.out
        rw [← HL.out, List.take_length] at this
        rw [HE3.out, this]; rfl
      go_wp2
      go_ret
      exact ⟨ret_int H.out.symm, B3.out⟩

theorem weightOf_any (wl wh tl th pl : Int) (w : World) : Calls Try.prog 87 #[.agg #[.int .i64 wl, .int .i64 wh, .int .i64 tl, .int .i64 th, .int .i64 pl]] w fun e w' => e = .returned (.agg #[.int .i64 wl, .int .i64 wh]) ∧ Below w.heap.size w w' := by
  have E0 := Lib.hid (Env2.start w 106 23 #[.int .i64 wl, .int .i64 wh, .int .i64 tl, .int .i64 th, .int .i64 pl] #[.int .i64 wl, .int .i64 wh])
  go_enter Try.func87, Try.ntmps87
  go_wp2
  exact bodyPost_ret (results_c rfl _ _ _ (w.heap.size + 1) _ _ _ rfl E0.out.q Try.underlying23 (by kernel_rfl)) rfl ⟨rfl, E0.out.bel⟩
theorem thickOf_any (wl wh tl th pl : Int) (w : World) : Calls Try.prog 88 #[.agg #[.int .i64 wl, .int .i64 wh, .int .i64 tl, .int .i64 th, .int .i64 pl]] w fun e w' => e = .returned (.agg #[.int .i64 tl, .int .i64 th]) ∧ Below w.heap.size w w' := by
  have E0 := Lib.hid (Env2.start w 106 23 #[.int .i64 wl, .int .i64 wh, .int .i64 tl, .int .i64 th, .int .i64 pl] #[.int .i64 tl, .int .i64 th])
  go_enter Try.func88, Try.ntmps88
  go_wp2
  exact bodyPost_ret (results_c rfl _ _ _ (w.heap.size + 1) _ _ _ rfl E0.out.q Try.underlying23 (by kernel_rfl)) rfl ⟨rfl, E0.out.bel⟩
end Go.Proofs.Ytdekickmplkdiaa
