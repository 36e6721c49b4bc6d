/- Walks: the reference's In, Span, Check, Angle. -/
import Derived.Test.YtdekickmplkdiaaRf
namespace Go.Proofs.Ytdekickmplkdiaa
open Go.RowKit

def inB (n a b : Int) : Bool := decide (a ≤ n) && decide (n ≤ b)
theorem RefIn_any (n a b : Int) (w : World) : Calls Try.prog 29 #[.int .i64 n, .int .i64 a, .int .i64 b] w fun e w' => e = .returned (.bool (inB n a b)) ∧ w = w' := by
  have HD : Hid (inB n a b = (decide (a ≤ n) && decide (n ≤ b))) := rfl
  by_cases h1 : a ≤ n
  · by_cases h2 : n ≤ b
    · have HT : Hid (inB n a b = true) := by unfold Hid; rw [HD.out]; simp [h1, h2]
      go_enter Try.func29, Try.ntmps29
      go_wp2
      go_ret
      exact ⟨ret_bool HT.out.symm, rfl⟩
    · have HT : Hid (inB n a b = false) := by unfold Hid; rw [HD.out]; simp [h2]
      go_enter Try.func29, Try.ntmps29
      go_wp2
      go_ret
      exact ⟨ret_bool HT.out.symm, rfl⟩
  · have HT : Hid (inB n a b = false) := by unfold Hid; rw [HD.out]; simp [h1]
    go_enter Try.func29, Try.ntmps29
    go_wp2
    go_ret
    exact ⟨ret_bool HT.out.symm, rfl⟩
def spanB (s : Int × Int) (a b : Int) : Bool := inB s.1 a s.2 && decide (s.2 ≤ b)
theorem RefSpan_any (lo hi a b : Int) (w : World) : Calls Try.prog 45 #[.agg #[.int .i64 lo, .int .i64 hi], .int .i64 a, .int .i64 b] w fun e w' => e = .returned (.bool (spanB (lo, hi) a b)) ∧ Below w.heap.size w w' := by
  have HD : Hid (spanB (lo, hi) a b = (inB lo a hi && decide (hi ≤ b))) := rfl
  have HB := Lib.hid (below_self w (.cells #[.int .i64 lo, .int .i64 hi] 23))
  have HI := Lib.hid (fun W => RefIn_any lo a hi W)
  cases q : inB lo a hi
  · have HF : Hid (spanB (lo, hi) a b = false) := by unfold Hid; rw [HD.out, q]; rfl
    rw [q] at HI
    clear HD q
    go_enter Try.func45, Try.ntmps45
    go_wp2_with fail
    refine (HI.out _).mono ?_
    rintro e w' ⟨rfl, rfl⟩
    go_wp2
    go_ret
    exact ⟨ret_bool HF.out.symm, HB.out⟩
  · have HF : Hid (spanB (lo, hi) a b = decide (hi ≤ b)) := by unfold Hid; rw [HD.out, q]; simp
    rw [q] at HI
    clear HD q
    go_enter Try.func45, Try.ntmps45
    go_wp2_with fail
    refine (HI.out _).mono ?_
    rintro e w' ⟨rfl, rfl⟩
    go_wp2
    all_goals
      go_ret
      exact ⟨ret_bool (by rw [HF.out]), HB.out⟩


def gapB (g : Gap) : Bool := spanB (g.ll, g.lh) 0 1000 && spanB (g.fl, g.fh) 0 500
theorem gapB_eq (g : Gap) : gapB g = gapOk g := by
  rw [Bool.eq_iff_iff]
  simp only [gapB, spanB, inB, gapOk, validS, List.all_cons, List.all_nil, Bool.and_eq_true, decide_eq_true_eq, Bool.and_true]
  omega
theorem headB_eq (f : Fan) : headOk f = (spanB (f.a, f.b) 1 5000 && (spanB (f.c, f.d) 1 5000 && decide (f.d < f.a))) := by
  rw [Bool.eq_iff_iff]
  simp only [headOk, spanB, inB, validS, List.all_cons, List.all_nil, Bool.and_eq_true, decide_eq_true_eq, Bool.and_true]
  omega
theorem fanErr_eq (f : Fan) : fanErr f = if (spanB (f.a, f.b) 1 5000 && (spanB (f.c, f.d) 1 5000 && decide (f.d < f.a))) = false then 3 else if 40 < f.gs.length then 5 else if f.gs.any (fun g => !gapB g) = true then 2 else 0 := by
  unfold fanErr
  rw [headB_eq]
  simp only [gapB_eq]
theorem any_take (p : Gap → Bool) (xs : List Gap) (k : Nat) (hk : k < xs.length) : (xs.take (k + 1)).any p = ((xs.take k).any p || p (xs.getD k Gap.zero)) := by
  rw [List.take_succ_eq_append_getElem hk, List.any_append]
  simp [List.getD, hk]
theorem any_getD {p : Gap → Bool} {xs : List Gap} {k : Nat} (hk : k < xs.length) (h : p (xs.getD k Gap.zero) = true) : xs.any p = true :=
  List.any_eq_true.2 ⟨xs[k], List.getElem_mem _, by simpa [List.getD, hk] using h⟩

set_option maxRecDepth 100000 in
set_option maxHeartbeats 4000000 in
theorem RefCheck_any (f : Fan) (A : Option Addr) (n c : Nat) (w : World) (h : Gaps w A n f.gs) (hn : n ≤ maxLen) :
    Calls Try.prog 21 #[.agg (fanA f A n c)] w fun e w' => e = .returned (.int .i64 (fanErr f)) ∧ Below w.heap.size w w' := by
  have HE := Lib.hid (fanErr_eq f)
  have hl := h.len
  rw [hl] at HE
  have B0 := Lib.hid (below_self w (.cells (fanA f A n c) 26))
  have R0 := Lib.hid (Blk.new w 26 (fanA f A n c) (g := w.heap.size) rfl)
  have HS := Lib.hid (fun lo hi a b W => RefSpan_any lo hi a b W)
  have HG := Lib.hid h
  have HL := Lib.hid hl
  unfold maxLen at hn
  clear h hl
  generalize fanErr f = r at *
  obtain ⟨fa, fb, fc, fd, gs⟩ := f
  simp only [fanA] at *
  cases q1 : spanB (fa, fb) 1 5000
  · have S1 := Lib.hid (HS.out fa fb 1 5000)
    rw [q1] at S1
    have H : Hid (r = 3) := by unfold Hid; rw [HE.out, q1]; rfl
    go_enter Try.func21, Try.ntmps21
    go_wp2_with fail
    refine (S1.out _).mono ?_
    rintro e w1 ⟨rfl, b1⟩
    go_wp2
    go_ret
    exact ⟨ret_int H.out.symm, below_then B0.out b1⟩
  have S1 := Lib.hid (HS.out fa fb 1 5000)
  rw [q1] at S1 HE
  cases q2 : spanB (fc, fd) 1 5000
  · have S2 := Lib.hid (HS.out fc fd 1 5000)
    rw [q2] at S2 HE
    have H : Hid (r = 3) := by unfold Hid; rw [HE.out]; rfl
    clear q1 q2 HE HS HG
    go_enter Try.func21, Try.ntmps21
    go_wp2_with fail
    refine (S1.out _).mono ?_
    rintro e w1 ⟨rfl, b1⟩
    have B1 := Lib.hid (below_then B0.out b1)
    have p1 := (blk_keep b1 R0.out).cell
    clear b1 R0
    go_wp2_with fail
    refine (S2.out _).mono ?_
    rintro e w2 ⟨rfl, b2⟩
    go_wp2
    go_ret
    exact ⟨ret_int H.out.symm, below_then B1.out b2⟩
  have S2 := Lib.hid (HS.out fc fd 1 5000)
  rw [q2] at S2 HE
  clear q1 q2
  by_cases h3 : fa ≤ fd
  · have H : Hid (r = 3) := by unfold Hid; rw [HE.out, decide_eq_false (show ¬ fd < fa by omega)]; rfl
    clear HE HS HG
    go_enter Try.func21, Try.ntmps21
    go_wp2_with fail
    refine (S1.out _).mono ?_
    rintro e w1 ⟨rfl, b1⟩
    have B1 := Lib.hid (below_then B0.out b1)
    have R1 := Lib.hid (blk_keep b1 R0.out)
    have p1 := R1.out.cell
    clear b1 R0
    go_wp2_with fail
    refine (S2.out _).mono ?_
    rintro e w2 ⟨rfl, b2⟩
    have B2 := Lib.hid (below_then B1.out b2)
    have p2 := (blk_keep b2 R1.out).cell
    clear b2 p1 R1
    go_wp2
    go_ret
    exact ⟨ret_int H.out.symm, B2.out⟩
  have HE2 : Hid (r = if 40 < n then 5 else if gs.any (fun g => !gapB g) = true then 2 else 0) := by unfold Hid; rw [HE.out, decide_eq_true (show fd < fa by omega)]; rfl
  clear HE
  go_enter Try.func21, Try.ntmps21
  go_wp2_with fail
  refine (S1.out _).mono ?_
  rintro e w1 ⟨rfl, b1⟩
  have B1 := Lib.hid (below_then B0.out b1)
  have R1 := Lib.hid (blk_keep b1 R0.out)
  have p1 := R1.out.cell
  clear b1 R0 B0 S1
  go_wp2_with fail
  refine (S2.out _).mono ?_
  rintro e w2 ⟨rfl, b2⟩
  have B2 := Lib.hid (below_then B1.out b2)
  have R2 := Lib.hid (blk_keep b2 R1.out)
  have p2 := R2.out.cell
  clear b2 p1 R1 B1 S2
  by_cases h4 : 40 < n
  · have H : Hid (r = 5) := by unfold Hid; rw [HE2.out, if_pos h4]
    clear HE2
    go_wp2
    go_ret
    exact ⟨ret_int H.out.symm, B2.out⟩
  have HE3 : Hid (r = if gs.any (fun g => !gapB g) = true then 2 else 0) := by unfold Hid; rw [HE2.out, if_neg h4]
  clear HE2
  go_wp2_with fail
  clear p2
  go_loopw [3] (fun i wr => ∃ k : Nat, k ≤ n ∧ i = .int .i64 k ∧ (gs.take k).any (fun g => !gapB g) = false ∧ Below w2.heap.size w2 wr) (fun i _ => n - (intOf i).toNat)
  case atStart => exact ⟨0, Nat.zero_le _, rfl, rfl, Below.refl _ _⟩
  case round =>
    obtain ⟨k, hk, rfl, hp, hbel⟩ := hrel
    have HP := Lib.hid hp
    have R3 := Lib.hid (blk_keep hbel R2.out)
    have B3 := Lib.hid (below_then B2.out hbel)
    have D3 := Lib.hid hbel
    have p3 := R3.out.cell
    clear hp hbel
    by_cases hlt : k < n
    · have G3 := Lib.hid (HG.out.below B3.out)
      obtain ⟨b, off, hA, hb, c0, c1, c2, c3⟩ := G3.out.at_ hlt
      subst hA
      have HT := Lib.hid (any_take (fun g => !gapB g) gs k (by rw [HL.out]; exact hlt))
      have HX := Lib.hid (fun hq => any_getD (p := fun g => !gapB g) (xs := gs) (k := k) (by rw [HL.out]; exact hlt) hq)
      have HY : Hid (gapB (gs.getD k Gap.zero) = (spanB ((gs.getD k Gap.zero).ll, (gs.getD k Gap.zero).lh) 0 1000 && spanB ((gs.getD k Gap.zero).fl, (gs.getD k Gap.zero).fh) 0 500)) := rfl
      generalize gs.getD k Gap.zero = y at *
      obtain ⟨ll, lh, fl, fh⟩ := y
      simp only at *
      have S1 := Lib.hid (HS.out ll lh 0 1000)
      have S2 := Lib.hid (HS.out fl fh 0 500)
      cases g1 : spanB (ll, lh) 0 1000
      · rw [g1] at S1
        have H : Hid (r = 2) := by unfold Hid; rw [HE3.out, if_pos (HX.out (by rw [HY.out, g1]; rfl))]
        clear HE3 HT HX HY
        go_wp2_with fail
        refine (S1.out _).mono ?_
        rintro e w4 ⟨rfl, b4⟩
        go_wp2
        go_ret
        exact ⟨ret_int H.out.symm, below_then B3.out b4⟩
      rw [g1] at S1 HY
      cases g2 : spanB (fl, fh) 0 500
      · rw [g2] at S2 HY
        have H : Hid (r = 2) := by unfold Hid; rw [HE3.out, if_pos (HX.out (by rw [HY.out]; rfl))]
        clear HE3 HT HX HY
        go_wp2_with fail
        refine (S1.out _).mono ?_
        rintro e w4 ⟨rfl, b4⟩
        have p4 := (blk_keep b4 R3.out).cell
        have e2 := (b4.cell (lt_of_cell c2)).trans c2
        have e3 := (b4.cell (lt_of_cell c3)).trans c3
        have B4 := Lib.hid (below_then B3.out b4)
        clear b4 c0 c1 c2 c3 p3
        go_wp2_with fail
        refine (S2.out _).mono ?_
        rintro e w5 ⟨rfl, b5⟩
        go_wp2
        go_ret
        exact ⟨ret_int H.out.symm, below_then B4.out b5⟩
      rw [g2] at S2 HY
      have HP2 : Hid ((gs.take (k + 1)).any (fun g => !gapB g) = false) := by unfold Hid; rw [HT.out, HP.out, HY.out]; rfl
      clear HT HX HY HP
      go_wp2_with fail
      refine (S1.out _).mono ?_
      rintro e w4 ⟨rfl, b4⟩
      have p4 := (blk_keep b4 R3.out).cell
      have e2 := (b4.cell (lt_of_cell c2)).trans c2
      have e3 := (b4.cell (lt_of_cell c3)).trans c3
      have D4 := Lib.hid (below_then D3.out b4)
      clear b4 c0 c1 c2 c3 p3
      go_wp2_with fail
      refine (S2.out _).mono ?_
      rintro e w5 ⟨rfl, b5⟩
      have D5 := Lib.hid (below_then D4.out b5)
      clear b5 p4 e2 e3 D4 D3
      go_wp2
      go_roundw
      case rel => exact ⟨k + 1, by omega, by go_num, HP2.out, D5.out⟩
      case measure => simp [intOf]; omega
    · obtain rfl : k = n := by omega
      have H : Hid (r = 0) := by
        unfold Hid
        have := HP.out
        rw [← HL.out, List.take_length] at this
        rw [HE3.out, this]; rfl
      go_wp2
      go_ret
      exact ⟨ret_int H.out.symm, B3.out⟩

set_option maxHeartbeats 400000 in
theorem RefAngle_any (far near leaf foot : Int) (w : World) (h1 : 0 ≤ leaf * near ∧ leaf * near ≤ 25000000) (h2 : 0 ≤ foot * far ∧ foot * far ≤ 25000000) :
    Calls Try.prog 96 #[.int .i64 far, .int .i64 near, .int .i64 leaf, .int .i64 foot] w fun e w' => e = .returned (.int .i64 (min (leaf * near) (foot * far))) ∧ w = w' := by
  have HM := Lib.hid (Eq.refl (min (leaf * near) (foot * far)))
  generalize hr : min (leaf * near) (foot * far) = r at *
  by_cases hc : leaf * near ≤ foot * far
  · have H : Hid (r = leaf * near) := by unfold Hid; omega
    clear hr HM
    go_enter Try.func96, Try.ntmps96
    go_wp2
    go_ret
    exact ⟨ret_int H.out.symm, rfl⟩
  · have H : Hid (r = foot * far) := by unfold Hid; omega
    clear hr HM
    go_enter Try.func96, Try.ntmps96
    go_wp2
    go_ret
    exact ⟨ret_int H.out.symm, rfl⟩
set_option maxHeartbeats 400000 in
theorem RefDegrees_any (num den : Int) (w : World) (h0 : 0 ≤ num) (h1 : num ≤ 1000000000) (h2 : 1 ≤ den) (h3 : den ≤ 25000000) :
    Calls Try.prog 65 #[.int .i64 num, .int .i64 den] w fun e w' => e = .returned (.int .i64 (degF num den)) ∧ w = w' := by
  have HD : Hid (degF num den = min 360 (20340 * num / (355 * den))) := rfl
  generalize degF num den = r at *
  have hq : 0 ≤ 20340 * num / (355 * den) ∧ 20340 * num / (355 * den) ≤ 20340 * num := ⟨Int.ediv_nonneg (by omega) (by omega), Int.ediv_le_self _ (by omega)⟩
  have hz : ¬ 355 * den = 0 := by omega
  by_cases hc : 20340 * num / (355 * den) < 360
  · have H : Hid (r = 20340 * num / (355 * den)) := by unfold Hid; rw [HD.out]; omega
    clear HD
    go_enter Try.func65, Try.ntmps65
    go_wp2
    go_ret
    exact ⟨ret_int H.out.symm, rfl⟩
  · have H : Hid (r = 360) := by unfold Hid; rw [HD.out]; omega
    clear HD
    go_enter Try.func65, Try.ntmps65
    go_wp2
    go_ret
    exact ⟨ret_int H.out.symm, rfl⟩
end Go.Proofs.Ytdekickmplkdiaa
