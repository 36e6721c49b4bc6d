/- Merged: Sc, Sd, Se. -/
import Derived.Test.YtdekickmplkdiaaKb
import Derived.Test.YtdekickmplkdiaaKd
import Derived.Deep.DrawnRows
import Derived.ArgAppend

/- Walks: the reference's In, Span, Check, Angle. -/
namespace Go.Proofs.Ytdekickmplkdiaa
open Go.RowKit

def inB (n a b : Int) : Bool := decide (a ≤ n) && decide (n ≤ b)
theorem RefIn_any (n a b : Int) (w : World) : Calls Try.prog 29 #[.int .i64 n, .int .i64 a, .int .i64 b] w fun e w' => e = .returned (.bool (inB n a b)) ∧ w = w' := by
  have HD : Hid (inB n a b = (decide (a ≤ n) && decide (n ≤ b))) := rfl
  by_cases h1 : a ≤ n
  · by_cases h2 : n ≤ b
    · have HT : Hid (inB n a b = true) := by unfold Hid; rw [HD.out]; simp [h1, h2]
      go_enter Try.func29, Try.ntmps29
      go_wp2
      go_ret
      exact ⟨ret_bool HT.out.symm, rfl⟩
    · have HT : Hid (inB n a b = false) := by unfold Hid; rw [HD.out]; simp [h2]
      go_enter Try.func29, Try.ntmps29
      go_wp2
      go_ret
      exact ⟨ret_bool HT.out.symm, rfl⟩
  · have HT : Hid (inB n a b = false) := by unfold Hid; rw [HD.out]; simp [h1]
    go_enter Try.func29, Try.ntmps29
    go_wp2
    go_ret
    exact ⟨ret_bool HT.out.symm, rfl⟩
def spanB (s : Int × Int) (a b : Int) : Bool := inB s.1 a s.2 && decide (s.2 ≤ b)
theorem RefSpan_any (lo hi a b : Int) (w : World) : Calls Try.prog 45 #[.agg #[.int .i64 lo, .int .i64 hi], .int .i64 a, .int .i64 b] w fun e w' => e = .returned (.bool (spanB (lo, hi) a b)) ∧ Below w.heap.size w w' := by
  have HD : Hid (spanB (lo, hi) a b = (inB lo a hi && decide (hi ≤ b))) := rfl
  have HB := Lib.hid (below_self w (.cells #[.int .i64 lo, .int .i64 hi] 23))
  have HI := Lib.hid (fun W => RefIn_any lo a hi W)
  cases q : inB lo a hi
  · have HF : Hid (spanB (lo, hi) a b = false) := by unfold Hid; rw [HD.out, q]; rfl
    rw [q] at HI
    clear HD q
    go_enter Try.func45, Try.ntmps45
    go_wp2_with fail
    refine (HI.out _).mono ?_
    rintro e w' ⟨rfl, rfl⟩
    go_wp2
    go_ret
    exact ⟨ret_bool HF.out.symm, HB.out⟩
  · have HF : Hid (spanB (lo, hi) a b = decide (hi ≤ b)) := by unfold Hid; rw [HD.out, q]; simp
    rw [q] at HI
    clear HD q
    go_enter Try.func45, Try.ntmps45
    go_wp2_with fail
    refine (HI.out _).mono ?_
    rintro e w' ⟨rfl, rfl⟩
    go_wp2
    all_goals
      go_ret
      exact ⟨ret_bool (by rw [HF.out]), HB.out⟩


def gapB (g : Gap) : Bool := spanB (g.ll, g.lh) 0 1000 && spanB (g.fl, g.fh) 0 500
theorem gapB_eq (g : Gap) : gapB g = gapOk g := by
  rw [Bool.eq_iff_iff]
  simp only [gapB, spanB, inB, gapOk, validS, List.all_cons, List.all_nil, Bool.and_eq_true, decide_eq_true_eq, Bool.and_true]
  omega
theorem headB_eq (f : Fan) : headOk f = (spanB (f.a, f.b) 1 5000 && (spanB (f.c, f.d) 1 5000 && decide (f.d < f.a))) := by
  rw [Bool.eq_iff_iff]
  simp only [headOk, spanB, inB, validS, List.all_cons, List.all_nil, Bool.and_eq_true, decide_eq_true_eq, Bool.and_true]
  omega
theorem fanErr_eq (f : Fan) : fanErr f = if (spanB (f.a, f.b) 1 5000 && (spanB (f.c, f.d) 1 5000 && decide (f.d < f.a))) = false then 3 else if 40 < f.gs.length then 5 else if f.gs.any (fun g => !gapB g) = true then 2 else 0 := by
  unfold fanErr
  rw [headB_eq]
  simp only [gapB_eq]
theorem any_take (p : Gap → Bool) (xs : List Gap) (k : Nat) (hk : k < xs.length) : (xs.take (k + 1)).any p = ((xs.take k).any p || p (xs.getD k Gap.zero)) := by
  rw [List.take_succ_eq_append_getElem hk, List.any_append]
  simp [List.getD, hk]
theorem any_getD {p : Gap → Bool} {xs : List Gap} {k : Nat} (hk : k < xs.length) (h : p (xs.getD k Gap.zero) = true) : xs.any p = true :=
  List.any_eq_true.2 ⟨xs[k], List.getElem_mem _, by simpa [List.getD, hk] using h⟩

set_option maxRecDepth 100000 in
set_option maxHeartbeats 4000000 in
theorem RefCheck_any (f : Fan) (A : Option Addr) (n c : Nat) (w : World) (h : Gaps w A n f.gs) (hn : n ≤ maxLen) :
    Calls Try.prog 21 #[.agg (fanA f A n c)] w fun e w' => e = .returned (.int .i64 (fanErr f)) ∧ Below w.heap.size w w' := by
  have HE := Lib.hid (fanErr_eq f)
  have hl := h.len
  rw [hl] at HE
  have B0 := Lib.hid (below_self w (.cells (fanA f A n c) 26))
  have R0 := Lib.hid (Blk.new w 26 (fanA f A n c) (g := w.heap.size) rfl)
  have HS := Lib.hid (fun lo hi a b W => RefSpan_any lo hi a b W)
  have HG := Lib.hid h
  have HL := Lib.hid hl
  unfold maxLen at hn
  clear h hl
  generalize fanErr f = r at *
  obtain ⟨fa, fb, fc, fd, gs⟩ := f
  simp only [fanA] at *
  cases q1 : spanB (fa, fb) 1 5000
  · have S1 := Lib.hid (HS.out fa fb 1 5000)
    rw [q1] at S1
    have H : Hid (r = 3) := by unfold Hid; rw [HE.out, q1]; rfl
    go_enter Try.func21, Try.ntmps21
    go_wp2_with fail
    refine (S1.out _).mono ?_
    rintro e w1 ⟨rfl, b1⟩
    go_wp2
    go_ret
    exact ⟨ret_int H.out.symm, below_then B0.out b1⟩
  have S1 := Lib.hid (HS.out fa fb 1 5000)
  rw [q1] at S1 HE
  cases q2 : spanB (fc, fd) 1 5000
  · have S2 := Lib.hid (HS.out fc fd 1 5000)
    rw [q2] at S2 HE
    have H : Hid (r = 3) := by unfold Hid; rw [HE.out]; rfl
    clear q1 q2 HE HS HG
    go_enter Try.func21, Try.ntmps21
    go_wp2_with fail
    refine (S1.out _).mono ?_
    rintro e w1 ⟨rfl, b1⟩
    have B1 := Lib.hid (below_then B0.out b1)
    have p1 := (blk_keep b1 R0.out).cell
    clear b1 R0
    go_wp2_with fail
    refine (S2.out _).mono ?_
    rintro e w2 ⟨rfl, b2⟩
    go_wp2
    go_ret
    exact ⟨ret_int H.out.symm, below_then B1.out b2⟩
  have S2 := Lib.hid (HS.out fc fd 1 5000)
  rw [q2] at S2 HE
  clear q1 q2
  by_cases h3 : fa ≤ fd
  · have H : Hid (r = 3) := by unfold Hid; rw [HE.out, decide_eq_false (show ¬ fd < fa by omega)]; rfl
    clear HE HS HG
    go_enter Try.func21, Try.ntmps21
    go_wp2_with fail
    refine (S1.out _).mono ?_
    rintro e w1 ⟨rfl, b1⟩
    have B1 := Lib.hid (below_then B0.out b1)
    have R1 := Lib.hid (blk_keep b1 R0.out)
    have p1 := R1.out.cell
    clear b1 R0
    go_wp2_with fail
    refine (S2.out _).mono ?_
    rintro e w2 ⟨rfl, b2⟩
    have B2 := Lib.hid (below_then B1.out b2)
    have p2 := (blk_keep b2 R1.out).cell
    clear b2 p1 R1
    go_wp2
    go_ret
    exact ⟨ret_int H.out.symm, B2.out⟩
  have HE2 : Hid (r = if 40 < n then 5 else if gs.any (fun g => !gapB g) = true then 2 else 0) := by unfold Hid; rw [HE.out, decide_eq_true (show fd < fa by omega)]; rfl
  clear HE
  go_enter Try.func21, Try.ntmps21
  go_wp2_with fail
  refine (S1.out _).mono ?_
  rintro e w1 ⟨rfl, b1⟩
  have B1 := Lib.hid (below_then B0.out b1)
  have R1 := Lib.hid (blk_keep b1 R0.out)
  have p1 := R1.out.cell
  clear b1 R0 B0 S1
  go_wp2_with fail
  refine (S2.out _).mono ?_
  rintro e w2 ⟨rfl, b2⟩
  have B2 := Lib.hid (below_then B1.out b2)
  have R2 := Lib.hid (blk_keep b2 R1.out)
  have p2 := R2.out.cell
  clear b2 p1 R1 B1 S2
  by_cases h4 : 40 < n
  · have H : Hid (r = 5) := by unfold Hid; rw [HE2.out, if_pos h4]
    clear HE2
    go_wp2
    go_ret
    exact ⟨ret_int H.out.symm, B2.out⟩
  have HE3 : Hid (r = if gs.any (fun g => !gapB g) = true then 2 else 0) := by unfold Hid; rw [HE2.out, if_neg h4]
  clear HE2
  go_wp2_with fail
  clear p2
  go_loopw [3] (fun i wr => ∃ k : Nat, k ≤ n ∧ i = .int .i64 k ∧ (gs.take k).any (fun g => !gapB g) = false ∧ Below w2.heap.size w2 wr) (fun i _ => n - (intOf i).toNat)
  case atStart => exact ⟨0, Nat.zero_le _, rfl, rfl, Below.refl _ _⟩
  case round =>
    obtain ⟨k, hk, rfl, hp, hbel⟩ := hrel
    have HP := Lib.hid hp
    have R3 := Lib.hid (blk_keep hbel R2.out)
    have B3 := Lib.hid (below_then B2.out hbel)
    have D3 := Lib.hid hbel
    have p3 := R3.out.cell
    clear hp hbel
    by_cases hlt : k < n
    · have G3 := Lib.hid (HG.out.below B3.out)
      obtain ⟨b, off, hA, hb, c0, c1, c2, c3⟩ := G3.out.at_ hlt
      subst hA
      have HT := Lib.hid (any_take (fun g => !gapB g) gs k (by rw [HL.out]; exact hlt))
      have HX := Lib.hid (fun hq => any_getD (p := fun g => !gapB g) (xs := gs) (k := k) (by rw [HL.out]; exact hlt) hq)
      have HY : Hid (gapB (gs.getD k Gap.zero) = (spanB ((gs.getD k Gap.zero).ll, (gs.getD k Gap.zero).lh) 0 1000 && spanB ((gs.getD k Gap.zero).fl, (gs.getD k Gap.zero).fh) 0 500)) := rfl
      generalize gs.getD k Gap.zero = y at *
      obtain ⟨ll, lh, fl, fh⟩ := y
      simp only at *
      have S1 := Lib.hid (HS.out ll lh 0 1000)
      have S2 := Lib.hid (HS.out fl fh 0 500)
      cases g1 : spanB (ll, lh) 0 1000
      · rw [g1] at S1
        have H : Hid (r = 2) := by unfold Hid; rw [HE3.out, if_pos (HX.out (by rw [HY.out, g1]; rfl))]
        clear HE3 HT HX HY
        go_wp2_with fail
        refine (S1.out _).mono ?_
        rintro e w4 ⟨rfl, b4⟩
        go_wp2
        go_ret
        exact ⟨ret_int H.out.symm, below_then B3.out b4⟩
      rw [g1] at S1 HY
      cases g2 : spanB (fl, fh) 0 500
      · rw [g2] at S2 HY
        have H : Hid (r = 2) := by unfold Hid; rw [HE3.out, if_pos (HX.out (by rw [HY.out]; rfl))]
        clear HE3 HT HX HY
        go_wp2_with fail
        refine (S1.out _).mono ?_
        rintro e w4 ⟨rfl, b4⟩
        have p4 := (blk_keep b4 R3.out).cell
        have e2 := (b4.cell (lt_of_cell c2)).trans c2
        have e3 := (b4.cell (lt_of_cell c3)).trans c3
        have B4 := Lib.hid (below_then B3.out b4)
        clear b4 c0 c1 c2 c3 p3
        go_wp2_with fail
        refine (S2.out _).mono ?_
        rintro e w5 ⟨rfl, b5⟩
        go_wp2
        go_ret
        exact ⟨ret_int H.out.symm, below_then B4.out b5⟩
      rw [g2] at S2 HY
      have HP2 : Hid ((gs.take (k + 1)).any (fun g => !gapB g) = false) := by unfold Hid; rw [HT.out, HP.out, HY.out]; rfl
      clear HT HX HY HP
      go_wp2_with fail
      refine (S1.out _).mono ?_
      rintro e w4 ⟨rfl, b4⟩
      have p4 := (blk_keep b4 R3.out).cell
      have e2 := (b4.cell (lt_of_cell c2)).trans c2
      have e3 := (b4.cell (lt_of_cell c3)).trans c3
      have D4 := Lib.hid (below_then D3.out b4)
      clear b4 c0 c1 c2 c3 p3
      go_wp2_with fail
      refine (S2.out _).mono ?_
      rintro e w5 ⟨rfl, b5⟩
      have D5 := Lib.hid (below_then D4.out b5)
      clear b5 p4 e2 e3 D4 D3
      go_wp2
      go_roundw
      case rel => exact ⟨k + 1, by omega, by go_num, HP2.out, D5.out⟩
      case measure => simp [intOf]; omega
    · obtain rfl : k = n := by omega
      have H : Hid (r = 0) := by
        unfold Hid
        have := HP.out
        rw [← HL.out, List.take_length] at this
        rw [HE3.out, this]; rfl
      go_wp2
      go_ret
      exact ⟨ret_int H.out.symm, B3.out⟩

set_option maxHeartbeats 400000 in
theorem RefAngle_any (far near leaf foot : Int) (w : World) (h1 : 0 ≤ leaf * near ∧ leaf * near ≤ 25000000) (h2 : 0 ≤ foot * far ∧ foot * far ≤ 25000000) :
    Calls Try.prog 96 #[.int .i64 far, .int .i64 near, .int .i64 leaf, .int .i64 foot] w fun e w' => e = .returned (.int .i64 (min (leaf * near) (foot * far))) ∧ w = w' := by
  have HM := Lib.hid (Eq.refl (min (leaf * near) (foot * far)))
  generalize hr : min (leaf * near) (foot * far) = r at *
  by_cases hc : leaf * near ≤ foot * far
  · have H : Hid (r = leaf * near) := by unfold Hid; omega
    clear hr HM
    go_enter Try.func96, Try.ntmps96
    go_wp2
    go_ret
    exact ⟨ret_int H.out.symm, rfl⟩
  · have H : Hid (r = foot * far) := by unfold Hid; omega
    clear hr HM
    go_enter Try.func96, Try.ntmps96
    go_wp2
    go_ret
    exact ⟨ret_int H.out.symm, rfl⟩
set_option maxHeartbeats 400000 in
theorem RefDegrees_any (num den : Int) (w : World) (h0 : 0 ≤ num) (h1 : num ≤ 1000000000) (h2 : 1 ≤ den) (h3 : den ≤ 25000000) :
    Calls Try.prog 65 #[.int .i64 num, .int .i64 den] w fun e w' => e = .returned (.int .i64 (degF num den)) ∧ w = w' := by
  have HD : Hid (degF num den = min 360 (20340 * num / (355 * den))) := rfl
  generalize degF num den = r at *
  have hq : 0 ≤ 20340 * num / (355 * den) ∧ 20340 * num / (355 * den) ≤ 20340 * num := ⟨Int.ediv_nonneg (by omega) (by omega), Int.ediv_le_self _ (by omega)⟩
  have hz : ¬ 355 * den = 0 := by omega
  by_cases hc : 20340 * num / (355 * den) < 360
  · have H : Hid (r = 20340 * num / (355 * den)) := by unfold Hid; rw [HD.out]; omega
    clear HD
    go_enter Try.func65, Try.ntmps65
    go_wp2
    go_ret
    exact ⟨ret_int H.out.symm, rfl⟩
  · have H : Hid (r = 360) := by unfold Hid; rw [HD.out]; omega
    clear HD
    go_enter Try.func65, Try.ntmps65
    go_wp2
    go_ret
    exact ⟨ret_int H.out.symm, rfl⟩
end Go.Proofs.Ytdekickmplkdiaa

/- Walks: the reference's Least, Most, Opens. -/
namespace Go.Proofs.Ytdekickmplkdiaa
open Go.RowKit

theorem fan_gap {W : World} {g b o : Nat} {t : TypeId} {fa fb fc fd sl x0 x1 x2 x3 : Value} (h : Blk W g t #[fa, fb, fc, fd, sl]) (h0 : W.cell? ⟨b, o, none⟩ = some x0) (h1 : W.cell? ⟨b, o + 1, none⟩ = some x1) (h2 : W.cell? ⟨b, o + 2, none⟩ = some x2) (h3 : W.cell? ⟨b, o + 3, none⟩ = some x3) :
    (W.cell? ⟨g, 0, none⟩ = some fa ∧ W.cell? ⟨g, 1, none⟩ = some fb ∧ W.cell? ⟨g, 2, none⟩ = some fc ∧ W.cell? ⟨g, 3, none⟩ = some fd ∧ W.cell? ⟨g, 4, none⟩ = some sl) ∧ (W.cell? ⟨b, o, none⟩ = some x0 ∧ W.cell? ⟨b, o + 1, none⟩ = some x1 ∧ W.cell? ⟨b, o + 2, none⟩ = some x2 ∧ W.cell? ⟨b, o + 3, none⟩ = some x3) := ⟨⟨h.cell 0, h.cell 1, h.cell 2, h.cell 3, h.cell 4⟩, h0, h1, h2, h3⟩

set_option maxRecDepth 100000 in
set_option maxHeartbeats 4000000 in
theorem RefLeast_any (f : Fan) (A : Option Addr) (n c : Nat) (w : World) (hf : FanB f) (h : Gaps w A n f.gs) :
    Calls Try.prog 63 #[.agg (fanA f A n c)] w fun e w' => e = .returned (.tuple #[.int .i64 (openN false f), .int .i64 (partsL false f)]) ∧ Below w.heap.size w w' := by
  have hl := h.len
  have hn : n ≤ 41 := by have := hf.n; omega
  have B0 := Lib.hid (below_self w (.cells (fanA f A n c) 26))
  have R0 := Lib.hid (Blk.new w 26 (fanA f A n c) (g := w.heap.size) rfl)
  have HG := Lib.hid h
  have HK := Lib.hid (fun k (hk : k < n) => ang_parts hf false (g := f.gs.getD k Gap.zero) (by rw [List.getD_eq_getElem?_getD, List.getElem?_eq_getElem (by omega)]; exact List.getElem_mem _))
  have HT := Lib.hid (fun k (hk : k < n) => sum_take (anglesF false f) k (by simp only [anglesF, List.length_map]; omega))
  have HV : Hid (∀ k, k < n → (anglesF false f).getD k 0 = min ((f.gs.getD k Gap.zero).ll * f.d) ((f.gs.getD k Gap.zero).fl * f.b)) := fun k hk => by
    have : k < f.gs.length := by omega
    simp [anglesF, List.getD, this, angF, ris, fal]
  have HO : Hid (openN false f = ((anglesF false f).take n).sum) := by
    unfold Hid openN
    rw [List.take_of_length_le (by simp [anglesF]; omega)]
  have HP : Hid (partsL false f = f.b * f.d) := rfl
  have hpb : f.b * f.d ≤ 25000000 := (parts_bd hf false).2
  have hpa : 1 ≤ f.b * f.d := (parts_bd hf false).1
  have HR := Lib.hid (fun far near leaf foot W => RefAngle_any far near leaf foot W)
  generalize openN false f = r at *
  generalize partsL false f = s at *
  clear h hl hf
  obtain ⟨fa, fb, fc, fd, gs⟩ := f
  simp only [fanA] at *
  generalize anglesF false ⟨fa, fb, fc, fd, gs⟩ = ang at *
  go_enter Try.func63, Try.ntmps63
  go_wp2
  go_loopw [4, 5] (fun s i wr => ∃ k : Nat, k ≤ n ∧ i = .int .i64 k ∧ s = .int .i64 ((ang.take k).sum) ∧ 0 ≤ (ang.take k).sum ∧ (ang.take k).sum ≤ k * 15000000 ∧ Below w.heap.size w wr ∧ Blk wr w.heap.size 26 #[.int .i64 fa, .int .i64 fb, .int .i64 fc, .int .i64 fd, .slice A n c]) (fun _ i _ => n - (intOf i).toNat)
  case atStart => exact ⟨0, Nat.zero_le _, rfl, rfl, by simp, by simp, B0.out, R0.out⟩
  case round =>
    obtain ⟨k, hk, rfl, rfl, hs1, hs2, hbel, hblk⟩ := hrel
    have B1 := Lib.hid hbel
    have R1 := Lib.hid hblk
    have p1 := hblk.cell
    clear hbel hblk B0 R0
    by_cases hlt : k < n
    · obtain ⟨b, off, hA, hb, c0, c1, c2, c3⟩ := (HG.out.below B1.out).at_ hlt
      subst hA
      have hT := HT.out k hlt
      have hV := HV.out k hlt
      obtain ⟨⟨k1, k2⟩, ⟨k3, k4⟩⟩ := HK.out k hlt
      simp only [ris, fal, cond_false] at k1 k2 k3 k4
      have hC := HR.out fb fd (gs.getD k Gap.zero).ll (gs.getD k Gap.zero).fl
      rw [hV] at hT
      generalize gs.getD k Gap.zero = y at *
      obtain ⟨ll, lh, fl, fh⟩ := y
      simp only at *
      have HC := Lib.hid (fun W => hC W ⟨k1, by omega⟩ ⟨k3, by omega⟩)
      have hm : 0 ≤ min (ll * fd) (fl * fb) ∧ min (ll * fd) (fl * fb) ≤ 15000000 := by omega
      generalize min (ll * fd) (fl * fb) = m at *
      have hw : IntKind.i64.wrap ((ang.take k).sum + m) = (ang.take (k + 1)).sum := by rw [hT]; exact IntWalk.i64_in _ (by omega)
      have hs3 : 0 ≤ (ang.take (k + 1)).sum ∧ (ang.take (k + 1)).sum ≤ ((k + 1 : Nat) : Int) * 15000000 := by rw [hT]; omega
      have HS3 := Lib.hid hs3
      clear hT hV hC k1 k2 k3 k4 hm hs3 HR
      generalize hg2 : (ang.take (k + 1)).sum = s2 at *
      have HG2 := Lib.hid hg2
      clear hg2
      generalize (ang.take k).sum = s1 at *
      have F1 := Lib.hid (fan_gap R1.out c0 c1 c2 c3)
      have p4 := F1.out.1.2.2.2.2
      clear p1
      go_wp2_with fail
      go_region_held3 (fun W => (W.cell? ⟨w.heap.size, 0, none⟩ = some (.int .i64 fa) ∧ W.cell? ⟨w.heap.size, 1, none⟩ = some (.int .i64 fb) ∧ W.cell? ⟨w.heap.size, 2, none⟩ = some (.int .i64 fc) ∧ W.cell? ⟨w.heap.size, 3, none⟩ = some (.int .i64 fd) ∧ W.cell? ⟨w.heap.size, 4, none⟩ = some (.slice (some ⟨b, off, none⟩) n c)) ∧ (W.cell? ⟨b, off + k * 4, none⟩ = some (.int .i64 ll) ∧ W.cell? ⟨b, off + k * 4 + 1, none⟩ = some (.int .i64 lh) ∧ W.cell? ⟨b, off + k * 4 + 2, none⟩ = some (.int .i64 fl) ∧ W.cell? ⟨b, off + k * 4 + 3, none⟩ = some (.int .i64 fh)))
        (first | with_reducible exact F1.out | exact F1.out)
        (first | (go_at_call 96; refine (HC.out _).mono ?_; rintro e W1 ⟨rfl, rfl⟩))
      all_goals
        go_wp2
        go_roundw
        case rel => exact ⟨k + 1, by omega, by go_num, by rw [HG2.out], by rw [HG2.out]; exact HS3.out.1, by rw [HG2.out]; exact HS3.out.2, B1.out.drew, R1.out⟩
        case measure => simp [intOf]; omega
    · obtain rfl : k = n := by omega
      go_wp2_with fail
      go_quiet (fail)
      all_goals
        go_wp2
        go_ret2
        exact ⟨by rw [HO.out, HP.out]; first | done | rfl, below_drewN B1.out _⟩

set_option maxRecDepth 100000 in
set_option maxHeartbeats 4000000 in
theorem RefMost_any (f : Fan) (A : Option Addr) (n c : Nat) (w : World) (hf : FanB f) (h : Gaps w A n f.gs) :
    Calls Try.prog 64 #[.agg (fanA f A n c)] w fun e w' => e = .returned (.tuple #[.int .i64 (openN true f), .int .i64 (partsL true f)]) ∧ Below w.heap.size w w' := by
  have hl := h.len
  have hn : n ≤ 41 := by have := hf.n; omega
  have B0 := Lib.hid (below_self w (.cells (fanA f A n c) 26))
  have R0 := Lib.hid (Blk.new w 26 (fanA f A n c) (g := w.heap.size) rfl)
  have HG := Lib.hid h
  have HK := Lib.hid (fun k (hk : k < n) => ang_parts hf true (g := f.gs.getD k Gap.zero) (by rw [List.getD_eq_getElem?_getD, List.getElem?_eq_getElem (by omega)]; exact List.getElem_mem _))
  have HT := Lib.hid (fun k (hk : k < n) => sum_take (anglesF true f) k (by simp only [anglesF, List.length_map]; omega))
  have HV : Hid (∀ k, k < n → (anglesF true f).getD k 0 = min ((f.gs.getD k Gap.zero).lh * f.c) ((f.gs.getD k Gap.zero).fh * f.a)) := fun k hk => by
    have : k < f.gs.length := by omega
    simp [anglesF, List.getD, this, angF, ris, fal]
  have HO : Hid (openN true f = ((anglesF true f).take n).sum) := by
    unfold Hid openN
    rw [List.take_of_length_le (by simp [anglesF]; omega)]
  have HP : Hid (partsL true f = f.a * f.c) := rfl
  have hpb : f.a * f.c ≤ 25000000 := (parts_bd hf true).2
  have hpa : 1 ≤ f.a * f.c := (parts_bd hf true).1
  have HR := Lib.hid (fun far near leaf foot W => RefAngle_any far near leaf foot W)
  generalize openN true f = r at *
  generalize partsL true f = s at *
  clear h hl hf
  obtain ⟨fa, fb, fc, fd, gs⟩ := f
  simp only [fanA] at *
  generalize anglesF true ⟨fa, fb, fc, fd, gs⟩ = ang at *
  go_enter Try.func64, Try.ntmps64
  go_wp2
  go_loopw [4, 5] (fun s i wr => ∃ k : Nat, k ≤ n ∧ i = .int .i64 k ∧ s = .int .i64 ((ang.take k).sum) ∧ 0 ≤ (ang.take k).sum ∧ (ang.take k).sum ≤ k * 15000000 ∧ Below w.heap.size w wr ∧ Blk wr w.heap.size 26 #[.int .i64 fa, .int .i64 fb, .int .i64 fc, .int .i64 fd, .slice A n c]) (fun _ i _ => n - (intOf i).toNat)
  case atStart => exact ⟨0, Nat.zero_le _, rfl, rfl, by simp, by simp, B0.out, R0.out⟩
  case round =>
    obtain ⟨k, hk, rfl, rfl, hs1, hs2, hbel, hblk⟩ := hrel
    have B1 := Lib.hid hbel
    have R1 := Lib.hid hblk
    have p1 := hblk.cell
    clear hbel hblk B0 R0
    by_cases hlt : k < n
    · obtain ⟨b, off, hA, hb, c0, c1, c2, c3⟩ := (HG.out.below B1.out).at_ hlt
      subst hA
      have hT := HT.out k hlt
      have hV := HV.out k hlt
      obtain ⟨⟨k1, k2⟩, ⟨k3, k4⟩⟩ := HK.out k hlt
      simp only [ris, fal, cond_true] at k1 k2 k3 k4
      have hC := HR.out fa fc (gs.getD k Gap.zero).lh (gs.getD k Gap.zero).fh
      rw [hV] at hT
      generalize gs.getD k Gap.zero = y at *
      obtain ⟨ll, lh, fl, fh⟩ := y
      simp only at *
      have HC := Lib.hid (fun W => hC W ⟨k1, by omega⟩ ⟨k3, by omega⟩)
      have hm : 0 ≤ min (lh * fc) (fh * fa) ∧ min (lh * fc) (fh * fa) ≤ 15000000 := by omega
      generalize min (lh * fc) (fh * fa) = m at *
      have hw : IntKind.i64.wrap ((ang.take k).sum + m) = (ang.take (k + 1)).sum := by rw [hT]; exact IntWalk.i64_in _ (by omega)
      have hs3 : 0 ≤ (ang.take (k + 1)).sum ∧ (ang.take (k + 1)).sum ≤ ((k + 1 : Nat) : Int) * 15000000 := by rw [hT]; omega
      have HS3 := Lib.hid hs3
      clear hT hV hC k1 k2 k3 k4 hm hs3 HR
      generalize hg2 : (ang.take (k + 1)).sum = s2 at *
      have HG2 := Lib.hid hg2
      clear hg2
      generalize (ang.take k).sum = s1 at *
      have F1 := Lib.hid (fan_gap R1.out c0 c1 c2 c3)
      have p4 := F1.out.1.2.2.2.2
      clear p1
      go_wp2_with fail
      go_region_held3 (fun W => (W.cell? ⟨w.heap.size, 0, none⟩ = some (.int .i64 fa) ∧ W.cell? ⟨w.heap.size, 1, none⟩ = some (.int .i64 fb) ∧ W.cell? ⟨w.heap.size, 2, none⟩ = some (.int .i64 fc) ∧ W.cell? ⟨w.heap.size, 3, none⟩ = some (.int .i64 fd) ∧ W.cell? ⟨w.heap.size, 4, none⟩ = some (.slice (some ⟨b, off, none⟩) n c)) ∧ (W.cell? ⟨b, off + k * 4, none⟩ = some (.int .i64 ll) ∧ W.cell? ⟨b, off + k * 4 + 1, none⟩ = some (.int .i64 lh) ∧ W.cell? ⟨b, off + k * 4 + 2, none⟩ = some (.int .i64 fl) ∧ W.cell? ⟨b, off + k * 4 + 3, none⟩ = some (.int .i64 fh)))
        (first | with_reducible exact F1.out | exact F1.out)
        (first | (go_at_call 96; refine (HC.out _).mono ?_; rintro e W1 ⟨rfl, rfl⟩))
      all_goals
        go_wp2
        go_roundw
        case rel => exact ⟨k + 1, by omega, by go_num, by rw [HG2.out], by rw [HG2.out]; exact HS3.out.1, by rw [HG2.out]; exact HS3.out.2, B1.out.drew, R1.out⟩
        case measure => simp [intOf]; omega
    · obtain rfl : k = n := by omega
      go_wp2_with fail
      go_quiet (fail)
      all_goals
        go_wp2
        go_ret2
        exact ⟨by rw [HO.out, HP.out]; first | done | rfl, below_drewN B1.out _⟩
end Go.Proofs.Ytdekickmplkdiaa

/- Walks: the reference's Opens, Copy, Same. -/
namespace Go.Proofs.Ytdekickmplkdiaa
open Go.RowKit

set_option maxRecDepth 100000 in
set_option maxHeartbeats 1000000 in
theorem RefOpens_any (f : Fan) (A : Option Addr) (n c : Nat) (w : World) (hf : FanB f) (h : Gaps w A n f.gs) :
    Calls Try.prog 23 #[.agg (fanA f A n c)] w fun e w' => e = .returned (.agg #[.int .i64 (degL false f), .int .i64 (degL true f)]) ∧ Below w.heap.size w w' := by
  have E0 := Lib.hid (Env2.start w 26 23 (fanA f A n c) #[.int .i64 0, .int .i64 0])
  have HL := Lib.hid (fun W (hb : Below w.heap.size w W) => RefLeast_any f A n c W hf (h.below hb))
  have HM := Lib.hid (fun W (hb : Below w.heap.size w W) => RefMost_any f A n c W hf (h.below hb))
  have HD1 := Lib.hid (fun W => RefDegrees_any (openN false f) (partsL false f) W (open_bd hf false).1 (by have := (open_bd hf false).2; omega) (parts_bd hf false).1 (parts_bd hf false).2)
  have HD2 := Lib.hid (fun W => RefDegrees_any (openN true f) (partsL true f) W (open_bd hf true).1 (by have := (open_bd hf true).2; omega) (parts_bd hf true).1 (parts_bd hf true).2)
  have HO1 : Hid (degL false f = degF (openN false f) (partsL false f)) := rfl
  have HO2 : Hid (degL true f = degF (openN true f) (partsL true f)) := rfl
  rw [← HO1.out] at HD1
  rw [← HO2.out] at HD2
  clear hf h HO1 HO2
  generalize degL false f = z1 at *
  generalize degL true f = z2 at *
  generalize openN false f = r1 at *
  generalize openN true f = r2 at *
  generalize partsL false f = s1 at *
  generalize partsL true f = s2 at *
  obtain ⟨fa, fb, fc, fd, gs⟩ := f
  simp only [fanA] at *
  go_enter Try.func23, Try.ntmps23
  go_wp2_with fail
  refine (HL.out _ E0.out.bel).mono ?_
  rintro e W1 ⟨rfl, hb1⟩
  have E1 := Lib.hid (E0.out.below hb1)
  have p1 := E1.out.p.cell
  clear hb1 HL E0
  go_wp2_with fail
  refine (HM.out _ E1.out.bel).mono ?_
  rintro e W2 ⟨rfl, hb2⟩
  have E2 := Lib.hid (E1.out.below hb2)
  have q2 := E2.out.q
  have Q2 := Lib.hid q2
  clear hb2 HM E1 p1 q2
  go_wp2_with fail
  refine (HD1.out _).mono ?_
  rintro e W3 ⟨rfl, rfl⟩
  go_wp2_with fail
  refine (HD2.out _).mono ?_
  rintro e W3 ⟨rfl, rfl⟩
  go_wp2_with (refine wpList_store_row rfl 23 _ _ rfl (w.heap.size + 1) _ rfl rfl 23 _ Q2.out (by kernel_rfl) rfl (by kernel_rfl) ?_)
  exact bodyPost_ret (results_c rfl _ _ _ _ _ _ _ rfl (Q2.out.setRow _) Try.underlying23 (by kernel_rfl)) rfl ⟨rfl, below_setR E2.out.bel (Nat.le_succ _) _⟩

theorem own_blk {w : World} {base : Nat} {e : TypeId} {size n cap g : Nat} {xs : List Value} (h : w.ownsRow base e size (.slice (some ⟨g, 0, none⟩) n cap) n xs) : ∃ cs : Array Value, Blk w g e cs ∧ n ≤ cap ∧ cs.size = cap * size ∧ cs.toList.take xs.length = xs ∧ xs.length = n * size ∧ base ≤ g := by
  obtain ⟨hl, ⟨hv, _⟩ | ⟨g', cap', cur, hv, hbase, hb, h1, h2, h3, h4⟩⟩ := h
  · simp at hv
  · simp only [Value.slice.injEq, Option.some.injEq, Addr.mk.injEq, and_true, true_and] at hv
    obtain ⟨rfl, rfl⟩ := hv
    exact ⟨cur, hb, h1, h3, by rw [hl]; exact h4, hl, hbase⟩
theorem cs_at {cs : Array Value} {xs : List Value} (h : cs.toList.take xs.length = xs) (j : Nat) (hj : j < xs.length) : cs[j]? = xs[j]? := by
  rw [← h, List.getElem?_take_of_lt hj]
  simp
/-- The slice reads as xs, in a block from base on. -/
structure NR (base : Nat) (w : World) (size : Nat) (A : Option Addr) (n : Nat) (xs : List Value) : Prop where
  r : Reads w size A n xs
  far : 0 < n → ∀ b o, A = some ⟨b, o, none⟩ → base ≤ b
theorem NR.below {base : Nat} {w w' : World} {size n : Nat} {A : Option Addr} {xs : List Value} (h : NR base w size A n xs) (hb : Below w.heap.size w w') : NR base w' size A n xs := ⟨h.r.below hb, h.far⟩
theorem NR.alloc {base : Nat} {w : World} {size n : Nat} {A : Option Addr} {xs : List Value} (h : NR base w size A n xs) (o : Obj) : NR base (w.alloc o) size A n xs := h.below (below_self w o)
theorem NR.setCell {base : Nat} {w : World} {size n : Nat} {A : Option Addr} {xs : List Value} (h : NR base w size A n xs) {p : Addr} (hp : p.block < base) (u : Value) : NR base (w.setCell p u) size A n xs := by
  refine ⟨⟨h.r.1, fun hn => ?_⟩, h.far⟩
  obtain ⟨b, o, e, hb, hc⟩ := h.r.2 hn
  have hbb := h.far hn b o e
  exact ⟨b, o, e, by simpa using hb, fun j v hv => (World.cell?_setCell_other _ _ _ _ (fun e => by subst e; simp at hp; omega)).trans (hc j v hv)⟩
theorem reads_of_own {w : World} {base : Nat} {e : TypeId} {size n cap : Nat} {A : Option Addr} {xs : List Value} (h : w.ownsRow base e size (.slice A n cap) n xs) : NR base w size A n xs := by
  refine ⟨⟨h.1, fun hn => ?_⟩, fun hn b o hA => ?_⟩
  · obtain ⟨g, cap', hv⟩ := own_form h hn
    simp only [Value.slice.injEq, true_and] at hv
    obtain ⟨rfl, _⟩ := hv
    obtain ⟨cs, hB, h1, h2, h3, h4, h5⟩ := own_blk h
    refine ⟨g, 0, rfl, hB.lt, fun j u hu => ?_⟩
    have hj : j < xs.length := by
      rcases Nat.lt_or_ge j xs.length with hl | hl
      · exact hl
      · rw [List.getElem?_eq_none hl] at hu; cases hu
    rw [Nat.zero_add, hB.cell j, cs_at h3 j hj, hu]
  · obtain ⟨g, cap', hv⟩ := own_form h hn
    simp only [Value.slice.injEq, true_and] at hv
    obtain ⟨rfl, _⟩ := hv
    obtain ⟨cs, hB, h1, h2, h3, h4, h5⟩ := own_blk h
    simp only [Option.some.injEq, Addr.mk.injEq, and_true] at hA
    omega
theorem grown_none {w w' : World} (h : w.grownBy w' none) : Below w.heap.size w w' := ⟨h.os, h.tape, h.output, h.size, fun k hk => h.block k hk (by simp)⟩
theorem run_append_copy {P : Program} (w : World) (t ty e : TypeId) (i : TypeInfo) (z : Value) (size bytes : Nat) (ht : P.underlying t = some (.slice e)) (hi : P.info? e = some i) (hz : i.zero = some z) (hs : i.size = size) (hby : i.bytes = bytes) (hzs : z.cells.size = size) (h0 : 0 < size)
    (g : Nat) (A : Option Addr) (n c : Nat) (xs : List Value) (hr : Reads w size A n xs) (hn : n ≤ maxLen) (hb : n * bytes ≤ 140737488355328) :
    ∃ A' c' w', (Builtin.append_ #[t, t] ty #[.slice (some ⟨g, 0, none⟩) 0 0, .slice A n c]).run P w = .ok (.slice A' n c') w' ∧ NR w.heap.size w' size A' n xs ∧ Below w.heap.size w w' := by
  rcases Nat.eq_zero_or_pos n with rfl | hpos
  · have hx : xs = [] := List.eq_nil_of_length_eq_zero (by have := hr.1; omega)
    subst hx
    refine ⟨some ⟨g, 0, none⟩, 0, w, ?_, ⟨⟨by simp, fun h => absurd h (by omega)⟩, fun h => absurd h (by omega)⟩, Below.refl _ _⟩
    cases A with
    | none => simp [Builtin.append_, run_underlying ht, sizeOf, typeInfo, hi, Builtin.lenOf, Builtin.firstCells, storeCells]
    | some ad => simp [Builtin.append_, run_underlying ht, sizeOf, typeInfo, hi, Builtin.lenOf, Builtin.firstCells, storeCells, loadCells, loadCellsFrom]
  · obtain ⟨b, o, rfl, hlt, hc⟩ := hr.2 hpos
    obtain ⟨v', w', hrun, hown, hgr⟩ := run_append_arg_grows (P := P) w t ty e i z size bytes ht hi hz hs hby hzs h0 ⟨g, 0, none⟩ 0 0 [] (by simp) (by simp) ⟨b, o, none⟩ n c xs hr.1 (fun j u hu => by rw [addr_add]; exact hc j u hu) (by omega) (by omega) (by rw [Nat.zero_add]; exact hb)
    simp only [Nat.zero_add, List.nil_append] at hown
    obtain ⟨g', cap', rfl⟩ := own_form hown hpos
    exact ⟨_, _, w', hrun, reads_of_own hown, grown_none hgr⟩
/-- The same as one step of a region that draws. -/
theorem step_append_copy {P : Program} {ops : Array Oper} {o : Oper} {a : Act} {w : World} {K : Act → World → Prop} {Q : Exit → Act → World → Prop} {E : Prop}
    (hg : o.guard = none) (s x : Operand) (t : TypeId) (hop : o.op = Op.call { callee := Callee.builtin Builtin.append, args := #[s, x], argTypes := #[t, t] })
    (e : TypeId) (i : TypeInfo) (z : Value) (size bytes : Nat) (ht : P.underlying t = some (.slice e)) (hi : P.info? e = some i) (hz : i.zero = some z) (hsz : i.size = size) (hby : i.bytes = bytes) (hzs : z.cells.size = size) (h0 : 0 < size)
    (g : Nat) (hs : a.eval s = .slice (some ⟨g, 0, none⟩) 0 0) (A : Option Addr) (n c : Nat) (hx : a.eval x = .slice A n c) (xs : List Value) (hr : Reads w size A n xs) (hn : n ≤ maxLen) (hb : n * bytes ≤ 140737488355328)
    (hK : ∀ A' c' w', NR w.heap.size w' size A' n xs → Below w.heap.size w w' → K (a.put o.dst (.slice A' n c')) w') :
    if Region.wanted o (yielded ops a.tmps) = true then Oper.wp P o a w K Q else E := by
  have hw : Region.wanted o (yielded ops a.tmps) = true := by simp [Region.wanted, hg]
  rw [if_pos hw]
  obtain ⟨A', c', w', hrun, h1, h2⟩ := run_append_copy (P := P) w t o.type e i z size bytes ht hi hz hsz hby hzs h0 g A n c xs hr hn hb
  unfold Oper.wp
  simp [execOp, hop, resolve, invoke, builtin, hs, hx, hrun, Result.andThen]
  exact hK A' c' w' h1 h2
theorem NR.more {b b' : Nat} {w : World} {size n : Nat} {A : Option Addr} {xs : List Value} (h : NR b w size A n xs) (hb : b' < b) : NR (b' + 1) w size A n xs := ⟨h.r, fun hn g o e => Nat.le_trans hb (h.far hn g o e)⟩

theorem fan_row {w W : World} {t1 t : TypeId} {c1 : Array Value} {z0 z1 z2 z3 z4 : Value} (h : Env2 w W t1 t c1 #[z0, z1, z2, z3, z4]) : (W.cell? ⟨w.heap.size + 1, 0, none⟩ = some z0 ∧ W.cell? ⟨w.heap.size + 1, 1, none⟩ = some z1 ∧ W.cell? ⟨w.heap.size + 1, 2, none⟩ = some z2 ∧ W.cell? ⟨w.heap.size + 1, 3, none⟩ = some z3 ∧ W.cell? ⟨w.heap.size + 1, 4, none⟩ = some z4) ∧
    W.frozen? ⟨w.heap.size + 1, 0, none⟩ = false ∧ W.frozen? ⟨w.heap.size + 1, 1, none⟩ = false ∧ W.frozen? ⟨w.heap.size + 1, 2, none⟩ = false ∧ W.frozen? ⟨w.heap.size + 1, 3, none⟩ = false ∧ W.frozen? ⟨w.heap.size + 1, 4, none⟩ = false :=
  ⟨⟨h.q.cell 0, h.q.cell 1, h.q.cell 2, h.q.cell 3, h.q.cell 4⟩, h.q.frozen 0, h.q.frozen 1, h.q.frozen 2, h.q.frozen 3, h.q.frozen 4⟩
theorem fan_set {w W : World} {t : TypeId} {fa fb fc fd sl : Value} {c2 : Array Value} (h : Env2 w W 26 t #[fa, fb, fc, fd, sl] c2) (u0 u1 u2 u3 u4 : Value) :
    (((((W.setCell ⟨w.heap.size + 1, 0, none⟩ u0).setCell ⟨w.heap.size + 1, 1, none⟩ u1).setCell ⟨w.heap.size + 1, 2, none⟩ u2).setCell ⟨w.heap.size + 1, 3, none⟩ u3).setCell ⟨w.heap.size + 1, 4, none⟩ u4).cell? ⟨w.heap.size, 0, none⟩ = some fa ∧ (((((W.setCell ⟨w.heap.size + 1, 0, none⟩ u0).setCell ⟨w.heap.size + 1, 1, none⟩ u1).setCell ⟨w.heap.size + 1, 2, none⟩ u2).setCell ⟨w.heap.size + 1, 3, none⟩ u3).setCell ⟨w.heap.size + 1, 4, none⟩ u4).cell? ⟨w.heap.size, 1, none⟩ = some fb ∧ (((((W.setCell ⟨w.heap.size + 1, 0, none⟩ u0).setCell ⟨w.heap.size + 1, 1, none⟩ u1).setCell ⟨w.heap.size + 1, 2, none⟩ u2).setCell ⟨w.heap.size + 1, 3, none⟩ u3).setCell ⟨w.heap.size + 1, 4, none⟩ u4).cell? ⟨w.heap.size, 2, none⟩ = some fc ∧ (((((W.setCell ⟨w.heap.size + 1, 0, none⟩ u0).setCell ⟨w.heap.size + 1, 1, none⟩ u1).setCell ⟨w.heap.size + 1, 2, none⟩ u2).setCell ⟨w.heap.size + 1, 3, none⟩ u3).setCell ⟨w.heap.size + 1, 4, none⟩ u4).cell? ⟨w.heap.size, 3, none⟩ = some fd ∧ (((((W.setCell ⟨w.heap.size + 1, 0, none⟩ u0).setCell ⟨w.heap.size + 1, 1, none⟩ u1).setCell ⟨w.heap.size + 1, 2, none⟩ u2).setCell ⟨w.heap.size + 1, 3, none⟩ u3).setCell ⟨w.heap.size + 1, 4, none⟩ u4).cell? ⟨w.heap.size, 4, none⟩ = some sl := by
  have hb := ((((h.p.far (p := ⟨w.heap.size + 1, 0, none⟩) (by simp) u0).far (p := ⟨w.heap.size + 1, 1, none⟩) (by simp) u1).far (p := ⟨w.heap.size + 1, 2, none⟩) (by simp) u2).far (p := ⟨w.heap.size + 1, 3, none⟩) (by simp) u3).far (p := ⟨w.heap.size + 1, 4, none⟩) (by simp) u4
  exact fan_get hb
theorem NR.set5 {g b : Nat} {W : World} {size n : Nat} {A : Option Addr} {xs : List Value} (h : NR b W size A n xs) (hb : g < b) (u0 u1 u2 u3 u4 : Value) : Reads (((((W.setCell ⟨g, 0, none⟩ u0).setCell ⟨g, 1, none⟩ u1).setCell ⟨g, 2, none⟩ u2).setCell ⟨g, 3, none⟩ u3).setCell ⟨g, 4, none⟩ u4) size A n xs :=
  (((((h.setCell (p := ⟨g, 0, none⟩) hb u0).setCell (p := ⟨g, 1, none⟩) hb u1).setCell (p := ⟨g, 2, none⟩) hb u2).setCell (p := ⟨g, 3, none⟩) hb u3).setCell (p := ⟨g, 4, none⟩) hb u4).r
theorem copy_end {w W : World} {f : Fan} {n : Nat} {a1 : Option Addr} {a2 : Nat} {c1 c2 : Array Value} {t1 t2 : TypeId} (h : Env2 w W t1 t2 c1 c2) (qa : NR (w.heap.size + 1 + 1) W 4 a1 n (flatG f.gs)) :
    FanRes w f n (.returned (.agg (fanA f a1 n a2))) (((((W.setCell ⟨w.heap.size + 1, 0, none⟩ (.int .i64 f.a)).setCell ⟨w.heap.size + 1, 1, none⟩ (.int .i64 f.b)).setCell ⟨w.heap.size + 1, 2, none⟩ (.int .i64 f.c)).setCell ⟨w.heap.size + 1, 3, none⟩ (.int .i64 f.d)).setCell ⟨w.heap.size + 1, 4, none⟩ (.slice a1 n a2)) :=
  ⟨a1, a2, rfl, qa.set5 (Nat.lt_succ_self _) _ _ _ _ _,
    ((((h.bel.setCell (p := ⟨w.heap.size + 1, 0, none⟩) (by simp) _).setCell (p := ⟨w.heap.size + 1, 1, none⟩) (by simp) _).setCell (p := ⟨w.heap.size + 1, 2, none⟩) (by simp) _).setCell (p := ⟨w.heap.size + 1, 3, none⟩) (by simp) _).setCell (p := ⟨w.heap.size + 1, 4, none⟩) (by simp) _⟩
section
attribute [local go_sem ↓] Go.wp_at_zero Go.wp_at_succ
set_option maxRecDepth 100000 in
set_option maxHeartbeats 8000000 in
theorem RefCopy_any (f : Fan) (A : Option Addr) (n c : Nat) (w : World) (h : Gaps w A n f.gs) (hn : n ≤ 1000) :
    Calls Try.prog 18 #[.agg (fanA f A n c)] w (FanRes w f n) := by
  obtain ⟨i0, hi, hz0, hz1, hz2⟩ := info_parts Try.infoGap
  have HW := Lib.hid (Env2.start w 26 26 (fanA f A n c) #[.int .i64 0, .int .i64 0, .int .i64 0, .int .i64 0, .slice none 0 0]).drewd
  have HG := Lib.hid h
  have HE := Lib.hid (fun (W : World) (a1 : Option Addr) (a2 : Nat) (c1 c2 : Array Value) (hE : Env2 w W 26 26 c1 c2) hq => copy_end (f := f) (n := n) (a1 := a1) (a2 := a2) hE hq)
  clear h
  generalize FanRes w f n = RR at *
  obtain ⟨fa, fb, fc, fd, gs⟩ := f
  simp only [fanA] at *
  go_enter Try.func18, Try.ntmps18
  go_wp2_with fail
  go_region_held3 (fun W => W.cell? ⟨w.heap.size, 0, none⟩ = some (.int .i64 fa) ∧ W.cell? ⟨w.heap.size, 1, none⟩ = some (.int .i64 fb) ∧ W.cell? ⟨w.heap.size, 2, none⟩ = some (.int .i64 fc) ∧ W.cell? ⟨w.heap.size, 3, none⟩ = some (.int .i64 fd) ∧ W.cell? ⟨w.heap.size, 4, none⟩ = some (.slice A n c))
    (first | with_reducible exact fan_set HW.out _ _ _ _ _ | exact fan_get HW.out.p | exact fan_get (HW.out.alloc _).p)
    (first
    | (refine step_append_copy rfl (.tmp 7) (.tmp 9) 24 rfl 42 i0 _ 4 32 Try.underlying24 hi hz0 hz1 hz2 rfl (by decide) _ (by rfl) A n c (by rfl) _ (by first | exact HG.out.below HW.out.bel | exact HG.out.below (HW.out.alloc _).bel) (by have := hn; unfold maxLen; omega) (by have := hn; omega) ?_; intro a1 a2 x1 h1 h2; have E1 := Lib.hid (Env2.below (by first | exact HW.out | exact (HW.out.alloc _)) h2); have Qa := Lib.hid (NR.more h1 (by first | exact HW.out.q.lt | exact (HW.out.alloc _).q.lt)); clear HW h1 h2; have HW := E1; clear E1; obtain ⟨⟨z0, z1, z2, z3, z4⟩, f0, f1, f2, f3, f4⟩ := fan_row HW.out))
  all_goals
    clear z0 z1 z2 z3 z4 f0 f1 f2 f3 f4
    go_wp2
    exact bodyPost_ret (results_c rfl _ _ _ _ _ _ _ rfl (((((HW.out.q.set_ 0 _).set_ 1 _).set_ 2 _).set_ 3 _).set_ 4 _) Try.underlying26 (by kernel_rfl)) rfl (HE.out _ _ _ _ _ HW.out Qa.out)
end

theorem Env2.drewdN {w W : World} {t1 t2 : TypeId} {c1 c2 : Array Value} (h : Env2 w W t1 t2 c1 c2) (k : Nat) : Env2 w (W.drewN k) t1 t2 c1 c2 := ⟨h.p, h.q, below_drewN h.bel k⟩
set_option maxRecDepth 100000 in
set_option maxHeartbeats 4000000 in
theorem RefSame_any (f : Fan) (A A' : Option Addr) (n c c' : Nat) (w : World) (h : Gaps w A n f.gs) (h' : Gaps w A' n f.gs) (hn : n ≤ maxLen) :
    Calls Try.prog 22 #[.agg (fanA f A n c), .agg (fanA f A' n c')] w fun e w' => e = .returned (.bool true) ∧ Below w.heap.size w w' := by
  have E0 := Lib.hid (Env2.start w 26 26 (fanA f A n c) (fanA f A' n c'))
  have HG := Lib.hid h
  have HG' := Lib.hid h'
  unfold maxLen at hn
  clear h h'
  obtain ⟨fa, fb, fc, fd, gs⟩ := f
  simp only [fanA] at *
  have hq1 : (fa != fa) = false := by simp
  have hq2 : (fb != fb) = false := by simp
  have hq3 : (fc != fc) = false := by simp
  have hq4 : (fd != fd) = false := by simp
  have hq5 : ((n : Int) != (n : Int)) = false := by simp
  go_enter Try.func22, Try.ntmps22
  go_wp2_with fail
  clear hq1 hq2 hq3 hq4 hq5
  go_loopw [5] (fun i wr => ∃ k : Nat, k ≤ n ∧ i = .int .i64 k ∧ Env2 w wr 26 26 #[.int .i64 fa, .int .i64 fb, .int .i64 fc, .int .i64 fd, .slice A n c] #[.int .i64 fa, .int .i64 fb, .int .i64 fc, .int .i64 fd, .slice A' n c']) (fun i _ => n - (intOf i).toNat)
  case atStart => exact ⟨0, Nat.zero_le _, rfl, E0.out⟩
  case round =>
    obtain ⟨k, hk, rfl, hE⟩ := hrel
    have E1 := Lib.hid hE
    have v1 := hE.p.cell
    have v2 := hE.q.cell
    have G1 := HG.out.below hE.bel
    have G2 := HG'.out.below hE.bel
    clear hE
    by_cases hlt : k < n
    · obtain ⟨b, off, hA, hb, q0, q1, q2, q3⟩ := G1.at_ hlt
      obtain ⟨b', off', hA', hb', p0, p1, p2, p3⟩ := G2.at_ hlt
      subst hA hA'
      clear G1 G2
      generalize gs.getD k Gap.zero = x at *
      obtain ⟨x0, x1, x2, x3⟩ := x
      simp only at *
      go_wp2_with fail
      go_quiet (fail)
      all_goals
        go_wp2
        go_roundw
        case rel => exact ⟨k + 1, by omega, by go_num, E1.out.drewdN _⟩
        case measure => simp [intOf]; omega
    · obtain rfl : k = n := by omega
      clear G1 G2
      go_wp2
      go_ret
      exact ⟨rfl, E1.out.bel⟩
end Go.Proofs.Ytdekickmplkdiaa
