/- Walks: the reference's Check. -/
import Derived.Test.YtiflhimmieflpaaW39
import Derived.Lib.QuietBelow
import Derived.BigQuiet
namespace Go.Proofs.Ytiflhimmieflpaa
open Go.RowKit Go.Maps Go.Sort

def colBad (s t : Int × Int) : Bool := !spanB s 0 300 || !spanB t 0 300 || decide (t.1 < s.2)
def colsBad (bot top : List (Int × Int)) (k : Nat) : Bool := (List.range k).any fun i => colBad (bot.getD i (0, 0)) (top.getD i (0, 0))
theorem colsBad_succ (bot top : List (Int × Int)) (k : Nat) : colsBad bot top (k + 1) = (colsBad bot top k || colBad (bot.getD k (0, 0)) (top.getD k (0, 0))) := by simp [colsBad, List.range_succ]
theorem colsBad_yes {bot top : List (Int × Int)} {k n : Nat} (hk : k < n) (h : colBad (bot.getD k (0, 0)) (top.getD k (0, 0)) = true) : colsBad bot top n = true := by
  unfold colsBad; rw [List.any_eq_true]; exact ⟨k, List.mem_range.2 hk, h⟩
def crBad (n : Int) (k : Crack) : Bool := !spanB (k.cl, k.ch) 0 (n - 1) || decide (4 < k.ch - k.cl) || !spanB (k.fl, k.fh) 0 300 || !spanB (k.tl, k.th) 0 300 || decide (k.tl < k.fh)
def cracksBad (n : Int) (cr : List Crack) (k : Nat) : Bool := (List.range k).any fun i => crBad n (cr.getD i Crack.zero)
theorem cracksBad_succ (n : Int) (cr : List Crack) (k : Nat) : cracksBad n cr (k + 1) = (cracksBad n cr k || crBad n (cr.getD k Crack.zero)) := by simp [cracksBad, List.range_succ]
theorem cracksBad_yes {n : Int} {cr : List Crack} {k m : Nat} (hk : k < m) (h : crBad n (cr.getD k Crack.zero) = true) : cracksBad n cr m = true := by
  unfold cracksBad; rw [List.any_eq_true]; exact ⟨k, List.mem_range.2 hk, h⟩
def refErr (n n' m : Nat) (bend : Int) (bot top : List (Int × Int)) (cr : List Crack) : Int :=
  if n ≠ n' then 4 else if inB n 1 30 = false then 4 else if 4 < m then 5 else if colsBad bot top n = true then 2 else if inB bend 0 300 = false then 2
  else if cracksBad n cr m = true then 2 else if (refCurveL bot bend).length = 0 then 9 else if (refCurveL top bend).length = 0 then 9 else 0

theorem spanB_in {s : Int × Int} {a b : Int} (h : spanB s a b = true) : a ≤ s.1 ∧ s.1 ≤ s.2 ∧ s.2 ≤ b := by
  simp only [spanB, inB, Bool.and_eq_true, decide_eq_true_eq] at h
  omega
theorem colsOk_in {bot top : List (Int × Int)} {n : Nat} (h : colsBad bot top n = false) (hb : bot.length = n) (ht : top.length = n) : (∀ s ∈ bot, InR s) ∧ (∀ s ∈ top, InR s) := by
  unfold colsBad at h
  rw [List.any_eq_false] at h
  have key : ∀ i, i < n → (spanB (bot.getD i (0, 0)) 0 300 = true ∧ spanB (top.getD i (0, 0)) 0 300 = true) := fun i hi => by
    have := h i (List.mem_range.2 hi)
    simp only [colBad, Bool.not_eq_true, Bool.or_eq_false_iff, Bool.not_eq_false'] at this
    exact this.1
  constructor
  · intro s hs
    obtain ⟨i, hi, rfl⟩ := List.mem_iff_getElem.1 hs
    have h1 := spanB_in (key i (by omega)).1
    have e : bot.getD i (0, 0) = bot[i] := by rw [List.getD, List.getElem?_eq_getElem hi]; rfl
    rw [e] at h1
    unfold InR; omega
  · intro s hs
    obtain ⟨i, hi, rfl⟩ := List.mem_iff_getElem.1 hs
    have h1 := spanB_in (key i (by omega)).2
    have e : top.getD i (0, 0) = top[i] := by rw [List.getD, List.getElem?_eq_getElem hi]; rfl
    rw [e] at h1
    unfold InR; omega

/-- A region that draws, whose callees leave what was there alone: one step. -/
theorem regrown_true {P : Program} {f : FuncId} {args : Array Value} {w : World} {d : Nat} {os : Array Obj} {v : Value}
    (h : ∀ W, Calls P f args W fun e w' => e = .returned v ∧ Below W.heap.size W w') : Calls P f args (grow (redrawn w d) os) fun e w'' => e = .returned v ∧ ∃ p : Regrown, w'' = grow (redrawn w p.d) p.os := Calls.regrown_of (h _)
theorem span_val {lo hi a b : Int} {r : Bool} (h : spanB (lo, hi) a b = r) (W : World) : Calls Try.prog 61 #[.agg #[.int .i64 lo, .int .i64 hi], .int .i64 a, .int .i64 b] W fun e w' => e = .returned (.bool r) ∧ Below W.heap.size W w' :=
  (RefSpan_any lo hi a b W).mono fun _ _ ⟨he, hb⟩ => ⟨by rw [he, h], hb⟩

set_option maxRecDepth 100000 in
set_option maxHeartbeats 4000000 in
theorem RefCheck_core (A A' K : Option Addr) (n c n' c' m d : Nat) (bend : Int) (bot top : List (Int × Int)) (cr : List Crack) (w : World) (h : Pairs w A n bot) (h' : Pairs w A' n' top) (hk : Cracks w K m cr) (hn : n ≤ 1000) (hn' : n' ≤ 1000) (hm : m ≤ 1000) :
    Calls Try.prog 22 #[.agg #[.slice A n c, .slice A' n' c', .int .i64 bend, .slice K m d]] w fun e w' => e = .returned (.int .i64 (refErr n n' m bend bot top cr)) ∧ Below w.heap.size w w' := by
  have HD : Hid (refErr n n' m bend bot top cr = if n ≠ n' then 4 else if inB n 1 30 = false then 4 else if 4 < m then 5 else if colsBad bot top n = true then 2 else if inB bend 0 300 = false then 2
    else if cracksBad n cr m = true then 2 else if (refCurveL bot bend).length = 0 then 9 else if (refCurveL top bend).length = 0 then 9 else 0) := rfl
  have B0 := Lib.hid (below_self w (.cells #[.slice A n c, .slice A' n' c', .int .i64 bend, .slice K m d] 25))
  have S0 := Lib.hid (Blk.new w 25 #[.slice A n c, .slice A' n' c', .int .i64 bend, .slice K m d] rfl)
  have HI := Lib.hid (fun a b c W => RefIn_any a b c W)
  have H1 := Lib.hid h
  have H2 := Lib.hid h'
  have H3 := Lib.hid hk
  clear h h' hk
  by_cases e1 : n = n'
  case neg =>
    have hd2 : ((n : Int) != (n' : Int)) = true := by simp; omega
    have HE : Hid (refErr n n' m bend bot top cr = 4) := by unfold Hid; rw [HD.out, if_pos e1]
    clear HD
    go_enter Try.func22, Try.ntmps22
    go_wp2
    go_ret
    exact ⟨ret_int HE.out.symm, B0.out⟩
  subst e1
  have hd2 : ((n : Int) != (n : Int)) = false := by simp
  cases e2 : inB n 1 30
  case false =>
    have HE : Hid (refErr n n m bend bot top cr = 4) := by unfold Hid; rw [HD.out, if_neg (by simp), if_pos e2]
    have HI2 := Lib.hid (fun W => HI.out n 1 30 W)
    rw [e2] at HI2
    clear HD e2
    go_enter Try.func22, Try.ntmps22
    go_wp2_with fail
    refine (HI2.out _).mono ?_
    rintro e w' ⟨rfl, rfl⟩
    go_wp2
    go_ret
    exact ⟨ret_int HE.out.symm, B0.out⟩
  have hn1 : 1 ≤ n ∧ n ≤ 30 := by simp only [inB, Bool.and_eq_true, decide_eq_true_eq] at e2; omega
  obtain ⟨hn1, hn30⟩ := hn1
  have HI2 := Lib.hid (fun W => HI.out n 1 30 W)
  rw [e2] at HI2
  by_cases e3 : 4 < m
  case pos =>
    have HE : Hid (refErr n n m bend bot top cr = 5) := by unfold Hid; rw [HD.out, if_neg (by simp), if_neg (by rw [e2]; simp), if_pos e3]
    clear HD e2
    go_enter Try.func22, Try.ntmps22
    go_wp2_with fail
    refine (HI2.out _).mono ?_
    rintro e w' ⟨rfl, rfl⟩
    go_wp2
    go_ret
    exact ⟨ret_int HE.out.symm, B0.out⟩
  have HD2 : Hid (refErr n n m bend bot top cr = if colsBad bot top n = true then 2 else if inB bend 0 300 = false then 2
    else if cracksBad n cr m = true then 2 else if (refCurveL bot bend).length = 0 then 9 else if (refCurveL top bend).length = 0 then 9 else 0) := by
    unfold Hid; rw [HD.out, if_neg (by simp), if_neg (by rw [e2]; simp), if_neg e3]
  have HCY := Lib.hid (fun k (hk : k < n) hh => colsBad_yes (bot := bot) (top := top) (k := k) (n := n) hk hh)
  have HCS := Lib.hid (fun k => colsBad_succ bot top k)
  clear HD e2
  go_enter Try.func22, Try.ntmps22
  go_wp2_with fail
  refine (HI2.out _).mono ?_
  rintro e w' ⟨rfl, rfl⟩
  go_wp2_with fail
  clear HI2
  go_loopw [3] (fun i wr => ∃ k : Nat, k ≤ n ∧ i = .int .i64 k ∧ colsBad bot top k = false ∧ Below (w.alloc (.cells #[.slice A n c, .slice A' n c', .int .i64 bend, .slice K m d] 25)).heap.size (w.alloc (.cells #[.slice A n c, .slice A' n c', .int .i64 bend, .slice K m d] 25)) wr) (fun i _ => n - (intOf i).toNat)
  case atStart => exact ⟨0, Nat.zero_le _, rfl, rfl, Below.refl _ _⟩
  case round =>
    obtain ⟨k, hk, rfl, hcb, hbel⟩ := hrel
    have Hcb := Lib.hid hcb
    have Hbel := Lib.hid hbel
    have S1 := Lib.hid (blk_keep hbel S0.out)
    have s1 := S1.out.cell
    clear hcb
    by_cases hlt : k < n
    · obtain ⟨b, off, hA, hb, q0, q1⟩ := (H1.out.below (below_then B0.out hbel)).at_ hlt
      obtain ⟨b', off', hA', hb', p0, p1⟩ := (H2.out.below (below_then B0.out hbel)).at_ hlt
      subst hA hA'
      have HY := Lib.hid (HCY.out k hlt)
      have HS := Lib.hid (HCS.out k)
      generalize bot.getD k (0, 0) = x at *
      generalize top.getD k (0, 0) = y at *
      obtain ⟨x1, x2⟩ := x
      obtain ⟨y1, y2⟩ := y
      simp only at q0 q1 p0 p1
      have HBad : Hid (colBad (x1, x2) (y1, y2) = (!spanB (x1, x2) 0 300 || !spanB (y1, y2) 0 300 || decide (y1 < x2))) := rfl
      have r0 := fun d os => cell_regrown q0 d os
      have r1 := fun d os => cell_regrown q1 d os
      have r2 := fun d os => cell_regrown p0 d os
      have r3 := fun d os => cell_regrown p1 d os
      have t0 := fun d os => cell_regrown (s1 0) d os
      have t1 := fun d os => cell_regrown (s1 1) d os
      cases hs1 : spanB (x1, x2) 0 300
      · have HV1 := Lib.hid (span_val hs1)
        have HE : Hid (refErr n n m bend bot top cr = 2) := by unfold Hid; rw [HD2.out, if_pos (HY.out (by rw [HBad.out, hs1]; rfl))]
        clear hs1 HD2 HCY HCS
        go_wp2_with fail
        refine wp_region_quiet_below (by kernel_rfl) (by kernel_rfl) ?_
        repeat (go_big_quiet_step (with_reducible exact regrown_true HV1.out))
        refine wpQuiet_nil ?_
        intro _ hw'
        obtain ⟨⟨dq, osq⟩, hw''⟩ := hw'
        subst hw''
        have B8 := Lib.hid (below_then Hbel.out (below_regrown wr dq osq))
        generalize grow (redrawn wr dq) osq = w8 at *
        clear r0 r1 r2 r3 t0 t1
        go_wp2
        go_ret
        exact ⟨ret_int HE.out.symm, below_then B0.out B8.out⟩
      · have HV1 := Lib.hid (span_val hs1)
        cases hs2 : spanB (y1, y2) 0 300
        · have HV2 := Lib.hid (span_val hs2)
          have HE : Hid (refErr n n m bend bot top cr = 2) := by unfold Hid; rw [HD2.out, if_pos (HY.out (by rw [HBad.out, hs1, hs2]; rfl))]
          clear hs1 hs2 HD2 HCY HCS
          go_wp2_with fail
          refine wp_region_quiet_below (by kernel_rfl) (by kernel_rfl) ?_
          repeat (go_big_quiet_step (first | with_reducible exact regrown_true HV1.out | with_reducible exact regrown_true HV2.out))
          refine wpQuiet_nil ?_
          intro _ hw'
          obtain ⟨⟨dq, osq⟩, hw''⟩ := hw'
          subst hw''
          have B8 := Lib.hid (below_then Hbel.out (below_regrown wr dq osq))
          generalize grow (redrawn wr dq) osq = w8 at *
          clear r0 r1 r2 r3 t0 t1
          go_wp2
          go_ret
          exact ⟨ret_int HE.out.symm, below_then B0.out B8.out⟩
        · have HV2 := Lib.hid (span_val hs2)
          by_cases hlt2 : y1 < x2
          · have HE : Hid (refErr n n m bend bot top cr = 2) := by unfold Hid; rw [HD2.out, if_pos (HY.out (by rw [HBad.out, hs1, hs2]; simp [hlt2]))]
            clear hs1 hs2 HD2 HCY HCS
            go_wp2_with fail
            refine wp_region_quiet_below (by kernel_rfl) (by kernel_rfl) ?_
            repeat (go_big_quiet_step (first | with_reducible exact regrown_true HV1.out | with_reducible exact regrown_true HV2.out))
            refine wpQuiet_nil ?_
            intro _ hw'
            obtain ⟨⟨dq, osq⟩, hw''⟩ := hw'
            subst hw''
            have B8 := Lib.hid (below_then Hbel.out (below_regrown wr dq osq))
            generalize grow (redrawn wr dq) osq = w8 at *
            clear r0 r1 r2 r3 t0 t1
            go_wp2
            go_ret
            exact ⟨ret_int HE.out.symm, below_then B0.out B8.out⟩
          · have HN : Hid (colsBad bot top (k + 1) = false) := by unfold Hid; rw [HS.out, Hcb.out, HBad.out, hs1, hs2]; simp [hlt2]
            have hd3 : decide (y1 < x2) = false := by simpa using hlt2
            clear hs1 hs2
            go_wp2_with fail
            refine wp_region_quiet_below (by kernel_rfl) (by kernel_rfl) ?_
            repeat (go_big_quiet_step (first | with_reducible exact regrown_true HV1.out | with_reducible exact regrown_true HV2.out))
            refine wpQuiet_nil ?_
            intro _ hw'
            obtain ⟨⟨dq, osq⟩, hw''⟩ := hw'
            subst hw''
            have B8 := Lib.hid (below_then Hbel.out (below_regrown wr dq osq))
            generalize grow (redrawn wr dq) osq = w8 at *
            clear r0 r1 r2 r3 t0 t1
            go_wp2
            go_roundw
            case rel => exact ⟨k + 1, by omega, by go_num, HN.out, B8.out⟩
            case measure => simp [intOf]; omega
    · obtain rfl : k = n := by omega
      obtain ⟨hxb, hxt⟩ := colsOk_in Hcb.out H1.out.len H2.out.len
      have HXB := Lib.hid hxb
      have HXT := Lib.hid hxt
      have HD3 : Hid (refErr k k m bend bot top cr = if inB bend 0 300 = false then 2
        else if cracksBad k cr m = true then 2 else if (refCurveL bot bend).length = 0 then 9 else if (refCurveL top bend).length = 0 then 9 else 0) := by
        unfold Hid; rw [HD2.out, if_neg (by rw [Hcb.out]; simp)]
      have D1 := Lib.hid (below_then B0.out Hbel.out)
      clear hbel hxb hxt HD2 HCY HCS Hcb Hbel S0 B0
      go_wp2_with fail
      refine (HI.out _ _ _ _).mono ?_
      rintro e w' ⟨rfl, rfl⟩
      cases hb : inB bend 0 300
      · have HE : Hid (refErr k k m bend bot top cr = 2) := by unfold Hid; rw [HD3.out, if_pos hb]
        clear HD3 hb
        go_wp2
        go_ret
        exact ⟨ret_int HE.out.symm, D1.out⟩
      have hbb : 0 ≤ bend ∧ bend ≤ 300 := by simp only [inB, Bool.and_eq_true, decide_eq_true_eq] at hb; omega
      obtain ⟨hb0, hb3⟩ := hbb
      have HD4 : Hid (refErr k k m bend bot top cr = if cracksBad k cr m = true then 2 else if (refCurveL bot bend).length = 0 then 9 else if (refCurveL top bend).length = 0 then 9 else 0) := by
        unfold Hid; rw [HD3.out, if_neg (by rw [hb]; simp)]
      have HCY := Lib.hid (fun j (hj : j < m) hh => cracksBad_yes (n := k) (cr := cr) (k := j) (m := m) hj hh)
      have HCS := Lib.hid (fun j => cracksBad_succ k cr j)
      clear HD3 hb
      go_wp2_with fail
      obtain ⟨wa, rfl⟩ : ∃ wa : World, wa = wr := ⟨_, rfl⟩
      clear s1
      go_loopw [4] (fun i wr => ∃ j : Nat, j ≤ m ∧ i = .int .i64 j ∧ cracksBad k cr j = false ∧ Below wa.heap.size wa wr) (fun i _ => m - (intOf i).toNat)
      case atStart => exact ⟨0, Nat.zero_le _, rfl, rfl, Below.refl _ _⟩
      case round =>
        obtain ⟨j, hj, rfl, hcb, hbel⟩ := hrel
        have Hcb := Lib.hid hcb
        have Hbel := Lib.hid hbel
        have S2 := Lib.hid (blk_keep hbel S1.out)
        have s2 := S2.out.cell
        clear hcb
        by_cases hlt : j < m
        · obtain ⟨b, off, hA, hbl, q0, q1, q2, q3, q4, q5⟩ := (H3.out.below (below_then D1.out hbel)).at_ hlt
          subst hA
          have HY := Lib.hid (HCY.out j hlt)
          have HS := Lib.hid (HCS.out j)
          generalize cr.getD j Crack.zero = x at *
          obtain ⟨cl, ch, fl, fh, tl, th⟩ := x
          simp only at q0 q1 q2 q3 q4 q5
          have HBad : Hid (crBad k ⟨cl, ch, fl, fh, tl, th⟩ = (!spanB (cl, ch) 0 ((k : Int) - 1) || decide (4 < ch - cl) || !spanB (fl, fh) 0 300 || !spanB (tl, th) 0 300 || decide (tl < fh))) := rfl
          have HN0 : Hid (∀ r, crBad k ⟨cl, ch, fl, fh, tl, th⟩ = r → cracksBad k cr (j + 1) = r) := fun r hr => by rw [HS.out, Hcb.out, hr]; simp
          have E1 := Lib.hid (below_alloc' (Hbel.out.mono (Nat.le_refl _)) (.cells #[.int .i64 cl, .int .i64 ch, .int .i64 fl, .int .i64 fh, .int .i64 tl, .int .i64 th] 111))
          have X1 := Lib.hid (Blk.new wr 111 #[.int .i64 cl, .int .i64 ch, .int .i64 fl, .int .i64 fh, .int .i64 tl, .int .i64 th] rfl)
          have S3 := Lib.hid (S2.out.alloc (.cells #[.int .i64 cl, .int .i64 ch, .int .i64 fl, .int .i64 fh, .int .i64 tl, .int .i64 th] 111))
          have hz := S2.out.lt
          clear hbel
          go_wp2_with fail
          clear s2 hz q0 q1 q2 q3 q4 q5
          cases hs1 : spanB (cl, ch) 0 ((k : Int) - 1)
          · refine (span_val hs1 _).mono ?_
            rintro e w4 ⟨rfl, b4⟩
            have B4 := Lib.hid (below_then E1.out b4)
            have X4 := Lib.hid (blk_keep b4 X1.out)
            have S4 := Lib.hid (blk_keep b4 S3.out)
            have x4 := X4.out.cell
            have s4 := S4.out.cell
            clear b4
            have HE : Hid (refErr k k m bend bot top cr = 2) := by unfold Hid; rw [HD4.out, if_pos (HY.out (by rw [HBad.out]; simp [hs1]))]
            clear HD4 HCY HCS
            go_wp2
            go_ret
            exact ⟨ret_int HE.out.symm, below_then D1.out B4.out⟩
          · have hcc := spanB_in hs1
            obtain ⟨g1, g2, g3⟩ := hcc
            simp only at g1 g2 g3
            refine (span_val hs1 _).mono ?_
            rintro e w4 ⟨rfl, b4⟩
            have B4 := Lib.hid (below_then E1.out b4)
            have X4 := Lib.hid (blk_keep b4 X1.out)
            have S4 := Lib.hid (blk_keep b4 S3.out)
            have x4 := X4.out.cell
            have s4 := S4.out.cell
            clear b4
            by_cases hw : 4 < ch - cl
            · have HE : Hid (refErr k k m bend bot top cr = 2) := by unfold Hid; rw [HD4.out, if_pos (HY.out (by rw [HBad.out]; simp [hs1, hw]))]
              clear HD4 HCY HCS
              go_wp2
              go_ret
              exact ⟨ret_int HE.out.symm, below_then D1.out B4.out⟩
            · have hwd : decide (4 < ch - cl) = false := by simpa using hw
              go_wp2_with fail
              cases hs2 : spanB (fl, fh) 0 300
              · refine (span_val hs2 _).mono ?_
                rintro e w5 ⟨rfl, b5⟩
                have B5 := Lib.hid (below_then B4.out b5)
                have X5 := Lib.hid (blk_keep b5 X4.out)
                have S5 := Lib.hid (blk_keep b5 S4.out)
                have x5 := X5.out.cell
                have s5 := S5.out.cell
                clear b5
                clear x4 s4
                have HE : Hid (refErr k k m bend bot top cr = 2) := by unfold Hid; rw [HD4.out, if_pos (HY.out (by rw [HBad.out]; simp [hs1, hwd, hs2]))]
                clear HD4 HCY HCS
                go_wp2
                go_ret
                exact ⟨ret_int HE.out.symm, below_then D1.out B5.out⟩
              · refine (span_val hs2 _).mono ?_
                rintro e w5 ⟨rfl, b5⟩
                have B5 := Lib.hid (below_then B4.out b5)
                have X5 := Lib.hid (blk_keep b5 X4.out)
                have S5 := Lib.hid (blk_keep b5 S4.out)
                have x5 := X5.out.cell
                have s5 := S5.out.cell
                clear b5
                clear x4 s4
                go_wp2_with fail
                cases hs3 : spanB (tl, th) 0 300
                · refine (span_val hs3 _).mono ?_
                  rintro e w6 ⟨rfl, b6⟩
                  have B6 := Lib.hid (below_then B5.out b6)
                  have X6 := Lib.hid (blk_keep b6 X5.out)
                  have S6 := Lib.hid (blk_keep b6 S5.out)
                  have x6 := X6.out.cell
                  have s6 := S6.out.cell
                  clear b6
                  clear x5 s5
                  have HE : Hid (refErr k k m bend bot top cr = 2) := by unfold Hid; rw [HD4.out, if_pos (HY.out (by rw [HBad.out]; simp [hs1, hwd, hs2, hs3]))]
                  clear HD4 HCY HCS
                  go_wp2
                  go_ret
                  exact ⟨ret_int HE.out.symm, below_then D1.out B6.out⟩
                · refine (span_val hs3 _).mono ?_
                  rintro e w6 ⟨rfl, b6⟩
                  have B6 := Lib.hid (below_then B5.out b6)
                  have X6 := Lib.hid (blk_keep b6 X5.out)
                  have S6 := Lib.hid (blk_keep b6 S5.out)
                  have x6 := X6.out.cell
                  have s6 := S6.out.cell
                  clear b6
                  clear x5 s5
                  by_cases hw2 : tl < fh
                  · have HE : Hid (refErr k k m bend bot top cr = 2) := by unfold Hid; rw [HD4.out, if_pos (HY.out (by rw [HBad.out]; simp [hs1, hwd, hs2, hs3, hw2]))]
                    clear HD4 HCY HCS
                    go_wp2
                    go_ret
                    exact ⟨ret_int HE.out.symm, below_then D1.out B6.out⟩
                  · have HN := Lib.hid (HN0.out false (by rw [HBad.out]; simp [hs1, hwd, hs2, hs3]; omega))
                    have hwd2 : decide (tl < fh) = false := by simpa using hw2
                    go_wp2
                    go_roundw
                    case rel => exact ⟨j + 1, by omega, by go_num, HN.out, B6.out⟩
                    case measure => simp [intOf]; omega
        · obtain rfl : j = m := by omega
          have HD5 : Hid (refErr k k j bend bot top cr = if (refCurveL bot bend).length = 0 then 9 else if (refCurveL top bend).length = 0 then 9 else 0) := by
            unfold Hid; rw [HD4.out, if_neg (by rw [Hcb.out]; simp)]
          have D2 := Lib.hid (below_then D1.out hbel)
          have HC1 := Lib.hid (RefCurve_any A k c bot bend wr (H1.out.below D2.out) hn HXB.out hb0 hb3)
          have HC2 := Lib.hid (fun W (hb : Below w.heap.size w W) => RefCurve_any A' k c' top bend W (H2.out.below hb) hn HXT.out hb0 hb3)
          clear hbel HD4 HCY HCS
          go_wp2_with fail
          refine HC1.out.mono ?_
          rintro e w4 ⟨v, rfl, hown, b4⟩
          obtain ⟨VA, vc, rfl⟩ := own_slice0 hown
          have B4 := Lib.hid (below_then D2.out b4)
          have S4 := Lib.hid (blk_keep b4 S2.out)
          have s4 := S4.out.cell
          have HC3 := Lib.hid (HC2.out _ B4.out)
          clear b4 hown HC1 HC2 s2
          by_cases hl1 : (refCurveL bot bend).length = 0
          · have HE : Hid (refErr k k j bend bot top cr = 9) := by unfold Hid; rw [HD5.out, if_pos hl1]
            have hl1' : (((refCurveL bot bend).length : Int) == 0) = true := by simp [hl1]
            generalize (refCurveL bot bend).length = L at *
            clear HD5 hl1
            go_wp2
            go_ret
            exact ⟨ret_int HE.out.symm, B4.out⟩
          · have HD6 : Hid (refErr k k j bend bot top cr = if (refCurveL top bend).length = 0 then 9 else 0) := by unfold Hid; rw [HD5.out, if_neg hl1]
            have hl1' : (((refCurveL bot bend).length : Int) == 0) = false := by simpa using hl1
            generalize (refCurveL bot bend).length = L at *
            clear HD5 hl1
            go_wp2_with fail
            refine HC3.out.mono ?_
            rintro e w5 ⟨v, rfl, hown, b5⟩
            obtain ⟨VB, vd, rfl⟩ := own_slice0 hown
            have B5 := Lib.hid (below_then B4.out b5)
            clear b5 hown HC3 s4
            by_cases hl2 : (refCurveL top bend).length = 0
            · have HE : Hid (refErr k k j bend bot top cr = 9) := by unfold Hid; rw [HD6.out, if_pos hl2]
              have hl2' : (((refCurveL top bend).length : Int) == 0) = true := by simp [hl2]
              generalize (refCurveL top bend).length = M at *
              clear HD6 hl2
              go_wp2
              go_ret
              exact ⟨ret_int HE.out.symm, B5.out⟩
            · have HE : Hid (refErr k k j bend bot top cr = 0) := by unfold Hid; rw [HD6.out, if_neg hl2]
              have hl2' : (((refCurveL top bend).length : Int) == 0) = false := by simpa using hl2
              generalize (refCurveL top bend).length = M at *
              clear HD6 hl2
              go_wp2
              go_ret
              exact ⟨ret_int HE.out.symm, B5.out⟩
end Go.Proofs.Ytiflhimmieflpaa
