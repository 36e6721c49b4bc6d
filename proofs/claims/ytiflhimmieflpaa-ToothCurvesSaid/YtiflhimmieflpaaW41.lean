/- The reference's error of a blade is the program's; walks: large. -/
import Derived.Test.YtiflhimmieflpaaW40
import Derived.Test.YtiflhimmieflpaaW36
import Derived.Test.YtiflhimmieflpaaW32
namespace Go.Proofs.Ytiflhimmieflpaa
open Go.RowKit Go.Maps

theorem inB_within (n a b : Int) : inB n a b = within a b [n] := by simp [inB, within]
theorem spanB_iff {s : Int × Int} {a b : Int} : spanB s a b = true ↔ a ≤ s.1 ∧ s.1 ≤ s.2 ∧ s.2 ≤ b := by
  simp only [spanB, inB, Bool.and_eq_true, decide_eq_true_eq]; omega
theorem validS_iff {xs : List (Int × Int)} {a b : Int} : validS a b xs = true ↔ ∀ i, i < xs.length → spanB (xs.getD i (0, 0)) a b = true := by
  unfold validS
  rw [List.all_eq_true]
  constructor
  · intro h i hi
    have e : xs.getD i (0, 0) = xs[i] := by rw [List.getD, List.getElem?_eq_getElem hi]; rfl
    have := h xs[i] (List.getElem_mem hi)
    simp only [Bool.and_eq_true, decide_eq_true_eq] at this
    rw [e, spanB_iff]; omega
  · intro h s hs
    obtain ⟨i, hi, rfl⟩ := List.mem_iff_getElem.1 hs
    have e : xs.getD i (0, 0) = xs[i] := by rw [List.getD, List.getElem?_eq_getElem hi]; rfl
    have := h i hi
    rw [e, spanB_iff] at this
    simp only [Bool.and_eq_true, decide_eq_true_eq]; omega
theorem edges_cols {bend : Int} {bot top : List (Int × Int)} {n : Nat} (hb : bot.length = n) (ht : top.length = n) : edgesOk bend bot top = true ↔ colsBad bot top n = false ∧ inB bend 0 300 = true := by
  unfold edgesOk colsBad
  rw [inB_within, List.any_eq_false]
  simp only [Bool.and_eq_true, validS_iff, below2, List.all_eq_true, decide_eq_true_eq, List.mem_range]
  rw [hb, ht]
  constructor
  · rintro ⟨⟨⟨h1, h2⟩, h3⟩, h4⟩
    refine ⟨fun i hi => ?_, h1⟩
    simp only [colBad, h2 i hi, h3 i hi, Bool.not_true, Bool.false_or, decide_eq_true_eq]
    have := h4 i hi
    omega
  · rintro ⟨h, h1⟩
    have key : ∀ i, i < n → spanB (bot.getD i (0, 0)) 0 300 = true ∧ spanB (top.getD i (0, 0)) 0 300 = true ∧ (bot.getD i (0, 0)).2 ≤ (top.getD i (0, 0)).1 := fun i hi => by
      have := h i hi
      simp only [colBad, Bool.not_eq_true, Bool.or_eq_false_iff, Bool.not_eq_false', decide_eq_false_iff_not] at this
      exact ⟨this.1.1, this.1.2, by omega⟩
    exact ⟨⟨⟨h1, fun i hi => (key i hi).1⟩, fun i hi => (key i hi).2.1⟩, fun i hi => (key i hi).2.2⟩
theorem crack_bad {n : Int} (k : Crack) : crBad n k = !crackOk n k := by
  have h : crBad n k = false ↔ crackOk n k = true := by
    simp only [crBad, crackOk, validS, List.all_cons, List.all_nil, Bool.and_true, Bool.or_eq_false_iff, Bool.not_eq_false', Bool.and_eq_true, decide_eq_true_eq, decide_eq_false_iff_not, spanB_iff]
    omega
  cases h1 : crBad n k <;> cases h2 : crackOk n k <;> simp_all
theorem cracks_any {n : Int} {cr : List Crack} {m : Nat} (hc : cr.length = m) : cracksBad n cr m = cr.any fun k => !crackOk n k := by
  rw [Bool.eq_iff_iff]
  unfold cracksBad
  rw [List.any_eq_true, List.any_eq_true]
  constructor
  · rintro ⟨i, hi, h⟩
    have hi' : i < cr.length := by rw [hc]; exact List.mem_range.1 hi
    have e : cr.getD i Crack.zero = cr[i] := by rw [List.getD, List.getElem?_eq_getElem hi']; rfl
    rw [e, crack_bad] at h
    exact ⟨cr[i], List.getElem_mem hi', h⟩
  · rintro ⟨s, hs, h⟩
    obtain ⟨i, hi, rfl⟩ := List.mem_iff_getElem.1 hs
    have e : cr.getD i Crack.zero = cr[i] := by rw [List.getD, List.getElem?_eq_getElem hi]; rfl
    exact ⟨i, List.mem_range.2 (by omega), by rw [e, crack_bad]; exact h⟩
theorem errs_eq {n n' m : Nat} {bend : Int} {bot top : List (Int × Int)} {cr : List Crack} (hb : bot.length = n) (ht : top.length = n') (hc : cr.length = m) : refErr n n' m bend bot top cr = curveErr n n' m bend bot top cr := by
  unfold refErr curveErr
  by_cases e1 : n = n'
  case neg => rw [if_pos e1, if_pos e1]
  subst e1
  rw [if_neg (show ¬ n ≠ n by simp), if_neg (show ¬ n ≠ n by simp), inB_within (n : Int) 1 30]
  by_cases e2 : within 1 30 [(n : Int)] = false
  · rw [if_pos e2, if_pos e2]
  rw [if_neg e2, if_neg e2]
  by_cases e3 : 4 < m
  · rw [if_pos e3, if_pos e3]
  rw [if_neg e3, if_neg e3, cracks_any hc]
  have he := edges_cols (bend := bend) hb ht
  by_cases e4 : edgesOk bend bot top = true
  case neg =>
    rw [if_pos (show edgesOk bend bot top = false by simpa using e4)]
    by_cases e5 : colsBad bot top n = true
    · rw [if_pos e5]
    · rw [if_neg e5, if_pos]
      cases h : inB bend 0 300 with
      | false => rfl
      | true => exact absurd (he.2 ⟨by simpa using e5, h⟩) e4
  have h2 := he.1 e4
  rw [if_neg (by rw [h2.1]; simp), if_neg (by rw [h2.2]; simp), if_neg (show ¬ edgesOk bend bot top = false by rw [e4]; simp)]
  by_cases e5 : (cr.any fun k => !crackOk n k) = true
  · rw [if_pos e5, if_pos e5]
  rw [if_neg e5, if_neg e5]
  have hin := edgesOk_in e4
  have hn1 : 0 < n := by simp [within] at e2; omega
  have r1 := refCurve_empty (xs := bot) (bend := bend) (fun s hs => (hin.2.1 s hs).1) hin.1.1 (by omega)
  have r2 := refCurve_empty (xs := top) (bend := bend) (fun s hs => (hin.2.2 s hs).1) hin.1.1 (by omega)
  by_cases e6 : bentOk bot bend = false
  · rw [if_pos e6, if_pos (r1.2 e6)]
  rw [if_neg e6, if_neg (fun h => e6 (r1.1 h))]
  by_cases e7 : bentOk top bend = false
  · rw [if_pos e7, if_pos (r2.2 e7)]
  · rw [if_neg e7, if_neg (fun h => e7 (r2.1 h))]
/-- The error of a blade. -/
def Bl.cerr (B : Bl) : Int := curveErr B.n B.n' B.m B.bend B.bot B.top B.cr
theorem RefCheck_any (B : Bl) (w : World) (h : B.At w) (hn : B.n ≤ 1000) (hn' : B.n' ≤ 1000) (hm : B.m ≤ 1000) : Calls Try.prog 22 #[B.val] w fun e w' => e = .returned (.int .i64 B.cerr) ∧ Below w.heap.size w w' := by
  have := RefCheck_core B.A B.A' B.K B.n B.c B.n' B.c' B.m B.d B.bend B.bot B.top B.cr w h.hb h.ht h.hk hn hn' hm
  rw [errs_eq h.hb.len h.ht.len h.hk.len] at this
  exact this

def largeB (n n' m : Nat) : Bool := decide (40 < n) || decide (40 < n') || decide (10 < m)
set_option maxHeartbeats 400000 in
theorem large_any (B : Bl) (w : World) : Calls Try.prog 17 #[B.val] w fun e w' => e = .returned (.bool (largeB B.n B.n' B.m)) ∧ Below w.heap.size w w' := by
  obtain ⟨A, A', K, n, c, n', c', m, d, bend, bot, top, cr⟩ := B
  unfold Bl.val
  simp only
  have HD : Hid (largeB n n' m = (decide (40 < n) || decide (40 < n') || decide (10 < m))) := rfl
  have B0 := Lib.hid (below_self w (.cells #[.slice A n c, .slice A' n' c', .int .i64 bend, .slice K m d] 25))
  by_cases h1 : 40 < n
  · have HE : Hid (largeB n n' m = true) := by unfold Hid; rw [HD.out]; simp [h1]
    go_enter Try.func17, Try.ntmps17
    go_wp2
    go_ret
    exact ⟨ret_bool HE.out.symm, B0.out⟩
  · by_cases h2 : 40 < n'
    · have HE : Hid (largeB n n' m = true) := by unfold Hid; rw [HD.out]; simp [h2]
      go_enter Try.func17, Try.ntmps17
      go_wp2
      go_ret
      exact ⟨ret_bool HE.out.symm, B0.out⟩
    · by_cases h3 : 10 < m
      · have HE : Hid (largeB n n' m = true) := by unfold Hid; rw [HD.out]; simp [h3]
        go_enter Try.func17, Try.ntmps17
        go_wp2
        go_ret
        exact ⟨ret_bool (by rw [HE.out]; simp; omega), B0.out⟩
      · have HE : Hid (largeB n n' m = false) := by unfold Hid; rw [HD.out]; simp [h1, h2, h3]
        go_enter Try.func17, Try.ntmps17
        go_wp2
        go_ret
        exact ⟨ret_bool (by rw [HE.out]; simp; omega), B0.out⟩
theorem large_no {B : Bl} (h : largeB B.n B.n' B.m = false) : B.n ≤ 40 ∧ B.n' ≤ 40 ∧ B.m ≤ 10 := by
  simp only [largeB, Bool.or_eq_false_iff, decide_eq_false_iff_not] at h
  omega
end Go.Proofs.Ytiflhimmieflpaa
