/- Walks: what is true of a tusk's blade: it has no error, its edges lie in their spans, and one column of it can be set. -/
import Derived.Test.YtiflhimmieflpaaW84
namespace Go.Proofs.Ytiflhimmieflpaa
open Go.RowKit Go.Maps

theorem range_getD {α : Type} (f : Nat → α) (z : α) {n i : Nat} (hi : i < n) : ((List.range n).map f).getD i z = f i := by
  simp [List.getD, hi]
theorem Tk.bot_in {T : Tk} (hc : ∀ x ∈ T.cols, Byte x) (i : Nat) : 0 ≤ (T.botS i).1 ∧ (T.botS i).1 ≤ T.low i ∧ T.low i ≤ (T.botS i).2 ∧ (T.botS i).2 ≤ 65 := by
  have h1 := Tk.low_in hc i
  have h2 := Tk.col_byte hc i 2
  unfold Byte at h2
  simp only [Tk.botS]
  omega
theorem Tk.top_in {T : Tk} (hc : ∀ x ∈ T.cols, Byte x) (i : Nat) : 66 ≤ (T.topS i).1 ∧ (T.topS i).1 ≤ T.high i ∧ T.high i ≤ (T.topS i).2 ∧ (T.topS i).2 ≤ 200 := by
  have h1 := Tk.high_in hc i
  have h2 := Tk.col_byte hc i 3
  unfold Byte at h2
  simp only [Tk.topS]
  omega
theorem Tk.bd_in (T : Tk) : 1 ≤ T.bd ∧ T.bd ≤ 40 := by unfold Tk.bd; omega
theorem Tk.low_near (T : Tk) (i : Nat) : T.low (i + 1) ≤ T.low i + T.bd ∧ T.low i ≤ T.low (i + 1) + T.bd := by
  have := T.bd_in
  simp only [Tk.low, clampI]
  omega
theorem Tk.high_near (T : Tk) (i : Nat) : T.high (i + 1) ≤ T.high i + T.bd ∧ T.high i ≤ T.high (i + 1) + T.bd := by
  have := T.bd_in
  simp only [Tk.high, clampI]
  omega
theorem Tk.botTruth {T : Tk} (hc : ∀ x ∈ T.cols, Byte x) (n : Nat) : Truth ((List.range n).map T.botS) T.bd T.low := by
  refine ⟨fun i hi => ?_, fun i hi => ?_, fun i _ => (T.low_near i).1, fun i _ => (T.low_near i).2⟩ <;>
  · simp only [List.length_map, List.length_range] at hi
    rw [range_getD _ _ hi]
    have := Tk.bot_in hc i
    omega
theorem Tk.topTruth {T : Tk} (hc : ∀ x ∈ T.cols, Byte x) (n : Nat) : Truth ((List.range n).map T.topS) T.bd T.high := by
  refine ⟨fun i hi => ?_, fun i hi => ?_, fun i _ => (T.high_near i).1, fun i _ => (T.high_near i).2⟩ <;>
  · simp only [List.length_map, List.length_range] at hi
    rw [range_getD _ _ hi]
    have := Tk.top_in hc i
    omega
/-- Edges of a blade whose spans lie in 0 to 300, the lower ones below the upper ones. -/
structure EdgeIn (bend : Int) (bot top : List (Int × Int)) : Prop where
  len : top.length = bot.length
  b0 : 0 ≤ bend ∧ bend ≤ 300
  n1 : 1 ≤ bot.length ∧ bot.length ≤ 30
  bs : ∀ i, i < bot.length → 0 ≤ (bot.getD i (0, 0)).1 ∧ (bot.getD i (0, 0)).1 ≤ (bot.getD i (0, 0)).2 ∧ (bot.getD i (0, 0)).2 ≤ (top.getD i (0, 0)).1 ∧ (top.getD i (0, 0)).1 ≤ (top.getD i (0, 0)).2 ∧ (top.getD i (0, 0)).2 ≤ 300
theorem EdgeIn.ok {bend : Int} {bot top : List (Int × Int)} (h : EdgeIn bend bot top) : edgesOk bend bot top = true := by
  have e1 : within 0 300 [bend] = true := by have := h.b0; simp [within]; omega
  have e2 : validS 0 300 bot = true := validS_iff.2 fun i hi => spanB_iff.2 (by have := h.bs i hi; omega)
  have e3 : validS 0 300 top = true := validS_iff.2 fun i hi => spanB_iff.2 (by have := h.bs i (by have := h.len; omega); omega)
  have e4 : below2 bot top bot.length = true := by
    unfold below2
    rw [List.all_eq_true]
    intro j hj
    rw [List.mem_range] at hj
    have := h.bs j hj
    rw [decide_eq_true_eq]
    omega
  unfold edgesOk
  rw [e1, e2, e3, e4]
  rfl
theorem EdgeIn.err {bend : Int} {bot top : List (Int × Int)} {m : Nat} {cr : List Crack} (h : EdgeIn bend bot top) (hm : m ≤ 4) (hc : (cr.any fun k => !crackOk bot.length k) = false) :
    curveErr bot.length bot.length m bend bot top cr = if bentOk bot bend = false then 9 else if bentOk top bend = false then 9 else 0 := by
  have e1 : within 1 30 [(bot.length : Int)] = true := by have := h.n1; simp [within]; omega
  unfold curveErr
  rw [h.ok, e1, hc]
  simp only [ne_eq, not_true_eq_false, if_false, Bool.true_eq_false, Bool.false_eq_true]
  rw [if_neg (by omega)]
theorem set_edge {bend : Int} {bot top : List (Int × Int)} (h : EdgeIn bend bot top) {x : Nat} {v : Int} (hx : x < bot.length) (hv : (bot.getD x (0, 0)).1 ≤ v ∧ v ≤ (bot.getD x (0, 0)).2) : EdgeIn bend (bot.set x (v, v)) top := by
  refine ⟨by rw [List.length_set]; exact h.len, h.b0, by rw [List.length_set]; exact h.n1, fun i hi => ?_⟩
  rw [List.length_set] at hi
  have a := h.bs i hi
  rw [getD_set _ _ _ _ hi]
  split
  · rename_i e
    subst e
    simp only
    omega
  · exact a
theorem set_edge' {bend : Int} {bot top : List (Int × Int)} (h : EdgeIn bend bot top) {x : Nat} {v : Int} (hx : x < bot.length) (hv : (top.getD x (0, 0)).1 ≤ v ∧ v ≤ (top.getD x (0, 0)).2) : EdgeIn bend bot (top.set x (v, v)) := by
  refine ⟨by rw [List.length_set]; exact h.len, h.b0, h.n1, fun i hi => ?_⟩
  have a := h.bs i hi
  rw [getD_set _ _ _ _ (by have := h.len; omega)]
  split
  · rename_i e
    subst e
    simp only
    omega
  · exact a
theorem bent_edge {bend : Int} {bot top : List (Int × Int)} (h : EdgeIn bend bot top) (h1 : bentOk bot bend = true) (h2 : bentOk top bend = true) : EdgeIn bend (bentL bot bend) (bentL top bend) := by
  have l1 := bentL_length bot bend
  have l2 := bentL_length top bend
  have l := h.len
  refine ⟨by omega, h.b0, by have := h.n1; omega, fun i hi => ?_⟩
  have a := h.bs i (by omega)
  have b := bent_sub bot bend i (by omega)
  have c := bent_full h.b0.1 h1 i (by omega)
  have d := bent_sub top bend i (by omega)
  have e := bent_full h.b0.1 h2 i (by omega)
  omega
/-- A height of the hull is taken by a truth; one beside it by none. -/
theorem bent_set_ok {xs : List (Int × Int)} {bend : Int} (hb : 0 ≤ bend) (h : bentOk xs bend = true) {x : Nat} (hx : x < xs.length) {v : Int} (hv : v = ((bentL xs bend).getD x (0, 0)).1 ∨ v = ((bentL xs bend).getD x (0, 0)).2) : bentOk (xs.set x (v, v)) bend = true := by
  have a := bent_sub xs bend x hx
  have b := bent_full hb h x hx
  rcases hv with e | e
  · exact truth_ok ((truth_set hx (by omega)).2 ⟨truth_lows hb h, e.symm⟩)
  · exact truth_ok ((truth_set hx (by omega)).2 ⟨truth_highs hb h, e.symm⟩)
theorem bent_set_no {xs : List (Int × Int)} {bend : Int} (hb : 0 ≤ bend) {x : Nat} (hx : x < xs.length) {v : Int} (hv : (xs.getD x (0, 0)).1 ≤ v ∧ v ≤ (xs.getD x (0, 0)).2) (hn : v < ((bentL xs bend).getD x (0, 0)).1 ∨ ((bentL xs bend).getD x (0, 0)).2 < v) : bentOk (xs.set x (v, v)) bend = false := by
  rcases Bool.eq_false_or_eq_true (bentOk (xs.set x (v, v)) bend) with e | e
  · have t := (truth_set hx hv).1 (truth_lows hb e)
    have a := truth_bent t.1 x hx
    rw [t.2] at a
    omega
  · exact e
theorem Tk.edgeIn {T : Tk} (hc : ∀ x ∈ T.cols, Byte x) : EdgeIn T.bd ((List.range T.len).map T.botS) ((List.range T.len).map T.topS) := by
  have l := T.len_in
  have b := T.bd_in
  refine ⟨by simp, by omega, by simp; omega, fun i hi => ?_⟩
  simp only [List.length_map, List.length_range] at hi
  rw [range_getD _ _ hi, range_getD _ _ hi]
  have a := Tk.bot_in hc i
  have c := Tk.top_in hc i
  omega
theorem Tk.cb_byte {T : Tk} (h : ∀ x ∈ T.crk, Byte x) (i j : Nat) : Byte (T.cb i j) := byte_getD h _
theorem Tk.crack_ok {T : Tk} (h : ∀ x ∈ T.crk, Byte x) (i : Nat) {n : Int} (h3 : 3 ≤ n) (h10 : n ≤ 10) : crackOk n (T.crackL i n) = true := by
  have a0 := Tk.cb_byte h i 0
  have a1 := Tk.cb_byte h i 1
  have a2 := Tk.cb_byte h i 2
  have a3 := Tk.cb_byte h i 3
  have a4 := Tk.cb_byte h i 4
  have a5 := Tk.cb_byte h i 5
  unfold Byte at a0 a1 a2 a3 a4 a5
  have m0 := Int.emod_nonneg (T.cb i 0) (by omega : n ≠ 0)
  have m1 := Int.emod_lt_of_pos (T.cb i 0) (by omega : 0 < n)
  obtain ⟨r, hr⟩ : ∃ r, r = T.cb i 0 % n := ⟨_, rfl⟩
  rw [← hr] at m0 m1
  unfold crackOk Tk.crackL
  rw [← hr]
  have e1 : decide (min (n - 1) (r + T.cb i 2 % 4) - r < 5) = true := by rw [decide_eq_true_eq]; omega
  have e2 : decide (T.cb i 1 % 140 + T.cb i 3 % 20 ≤ T.cb i 1 % 140 + T.cb i 3 % 20 + T.cb i 4 % 40) = true := by rw [decide_eq_true_eq]; omega
  dsimp only
  rw [e1, e2]
  simp only [validS, List.all_cons, List.all_nil, Bool.and_true, Bool.and_eq_true, decide_eq_true_eq]
  omega
theorem Tk.cracks_ok {T : Tk} (h : ∀ x ∈ T.crk, Byte x) (m : Nat) {n : Nat} (h3 : 3 ≤ n) (h10 : n ≤ 10) : (((List.range m).map fun i => T.crackL i n).any fun k => !crackOk n k) = false := by
  rw [List.any_eq_false]
  intro k hk
  rw [List.mem_map] at hk
  obtain ⟨i, _, rfl⟩ := hk
  rw [Tk.crack_ok h i (by omega) (by omega)]
  simp
end Go.Proofs.Ytiflhimmieflpaa
