/- Regions: the lexical order of a long region of reads, checked op by op. -/
import Derived.Test.YtiflhimmieflpaaW84
namespace Go.Proofs.Ytiflhimmieflpaa
open Go.RowKit Go.Maps

def lexRest (md : Region.Mode) (ops : Array Oper) (i : Nat) (oi : Oper) : List Oper → Bool
  | [] => true
  | oj :: r => (oj.after.any (fun e => Region.binds md e && e.on == i) || oi.apart ops oj) && lexRest md ops i oi r
def lexFast (md : Region.Mode) (ops : Array Oper) : Nat → List Oper → Bool
  | _, [] => true
  | k, o :: r => o.after.all (fun e => !Region.binds md e || decide (e.on < k)) && lexRest md ops k o r && lexFast md ops (k + 1) r
theorem lexRest_spec {md : Region.Mode} {ops : Array Oper} {i : Nat} {oi : Oper} : ∀ {l : List Oper}, lexRest md ops i oi l = true → ∀ oj ∈ l, (oj.after.any (fun e => Region.binds md e && e.on == i) || oi.apart ops oj) = true
  | [], _, _, h => absurd h (by simp)
  | o :: r, h, oj, hm => by
    simp only [lexRest, Bool.and_eq_true] at h
    rcases List.mem_cons.1 hm with e | e
    · rw [e]; exact h.1
    · exact lexRest_spec h.2 oj e
theorem lexFast_spec {md : Region.Mode} {ops : Array Oper} : ∀ {l : List Oper} {k : Nat}, lexFast md ops k l = true → ∀ (j : Nat) (oj : Oper), l[j]? = some oj →
    oj.after.all (fun e => !Region.binds md e || decide (e.on < k + j)) = true ∧ ∀ (m : Nat) (om : Oper), j < m → l[m]? = some om → (om.after.any (fun e => Region.binds md e && e.on == k + j) || oj.apart ops om) = true
  | [], _, _, j, oj, h => by simp at h
  | o :: r, k, h, j, oj, hj => by
    simp only [lexFast, Bool.and_eq_true] at h
    obtain ⟨⟨h1, h2⟩, h3⟩ := h
    cases j with
    | zero =>
      simp only [List.getElem?_cons_zero, Option.some.injEq] at hj
      subst hj
      refine ⟨h1, fun m om hm ho => ?_⟩
      obtain ⟨m', rfl⟩ : ∃ m', m = m' + 1 := ⟨m - 1, by omega⟩
      rw [List.getElem?_cons_succ] at ho
      exact lexRest_spec h2 om (List.mem_of_getElem? ho)
    | succ j =>
      rw [List.getElem?_cons_succ] at hj
      have q := lexFast_spec h3 j oj hj
      rw [show k + 1 + j = k + (j + 1) by omega] at q
      refine ⟨q.1, fun m om hm ho => ?_⟩
      obtain ⟨m', rfl⟩ : ∃ m', m = m' + 1 := ⟨m - 1, by omega⟩
      rw [List.getElem?_cons_succ] at ho
      exact q.2 m' om (by omega) ho
theorem lexFrom_fast {md : Region.Mode} {ops : Array Oper} (h : lexFast md ops 0 ops.toList = true) : ∀ (fuel k : Nat) (listed : Array Bool), fuel + k = ops.size → (∀ j, listed.getD j true = (decide (j < k) || decide (ops.size ≤ j))) → (∀ j, listed.getD j false = decide (j < k)) → listed.size = ops.size → Region.lexFrom md ops fuel k listed = true := by
  intro fuel
  induction fuel with
  | zero =>
    intro k listed hk h1 h2 hs
    simp only [Region.lexFrom, List.isEmpty_iff, Region.ready, List.filter_eq_nil_iff, List.mem_range]
    intro i hi
    rw [h1 i]
    simp
    omega
  | succ fuel ih =>
    intro k listed hk h1 h2 hs
    have hks : k < ops.size := by omega
    have ho : ops.toList[k]? = some ops[k] := by simp [hks]
    have ho2 : ops[k]? = some ops[k] := by simp [hks]
    have q := lexFast_spec h k _ ho
    rw [Nat.zero_add] at q
    simp only [Region.lexFrom, Bool.and_eq_true]
    refine ⟨⟨?_, ?_⟩, ih (k + 1) _ (by omega) (fun j => ?_) (fun j => ?_) (by simpa using hs)⟩
    · rw [List.contains_iff_mem, Region.ready, List.mem_filter, List.mem_range]
      refine ⟨hks, ?_⟩
      rw [h1 k, ho2]
      have e : (decide (k < k) || decide (ops.size ≤ k)) = false := by simp; omega
      rw [e]
      simp only [Option.map_some, Option.getD_some, Bool.not_false, Bool.true_and, Array.all_eq_true] at q ⊢
      intro i hi
      have := q.1 i hi
      rw [h2]
      exact this
    · unfold Region.free
      rw [ho2]
      rw [List.all_eq_true]
      intro j hj
      rw [List.mem_range] at hj
      rw [h1 j]
      rcases Nat.lt_trichotomy j k with c | c | c
      · simp [c]
      · simp [c]
      · have hj2 : ops[j]? = some ops[j] := by simp [hj]
        have hj3 : ops.toList[j]? = some ops[j] := by simp [hj]
        rw [hj2]
        have := q.2 j _ c hj3
        simp only [Bool.or_eq_true] at this ⊢
        exact .inr this
    · by_cases c : j = k
      · subst c
        simp [Array.getD, hs, hks]
      · have a := h1 j
        rw [show (listed.setIfInBounds k true).getD j true = listed.getD j true from getD_set_ne _ (fun e => c e.symm)]
        rw [a]
        congr 1
        simp only [decide_eq_decide]
        omega
    · by_cases c : j = k
      · subst c
        simp [Array.getD, hs, hks]
      · have a := h2 j
        rw [show (listed.setIfInBounds k true).getD j false = listed.getD j false from getD_set_ne _ (fun e => c e.symm)]
        rw [a]
        simp only [decide_eq_decide]
        omega
theorem lexB_fast {md : Region.Mode} {ops : Array Oper} (h0 : Region.noSelect ops = true) (h : lexFast md ops 0 ops.toList = true) : Region.lexB md ops = true := by
  unfold Region.lexB
  rw [h0, Bool.true_and]
  refine lexFrom_fast h _ _ _ (by omega) (fun j => ?_) (fun j => ?_) (by simp)
  · by_cases c : j < ops.size
    · simp [Array.getD, c]
    · simp [Array.getD, c]
      omega
  · by_cases c : j < ops.size
    · simp [Array.getD, c]
    · simp [Array.getD, c]
end Go.Proofs.Ytiflhimmieflpaa
