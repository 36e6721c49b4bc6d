/- Regions that draw, in which a cell that is loaded is stored into behind all that could come before: what is held is asked for till the first of those stores. -/
import Derived.Test.YtiflhimmieflpaaHeld
namespace Go.Proofs.Ytiflhimmieflpaa
open Go.RowKit Go.Maps

section
variable {P : Program} {ops : Array Oper} {Q : Exit → Act → World → Prop} {md : Region.Mode} {S : World → Prop} {J : List Nat}
/-- Whatever order is picked; and S holds behind each operation that is none of J. -/
def Untl (P : Program) (md : Region.Mode) (ops : Array Oper) (Q : Exit → Act → World → Prop) (S : World → Prop) (J : List Nat) : Nat → Array Bool → Act → World → Prop
  | 0, l, a, w => Region.ready md ops l = [] ∧ Q .normal a w
  | n + 1, l, a, w => (Region.ready md ops l = [] → Q .normal a w) ∧ ∀ i ∈ Region.ready md ops l, wpOp P ops Q i (fun a' w' => (i ∈ J ∨ S w') ∧ Untl P md ops Q S J n (l.setIfInBounds i true) a' w') a w
theorem Untl.any : ∀ (n : Nat) (l : Array Bool) (a : Act) (w : World), Untl P md ops Q S J n l a w → wpAny P md ops Q n l a w
  | 0, _, _, _, h => h
  | n + 1, _, _, _, h => ⟨h.1, fun i hi => wpOp_mono (fun a' w' h' => Untl.any n _ a' w' h'.2) (h.2 i hi)⟩
/-- k uwaits for i, by at most so many steps. -/
def uhangs (md : Region.Mode) (ops : Array Oper) (i : Nat) : Nat → Nat → Bool
  | 0, _ => false
  | n + 1, k => (ops[k]?).any fun o => o.after.any fun e => Region.binds md e && (e.on == i || uhangs md ops i n e.on)
def uwaits (md : Region.Mode) (ops : Array Oper) (J : List Nat) (i : Nat) : Bool := J.all fun j => uhangs md ops i 8 j
/-- What is listed uwaits for nothing that is not. -/
def UClosed (md : Region.Mode) (ops : Array Oper) (l : Array Bool) : Prop := ∀ k o, ops[k]? = some o → l.getD k true = true → ∀ e ∈ o.after, Region.binds md e = true → l.getD e.on true = true
def uClosedL (md : Region.Mode) (ops : Array Oper) (l : Array Bool) : Bool := (List.range ops.size).all fun k => !(l.getD k true) || (ops[k]?).all fun o => o.after.all fun e => !(Region.binds md e) || l.getD e.on true
theorem uclosed_of {l : Array Bool} (h : uClosedL md ops l = true) : UClosed md ops l := by
  intro k o hk hl e he hb
  have hlt : k < ops.size := by
    rcases Nat.lt_or_ge k ops.size with h | h
    · exact h
    · rw [Array.getElem?_eq_none h] at hk; cases hk
  have := List.all_eq_true.1 h k (List.mem_range.2 hlt)
  rw [hl, hk] at this
  simp only [Bool.not_true, Bool.false_or, Option.all_some, Array.all_eq_true'] at this
  have := this e he
  rw [hb] at this
  simpa using this
theorem uhangs_out {l : Array Bool} {i : Nat} (hc : UClosed md ops l) (hi : l.getD i true = false) : ∀ (n k : Nat), uhangs md ops i n k = true → ∃ o, ops[k]? = some o ∧ ∃ e ∈ o.after, Region.binds md e = true ∧ l.getD e.on true = false := by
  intro n
  induction n with
  | zero => intro k h; cases h
  | succ n ih =>
    intro k h
    unfold uhangs at h
    cases ho : ops[k]? with
    | none => rw [ho] at h; cases h
    | some o =>
      rw [ho] at h
      simp only [Option.any_some, Array.any_eq_true'] at h
      obtain ⟨e, he, hb⟩ := h
      rw [Bool.and_eq_true, Bool.or_eq_true, beq_iff_eq] at hb
      refine ⟨o, rfl, e, he, hb.1, ?_⟩
      rcases hb.2 with h | h
      · rw [h]; exact hi
      · obtain ⟨o', ho', e', he', hb', hf⟩ := ih _ h
        rcases hx : l.getD e.on true with _ | _
        · rfl
        · have := hc _ _ ho' hx e' he' hb'
          rw [hf] at this; cases this
theorem UClosed.set {l : Array Bool} {j : Nat} (hc : UClosed md ops l) (hj : ∀ oj, ops[j]? = some oj → ∀ e ∈ oj.after, Region.binds md e = true → l.getD e.on true = true) : UClosed md ops (l.setIfInBounds j true) := by
  intro k o hk hl e he hb
  have h0 : l.getD e.on true = true := by
    rcases Decidable.em (j = k) with rfl | hne
    · exact hj o hk e he hb
    · rw [getD_set_ne true hne] at hl
      exact hc k o hk hl e he hb
  rcases Decidable.em (j = e.on) with hje | hne
  · rw [hje, Array.getD_eq_getD_getElem?, Array.getElem?_setIfInBounds]
    by_cases hs : e.on < l.size <;> simp [hs]
  · rw [getD_set_ne true hne]; exact h0
theorem Untl.first {i : Nat} {oi : Oper} {v : Value} (hi : ops[i]? = some oi) (hsel : ∀ (j : Nat) (o : Oper) cs b, ops[j]? = some o → o.op ≠ .select cs b) (hJ : uwaits md ops J i = true)
    (hQ : ∀ c a w, Q (.panic c) (a.put oi.dst v) w → Q (.panic c) a w) : ∀ (n : Nat) (l : Array Bool) (a : Act) (w : World),
      (∀ j oj, ops[j]? = some oj → j ≠ i → l.getD j true = false → (∀ e ∈ oj.after, Region.binds md e = true → e.on ≠ i) → oi.apart ops oj = true) →
      UClosed md ops l → i ∈ Region.ready md ops l → YieldsIf P ops S oi v a → S w → Untl P md ops Q S J n (l.setIfInBounds i true) (a.put oi.dst v) w → Untl P md ops Q S J (n + 1) l a w := by
  intro n
  induction n with
  | zero =>
    intro l a w _ _ hr hy hS H
    refine ⟨fun h => absurd (h ▸ hr) (by simp), fun j hj => ?_⟩
    rcases Decidable.em (j = i) with rfl | hne
    · exact hy.wpOp hi hS ⟨.inr hS, H⟩
    · exact absurd (H.1 ▸ ready_mono hj hne) (by simp)
  | succ n ih =>
    intro l a w hf hc hr hy hS H
    refine ⟨fun h => absurd (h ▸ hr) (by simp), fun j hj => ?_⟩
    rcases Decidable.em (j = i) with rfl | hne
    · exact hy.wpOp hi hS ⟨.inr hS, H⟩
    obtain ⟨hju, oj, hoj, hal⟩ := mem_ready.1 hj
    have hiu := (mem_ready.1 hr).1
    have hal' : ∀ e ∈ oj.after, Region.binds md e = true → l.getD e.on true = true := by
      intro e he hb
      have ht := hal e he hb
      by_cases hs : e.on < l.size
      · simp [hs] at ht ⊢; exact ht
      · simp [hs] at ht ⊢
    have hno : ∀ e ∈ oj.after, Region.binds md e = true → e.on ≠ i := by
      rintro e he hb rfl
      have ht := hal e he hb
      by_cases hs : e.on < l.size
      · simp [hs] at hiu ht; rw [hiu] at ht; cases ht
      · simp [hs] at ht
    have hjJ : j ∉ J := fun hm => by
      unfold uwaits at hJ
      obtain ⟨o', ho', e, he, hb, hx⟩ := uhangs_out hc hiu 8 j (List.all_eq_true.1 hJ j hm)
      rw [hoj, Option.some.injEq] at ho'
      subst ho'
      rw [hal' e he hb] at hx
      cases hx
    refine wpOp_mono (fun a' w' h3 => ?_) (wpOp_putIf hoj (hf j oj hoj hne hju hno) (fun cs b => hsel i oi cs b hi) (fun cs b => hsel j oj cs b hoj) hQ hy (H.2 j (ready_mono hj hne)))
    have hS' : S w' := h3.2.1.resolve_left hjJ
    refine ⟨.inr hS', ih _ a' w' (fun k ok hk hki hun hno' => hf k ok hk hki ?_ hno') (hc.set fun o' ho' => by (rw [hoj, Option.some.injEq] at ho'; subst ho'; exact hal')) (ready_mono hr (Ne.symm hne)) h3.1 hS' (by rw [Array.setIfInBounds_comm _ _ hne]; exact h3.2.2)⟩
    rcases Decidable.em (j = k) with rfl | hjk
    · exact hju
    · rwa [getD_set_ne true hjk] at hun
theorem untlTake {i : Nat} {oi : Oper} (d : Tmp) {v : Value} {n : Nat} {l : Array Bool} {a : Act} {w : World} (hi : ops[i]? = some oi) (hd : (ops[i]?).bind (·.dst) = some d)
    (hs : Region.noSelect ops = true) (hf : Region.free md ops l i = true) (hJ : uwaits md ops J i = true) (hc : uClosedL md ops l = true) (hr : (Region.ready md ops l).contains i = true)
    (hQ : ∀ c a w, Q (.panic c) (a.put (some d) v) w → Q (.panic c) a w) (hy : YieldsIf P ops S oi v a) (hS : S w)
    (h : Untl P md ops Q S J n (l.setIfInBounds i true) (a.put (some d) v) w) : Untl P md ops Q S J (n + 1) l a w := by
  have e : oi.dst = some d := by rw [hi] at hd; exact hd
  rw [← e] at hQ h
  exact Untl.first hi (Region.noSelect_spec hs) hJ hQ n l a w (Region.free_spec hi hf) (uclosed_of hc) (by simpa using hr) hy hS h
/-- One comes up alone. -/
theorem untlStep {i : Nat} {o : Oper} {n : Nat} {l : Array Bool} {a : Act} {w : World} (hr : Region.ready md ops l = [i]) (ho : ops[i]? = some o)
    (h : ∀ K : Act → World → Prop, Shut (∀ a w, (i ∈ J ∨ S w) → Untl P md ops Q S J n (l.setIfInBounds i true) a w → K a w) → if Region.wanted o (yielded ops a.tmps) = true then o.wp P a w K Q else K (a.put o.dst undef) w) : Untl P md ops Q S J (n + 1) l a w := by
  refine ⟨fun e => by (rw [hr] at e; cases e), fun j hj => ?_⟩
  rw [hr, List.mem_singleton] at hj
  subst hj
  refine wpOp_step ho (fun K hK => ?_)
  exact h K (fun a w hS hU => hK a w ⟨hS, hU⟩)
/-- Some may come up. -/
def UReady (P : Program) (md : Region.Mode) (ops : Array Oper) (Q : Exit → Act → World → Prop) (S : World → Prop) (J : List Nat) (n : Nat) (l : Array Bool) (a : Act) (w : World) (rs : List Nat) : Prop :=
  ∀ i ∈ rs, wpOp P ops Q i (fun a' w' => (i ∈ J ∨ S w') ∧ Untl P md ops Q S J n (l.setIfInBounds i true) a' w') a w
theorem untlReady {rs : List Nat} {n : Nat} {l : Array Bool} {a : Act} {w : World} (hr : Region.ready md ops l = rs) (hne : rs ≠ []) (h : UReady P md ops Q S J n l a w rs) : Untl P md ops Q S J (n + 1) l a w := ⟨fun e => absurd (hr.symm.trans e) hne, by rw [hr]; exact h⟩
theorem UReady.nil {n : Nat} {l : Array Bool} {a : Act} {w : World} : UReady P md ops Q S J n l a w [] := fun _ h => by cases h
theorem UReady.cons {i : Nat} {o : Oper} {rs : List Nat} {n : Nat} {l : Array Bool} {a : Act} {w : World} (ho : ops[i]? = some o)
    (h : ∀ K : Act → World → Prop, Shut (∀ a w, (i ∈ J ∨ S w) → Untl P md ops Q S J n (l.setIfInBounds i true) a w → K a w) → if Region.wanted o (yielded ops a.tmps) = true then o.wp P a w K Q else K (a.put o.dst undef) w)
    (hs : UReady P md ops Q S J n l a w rs) : UReady P md ops Q S J n l a w (i :: rs) := fun j hj => by
  rcases List.mem_cons.1 hj with rfl | hj
  · exact wpOp_step ho (fun K hK => h K (fun a w hS hU => hK a w ⟨hS, hU⟩))
  · exact hs j hj
theorem untlDone {l : Array Bool} {a : Act} {w : World} (hr : Region.ready md ops l = []) (h : Q .normal a w) : ∀ n, Untl P md ops Q S J n l a w
  | 0 => ⟨hr, h⟩
  | _ + 1 => ⟨fun _ => h, by rw [hr]; simp⟩
end
theorem wp_region_untl {P : Program} {ops : Array Oper} {Q : Exit → Act → World → Prop} {S : World → Prop} (J : List Nat) {id : Nat} {a : Act} {w : World} (hm : P.follows .mixedOrders = true) (hS : S w.drew)
    (h : S w.drew → Untl P .any ops Q S J ops.size (Array.replicate ops.size false) a w.drew) : (Code.region id ops true).wp P Q a w := wp_region_any hm (Untl.any _ _ _ _ (h hS))
end Go.Proofs.Ytiflhimmieflpaa
