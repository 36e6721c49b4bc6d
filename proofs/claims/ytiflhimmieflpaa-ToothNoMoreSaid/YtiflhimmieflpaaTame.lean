/- A region that draws its order, by an invariant: J speaks of what has come up, of the values that it left, and of the world. -/
import Derived.Orders
import Derived.Tactics
import Derived.Tactics2
import Derived.KernelRfl
namespace Go.Proofs.Ytiflhimmieflpaa
open Go

section
variable {P : Program} {ops : Array Oper}
def tameUpon (P : Program) (G : Value → World → Prop) : Result Next → Prop
  | .ok (.value u) w' => G u w'
  | .ok .skip w' => G undef w'
  | .ok (.enter f args) w' => Calls P f args w' fun e w'' => ∃ u, e = .returned u ∧ G u w''
  | _ => False
def tame (P : Program) (o : Oper) (a : Act) (w : World) (G : Value → World → Prop) : Prop := tameUpon P G ((execOp a.eval o).run P w)
attribute [go_sem] tame tameUpon

theorem wp_of_tame {o : Oper} {a A : Act} {w : World} {G : Value → World → Prop} {K : Act → World → Prop} {Q : Exit → Act → World → Prop} (he : execOp a.eval o = execOp A.eval o) (h : tame P o A w G) (hk : ∀ u w', G u w' → K (a.put o.dst u) w') : o.wp P a w K Q := by
  unfold tame at h
  rw [← he] at h
  unfold Oper.wp
  generalize (execOp a.eval o).run P w = r at *
  cases r with
  | ok n w' =>
    cases n <;> simp only [tameUpon] at h <;> simp only [Oper.upon]
    case value u => exact hk _ _ h
    case skip => exact hk _ _ h
    case enter f args =>
      refine Calls.mono h fun e w'' hh => ?_
      obtain ⟨u, rfl, hg⟩ := hh
      exact hk _ _ hg
  | halt x w' => simp only [tameUpon] at h

def upd (L : Nat → Bool) (k : Nat) : Nat → Bool := fun j => if j = k then true else L j
def updv (σ : Nat → Value) (k : Nat) (u : Value) : Nat → Value := fun j => if j = k then u else σ j
def dstOf (ops : Array Oper) (k : Nat) : Option Tmp := (ops[k]?).bind (·.dst)
def foldPut (ops : Array Oper) (L : Nat → Bool) (σ : Nat → Value) : List Nat → Act → Act
  | [], a => a
  | k :: R, a => foldPut ops L σ R (if L k = true then a.put (dstOf ops k) (σ k) else a)
def allOf (ops : Array Oper) (σ : Nat → Value) : List Nat → Act → Act
  | [], a => a
  | k :: R, a => allOf ops σ R (a.put (dstOf ops k) (σ k))

theorem foldPut_congr {L L' : Nat → Bool} {σ σ' : Nat → Value} : ∀ (R : List Nat) (a : Act), (∀ k ∈ R, L' k = L k ∧ σ' k = σ k) → foldPut ops L' σ' R a = foldPut ops L σ R a
  | [], _, _ => rfl
  | k :: R, a, h => by
    have hk := h k (by simp)
    simp only [foldPut]
    rw [hk.1, hk.2]
    exact foldPut_congr R _ fun j hj => h j (by simp [hj])
theorem foldPut_put {L : Nat → Bool} {σ : Nat → Value} {x : Option Tmp} {u : Value} : ∀ (R : List Nat) (a : Act), (∀ k ∈ R, ∀ d, x = some d → dstOf ops k ≠ some d) → foldPut ops L σ R (a.put x u) = (foldPut ops L σ R a).put x u
  | [], _, _ => rfl
  | k :: R, a, h => by
    simp only [foldPut]
    by_cases hk : L k = true
    · rw [if_pos hk, if_pos hk, Act.put_comm a u (σ k) (h k (by simp))]
      exact foldPut_put R _ fun j hj => h j (by simp [hj])
    · rw [if_neg hk, if_neg hk]
      exact foldPut_put R _ fun j hj => h j (by simp [hj])
theorem foldPut_step {L : Nat → Bool} {σ : Nat → Value} {k : Nat} {u : Value} (hL : L k = false) : ∀ (R : List Nat) (a : Act), k ∈ R → R.Pairwise (· < ·) → (∀ j ∈ R, j ≠ k → ∀ d, dstOf ops k = some d → dstOf ops j ≠ some d) →
    foldPut ops (upd L k) (updv σ k u) R a = (foldPut ops L σ R a).put (dstOf ops k) u
  | [], _, h, _, _ => by cases h
  | j :: R, a, h, hp, hd => by
    have hp' := List.pairwise_cons.1 hp
    simp only [foldPut]
    by_cases hj : j = k
    · subst hj
      have e1 : upd L j j = true := by simp [upd]
      have e2 : updv σ j u j = u := by simp [updv]
      rw [e1, if_pos rfl, e2, hL, if_neg (by simp)]
      rw [foldPut_congr (L := L) (σ := σ) R _ fun i hi => by
        have : i ≠ j := by have := hp'.1 i hi; omega
        simp [upd, updv, this]]
      exact foldPut_put R a fun i hi => hd i (by simp [hi]) (by have := hp'.1 i hi; omega)
    · have hk : k ∈ R := by rcases List.mem_cons.1 h with e | e; exact absurd e.symm hj; exact e
      have e1 : upd L k j = L j := by simp [upd, hj]
      have e2 : updv σ k u j = σ j := by simp [updv, hj]
      rw [e1, e2]
      exact foldPut_step hL R _ hk hp'.2 fun i hi => hd i (by simp [hi])
/-- Two frames look alike at a slot. -/
def Alike (x : Operand) (a a' : Act) : Prop := match x with
  | .tmp t => a.tmps[t]? = a'.tmps[t]?
  | _ => True
theorem Alike.eval {x : Operand} {a a' : Act} (h : Alike x a a') : a.eval x = a'.eval x := by
  cases x with
  | tmp t => simp only [Alike] at h; simp only [Act.eval, Array.getD_eq_getD_getElem?]; rw [h]
  | _ => rfl
theorem Alike.put {x : Operand} {a a' : Act} (h : Alike x a a') (d : Option Tmp) (v : Value) : Alike x (a.put d v) (a'.put d v) := by
  cases x with
  | tmp t =>
    simp only [Alike] at h ⊢
    cases d with
    | none => exact h
    | some d =>
      simp only [Act.put, Array.getElem?_setIfInBounds]
      by_cases e : d = t
      · subst e
        have hs : d < a.tmps.size ↔ d < a'.tmps.size := by
          rcases Nat.lt_or_ge d a.tmps.size with h1 | h1 <;> rcases Nat.lt_or_ge d a'.tmps.size with h2 | h2
          · simp [h1, h2]
          · rw [Array.getElem?_eq_getElem h1, Array.getElem?_eq_none h2] at h; cases h
          · rw [Array.getElem?_eq_none h1, Array.getElem?_eq_getElem h2] at h; cases h
          · exact ⟨fun h3 => absurd h3 (Nat.not_lt.2 h1), fun h3 => absurd h3 (Nat.not_lt.2 h2)⟩
        simp [hs]
      · simp [e, h]
  | _ => trivial
theorem Alike.put_right {x : Operand} {a a' : Act} (h : Alike x a a') (d : Option Tmp) (v : Value) (hd : ∀ t, d = some t → x ≠ .tmp t) : Alike x a (a'.put d v) := by
  cases x with
  | tmp t =>
    simp only [Alike] at h ⊢
    cases d with
    | none => exact h
    | some d =>
      have e : d ≠ t := fun e => hd d rfl (by rw [e])
      simp only [Act.put, Array.getElem?_setIfInBounds_ne e]
      exact h
  | _ => trivial
theorem fold_alike {L : Nat → Bool} {σ : Nat → Value} {x : Operand} : ∀ (R : List Nat) (a a' : Act), Alike x a a' → (∀ k ∈ R, L k = false → ∀ t, dstOf ops k = some t → x ≠ .tmp t) → Alike x (foldPut ops L σ R a) (allOf ops σ R a')
  | [], _, _, h, _ => h
  | k :: R, a, a', h, hd => by
    simp only [foldPut, allOf]
    by_cases hk : L k = true
    · rw [if_pos hk]
      exact fold_alike R _ _ (h.put _ _) fun j hj => hd j (by simp [hj])
    · rw [if_neg hk]
      exact fold_alike R _ _ (h.put_right _ _ (hd k (by simp) (by simpa using hk))) fun j hj => hd j (by simp [hj])
theorem fold_all {L : Nat → Bool} {σ : Nat → Value} : ∀ (R : List Nat) (a : Act), (∀ k ∈ R, L k = true) → foldPut ops L σ R a = allOf ops σ R a
  | [], _, _ => rfl
  | k :: R, a, h => by
    simp only [foldPut, allOf]
    rw [if_pos (h k (by simp))]
    exact fold_all R _ fun j hj => h j (by simp [hj])
/-- What is asked of the region's text: R is what is left, in order; each waits only for earlier ones; none looks at one that it does not wait for; none is guarded; no two write one slot. -/
def tameB (md : Region.Mode) (ops : Array Oper) (R : List Nat) : Bool :=
  R.all fun k => match ops[k]? with
    | none => false
    | some o => o.guard.isNone && (match o.op with | .select .. => false | _ => true) && (match o.dst with | none => true | some d => !(o.looksAt ops).contains d) && o.after.all (fun e => !Region.binds md e || (decide (e.on < k) && decide (e.on < ops.size))) &&
      R.all fun j => j == k || (match dstOf ops j with
        | none => true
        | some d => (dstOf ops k != some d) && ((o.after.any fun e => Region.binds md e && e.on == j) || !(o.looksAt ops).contains d))
/-- What has come up has what it waits for behind it. -/
def Closed (md : Region.Mode) (ops : Array Oper) (R : List Nat) (L : Nat → Bool) : Prop := ∀ k ∈ R, L k = true → ∀ o, ops[k]? = some o → ∀ e ∈ o.after, Region.binds md e = true → e.on ∈ R → L e.on = true
def Waits (md : Region.Mode) (ops : Array Oper) (R : List Nat) (L : Nat → Bool) (k : Nat) : Prop := ∀ o, ops[k]? = some o → ∀ e ∈ o.after, Region.binds md e = true → e.on ∈ R → L e.on = true

theorem wpAny_tame {md : Region.Mode} {Q : Exit → Act → World → Prop} (R : List Nat) (hp : R.Pairwise (· < ·)) (hB : tameB md ops R = true) (J : (Nat → Bool) → (Nat → Value) → World → Prop) (a0 : Act)
    (hstep : ∀ k ∈ R, ∀ o, ops[k]? = some o → ∀ L σ w, L k = false → Waits md ops R L k → Closed md ops R L → J L σ w → tame P o (allOf ops σ R a0) w fun u w' => J (upd L k) (updv σ k u) w')
    (hend : ∀ L σ w, (∀ k ∈ R, L k = true) → J L σ w → Q .normal (allOf ops σ R a0) w) :
    ∀ (fuel : Nat) (listed : Array Bool) (L : Nat → Bool) (σ : Nat → Value) (w : World), (R.filter fun k => !L k).length ≤ fuel → listed.size = ops.size → (∀ k, k < ops.size → listed[k]? = some (!R.contains k || L k)) → Closed md ops R L → J L σ w →
      wpAny P md ops Q fuel listed (foldPut ops L σ R a0) w := by
  have hB1 : ∀ k ∈ R, ∃ o, ops[k]? = some o ∧ o.guard = none ∧ (∀ cs b, o.op ≠ .select cs b) ∧ (∀ d, o.dst = some d → d ∉ o.looksAt ops) ∧ (∀ e ∈ o.after, Region.binds md e = true → e.on < k ∧ e.on < ops.size) ∧
      ∀ j ∈ R, j ≠ k → ∀ d, dstOf ops j = some d → dstOf ops k ≠ some d ∧ ((∃ e ∈ o.after, Region.binds md e = true ∧ e.on = j) ∨ d ∉ o.looksAt ops) := by
    intro k hk
    have h1 := List.all_eq_true.1 hB k hk
    cases ho : ops[k]? with
    | none => rw [ho] at h1; cases h1
    | some o =>
      rw [ho] at h1
      simp only [Bool.and_eq_true] at h1
      obtain ⟨⟨⟨⟨g1, g2⟩, g5⟩, g3⟩, g4⟩ := h1
      refine ⟨o, rfl, by simpa using g1, (fun cs b hop => by rw [hop] at g2; cases g2), (fun d hd => by rw [hd] at g5; simpa using g5), fun e he hb => ?_, fun j hj hjk d hd => ?_⟩
      · have := Array.all_eq_true_iff_forall_mem.1 g3 e he
        simp only [hb, Bool.not_true, Bool.false_or, Bool.and_eq_true, decide_eq_true_eq] at this
        exact this
      · have := List.all_eq_true.1 g4 j hj
        rw [hd] at this
        simp only [Bool.or_eq_true, beq_iff_eq, Bool.and_eq_true, bne_iff_ne, ne_eq, Bool.not_eq_true'] at this
        rcases this with e | ⟨e1, e2⟩
        · exact absurd e hjk
        · refine ⟨e1, ?_⟩
          rcases e2 with e2 | e2
          · obtain ⟨e, he, hb⟩ := Array.any_eq_true'.1 e2
            simp only [Bool.and_eq_true, beq_iff_eq] at hb
            exact .inl ⟨e, he, hb.1, hb.2⟩
          · exact .inr (by simpa using e2)
  have hstuck : ∀ (listed : Array Bool) (L : Nat → Bool), (∀ k, k < ops.size → listed[k]? = some (!R.contains k || L k)) → Region.ready md ops listed = [] → ∀ k ∈ R, L k = true := by
    intro listed L hl hr k
    induction k using Nat.strongRecOn with
    | ind k ih =>
      intro hk
      cases hLk : L k with
      | true => rfl
      | false =>
        exfalso
        obtain ⟨o, ho, _, _, _, hpre, _⟩ := hB1 k hk
        have hks : k < ops.size := (Array.getElem?_eq_some_iff.1 ho).1
        have hmem : k ∈ Region.ready md ops listed := by
          rw [mem_ready]
          refine ⟨?_, o, ho, fun e he hb => ?_⟩
          · have := hl k hks
            simp [Array.getD_eq_getD_getElem?, this, hLk, hk]
          · have hp2 := hpre e he hb
            have := hl e.on hp2.2
            by_cases hin : e.on ∈ R
            · simp [Array.getD_eq_getD_getElem?, this, ih e.on hp2.1 hin]
            · simp [Array.getD_eq_getD_getElem?, this, hin]
        rw [hr] at hmem
        cases hmem
  intro fuel
  induction fuel with
  | zero =>
    intro listed L σ w hf hs hl hc hJ
    have hall : ∀ k ∈ R, L k = true := by
      intro k hk
      have h0 : (R.filter fun k => !L k) = [] := List.eq_nil_of_length_eq_zero (by omega)
      rw [List.filter_eq_nil_iff] at h0
      simpa using h0 k hk
    rw [fold_all R a0 hall]
    refine ⟨?_, hend L σ w hall hJ⟩
    cases hr : Region.ready md ops listed with
    | nil => rfl
    | cons k rs =>
      exfalso
      have hk : k ∈ Region.ready md ops listed := by rw [hr]; simp
      rw [mem_ready] at hk
      obtain ⟨h0, o, ho, _⟩ := hk
      have hks : k < ops.size := (Array.getElem?_eq_some_iff.1 ho).1
      have := hl k hks
      by_cases hin : k ∈ R
      · simp [Array.getD_eq_getD_getElem?, this, hall k hin] at h0
      · simp [Array.getD_eq_getD_getElem?, this, hin] at h0
  | succ fuel ih =>
    intro listed L σ w hf hs hl hc hJ
    refine ⟨fun hr => ?_, fun i hi => ?_⟩
    · have hall := hstuck listed L hl hr
      rw [fold_all R a0 hall]
      exact hend L σ w hall hJ
    · rw [mem_ready] at hi
      obtain ⟨h0, o, ho, hpre⟩ := hi
      have his : i < ops.size := (Array.getElem?_eq_some_iff.1 ho).1
      have hli := hl i his
      have hiR : i ∈ R ∧ L i = false := by
        simp [Array.getD_eq_getD_getElem?, hli] at h0
        exact h0
      obtain ⟨hiR, hLi⟩ := hiR
      obtain ⟨o', ho', hg, hsel, hown, hpre', hlook⟩ := hB1 i hiR
      rw [ho] at ho'
      injection ho' with ho'
      subst ho'
      have hw : Waits md ops R L i := by
        intro o2 ho2 e he hb hin
        rw [ho] at ho2
        injection ho2 with ho2
        subst ho2
        have h1 := hpre e he hb
        have h2 := hl e.on (hpre' e he hb).2
        simp [Array.getD_eq_getD_getElem?, h2, hin] at h1
        exact h1
      have ht := hstep i hiR o ho L σ w hLi hw hc hJ
      have hexec : execOp (foldPut ops L σ R a0).eval o = execOp (allOf ops σ R a0).eval o := by
        refine execOp_congr o hsel fun x hx => Alike.eval (fold_alike R a0 a0 (by cases x <;> simp [Alike]) fun k hk hLk t htd hxt => ?_)
        by_cases hki : k = i
        · subst hki
          subst hxt
          have hdo : o.dst = some t := by simpa [dstOf, ho] using htd
          exact hown t hdo (List.mem_append_left _ (List.mem_filterMap.2 ⟨.tmp t, by simpa using hx, rfl⟩))
        · subst hxt
          rcases (hlook k hk hki t htd).2 with ⟨e, he, hb, hek⟩ | hn
          · have := hw o ho e he hb (by rw [hek]; exact hk)
            rw [hek, hLk] at this
            cases this
          · exact hn (List.mem_append_left _ (List.mem_filterMap.2 ⟨.tmp t, by simpa using hx, rfl⟩))
      unfold wpOp
      simp only [ho]
      have hwant : Region.wanted o (yielded ops (foldPut ops L σ R a0).tmps) = true := by simp [Region.wanted, hg]
      rw [if_pos hwant]
      refine .inl (wp_of_tame hexec ht fun u w' hJ' => ?_)
      have hdst : dstOf ops i = o.dst := by simp [dstOf, ho]
      rw [← hdst, ← foldPut_step hLi R a0 hiR hp fun j hj hji d hd => (fun h => (hlook j hj hji d h).1 hd)]
      refine ih _ (upd L i) (updv σ i u) w' ?_ (by simpa using hs) (fun k hk => ?_) (fun k hk hLk o2 ho2 e he hb hin => ?_) hJ'
      · have hlt : (R.filter fun k => !upd L i k).length < (R.filter fun k => !L k).length := by
          have hsub : (R.filter fun k => !upd L i k) = (R.filter fun k => !L k).filter fun k => decide (k ≠ i) := by
            rw [List.filter_filter]
            apply List.filter_congr
            intro k _
            by_cases e : k = i <;> simp [upd, e]
          rw [hsub]
          apply List.length_filter_lt_length_iff_exists.2
          exact ⟨i, List.mem_filter.2 ⟨hiR, by simp [hLi]⟩, by simp⟩
        omega
      · rw [Array.getElem?_setIfInBounds]
        by_cases e : i = k
        · subst e; simp [upd, hs, his]
        · rw [if_neg e, hl k hk]
          simp [upd, show ¬ k = i from fun h => e h.symm]
      · by_cases e1 : e.on = i
        · simp [upd, e1]
        · simp only [upd, if_neg e1]
          by_cases e2 : k = i
          · subst e2
            exact hw o2 ho2 e he hb hin
          · have : L k = true := by simpa [upd, e2] using hLk
            exact hc k hk this o2 ho2 e he hb hin
theorem Closed.no {md : Region.Mode} {R : List Nat} {L : Nat → Bool} (h : Closed md ops R L) {j k : Nat} (hL : L k = false) (hj : R.contains j = true) (hk : R.contains k = true) (hb : ((ops[j]?).map fun o => o.after.any fun e => Region.binds md e && e.on == k) = some true) : L j = false := by
  cases hLj : L j with
  | false => rfl
  | true =>
    exfalso
    cases ho : ops[j]? with
    | none => rw [ho] at hb; cases hb
    | some o =>
      rw [ho] at hb
      simp only [Option.map_some, Option.some.injEq] at hb
      obtain ⟨e, he, h2⟩ := Array.any_eq_true'.1 hb
      simp only [Bool.and_eq_true, beq_iff_eq] at h2
      have := h j (by simpa using hj) hLj o ho e he h2.1 (by rw [h2.2]; simpa using hk)
      rw [h2.2, hL] at this
      cases this
theorem Waits.yes {md : Region.Mode} {R : List Nat} {L : Nat → Bool} {k : Nat} (h : Waits md ops R L k) {j : Nat} (hj : R.contains j = true) (hb : ((ops[k]?).map fun o => o.after.any fun e => Region.binds md e && e.on == j) = some true) : L j = true := by
  cases ho : ops[k]? with
  | none => rw [ho] at hb; cases hb
  | some o =>
    rw [ho] at hb
    simp only [Option.map_some, Option.some.injEq] at hb
    obtain ⟨e, he, h2⟩ := Array.any_eq_true'.1 hb
    simp only [Bool.and_eq_true, beq_iff_eq] at h2
    have := h o ho e he h2.1 (by rw [h2.2]; simpa using hj)
    rwa [h2.2] at this
theorem foldPut_none {σ : Nat → Value} : ∀ (R : List Nat) (a : Act), foldPut ops (fun _ => false) σ R a = a
  | [], _ => rfl
  | _ :: R, a => by simp only [foldPut]; rw [if_neg (by simp)]; exact foldPut_none R a
/-- From the beginning of a walk of what is left. -/
theorem wpAny_tame0 {md : Region.Mode} {Q : Exit → Act → World → Prop} (R : List Nat) (hp : R.Pairwise (· < ·)) (hB : tameB md ops R = true) (J : (Nat → Bool) → (Nat → Value) → World → Prop) {a0 : Act} {fuel : Nat} {listed : Array Bool} {w : World}
    (hf : R.length ≤ fuel) (hs : listed.size = ops.size) (hl : ∀ k, k < ops.size → listed[k]? = some (!R.contains k)) (h0 : J (fun _ => false) (fun _ => undef) w)
    (hstep : ∀ k ∈ R, ∀ o, ops[k]? = some o → ∀ L σ w, L k = false → Waits md ops R L k → Closed md ops R L → J L σ w → tame P o (allOf ops σ R a0) w fun u w' => J (upd L k) (updv σ k u) w')
    (hend : ∀ L σ w, (∀ k ∈ R, L k = true) → J L σ w → Q .normal (allOf ops σ R a0) w) : wpAny P md ops Q fuel listed a0 w := by
  have := wpAny_tame (P := P) (Q := Q) R hp hB J a0 hstep hend fuel listed (fun _ => false) (fun _ => undef) w (Nat.le_trans (List.length_filter_le _ _) hf) hs (fun k hk => by rw [hl k hk]; simp) (fun k _ h => by cases h) h0
  rwa [foldPut_none] at this
/-- An append onto a list of the call's own. -/
theorem tame_append {o : Oper} {a : Act} {w : World} {G : Value → World → Prop} (s x : Operand) (t : TypeId) (hop : o.op = Op.call { callee := Callee.builtin Builtin.append, args := #[s, x], argTypes := #[t, t] }) {vs vx : Value} (hs : a.eval s = vs) (hx : a.eval x = vx) {v' : Value} {w' : World}
    (hrun : (Builtin.append_ #[t, t] o.type #[vs, vx]).run P w = .ok v' w') (hG : G v' w') : tame P o a w G := by
  unfold tame
  simp [execOp, hop, resolve, invoke, builtin, hs, hx, hrun, Result.andThen, tameUpon]
  exact hG
end
end Go.Proofs.Ytiflhimmieflpaa
