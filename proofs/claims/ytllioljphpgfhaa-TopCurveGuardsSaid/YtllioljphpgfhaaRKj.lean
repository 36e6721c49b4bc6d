/- What is needed of Kj. -/
import Derived.Test.YtllioljphpgfhaaRUb
import Derived.Test.YtllioljphpgfhaaRKe
import Derived.Test.YtllioljphpgfhaaRKb
namespace Go.Proofs.Ytllioljphpgfhaa
theorem cross_le {a b c d e f : Int} (hb : 0 < b) (hd : 0 < d) (hf : 0 < f) (h1 : a * d ≤ c * b) (h2 : c * f ≤ e * d) : a * f ≤ e * b := by
  have x1 : a * d * f ≤ c * b * f := Int.mul_le_mul_of_nonneg_right h1 (by omega)
  have x2 : c * f * b ≤ e * d * b := Int.mul_le_mul_of_nonneg_right h2 (by omega)
  have e1 : a * d * f = a * f * d := by rw [Int.mul_assoc, Int.mul_assoc, Int.mul_comm d f]
  have e2 : c * b * f = c * f * b := by rw [Int.mul_assoc, Int.mul_assoc, Int.mul_comm b f]
  have e3 : e * d * b = e * b * d := by rw [Int.mul_assoc, Int.mul_assoc, Int.mul_comm d b]
  exact Int.le_of_mul_le_mul_right (a := d) (by omega) hd
/-- One ratio is not beyond another one, at an end. -/
def before (u : Bool) (r s : Int × Int) : Prop := bif u then s.1 * r.2 ≤ r.1 * s.2 else r.1 * s.2 ≤ s.1 * r.2
theorem before_trans {u : Bool} {r s t : Int × Int} (hr : 0 < r.2) (hs : 0 < s.2) (ht : 0 < t.2) (h1 : before u r s) (h2 : before u s t) : before u r t := by
  cases u
  · exact cross_le hr hs ht h1 h2
  · exact cross_le ht hs hr h2 h1
theorem before_refl (u : Bool) (r : Int × Int) : before u r r := by cases u <;> exact Int.le_refl _
theorem pick_step (u : Bool) (x y : Int × Int) : (if (bif u then decide (0 < ratL x.1 x.2 y.1 y.2) else decide (ratL x.1 x.2 y.1 y.2 < 0)) = true then before u x y else before u y x) := by
  obtain ⟨a, b⟩ := x
  obtain ⟨c, d⟩ := y
  cases u <;> rcases Int.lt_trichotomy (a * d) (c * b) with h | h | h <;> simp [ratL, cmpL, before] <;> (try simp [h]) <;> (try rw [if_neg (by omega)]) <;> (try simp) <;> (try rw [if_pos (by omega)]) <;> (try simp) <;> omega
theorem pick_ext (u : Bool) {rs : List (Int × Int)} (hp : ∀ r ∈ rs, 0 < r.2) (k : Nat) (hk : k < rs.length) : ∀ j ≤ k, before u (pickGo u rs k) (rs.getD j (0, 0)) := by
  have hg : ∀ i, i < rs.length → 0 < (rs.getD i (0, 0)).2 := fun i hi => by
    have e : rs.getD i (0, 0) = rs[i] := by simp [List.getD, hi]
    rw [e]; exact hp _ (List.getElem_mem hi)
  induction k with
  | zero => intro j hj; obtain rfl : j = 0 := by omega
            exact before_refl _ _
  | succ k ih =>
    intro j hj
    have ih := ih (by omega)
    have hs := pick_step u (rs.getD (k + 1) (0, 0)) (pickGo u rs k)
    have hq := hp _ (pick_mem (u := u) (rs := rs) k (by omega))
    rw [pickGo]
    split
    · rename_i hc
      rw [if_pos hc] at hs
      rcases Nat.lt_or_ge j (k + 1) with hlt | hge
      · exact before_trans (hg _ hk) hq (hg _ (by omega)) hs (ih j (by omega))
      · obtain rfl : j = k + 1 := by omega
        exact before_refl _ _
    · rename_i hc
      rw [if_neg hc] at hs
      rcases Nat.lt_or_ge j (k + 1) with hlt | hge
      · exact ih j (by omega)
      · obtain rfl : j = k + 1 := by omega
        exact hs
/-- Sums with a weight for each stick. -/
def numC (c : Nat → Int) (l : List Stk) : Nat → Int
  | 0 => 0
  | k + 1 => numC c l k + c k * (l.getD k Stk.zero).pl
def denC (c : Nat → Int) : Nat → Int
  | 0 => 0
  | k + 1 => denC c k + c k
def linC (c f : Nat → Int) : Nat → Int
  | 0 => 0
  | k + 1 => linC c f k + c k * f k
theorem lin_eq (c : Nat → Int) (l : List Stk) (N D : Int) (k : Nat) : linC c (fun i => (l.getD i Stk.zero).pl * D - N) k = numC c l k * D - N * denC c k := by
  induction k with
  | zero => simp [linC, numC, denC]
  | succ k ih =>
    simp only [linC, numC, denC, ih]
    rw [Int.mul_sub, Int.add_mul, Int.mul_add, Int.mul_assoc, Int.mul_comm (c k) N]
    omega
theorem lin_le (c d f : Nat → Int) (k : Nat) (h : ∀ i < k, c i * f i ≤ d i * f i) : linC c f k ≤ linC d f k := by
  induction k with
  | zero => simp [linC]
  | succ k ih =>
    have h1 := ih (fun i hi => h i (by omega))
    have h2 := h k (by omega)
    simp only [linC]; omega
theorem lin_pos (c f : Nat → Int) (k : Nat) (h : ∀ i < k, 1 ≤ c i ∧ 1 ≤ f i) : k ≤ linC c f k := by
  induction k with
  | zero => simp [linC]
  | succ k ih =>
    have h1 := ih (fun i hi => h i (by omega))
    have h2 := h k (by omega)
    have h3 : 1 * 1 ≤ c k * f k := Int.mul_le_mul h2.1 h2.2 (by omega) (by omega)
    simp only [linC]; omega
theorem numC_congr (c d : Nat → Int) (l : List Stk) (k : Nat) (h : ∀ i < k, c i = d i) : numC c l k = numC d l k ∧ denC c k = denC d k := by
  induction k with
  | zero => exact ⟨rfl, rfl⟩
  | succ k ih =>
    have h1 := ih (fun i hi => h i (by omega))
    simp only [numC, denC, h1.1, h1.2, h k (by omega), and_self]
theorem denC_pos (c : Nat → Int) (k : Nat) (h : ∀ i < k, 1 ≤ c i) : k ≤ denC c k := by
  induction k with
  | zero => simp [denC]
  | succ k ih =>
    have h1 := ih (fun i hi => h i (by omega))
    have h2 := h k (by omega)
    simp only [denC]; omega
/-- The weights of a set: those in it are heavy. -/
def wT (T : Nat) (l : List Stk) (k : Nat) : Int := if T.testBit k then (l.getD k Stk.zero).wh else (l.getD k Stk.zero).wl
def ratT (l : List Stk) (T : Nat) : Int × Int := (numC (wT T l) l l.length, denC (wT T l) l.length)
theorem bits_of (P : Nat → Bool) (n : Nat) : ∃ T < 2 ^ n, ∀ i < n, T.testBit i = P i := by
  induction n with
  | zero => exact ⟨0, by omega, fun i hi => absurd hi (by omega)⟩
  | succ n ih =>
    obtain ⟨T, hT, hb⟩ := ih
    cases q : P n
    · refine ⟨T, by rw [Nat.pow_succ]; omega, fun i hi => ?_⟩
      rcases Nat.lt_or_ge i n with h | h
      · exact hb i h
      · obtain rfl : i = n := by omega
        rw [q]; exact Nat.testBit_lt_two_pow hT
    · refine ⟨2 ^ n + T, by rw [Nat.pow_succ]; omega, fun i hi => ?_⟩
      rcases Nat.lt_or_ge i n with h | h
      · rw [Nat.testBit_two_pow_add_gt h]; exact hb i h
      · obtain rfl : i = n := by omega
        rw [q, Nat.testBit_two_pow_add_eq, Nat.testBit_lt_two_pow hT]; rfl
theorem getD_B' {l : List Stk} (h : StkB l) {k : Nat} (hk : k < l.length) : 1 ≤ (l.getD k Stk.zero).wl ∧ (l.getD k Stk.zero).wl ≤ (l.getD k Stk.zero).wh ∧ 0 ≤ (l.getD k Stk.zero).pl := by
  have e : l.getD k Stk.zero = l[k] := by simp [List.getD, hk]
  have := h.s _ (List.getElem_mem hk)
  rw [e]; omega
theorem wT_bd {l : List Stk} (h : StkB l) (T k : Nat) (hk : k < l.length) : (l.getD k Stk.zero).wl ≤ wT T l k ∧ wT T l k ≤ (l.getD k Stk.zero).wh ∧ 1 ≤ wT T l k := by
  have := getD_B' h hk
  unfold wT; split <;> omega
/-- The weights of a candidate are those of a set. -/
theorem cand_set (u : Bool) (p : Int) (l : List Stk) : ∃ T < 2 ^ l.length, ∀ i < l.length, wT T l i = wAt u p (l.getD i Stk.zero) := by
  obtain ⟨T, hT, hb⟩ := bits_of (fun i => if p < (l.getD i Stk.zero).pl then u else !u) l.length
  refine ⟨T, hT, fun i hi => ?_⟩
  unfold wT wAt ris fal
  rw [hb i hi]
  generalize l.getD i Stk.zero = s
  cases u <;> by_cases hp : p < s.pl <;> simp only [hp, if_true, if_false, Bool.not_false, Bool.not_true, cond_true, cond_false, Bool.false_eq_true]
theorem numB_C (u : Bool) (p : Int) (l : List Stk) : numB u p l = numC (fun i => wAt u p (l.getD i Stk.zero)) l l.length ∧ denB u p l = denC (fun i => wAt u p (l.getD i Stk.zero)) l.length := by
  have key : ∀ k ≤ l.length, ((l.take k).map (mAt u p)).sum = numC (fun i => wAt u p (l.getD i Stk.zero)) l k ∧ ((l.take k).map (wAt u p)).sum = denC (fun i => wAt u p (l.getD i Stk.zero)) k := by
    intro k
    induction k with
    | zero => intro _; exact ⟨rfl, rfl⟩
    | succ k ih =>
      intro hk
      have ih := ih (by omega)
      rw [map_sum_take _ _ Stk.zero k (by omega), map_sum_take _ _ Stk.zero k (by omega), ih.1, ih.2]
      exact ⟨rfl, rfl⟩
  have := key l.length (Nat.le_refl _)
  rw [List.take_length] at this
  exact this
theorem cand_rat (u : Bool) (p : Int) (l : List Stk) : ∃ T < 2 ^ l.length, ratT l T = (numB u p l, denB u p l) := by
  obtain ⟨T, hT, hw⟩ := cand_set u p l
  refine ⟨T, hT, ?_⟩
  have h1 := numC_congr _ _ l l.length hw
  have h2 := numB_C u p l
  unfold ratT
  rw [h2.1, h2.2, h1.1, h1.2]
/-- The outermost ratio of all sets below m. -/
structure Ext (u : Bool) (l : List Stk) (m : Nat) (r : Int × Int) : Prop where
  is : ∃ T < m, r = ratT l T
  all : ∀ T < m, before u r (ratT l T)
theorem exists_max {l : List Stk} {D N : Int} (h : ∃ i < l.length, (l.getD i Stk.zero).pl * D ≤ N) : ∃ i < l.length, (l.getD i Stk.zero).pl * D ≤ N ∧ ∀ j < l.length, (l.getD j Stk.zero).pl * D ≤ N → (l.getD j Stk.zero).pl ≤ (l.getD i Stk.zero).pl := by
  have key : ∀ k ≤ l.length, (∃ i < k, (l.getD i Stk.zero).pl * D ≤ N) → ∃ i < k, (l.getD i Stk.zero).pl * D ≤ N ∧ ∀ j < k, (l.getD j Stk.zero).pl * D ≤ N → (l.getD j Stk.zero).pl ≤ (l.getD i Stk.zero).pl := by
    intro k
    induction k with
    | zero => rintro _ ⟨i, hi, _⟩; omega
    | succ k ih =>
      rintro hk ⟨i, hi, hp⟩
      by_cases hex : ∃ i < k, (l.getD i Stk.zero).pl * D ≤ N
      · obtain ⟨m, hm, hmp, hmx⟩ := ih (by omega) hex
        by_cases hk2 : (l.getD k Stk.zero).pl * D ≤ N ∧ (l.getD m Stk.zero).pl < (l.getD k Stk.zero).pl
        · refine ⟨k, by omega, hk2.1, fun j hj hjp => ?_⟩
          rcases Nat.lt_or_ge j k with h1 | h1
          · have := hmx j h1 hjp; omega
          · obtain rfl : j = k := by omega
            omega
        · refine ⟨m, by omega, hmp, fun j hj hjp => ?_⟩
          rcases Nat.lt_or_ge j k with h1 | h1
          · exact hmx j h1 hjp
          · obtain rfl : j = k := by omega
            rcases Int.lt_or_le (l.getD m Stk.zero).pl (l.getD j Stk.zero).pl with h2 | h2
            · exact absurd ⟨hjp, h2⟩ hk2
            · exact h2
      · have hik : i = k := by
          rcases Nat.lt_or_ge i k with h1 | h1
          · exact absurd ⟨i, h1, hp⟩ hex
          · omega
        subst hik
        refine ⟨i, by omega, hp, fun j hj hjp => ?_⟩
        rcases Nat.lt_or_ge j i with h1 | h1
        · exact absurd ⟨j, h1, hjp⟩ hex
        · obtain rfl : j = i := by omega
          exact Int.le_refl _
  exact key _ (Nat.le_refl _) h
theorem ratT_pos {l : List Stk} (h : StkB l) (h0 : 0 < l.length) (T : Nat) : 0 < (ratT l T).2 := by
  have := denC_pos (wT T l) l.length (fun i hi => (wT_bd h T i hi).2.2)
  show 0 < denC (wT T l) l.length
  omega
theorem ext_bal {u : Bool} {l : List Stk} (h : StkB l) (h0 : 0 < l.length) {r : Int × Int} (hr : Ext u l (2 ^ l.length) r) : r.1 * (balL u l).2 = (balL u l).1 * r.2 ∧ 0 < r.2 ∧ 0 < (balL u l).2 := by
  obtain ⟨S, hS, hrS⟩ := hr.is
  have hD : 0 < r.2 := by rw [hrS]; exact ratT_pos h h0 S
  have hz : linC (wT S l) (fun i => (l.getD i Stk.zero).pl * r.2 - r.1) l.length = 0 := by
    rw [lin_eq]
    have e1 : numC (wT S l) l l.length = r.1 := by rw [hrS]; rfl
    have e2 : denC (wT S l) l.length = r.2 := by rw [hrS]; rfl
    rw [e1, e2]; omega
  have hex : ∃ i < l.length, (l.getD i Stk.zero).pl * r.2 ≤ r.1 := by
    refine Classical.byContradiction fun hno => ?_
    have := lin_pos (wT S l) (fun i => (l.getD i Stk.zero).pl * r.2 - r.1) l.length (fun i hi => ⟨(wT_bd h S i hi).2.2, by
      have : ¬ (l.getD i Stk.zero).pl * r.2 ≤ r.1 := fun hx => hno ⟨i, hi, hx⟩
      show 1 ≤ (l.getD i Stk.zero).pl * r.2 - r.1
      omega⟩)
    omega
  obtain ⟨i, hi, hip, hmx⟩ := exists_max hex
  obtain ⟨p, hpe⟩ : ∃ p, p = (l.getD i Stk.zero).pl := ⟨_, rfl⟩
  have hc := numB_C u p l
  have hterm : ∀ j < l.length, (p < (l.getD j Stk.zero).pl → 0 ≤ (l.getD j Stk.zero).pl * r.2 - r.1) ∧ (¬ p < (l.getD j Stk.zero).pl → (l.getD j Stk.zero).pl * r.2 - r.1 ≤ 0) := by
    intro j hj
    refine ⟨fun hp => ?_, fun hp => ?_⟩
    · rcases Int.lt_or_le r.1 ((l.getD j Stk.zero).pl * r.2) with h1 | h1
      · omega
      · have := hmx j hj h1; omega
    · have : (l.getD j Stk.zero).pl * r.2 ≤ p * r.2 := Int.mul_le_mul_of_nonneg_right (by omega) (by omega)
      rw [← hpe] at hip
      omega
  have hcand : before u (numB u p l, denB u p l) r := by
    have hl := lin_eq (fun j => wAt u p (l.getD j Stk.zero)) l r.1 r.2 l.length
    rw [← hc.1, ← hc.2] at hl
    cases u
    · have := lin_le (fun j => wAt false p (l.getD j Stk.zero)) (wT S l) (fun i => (l.getD i Stk.zero).pl * r.2 - r.1) l.length (fun j hj => by
        have ht := hterm j hj
        have hb := wT_bd h S j hj
        show wAt false p (l.getD j Stk.zero) * _ ≤ _
        unfold wAt ris fal
        by_cases hp : p < (l.getD j Stk.zero).pl
        · simp only [hp, if_true, cond_false]
          exact Int.mul_le_mul_of_nonneg_right hb.1 (ht.1 hp)
        · simp only [hp, if_false, cond_false]
          exact Int.mul_le_mul_of_nonpos_right hb.2.1 (ht.2 hp))
      show numB false p l * r.2 ≤ r.1 * denB false p l
      omega
    · have := lin_le (wT S l) (fun j => wAt true p (l.getD j Stk.zero)) (fun i => (l.getD i Stk.zero).pl * r.2 - r.1) l.length (fun j hj => by
        have ht := hterm j hj
        have hb := wT_bd h S j hj
        show _ ≤ wAt true p (l.getD j Stk.zero) * _
        unfold wAt ris fal
        by_cases hp : p < (l.getD j Stk.zero).pl
        · simp only [hp, if_true, cond_true]
          exact Int.mul_le_mul_of_nonneg_right hb.2.1 (ht.1 hp)
        · simp only [hp, if_false, cond_true]
          exact Int.mul_le_mul_of_nonpos_right hb.1 (ht.2 hp))
      show r.1 * denB true p l ≤ numB true p l * r.2
      omega
  have hrp : ∀ q ∈ ratsL u l, 0 < q.2 := by
    intro q hq
    obtain ⟨s, _, rfl⟩ := List.mem_map.1 hq
    obtain ⟨T, _, hT⟩ := cand_rat u s.pl l
    have := ratT_pos h h0 T
    rw [hT] at this
    exact this
  have hln : (ratsL u l).length = l.length := by simp [ratsL]
  have hpk := pick_ext u hrp (l.length - 1) (by omega) i (by omega)
  have hri : (ratsL u l).getD i (0, 0) = (numB u p l, denB u p l) := by
    have e2 : l.getD i Stk.zero = l[i] := by simp [List.getD, hi]
    rw [hpe, e2]
    simp [List.getD, ratsL, hi]
  rw [hri] at hpk
  have hm := pick_mem (u := u) (rs := ratsL u l) (l.length - 1) (by omega)
  have hbp : 0 < (balL u l).2 := hrp _ hm
  have hcp : 0 < denB u p l := by
    obtain ⟨T, _, hT⟩ := cand_rat u p l
    have := ratT_pos h h0 T
    rw [hT] at this
    exact this
  have h1 : before u (balL u l) r := before_trans hbp hcp hD hpk hcand
  obtain ⟨s, _, hs⟩ := List.mem_map.1 hm
  obtain ⟨T, hT, hTr⟩ := cand_rat u s.pl l
  have h2 : before u r (balL u l) := by
    have := hr.all T hT
    rw [hTr, hs] at this
    exact this
  refine ⟨?_, hD, hbp⟩
  cases u
  · have a1 : (balL false l).1 * r.2 ≤ r.1 * (balL false l).2 := h1
    have a2 : r.1 * (balL false l).2 ≤ (balL false l).1 * r.2 := h2
    omega
  · have a1 : r.1 * (balL true l).2 ≤ (balL true l).1 * r.2 := h1
    have a2 : (balL true l).1 * r.2 ≤ r.1 * (balL true l).2 := h2
    omega
theorem lowL_eq {p q p' q' : Nat} (hq : 0 < q) (hq' : 0 < q') (h : p * q' = p' * q) : lowL p q = lowL p' q' := by
  have g1 : 0 < Nat.gcd p q := Nat.gcd_pos_of_pos_right _ hq
  have g2 : 0 < Nat.gcd p' q' := Nat.gcd_pos_of_pos_right _ hq'
  have c1 : Nat.Coprime (p / Nat.gcd p q) (q / Nat.gcd p q) := Nat.coprime_div_gcd_div_gcd g1
  have c2 : Nat.Coprime (p' / Nat.gcd p' q') (q' / Nat.gcd p' q') := Nat.coprime_div_gcd_div_gcd g2
  have e1 : p / Nat.gcd p q * Nat.gcd p q = p := Nat.div_mul_cancel (Nat.gcd_dvd_left _ _)
  have e2 : q / Nat.gcd p q * Nat.gcd p q = q := Nat.div_mul_cancel (Nat.gcd_dvd_right _ _)
  have e3 : p' / Nat.gcd p' q' * Nat.gcd p' q' = p' := Nat.div_mul_cancel (Nat.gcd_dvd_left _ _)
  have e4 : q' / Nat.gcd p' q' * Nat.gcd p' q' = q' := Nat.div_mul_cancel (Nat.gcd_dvd_right _ _)
  unfold lowL
  generalize Nat.gcd p q = g at *
  generalize Nat.gcd p' q' = g' at *
  generalize p / g = a at *
  generalize q / g = b at *
  generalize p' / g' = a' at *
  generalize q' / g' = b' at *
  subst e1 e2 e3 e4
  have k : a * b' = a' * b := by
    have : (a * b') * (g * g') = (a' * b) * (g * g') := by
      calc (a * b') * (g * g') = a * g * (b' * g') := by ac_rfl
        _ = a' * g' * (b * g) := h
        _ = (a' * b) * (g * g') := by ac_rfl
    exact Nat.eq_of_mul_eq_mul_right (Nat.mul_pos g1 g2) this
  have d1 : b ∣ b' := c1.symm.dvd_of_dvd_mul_left ⟨a', by rw [k, Nat.mul_comm]⟩
  have d2 : b' ∣ b := c2.symm.dvd_of_dvd_mul_left ⟨a, by rw [← k, Nat.mul_comm]⟩
  have eb : b = b' := Nat.dvd_antisymm d1 d2
  subst eb
  have hb : 0 < b := Nat.pos_of_mul_pos_right hq |> fun _ => by rcases Nat.eq_zero_or_pos b with h | h; (· subst h; simp at hq); exact h
  have ea : a = a' := Nat.eq_of_mul_eq_mul_right hb k
  rw [ea]
theorem lowR_eq {r s : Int × Int} (hr : 0 ≤ r.1) (hs : 0 ≤ s.1) (hr2 : 0 < r.2) (hs2 : 0 < s.2) (h : r.1 * s.2 = s.1 * r.2) : lowR r = lowR s := by
  unfold lowR
  refine lowL_eq (by omega) (by omega) ?_
  have e1 : ((r.1.toNat * s.2.toNat : Nat) : Int) = r.1 * s.2 := by rw [Int.natCast_mul, Int.toNat_of_nonneg hr, Int.toNat_of_nonneg (by omega)]
  have e2 : ((s.1.toNat * r.2.toNat : Nat) : Int) = s.1 * r.2 := by rw [Int.natCast_mul, Int.toNat_of_nonneg hs, Int.toNat_of_nonneg (by omega)]
  omega
end Go.Proofs.Ytllioljphpgfhaa
