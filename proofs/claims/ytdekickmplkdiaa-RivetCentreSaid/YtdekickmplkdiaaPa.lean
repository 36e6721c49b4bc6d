/- Pure facts: where sticks balance, whatever they weigh. -/
import Derived.Test.YtdekickmplkdiaaUd
namespace Go.Proofs.Ytdekickmplkdiaa
open Go.RowKit

/-- The balance is the outermost of all sets, and that of one of them. -/
theorem bal_ext (u : Bool) {l : List Stk} (h : StkB l) (h0 : 0 < l.length) : (∀ T < 2 ^ l.length, before u (balL u l) (ratT l T)) ∧ (∃ T < 2 ^ l.length, ratT l T = balL u l) ∧ 0 < (balL u l).2 := by
  have hex : ∀ m, ∃ r, Ext u l (m + 1) r := by
    intro m
    induction m with
    | zero => exact ⟨_, ext_zero u l rfl⟩
    | succ m ih =>
      obtain ⟨r, hr⟩ := ih
      have ht : before u r (ratT l (m + 1)) ∨ before u (ratT l (m + 1)) r := by
        cases u <;> exact Int.le_total _ _
      rcases ht with ht | ht
      · exact ⟨_, ext_keep hr ht⟩
      · exact ⟨_, ext_new h h0 hr ht⟩
  obtain ⟨m, hm⟩ : ∃ m, 2 ^ l.length = m + 1 := ⟨2 ^ l.length - 1, by have := Nat.one_le_two_pow (n := l.length); omega⟩
  obtain ⟨r, hr⟩ := hex m
  rw [← hm] at hr
  obtain ⟨e, p1, p2⟩ := ext_bal h h0 hr
  have hmem : balL u l ∈ ratsL u l := pick_mem (u := u) (rs := ratsL u l) (l.length - 1) (by simp [ratsL]; omega)
  unfold ratsL at hmem
  obtain ⟨s, -, es⟩ := List.mem_map.1 hmem
  obtain ⟨T0, hT0, e0⟩ := cand_rat u s.pl l
  refine ⟨fun T hT => ?_, ⟨T0, hT0, by rw [e0, es]⟩, p2⟩
  have hb : before u (balL u l) r := by
    cases u
    · show (balL false l).1 * r.2 ≤ r.1 * (balL false l).2
      omega
    · show r.1 * (balL true l).2 ≤ (balL true l).1 * r.2
      omega
  exact before_trans p2 p1 (ratT_pos h h0 T) hb (hr.all T hT)
/-- Weights that the sticks can have. -/
def InW (l : List Stk) (c : Nat → Int) : Prop := ∀ i < l.length, (l.getD i Stk.zero).wl ≤ c i ∧ c i ≤ (l.getD i Stk.zero).wh
/-- The weights with which the balance is outermost: heavy where P says so. -/
def wP (P : Nat → Bool) (l : List Stk) (i : Nat) : Int := if P i = true then (l.getD i Stk.zero).wh else (l.getD i Stk.zero).wl
theorem wP_set (P : Nat → Bool) (l : List Stk) : ∃ T < 2 ^ l.length, ∀ i < l.length, wT T l i = wP P l i := by
  obtain ⟨T, hT, hb⟩ := bits_of P l.length
  refine ⟨T, hT, fun i hi => ?_⟩
  unfold wT wP
  rw [hb i hi]
theorem lin_congr (c d f : Nat → Int) (k : Nat) (h : ∀ i < k, c i = d i) : linC c f k = linC d f k := by
  induction k with
  | zero => rfl
  | succ k ih => simp only [linC, ih (fun i hi => h i (by omega)), h k (by omega)]
/-- Whatever they weigh, they balance between both ratios. -/
theorem bal_low {l : List Stk} (h : StkB l) (h0 : 0 < l.length) {c : Nat → Int} (hc : InW l c) : (balL false l).1 * denC c l.length ≤ numC c l l.length * (balL false l).2 := by
  obtain ⟨ha, -, hD⟩ := bal_ext false h h0
  generalize balL false l = r at *
  obtain ⟨N, D⟩ := r
  simp only at hD ⊢
  obtain ⟨T, hT, hw⟩ := wP_set (fun i => decide ((l.getD i Stk.zero).pl * D - N ≤ 0)) l
  have e1 := ha T hT
  have e1 : N * (ratT l T).2 ≤ (ratT l T).1 * D := e1
  have e2 : linC (wT T l) (fun i => (l.getD i Stk.zero).pl * D - N) l.length ≤ linC c (fun i => (l.getD i Stk.zero).pl * D - N) l.length := lin_le _ _ _ _ fun i hi => by
    rw [hw i hi]
    unfold wP
    dsimp only
    have := hc i hi
    by_cases hp : (l.getD i Stk.zero).pl * D - N ≤ 0
    · rw [if_pos (decide_eq_true hp)]
      exact Int.mul_le_mul_of_nonpos_right this.2 hp
    · rw [if_neg (by simpa using hp)]
      exact Int.mul_le_mul_of_nonneg_right this.1 (by omega)
  rw [lin_eq, lin_eq] at e2
  have e3 : (ratT l T).1 = numC (wT T l) l l.length := rfl
  have e4 : (ratT l T).2 = denC (wT T l) l.length := rfl
  rw [e3, e4] at e1
  omega
theorem bal_high {l : List Stk} (h : StkB l) (h0 : 0 < l.length) {c : Nat → Int} (hc : InW l c) : numC c l l.length * (balL true l).2 ≤ (balL true l).1 * denC c l.length := by
  obtain ⟨ha, -, hD⟩ := bal_ext true h h0
  generalize balL true l = r at *
  obtain ⟨N, D⟩ := r
  simp only at hD ⊢
  obtain ⟨P, hP⟩ : ∃ P : Nat → Bool, ∀ i, P i = !(decide ((l.getD i Stk.zero).pl * D - N ≤ 0)) := ⟨fun i => !(decide ((l.getD i Stk.zero).pl * D - N ≤ 0)), fun _ => rfl⟩
  obtain ⟨T, hT, hw⟩ := wP_set P l
  have e1 := ha T hT
  have e1 : (ratT l T).1 * D ≤ N * (ratT l T).2 := e1
  have e2 : linC c (fun i => (l.getD i Stk.zero).pl * D - N) l.length ≤ linC (wT T l) (fun i => (l.getD i Stk.zero).pl * D - N) l.length := lin_le _ _ _ _ fun i hi => by
    rw [hw i hi]
    unfold wP
    rw [hP i]
    have := hc i hi
    by_cases hp : (l.getD i Stk.zero).pl * D - N ≤ 0
    · rw [decide_eq_true hp, if_neg (by simp)]
      exact Int.mul_le_mul_of_nonpos_right this.1 hp
    · rw [decide_eq_false hp, if_pos (by simp)]
      exact Int.mul_le_mul_of_nonneg_right this.2 (by omega)
  rw [lin_eq, lin_eq] at e2
  have e3 : (ratT l T).1 = numC (wT T l) l l.length := rfl
  have e4 : (ratT l T).2 = denC (wT T l) l.length := rfl
  rw [e3, e4] at e1
  omega
/-- With the sticks up to a ratio heavy it balances just there: the least one. -/
theorem bal_low_is {l : List Stk} (h : StkB l) (h0 : 0 < l.length) {P : Nat → Bool} (hP : ∀ i < l.length, P i = decide ((l.getD i Stk.zero).pl * (balL false l).2 ≤ (balL false l).1)) :
    numC (wP P l) l l.length * (balL false l).2 = (balL false l).1 * denC (wP P l) l.length := by
  have hin : InW l (wP P l) := fun i hi => by
    have := getD_B' h hi
    unfold wP
    split <;> omega
  have hle := bal_low h h0 hin
  obtain ⟨-, ⟨T, hT, e⟩, hD⟩ := bal_ext false h h0
  generalize balL false l = r at *
  obtain ⟨N, D⟩ := r
  simp only at hD hP hle ⊢
  have e3 : numC (wT T l) l l.length = N := congrArg Prod.fst e
  have e4 : denC (wT T l) l.length = D := congrArg Prod.snd e
  have e2 : linC (wP P l) (fun i => (l.getD i Stk.zero).pl * D - N) l.length ≤ linC (wT T l) (fun i => (l.getD i Stk.zero).pl * D - N) l.length := lin_le _ _ _ _ fun i hi => by
    have hb := wT_bd h T i hi
    unfold wP
    rw [hP i hi]
    by_cases hp : (l.getD i Stk.zero).pl * D ≤ N
    · rw [if_pos (decide_eq_true hp)]
      exact Int.mul_le_mul_of_nonpos_right hb.2.1 (by omega)
    · rw [if_neg (by simpa using hp)]
      exact Int.mul_le_mul_of_nonneg_right hb.1 (by omega)
  rw [lin_eq, lin_eq, e3, e4] at e2
  omega
theorem bal_high_is {l : List Stk} (h : StkB l) (h0 : 0 < l.length) {P : Nat → Bool} (hP : ∀ i < l.length, P i = !(decide ((l.getD i Stk.zero).pl * (balL true l).2 ≤ (balL true l).1))) :
    numC (wP P l) l l.length * (balL true l).2 = (balL true l).1 * denC (wP P l) l.length := by
  have hin : InW l (wP P l) := fun i hi => by
    have := getD_B' h hi
    unfold wP
    split <;> omega
  have hle := bal_high h h0 hin
  obtain ⟨-, ⟨T, hT, e⟩, hD⟩ := bal_ext true h h0
  generalize balL true l = r at *
  obtain ⟨N, D⟩ := r
  simp only at hD hP hle ⊢
  have e3 : numC (wT T l) l l.length = N := congrArg Prod.fst e
  have e4 : denC (wT T l) l.length = D := congrArg Prod.snd e
  have e2 : linC (wT T l) (fun i => (l.getD i Stk.zero).pl * D - N) l.length ≤ linC (wP P l) (fun i => (l.getD i Stk.zero).pl * D - N) l.length := lin_le _ _ _ _ fun i hi => by
    have hb := wT_bd h T i hi
    unfold wP
    rw [hP i hi]
    by_cases hp : (l.getD i Stk.zero).pl * D ≤ N
    · rw [decide_eq_true hp, if_neg (by simp)]
      exact Int.mul_le_mul_of_nonpos_right hb.1 (by omega)
    · rw [decide_eq_false hp, if_pos (by simp)]
      exact Int.mul_le_mul_of_nonneg_right hb.2.1 (by omega)
  rw [lin_eq, lin_eq, e3, e4] at e2
  omega
theorem num_snoc (c : Nat → Int) (l : List Stk) (s : Stk) (k : Nat) (hk : k ≤ l.length) : numC c (l ++ [s]) k = numC c l k := by
  induction k with
  | zero => rfl
  | succ k ih =>
    have e : (l ++ [s]).getD k Stk.zero = l.getD k Stk.zero := by simp [List.getD, List.getElem?_append_left (show k < l.length by omega)]
    simp only [numC, ih (by omega), e]
theorem snoc_last (l : List Stk) (s : Stk) : (l ++ [s]).getD l.length Stk.zero = s := by simp [List.getD]
theorem num_le {l : List Stk} {p : Int} (c : Nat → Int) (k : Nat) (hc : ∀ i < k, 0 ≤ c i) (hp : ∀ i < k, (l.getD i Stk.zero).pl ≤ p) : numC c l k ≤ p * denC c k := by
  induction k with
  | zero => simp [numC, denC]
  | succ k ih =>
    have h1 := ih (fun i hi => hc i (by omega)) (fun i hi => hp i (by omega))
    have h2 : c k * (l.getD k Stk.zero).pl ≤ c k * p := Int.mul_le_mul_of_nonneg_left (hp k (by omega)) (hc k (by omega))
    simp only [numC, denC]
    rw [Int.mul_add, Int.mul_comm p (c k)]
    omega
/-- With a stick more beyond all others no ratio is smaller. -/
theorem bal_more {l : List Stk} {s : Stk} (h : StkB l) (h' : StkB (l ++ [s])) (h0 : 0 < l.length) (hp : ∀ i < l.length, (l.getD i Stk.zero).pl ≤ s.pl) (u : Bool) : (balL u l).1 * (balL u (l ++ [s])).2 ≤ (balL u (l ++ [s])).1 * (balL u l).2 := by
  have hs : 1 ≤ s.wl ∧ s.wl ≤ s.wh := by have := h'.s s (by simp); omega
  obtain ⟨-, ⟨T, hT, e⟩, hD⟩ := bal_ext u h h0
  obtain ⟨N, D⟩ : ∃ N D, balL u l = (N, D) := ⟨_, _, rfl⟩
  have eN : numC (wT T l) l l.length = (balL u l).1 := congrArg Prod.fst e
  have eD : denC (wT T l) l.length = (balL u l).2 := congrArg Prod.snd e
  have hND : (balL u l).1 ≤ s.pl * (balL u l).2 := by
    rw [← eN, ← eD]
    exact num_le _ _ (fun i hi => by have := (wT_bd h T i hi).2.2; omega) hp
  have hlen : (l ++ [s]).length = l.length + 1 := by simp
  cases u
  · obtain ⟨-, ⟨T', hT', e'⟩, hD'⟩ := bal_ext false h' (by rw [hlen]; omega)
    have eN' : numC (wT T' (l ++ [s])) (l ++ [s]) (l.length + 1) = (balL false (l ++ [s])).1 := by rw [← hlen]; exact congrArg Prod.fst e'
    have eD' : denC (wT T' (l ++ [s])) (l.length + 1) = (balL false (l ++ [s])).2 := by rw [← hlen]; exact congrArg Prod.snd e'
    have hb := wT_bd h' T' l.length (by rw [hlen]; omega)
    have hin : InW l (wT T' (l ++ [s])) := fun i hi => by
      have := wT_bd h' T' i (by rw [hlen]; omega)
      have e2 : (l ++ [s]).getD i Stk.zero = l.getD i Stk.zero := by simp [List.getD, List.getElem?_append_left hi]
      rw [e2] at this
      exact ⟨this.1, this.2.1⟩
    have hlow := bal_low h h0 hin
    rw [← eN', ← eD']
    simp only [numC, denC]
    rw [num_snoc _ _ _ _ (Nat.le_refl _), snoc_last]
    generalize wT T' (l ++ [s]) = c at *
    rw [Int.mul_add, Int.add_mul]
    have x : (balL false l).1 * c l.length ≤ c l.length * s.pl * (balL false l).2 := by
      rw [Int.mul_comm (balL false l).1, Int.mul_assoc]
      exact Int.mul_le_mul_of_nonneg_left hND (by omega)
    omega
  · obtain ⟨c, hc1, hc2⟩ : ∃ c : Nat → Int, (∀ i < l.length, c i = wT T l i) ∧ c l.length = s.wl := ⟨fun i => if i < l.length then wT T l i else s.wl, fun i hi => if_pos hi, if_neg (Nat.lt_irrefl _)⟩
    have hin : InW (l ++ [s]) c := fun i hi => by
      rw [hlen] at hi
      by_cases hl : i < l.length
      · have := wT_bd h T i hl
        have e2 : (l ++ [s]).getD i Stk.zero = l.getD i Stk.zero := by simp [List.getD, List.getElem?_append_left hl]
        rw [e2, hc1 i hl]
        exact ⟨this.1, this.2.1⟩
      · obtain rfl : i = l.length := by omega
        rw [snoc_last, hc2]
        omega
    have hhigh := bal_high h' (by rw [hlen]; omega) hin
    rw [hlen] at hhigh
    simp only [numC, denC] at hhigh
    have c1 := numC_congr c (wT T l) (l ++ [s]) l.length hc1
    rw [c1.1, c1.2, num_snoc _ _ _ _ (Nat.le_refl _), snoc_last, hc2, eN, eD] at hhigh
    obtain ⟨-, -, hD'⟩ := bal_ext true h' (by rw [hlen]; omega)
    generalize balL true (l ++ [s]) = r' at *
    generalize balL true l = r at *
    obtain ⟨N1, D1⟩ := r
    obtain ⟨N2, D2⟩ := r'
    simp only at *
    -- (N1 + w p) D2 ≤ N2 (D1 + w), and N1 ≤ p D1
    have hw : 0 ≤ s.wl := by omega
    have y1 : N1 * (D1 + s.wl) ≤ (N1 + s.wl * s.pl) * D1 := by
      rw [Int.mul_add, Int.add_mul]
      have : N1 * s.wl ≤ s.wl * s.pl * D1 := by
        rw [Int.mul_comm N1, Int.mul_assoc]
        exact Int.mul_le_mul_of_nonneg_left hND hw
      omega
    exact cross_le hD (by omega) hD' y1 hhigh
/-- A ratio in lowest terms, as the law reads it. -/
structure LowB (r : Int × Int) (x y g : Int) : Prop where
  g1 : 1 ≤ g
  ex : x * g = r.1
  ey : y * g = r.2
  y1 : 1 ≤ y
  x0 : 0 ≤ x
  yM : y ≤ r.2
  xM : x ≤ r.1
theorem low_b {r : Int × Int} (hN : 0 ≤ r.1) (hD : 1 ≤ r.2) : ∃ g, LowB r (lowR r).1 (lowR r).2 g := by
  obtain ⟨N, D⟩ := r
  simp only at hN hD
  have hg : 0 < Nat.gcd N.toNat D.toNat := Nat.gcd_pos_of_pos_right _ (by omega)
  have e1 : (lowR (N, D)).1 * (Nat.gcd N.toNat D.toNat : Nat) = N := by
    show ((N.toNat / Nat.gcd N.toNat D.toNat : Nat) : Int) * _ = N
    rw [← Int.natCast_mul, Nat.div_mul_cancel (Nat.gcd_dvd_left _ _)]
    omega
  have e2 : (lowR (N, D)).2 * (Nat.gcd N.toNat D.toNat : Nat) = D := by
    show ((D.toNat / Nat.gcd N.toNat D.toNat : Nat) : Int) * _ = D
    rw [← Int.natCast_mul, Nat.div_mul_cancel (Nat.gcd_dvd_right _ _)]
    omega
  generalize lowR (N, D) = q at *
  obtain ⟨x, y⟩ := q
  obtain ⟨g, hgg⟩ : ∃ g : Int, (Nat.gcd N.toNat D.toNat : Nat) = g := ⟨_, rfl⟩
  rw [hgg] at e1 e2
  have g1 : 1 ≤ g := by omega
  simp only at e1 e2
  have y1 : 1 ≤ y := by
    rcases Int.lt_or_le y 1 with hy | hy
    · have : y * g ≤ 0 := Int.mul_nonpos_of_nonpos_of_nonneg (by omega) (by omega)
      omega
    · exact hy
  have x0 : 0 ≤ x := by
    rcases Int.lt_or_le x 0 with hx | hx
    · have : x * g < 0 := Int.mul_neg_of_neg_of_pos hx (by omega)
      omega
    · exact hx
  have yM : y ≤ D := by
    have : y * 1 ≤ y * g := Int.mul_le_mul_of_nonneg_left g1 (by omega)
    omega
  have xM : x ≤ N := by
    have : x * 1 ≤ x * g := Int.mul_le_mul_of_nonneg_left g1 (by omega)
    omega
  exact ⟨g, g1, e1, e2, y1, x0, yM, xM⟩
section
variable {r : Int × Int} {x y g a b : Int}
theorem LowB.le1 (h : LowB r x y g) (hq : r.1 * b ≤ a * r.2) : x * b ≤ a * y := by
  rw [← h.ex, ← h.ey] at hq
  have e1 : x * g * b = x * b * g := by rw [Int.mul_assoc, Int.mul_comm g b, ← Int.mul_assoc]
  rw [e1, ← Int.mul_assoc] at hq
  exact Int.le_of_mul_le_mul_right hq (by have := h.g1; omega)
theorem LowB.le2 (h : LowB r x y g) (hq : a * r.2 ≤ r.1 * b) : a * y ≤ x * b := by
  rw [← h.ex, ← h.ey] at hq
  have e1 : x * g * b = x * b * g := by rw [Int.mul_assoc, Int.mul_comm g b, ← Int.mul_assoc]
  rw [e1, ← Int.mul_assoc] at hq
  exact Int.le_of_mul_le_mul_right hq (by have := h.g1; omega)
theorem LowB.eq (h : LowB r x y g) (hq : a * r.2 = r.1 * b) : a * y = x * b := by
  have h1 := h.le1 (a := a) (b := b) (by omega)
  have h2 := h.le2 (a := a) (b := b) (by omega)
  omega
theorem LowB.at_ (h : LowB r x y g) (p : Int) : decide (p * r.2 ≤ r.1) = decide (p * y ≤ x) := by
  apply decide_eq_decide.2
  rw [← h.ex, ← h.ey, ← Int.mul_assoc]
  have hg := h.g1
  exact ⟨fun q => Int.le_of_mul_le_mul_right q (by omega), fun q => Int.mul_le_mul_of_nonneg_right q (by omega)⟩
end
/-- What the law asks of both ratios, whatever the sticks weigh. -/
theorem centre_both {l : List Stk} (h : StkB l) (h0 : 0 < l.length) : ∃ g0 g1, LowB (balL false l) (lowR (balL false l)).1 (lowR (balL false l)).2 g0 ∧ LowB (balL true l) (lowR (balL true l)).1 (lowR (balL true l)).2 g1 ∧
    (∀ c, InW l c → (lowR (balL false l)).1 * denC c l.length ≤ numC c l l.length * (lowR (balL false l)).2 ∧ numC c l l.length * (lowR (balL true l)).2 ≤ (lowR (balL true l)).1 * denC c l.length) ∧
    (∀ P : Nat → Bool, (∀ i < l.length, P i = decide ((l.getD i Stk.zero).pl * (lowR (balL false l)).2 ≤ (lowR (balL false l)).1)) → numC (wP P l) l l.length * (lowR (balL false l)).2 = (lowR (balL false l)).1 * denC (wP P l) l.length) ∧
    (∀ P : Nat → Bool, (∀ i < l.length, P i = !(decide ((l.getD i Stk.zero).pl * (lowR (balL true l)).2 ≤ (lowR (balL true l)).1))) → numC (wP P l) l l.length * (lowR (balL true l)).2 = (lowR (balL true l)).1 * denC (wP P l) l.length) := by
  have q0 := bal_bd h h0 false
  have q1 := bal_bd h h0 true
  obtain ⟨g0, L0⟩ := low_b q0.1 q0.2.2.1
  obtain ⟨g1, L1⟩ := low_b q1.1 q1.2.2.1
  refine ⟨g0, g1, L0, L1, fun c hc => ⟨L0.le1 (bal_low h h0 hc), L1.le2 (bal_high h h0 hc)⟩, fun P hP => ?_, fun P hP => ?_⟩
  · exact L0.eq (bal_low_is h h0 fun i hi => by rw [hP i hi, L0.at_])
  · exact L1.eq (bal_high_is h h0 fun i hi => by rw [hP i hi, L1.at_])
/-- What it asks of both, with a stick more. -/
theorem centre_more {l : List Stk} {s : Stk} (h : StkB l) (h' : StkB (l ++ [s])) (h0 : 0 < l.length) (hp : ∀ i < l.length, (l.getD i Stk.zero).pl ≤ s.pl) (u : Bool) :
    (lowR (balL u l)).1 * (lowR (balL u (l ++ [s]))).2 ≤ (lowR (balL u (l ++ [s]))).1 * (lowR (balL u l)).2 := by
  have q0 := bal_bd h h0 u
  have q1 := bal_bd h' (by simp) u
  obtain ⟨g0, L0⟩ := low_b q0.1 q0.2.2.1
  obtain ⟨g1, L1⟩ := low_b q1.1 q1.2.2.1
  have hm := bal_more h h' h0 hp u
  exact L0.le1 (L1.le2 hm)
end Go.Proofs.Ytdekickmplkdiaa
