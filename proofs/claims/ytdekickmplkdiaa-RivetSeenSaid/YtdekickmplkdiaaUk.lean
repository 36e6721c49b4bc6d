/- The fewest gaps that were measured wrong are the first such set. -/
import Derived.Test.YtdekickmplkdiaaRz
namespace Go.Proofs.Ytdekickmplkdiaa

/-- All lists of m numbers of places, ascending, from k on, in order. -/
def enumL : List Int → Nat → Nat → List (List Nat)
  | _, _, 0 => [[]]
  | [], _, _ + 1 => []
  | _ :: r, k, m + 1 => (enumL r (k + 1) m).map (k :: ·) ++ enumL r (k + 1) (m + 1)
theorem enumL_zero (zs : List Int) (k : Nat) : enumL zs k 0 = [[]] := by cases zs <;> rfl
def topL (zs : List Int) (m : Nat) : Int := (greatL zs m).sum
theorem sortL_perm (zs : List Int) : (sortL zs).Perm zs := List.mergeSort_perm zs _
theorem sortL_pair (zs : List Int) : (sortL zs).Pairwise (fun x y => x ≤ y) := by
  have := List.pairwise_mergeSort (le := fun x y : Int => decide (x ≤ y)) (fun a b c h1 h2 => by simp only [decide_eq_true_eq] at *; omega) (fun a b => by simp only [Bool.or_eq_true, decide_eq_true_eq]; omega) zs
  exact this.imp (fun h => by simpa using h)
theorem map_perm_sum {f : Int → Int} {a b : List Int} (h : a.Perm b) : (a.map f).sum = (b.map f).sum := sum_perm (h.map f)
theorem sub_sum {S zs : List Int} (h : S.Sublist zs) (f : Int → Int) (hf : ∀ x, 0 ≤ f x) : (S.map f).sum ≤ (zs.map f).sum := by
  induction h with
  | slnil => simp
  | cons a _ ih => simp only [List.map_cons, List.sum_cons]; have := hf a; omega
  | cons_cons a _ ih => simp only [List.map_cons, List.sum_cons]; omega
theorem sum_shift (S : List Int) (t : Int) : (S.map fun x => x - t).sum = S.sum - S.length * t := by
  induction S with
  | nil => simp
  | cons a r ih =>
    simp only [List.map_cons, List.sum_cons, ih, List.length_cons]
    have : ((r.length + 1 : Nat) : Int) * t = r.length * t + t := by rw [Int.natCast_add, Int.add_mul]; simp
    omega
theorem sum_le_map {f g : Int → Int} (S : List Int) (h : ∀ x ∈ S, f x ≤ g x) : (S.map f).sum ≤ (S.map g).sum := by
  induction S with
  | nil => simp
  | cons a r ih => simp only [List.map_cons, List.sum_cons]; have := h a (by simp); have := ih (fun x hx => h x (by simp [hx])); omega
theorem sum_zero {f : Int → Int} (S : List Int) (h : ∀ x ∈ S, f x = 0) : (S.map f).sum = 0 := by
  induction S with
  | nil => simp
  | cons a r ih => simp only [List.map_cons, List.sum_cons]; have := h a (by simp); have := ih (fun x hx => h x (by simp [hx])); omega
theorem top_max {S zs : List Int} (h : S.Sublist zs) : S.sum ≤ topL zs S.length := by
  have hlen := h.length_le
  rcases Nat.eq_zero_or_pos S.length with h0 | h0
  · have : S = [] := List.eq_nil_of_length_eq_zero h0
    subst this
    simp only [topL, greatL, List.length_nil, Nat.sub_zero, List.sum_nil]
    rw [List.drop_of_length_le (by rw [sortL_length]; exact Nat.le_refl _)]; simp
  · have hn := sortL_length zs
    have hp := sortL_pair zs
    have hm := sortL_perm zs
    unfold topL greatL
    generalize sortL zs = s at *
    obtain ⟨j, hj⟩ : ∃ j, j = zs.length - S.length := ⟨_, rfl⟩
    rw [← hj]
    have hjs : j < s.length := by omega
    obtain ⟨t, ht⟩ : ∃ t, t = s[j] := ⟨_, rfl⟩
    have hsplit : s.take j ++ s.drop j = s := List.take_append_drop _ _
    have hdrop : s.drop j = s[j] :: s.drop (j + 1) := List.drop_eq_getElem_cons hjs
    have hge : ∀ x ∈ s.drop j, t ≤ x := by
      intro x hx
      have hpd : (s.drop j).Pairwise (fun x y => x ≤ y) := List.Pairwise.sublist (List.drop_sublist _ _) hp
      rw [hdrop] at hx hpd
      rcases List.mem_cons.1 hx with rfl | hx
      · omega
      · rw [ht]; exact (List.pairwise_cons.1 hpd).1 x hx
    have hle : ∀ x ∈ s.take j, x ≤ t := by
      intro x hx
      have := hp
      rw [← hsplit, List.pairwise_append] at this
      rw [ht]; exact this.2.2 x hx _ (by rw [hdrop]; exact List.mem_cons_self)
    have a1 : (S.map fun x => x - t).sum ≤ (S.map fun x => max (x - t) 0).sum := sum_le_map S (fun x _ => by omega)
    have a2 := sub_sum h (fun x => max (x - t) 0) (fun x => by omega)
    have a3 := map_perm_sum (f := fun x => max (x - t) 0) hm
    have a4 : (s.map fun x => max (x - t) 0).sum = ((s.drop j).map fun x => x - t).sum := by
      conv => lhs; rw [← hsplit]
      rw [List.map_append, List.sum_append, sum_zero _ (fun x hx => by have := hle x hx; omega), Int.zero_add]
      congr 1
      exact List.map_congr_left fun x hx => by have := hge x hx; omega
    have a5 := sum_shift S t
    have a6 := sum_shift (s.drop j) t
    have hl : (s.drop j).length = S.length := by rw [List.length_drop]; omega
    rw [hl] at a6
    omega
theorem exists_sub {l l' : List Int} (h : l.Perm l') : ∀ s : List Int, s.Sublist l → ∃ s' : List Int, s'.Perm s ∧ s'.Sublist l' := by
  induction h with
  | nil => intro s hs; exact ⟨s, .refl _, hs⟩
  | cons x _ ih =>
    intro s hs
    cases hs with
    | cons _ h => obtain ⟨s', h1, h2⟩ := ih _ h; exact ⟨s', h1, h2.cons _⟩
    | cons_cons _ h => obtain ⟨s', h1, h2⟩ := ih _ h; exact ⟨x :: s', h1.cons _, h2.cons_cons _⟩
  | swap x y l =>
    intro s hs
    cases hs with
    | cons _ h =>
      cases h with
      | cons _ h => exact ⟨s, .refl _, (h.cons _).cons _⟩
      | cons_cons _ h => exact ⟨_, .refl _, (h.cons _).cons_cons _⟩
    | cons_cons _ h =>
      cases h with
      | cons _ h => exact ⟨_, .refl _, (h.cons_cons _).cons _⟩
      | cons_cons _ h => exact ⟨_, .swap _ _ _, (h.cons_cons _).cons_cons _⟩
  | trans _ _ h1 h2 =>
    intro s hs
    obtain ⟨s1, p1, q1⟩ := h1 s hs
    obtain ⟨s2, p2, q2⟩ := h2 s1 q1
    exact ⟨s2, p2.trans p1, q2⟩
theorem top_is {zs : List Int} {m : Nat} (h : m ≤ zs.length) : ∃ S : List Int, S.Sublist zs ∧ S.length = m ∧ S.sum = topL zs m := by
  obtain ⟨S, h1, h2⟩ := exists_sub (sortL_perm zs) (greatL zs m) (List.drop_sublist _ _)
  refine ⟨S, h2, ?_, sum_perm h1⟩
  rw [h1.length_eq]
  unfold greatL
  rw [List.length_drop, sortL_length]; omega
/-- a gives the elements of zs from place k on. -/
def AtL (a : Nat → Int) (zs : List Int) (k : Nat) : Prop := ∀ i < zs.length, a (k + i) = zs.getD i 0
theorem AtL.tail {a : Nat → Int} {z : Int} {r : List Int} {k : Nat} (h : AtL a (z :: r) k) : a k = z ∧ AtL a r (k + 1) :=
  ⟨by have := h 0 (by simp); simpa using this, fun i hi => by have := h (i + 1) (by simpa using hi); simp only [List.getD_cons_succ] at this; rw [← this]; congr 1; omega⟩
theorem enum_sub {a : Nat → Int} {zs : List Int} {k m : Nat} (h : AtL a zs k) {L : List Nat} (hL : L ∈ enumL zs k m) : (L.map a).Sublist zs ∧ L.length = m := by
  induction zs generalizing k m L with
  | nil =>
    cases m with
    | zero => simp only [enumL, List.mem_cons, List.not_mem_nil, or_false] at hL; subst hL; simp
    | succ m => simp [enumL] at hL
  | cons z r ih =>
    obtain ⟨h1, h2⟩ := h.tail
    cases m with
    | zero => simp only [enumL, List.mem_cons, List.not_mem_nil, or_false] at hL; subst hL; simp
    | succ m =>
      simp only [enumL, List.mem_append, List.mem_map] at hL
      rcases hL with ⟨L', hL', rfl⟩ | hL
      · obtain ⟨i1, i2⟩ := ih h2 hL'
        rw [List.map_cons, h1]
        exact ⟨i1.cons_cons _, by simp [i2]⟩
      · obtain ⟨i1, i2⟩ := ih h2 hL
        exact ⟨i1.cons _, i2⟩
theorem sub_enum {a : Nat → Int} {zs S : List Int} {k : Nat} (h : AtL a zs k) (hS : S.Sublist zs) : ∃ L ∈ enumL zs k S.length, L.map a = S := by
  induction hS generalizing k with
  | slnil => exact ⟨[], by simp [enumL], rfl⟩
  | @cons S r z hs ih =>
    obtain ⟨L, h1, h2⟩ := ih h.tail.2
    cases S with
    | nil => exact ⟨[], by simp [enumL], rfl⟩
    | cons s S' => exact ⟨L, by simp only [List.length_cons, enumL, List.mem_append]; exact .inr h1, h2⟩
  | @cons_cons S r z hs ih =>
    obtain ⟨L, h1, h2⟩ := ih h.tail.2
    exact ⟨k :: L, by simp only [List.length_cons, enumL, List.mem_append, List.mem_map]; exact .inl ⟨L, h1, rfl⟩, by rw [List.map_cons, h2, h.tail.1]⟩
theorem enum_le {a : Nat → Int} {zs : List Int} {k m : Nat} (h : AtL a zs k) {L : List Nat} (hL : L ∈ enumL zs k m) : (L.map a).sum ≤ topL zs m ∧ m ≤ zs.length := by
  obtain ⟨h1, h2⟩ := enum_sub h hL
  have h3 := top_max h1
  have h4 := h1.length_le
  rw [List.length_map, h2] at h3 h4
  exact ⟨h3, h4⟩
theorem enum_top {a : Nat → Int} {zs : List Int} {k m : Nat} (h : AtL a zs k) (hm : m ≤ zs.length) : ∃ L ∈ enumL zs k m, (L.map a).sum = topL zs m := by
  obtain ⟨S, h1, h2, h3⟩ := top_is hm
  obtain ⟨L, h4, h5⟩ := sub_enum h h1
  rw [h2] at h4
  exact ⟨L, h4, by rw [h5, h3]⟩
/-- The greedy choice. -/
def greedyL (E : Int → Bool) : List Int → Nat → Nat → Int → List Nat
  | [], _, _, _ => []
  | z :: r, k, m, o => if m = 0 then [] else if E (o + z + topL r (m - 1)) = true then k :: greedyL E r (k + 1) (m - 1) (o + z) else greedyL E r (k + 1) m o
theorem greedy_find {E : Int → Bool} (hE : ∀ x y, x ≤ y → E x = true → E y = true) {a : Nat → Int} {zs : List Int} {k m : Nat} {o : Int} (h : AtL a zs k) (hx : ∃ L ∈ enumL zs k m, E (o + (L.map a).sum) = true) :
    (enumL zs k m).find? (fun L => E (o + (L.map a).sum)) = some (greedyL E zs k m o) := by
  induction zs generalizing k m o with
  | nil =>
    obtain ⟨L, hL, hp⟩ := hx
    cases m with
    | zero => simp only [enumL, List.mem_cons, List.not_mem_nil, or_false] at hL; subst hL; simp [enumL, greedyL] at *; exact hp
    | succ m => simp [enumL] at hL
  | cons z r ih =>
    obtain ⟨h1, h2⟩ := h.tail
    cases m with
    | zero =>
      obtain ⟨L, hL, hp⟩ := hx
      simp only [enumL, List.mem_cons, List.not_mem_nil, or_false] at hL; subst hL; simp [enumL, greedyL] at *; exact hp
    | succ m =>
      have hcomp : ∀ L : List Nat, E (o + ((k :: L).map a).sum) = E (o + z + (L.map a).sum) := fun L => by
        rw [List.map_cons, List.sum_cons, h1, Int.add_assoc]
      have hmr : m ≤ r.length := by
        obtain ⟨L, hL, _⟩ := hx
        have := (enum_le h hL).2
        simpa using this
      simp only [enumL, greedyL]
      rw [List.find?_append, List.find?_map, if_neg (by omega), Nat.add_sub_cancel]
      by_cases hc : E (o + z + topL r m) = true
      · rw [if_pos hc]
        obtain ⟨L, hL, hs⟩ := enum_top h2 hmr
        have := ih (k := k + 1) (m := m) (o := o + z) h2 ⟨L, hL, by rw [hs]; exact hc⟩
        have e : ((fun L : List Nat => E (o + (L.map a).sum)) ∘ fun x => k :: x) = fun L : List Nat => E (o + z + (L.map a).sum) := funext hcomp
        rw [e, this]; rfl
      · rw [if_neg hc]
        have hnone : (enumL r (k + 1) m).find? ((fun L : List Nat => E (o + (L.map a).sum)) ∘ fun x => k :: x) = none := by
          rw [List.find?_eq_none]
          intro L hL hp
          have hp' : E (o + z + (L.map a).sum) = true := by rw [← hcomp]; exact hp
          exact hc (hE _ _ (by have := (enum_le h2 hL).1; omega) hp')
        rw [hnone]
        have := ih (k := k + 1) (m := m + 1) (o := o) h2 (by
          obtain ⟨L, hL, hp⟩ := hx
          simp only [enumL, List.mem_append, List.mem_map] at hL
          rcases hL with ⟨L', hL', rfl⟩ | hL
          · rw [hcomp] at hp
            exact absurd (hE _ _ (by have := (enum_le h2 hL').1; omega) hp) hc
          · exact ⟨L, hL, hp⟩)
        simpa using this
theorem enum_none {E : Int → Bool} (hE : ∀ x y, x ≤ y → E x = true → E y = true) {a : Nat → Int} {zs : List Int} {k m : Nat} {o : Int} (h : AtL a zs k) (hx : E (o + topL zs m) = false) :
    (enumL zs k m).find? (fun L => E (o + (L.map a).sum)) = none := by
  rw [List.find?_eq_none]
  intro L hL hp
  have := hE _ (o + topL zs m) (by have := (enum_le h hL).1; omega) hp
  rw [hx] at this; cases this

theorem degF_monoW {a b q : Int} (hq : 1 ≤ q) (h : a ≤ b) : degF a q ≤ degF b q := by
  have : 20340 * a / (355 * q) ≤ 20340 * b / (355 * q) := Int.ediv_le_ediv (by omega) (by omega)
  unfold degF; omega
theorem enough_mono {f : Fan} {d : Int} (hq : 1 ≤ partsL false f) (x y : Int) (h : x ≤ y) (hx : enoughB f d x = true) : enoughB f d y = true := by
  unfold enoughB at *
  rw [decide_eq_true_eq] at *
  have := degF_monoW hq (show openN false f - y ≤ openN false f - x by omega)
  omega
theorem many_is {p : Nat → Bool} (k m : Nat) (h : p (m + k) = true) : p (manyGo p k m) = true ∧ ∀ j, m ≤ j → j < manyGo p k m → p j = false := by
  induction k generalizing m with
  | zero => exact ⟨h, fun j h1 h2 => by simp [manyGo] at h2; omega⟩
  | succ k ih =>
    rw [manyGo]
    by_cases hp : p m = true
    · rw [if_pos hp]
      exact ⟨hp, fun j h1 h2 => by omega⟩
    · rw [if_neg hp]
      obtain ⟨h1, h2⟩ := ih (m + 1) (by rw [show m + 1 + k = m + (k + 1) by omega]; exact h)
      refine ⟨h1, fun j hj hlt => ?_⟩
      rcases Nat.eq_or_lt_of_le hj with rfl | hlt2
      · simpa using hp
      · exact h2 j hlt2 hlt
theorem manyL_is {f : Fan} {d : Int} (hd : 0 ≤ d) (h0 : 0 < f.gs.length) : 1 ≤ manyL f d ∧ manyL f d ≤ f.gs.length ∧ manyP f d (manyL f d) = true ∧ ∀ j, 1 ≤ j → j < manyL f d → manyP f d j = false := by
  have h1 := manyGo_le (p := manyP f d) f.gs.length 1
  obtain ⟨h2, h3⟩ := many_is (p := manyP f d) f.gs.length 1 (manyP_all hd _ (by omega))
  refine ⟨h1.1, ?_, h2, h3⟩
  rcases Nat.lt_or_ge f.gs.length (manyL f d) with h4 | h4
  · have := h3 f.gs.length (by omega) h4
    rw [manyP_all hd _ (Nat.le_refl _)] at this; cases this
  · exact h4
theorem greedy_zero (E : Int → Bool) (zs : List Int) (k : Nat) (o : Int) : greedyL E zs k 0 o = [] := by cases zs <;> simp [greedyL]
theorem wrong_greedy (f : Fan) (d : Int) (j k : Nat) (hk : k + j = f.gs.length) :
    (wrongGo f d f.gs.length).1 = (wrongGo f d k).1 ++ (greedyL (enoughB f d) ((anglesF false f).drop k) k (manyL f d - (wrongGo f d k).1.length) (wrongGo f d k).2).map (fun i : Nat => (i : Int)) := by
  have hl : (anglesF false f).length = f.gs.length := by simp [anglesF]
  induction j generalizing k with
  | zero =>
    obtain rfl : k = f.gs.length := by omega
    rw [List.drop_of_length_le (by omega)]
    simp [greedyL]
  | succ j ih =>
    have hkl : k < (anglesF false f).length := by omega
    have hd : (anglesF false f).drop k = (anglesF false f).getD k 0 :: (anglesF false f).drop (k + 1) := by
      rw [List.drop_eq_getElem_cons hkl]; simp [List.getD, hkl]
    rw [ih (k + 1) (by omega), hd, greedyL, wrongGo]
    by_cases h1 : manyL f d - (wrongGo f d k).1.length = 0
    · rw [if_pos h1, if_pos h1, h1, greedy_zero]
    · rw [if_neg h1, if_neg h1]
      by_cases h2 : stepOk f d k (wrongGo f d k) = true
      · have h3 := h2
        unfold stepOk at h3
        rw [if_pos h2, if_pos (show enoughB f d ((wrongGo f d k).2 + (anglesF false f).getD k 0 + topL ((anglesF false f).drop (k + 1)) (manyL f d - (wrongGo f d k).1.length - 1)) = true from h3)]
        simp only [List.length_append, List.length_cons, List.length_nil, List.map_cons, Nat.zero_add, List.append_assoc, List.cons_append, List.nil_append, Nat.sub_add_eq]
      · have h3 := h2
        unfold stepOk at h3
        rw [if_neg h2, if_neg (show ¬ enoughB f d ((wrongGo f d k).2 + (anglesF false f).getD k 0 + topL ((anglesF false f).drop (k + 1)) (manyL f d - (wrongGo f d k).1.length - 1)) = true from h3)]
theorem fewest_greedy (f : Fan) (d : Int) : fewestL f d = (greedyL (enoughB f d) (anglesF false f) 0 (manyL f d) 0).map (fun i : Nat => (i : Int)) := by
  have := wrong_greedy f d f.gs.length 0 (by omega)
  unfold fewestL
  rw [this]
  simp [wrongGo]
/-- The sum of the angles of a set of gaps. -/
def setSum (f : Fan) (L : List Nat) : Int := (L.map fun i => (anglesF false f).getD i 0).sum
theorem atL_angles (f : Fan) : AtL (fun i => (anglesF false f).getD i 0) (anglesF false f) 0 := fun i _ => by simp
/-- The fewest gaps are the first set of the least size without which a fan opens no farther. -/
theorem fewest_find {f : Fan} {d : Int} (hq : 1 ≤ partsL false f) (hd : 0 ≤ d) (h0 : 0 < f.gs.length) :
    ∃ L, fewestL f d = L.map (fun i : Nat => (i : Int)) ∧ 1 ≤ manyL f d ∧ manyL f d ≤ f.gs.length ∧ (enumL (anglesF false f) 0 (manyL f d)).find? (fun L => enoughB f d (setSum f L)) = some L ∧ ∀ j, 1 ≤ j → j < manyL f d → (enumL (anglesF false f) 0 j).find? (fun L => enoughB f d (setSum f L)) = none := by
  obtain ⟨h1, h2, h3, h4⟩ := manyL_is hd h0
  have hl : (anglesF false f).length = f.gs.length := by simp [anglesF]
  refine ⟨_, fewest_greedy f d, h1, h2, ?_, fun j hj hlt => ?_⟩
  · obtain ⟨L, hL, hs⟩ := enum_top (atL_angles f) (m := manyL f d) (by omega)
    have := greedy_find (E := enoughB f d) (o := 0) (fun x y => enough_mono hq x y) (atL_angles f) ⟨L, hL, by rw [Int.zero_add, hs]; exact h3⟩
    simpa [setSum] using this
  · have := enum_none (E := enoughB f d) (o := 0) (m := j) (fun x y => enough_mono hq x y) (atL_angles f) (by rw [Int.zero_add]; exact h4 j hj hlt)
    simpa [setSum] using this

/-- The sum of a over the numbers of L from k on, j of them. -/
def rsum (a : Nat → Int) (L : List Nat) (k : Nat) : Nat → Int
  | 0 => 0
  | j + 1 => rsum a L k j + if k + j ∈ L then a (k + j) else 0
theorem rsum_first (a : Nat → Int) (L : List Nat) (k j : Nat) : rsum a L k (j + 1) = (if k ∈ L then a k else 0) + rsum a L (k + 1) j := by
  induction j with
  | zero => simp [rsum]
  | succ j ih =>
    rw [rsum, ih, rsum]
    have e : k + (j + 1) = k + 1 + j := by omega
    rw [e]; omega
theorem rsum_skip (a : Nat → Int) (L : List Nat) (x k j : Nat) (h : x < k) : rsum a (x :: L) k j = rsum a L k j := by
  induction j with
  | zero => rfl
  | succ j ih =>
    rw [rsum, rsum, ih]
    have : (k + j ∈ x :: L) = (k + j ∈ L) := by
      simp only [List.mem_cons, eq_iff_iff]
      exact ⟨fun h2 => h2.resolve_left (by omega), .inr⟩
    simp only [this]
theorem rsum_nil (a : Nat → Int) (k j : Nat) : rsum a [] k j = 0 := by
  induction j with
  | zero => rfl
  | succ j ih => rw [rsum, ih]; simp
theorem enum_ge {zs : List Int} {k m : Nat} {L : List Nat} (hL : L ∈ enumL zs k m) : ∀ i ∈ L, k ≤ i ∧ i < k + zs.length := by
  induction zs generalizing k m L with
  | nil =>
    cases m with
    | zero => simp only [enumL, List.mem_cons, List.not_mem_nil, or_false] at hL; subst hL; simp
    | succ m => simp [enumL] at hL
  | cons z r ih =>
    cases m with
    | zero => simp only [enumL, List.mem_cons, List.not_mem_nil, or_false] at hL; subst hL; simp
    | succ m =>
      simp only [enumL, List.mem_append, List.mem_map] at hL
      intro i hi
      rcases hL with ⟨L', hL', rfl⟩ | hL
      · rcases List.mem_cons.1 hi with rfl | hi
        · simp
        · have := ih hL' i hi; simp only [List.length_cons]; omega
      · have := ih hL i hi; simp only [List.length_cons]; omega
theorem enum_rsum {a : Nat → Int} {zs : List Int} {k m : Nat} {L : List Nat} (hL : L ∈ enumL zs k m) : rsum a L k zs.length = (L.map a).sum := by
  induction zs generalizing k m L with
  | nil =>
    cases m with
    | zero => simp only [enumL, List.mem_cons, List.not_mem_nil, or_false] at hL; subst hL; simp [rsum]
    | succ m => simp [enumL] at hL
  | cons z r ih =>
    cases m with
    | zero => simp only [enumL, List.mem_cons, List.not_mem_nil, or_false] at hL; subst hL; simp [rsum_nil]
    | succ m =>
      simp only [enumL, List.mem_append, List.mem_map] at hL
      rw [List.length_cons, rsum_first]
      rcases hL with ⟨L', hL', rfl⟩ | hL
      · rw [rsum_skip _ _ _ _ _ (by omega), ih hL', if_pos (by simp)]
        simp
      · rw [ih hL, if_neg (fun h => by have := enum_ge hL k h; omega)]
        simp
theorem enum_len (zs : List Int) (k m : Nat) : (enumL zs k m).length ≤ 2 ^ zs.length := by
  induction zs generalizing k m with
  | nil => cases m <;> simp [enumL]
  | cons z r ih =>
    cases m with
    | zero => simp only [enumL, List.length_cons, List.length_nil]; exact Nat.one_le_two_pow
    | succ m =>
      simp only [enumL, List.length_append, List.length_map, List.length_cons, Nat.pow_succ]
      have := ih (k + 1) m
      have := ih (k + 1) (m + 1)
      omega
end Go.Proofs.Ytdekickmplkdiaa
