/- Plain functions: the most heights that can be taken, each a step from the last; taken greedily they are the most, and the smallest list. -/
namespace Go.Proofs.Ytiflhimmieflpaa

/-- The heights from y on that are taken greedily, of those that are fine. -/
def glF (fine : Nat → Bool) (st : Nat) : Nat → Nat → List Nat
  | 0, _ => []
  | f + 1, y => if 300 < y then [] else if fine y = true then y :: glF fine st f (y + st) else glF fine st f (y + 1)
def gl (fine : Nat → Bool) (st y : Nat) : List Nat := glF fine st (301 - y) y
def gcount (fine : Nat → Bool) (st y : Nat) : Nat := (gl fine st y).length

section
variable {fine : Nat → Bool} {st : Nat}
theorem glF_any (h : 1 ≤ st) : ∀ (f f' y : Nat), 301 - y ≤ f → 301 - y ≤ f' → glF fine st f y = glF fine st f' y := by
  intro f
  induction f with
  | zero =>
    intro f' y hy _
    cases f' with
    | zero => rfl
    | succ f' => simp [glF, show 300 < y by omega]
  | succ f ih =>
    intro f' y hy hy'
    cases f' with
    | zero => simp [glF, show 300 < y by omega]
    | succ f' =>
      simp only [glF]
      by_cases h3 : 300 < y
      · rw [if_pos h3, if_pos h3]
      · rw [if_neg h3, if_neg h3, ih f' (y + st) (by omega) (by omega), ih f' (y + 1) (by omega) (by omega)]
theorem gl_end {y : Nat} (h : 300 < y) : gl fine st y = [] := by
  unfold gl
  rw [show 301 - y = 0 from by omega]; rfl
theorem gl_yes (hs : 1 ≤ st) {y : Nat} (h : y ≤ 300) (hf : fine y = true) : gl fine st y = y :: gl fine st (y + st) := by
  unfold gl
  obtain ⟨g, hg⟩ : ∃ g, 301 - y = g + 1 := ⟨300 - y, by omega⟩
  rw [hg]
  simp only [glF]
  rw [if_neg (by omega), if_pos hf, glF_any hs g (301 - (y + st)) (y + st) (by omega) (Nat.le_refl _)]
theorem gl_no (hs : 1 ≤ st) {y : Nat} (h : y ≤ 300) (hf : fine y = false) : gl fine st y = gl fine st (y + 1) := by
  unfold gl
  obtain ⟨g, hg⟩ : ∃ g, 301 - y = g + 1 := ⟨300 - y, by omega⟩
  rw [hg]
  simp only [glF]
  rw [if_neg (by omega), if_neg (by rw [hf]; simp), glF_any hs g (301 - (y + 1)) (y + 1) (by omega) (Nat.le_refl _)]
/-- Heights that are not fine are passed over. -/
theorem gl_skip (hs : 1 ≤ st) {y : Nat} (d : Nat) (h : ∀ z, y ≤ z → z < y + d → z ≤ 300 → fine z = false) : gl fine st y = gl fine st (y + d) := by
  induction d with
  | zero => rfl
  | succ d ih =>
    rw [ih fun z h1 h2 h3 => h z h1 (by omega) h3]
    by_cases h3 : y + d ≤ 300
    · rw [gl_no hs h3 (h _ (by omega) (by omega) h3)]; rfl
    · rw [gl_end (by omega), gl_end (by omega)]
theorem gcount_end {y : Nat} (h : 300 < y) : gcount fine st y = 0 := by unfold gcount; rw [gl_end h]; rfl
theorem gcount_yes (hs : 1 ≤ st) {y : Nat} (h : y ≤ 300) (hf : fine y = true) : gcount fine st y = 1 + gcount fine st (y + st) := by
  unfold gcount; rw [gl_yes hs h hf]; simp; omega
theorem gcount_no (hs : 1 ≤ st) {y : Nat} (h : y ≤ 300) (hf : fine y = false) : gcount fine st y = gcount fine st (y + 1) := by
  unfold gcount; rw [gl_no hs h hf]
/-- No later start takes more; a later start takes at most one fewer, within a step. -/
theorem gcount_both (hs : 1 ≤ st) : ∀ (d y : Nat), 301 - y ≤ d → (∀ z, y ≤ z → gcount fine st z ≤ gcount fine st y) ∧ (∀ z, z ≤ y + st → y ≤ z → gcount fine st y ≤ 1 + gcount fine st z) := by
  intro d
  induction d with
  | zero =>
    intro y hy
    have h0 : gcount fine st y = 0 := gcount_end (by omega)
    exact ⟨fun z hz => by rw [gcount_end (by omega)]; omega, fun z _ _ => by omega⟩
  | succ d ih =>
    intro y hy
    by_cases h3 : 300 < y
    · have h0 : gcount fine st y = 0 := gcount_end (by omega)
      exact ⟨fun z hz => by rw [gcount_end (by omega)]; omega, fun z _ _ => by omega⟩
    have ih1 := ih (y + 1) (by omega)
    cases hf : fine y with
    | false =>
      have e := gcount_no hs (by omega) hf
      refine ⟨fun z hz => ?_, fun z hz hz' => ?_⟩
      · by_cases hzy : z = y
        · rw [hzy]; exact Nat.le_refl _
        · rw [e]; exact ih1.1 z (by omega)
      · by_cases hzy : z = y
        · rw [hzy]; omega
        · rw [e]; exact ih1.2 z (by omega) (by omega)
    | true =>
      have e := gcount_yes hs (by omega) hf
      have hstep : gcount fine st (y + 1) ≤ 1 + gcount fine st (y + st) := ih1.2 (y + st) (by omega) (by omega)
      refine ⟨fun z hz => ?_, fun z hz hz' => ?_⟩
      · by_cases hzy : z = y
        · rw [hzy]; exact Nat.le_refl _
        · have := ih1.1 z (by omega); omega
      · by_cases hzy : z = y
        · rw [hzy]; omega
        · have h5 : gcount fine st (y + st) ≤ gcount fine st z := by
            have := ih z (by omega)
            exact this.1 (y + st) (by omega)
          omega
theorem gcount_anti (hs : 1 ≤ st) {y z : Nat} (h : y ≤ z) : gcount fine st z ≤ gcount fine st y := (gcount_both hs (301 - y) y (Nat.le_refl _)).1 z h
/-- The recurrence of a table of the most. -/
theorem gcount_max (hs : 1 ≤ st) {y : Nat} (h : y ≤ 300) (hf : fine y = true) : gcount fine st y = max (gcount fine st (y + 1)) (1 + gcount fine st (y + st)) := by
  have e := gcount_yes hs h hf
  have h1 := gcount_anti (fine := fine) hs (Nat.le_succ y)
  rw [Nat.succ_eq_add_one] at h1
  omega
theorem gcount_le (hs : 1 ≤ st) (y : Nat) : gcount fine st y ≤ 301 - y := by
  have : ∀ (d y : Nat), 301 - y ≤ d → gcount fine st y ≤ 301 - y := by
    intro d
    induction d with
    | zero => intro y hy; rw [gcount_end (by omega)]; omega
    | succ d ih =>
      intro y hy
      by_cases h3 : 300 < y
      · rw [gcount_end h3]; omega
      cases hf : fine y with
      | false => rw [gcount_no hs (by omega) hf]; have := ih (y + 1) (by omega); omega
      | true => rw [gcount_yes hs (by omega) hf]; have := ih (y + st) (by omega); omega
  exact this _ y (Nat.le_refl _)
/-- No list of fine heights, each a step from the last, is longer. -/
theorem gcount_most (hs : 1 ≤ st) : ∀ (l : List Nat) (y : Nat), (∀ z ∈ l, fine z = true ∧ z ≤ 300 ∧ y ≤ z) → l.Pairwise (fun a b => a + st ≤ b) → l.length ≤ gcount fine st y := by
  intro l
  induction l with
  | nil => intro y _ _; simp
  | cons a l ih =>
    intro y h hp
    have ha := h a (by simp)
    have hp' := List.pairwise_cons.1 hp
    have h1 := ih (a + st) (fun z hz => ⟨(h z (by simp [hz])).1, (h z (by simp [hz])).2.1, hp'.1 z hz⟩) hp'.2
    have h2 := gcount_yes hs ha.2.1 ha.1
    have h3 := gcount_anti (fine := fine) hs ha.2.2
    simp only [List.length_cons]
    omega
theorem gl_mem (hs : 1 ≤ st) : ∀ (d y : Nat), 301 - y ≤ d → ∀ z ∈ gl fine st y, fine z = true ∧ z ≤ 300 ∧ y ≤ z := by
  intro d
  induction d with
  | zero => intro y hy z hz; rw [gl_end (by omega)] at hz; cases hz
  | succ d ih =>
    intro y hy z hz
    by_cases h3 : 300 < y
    · rw [gl_end h3] at hz; cases hz
    cases hf : fine y with
    | false =>
      rw [gl_no hs (by omega) hf] at hz
      have := ih (y + 1) (by omega) z hz
      exact ⟨this.1, this.2.1, by omega⟩
    | true =>
      rw [gl_yes hs (by omega) hf] at hz
      rcases List.mem_cons.1 hz with rfl | hz
      · exact ⟨hf, by omega, Nat.le_refl _⟩
      · have := ih (y + st) (by omega) z hz
        exact ⟨this.1, this.2.1, by omega⟩
theorem gl_apart (hs : 1 ≤ st) : ∀ (d y : Nat), 301 - y ≤ d → (gl fine st y).Pairwise (fun a b => a + st ≤ b) := by
  intro d
  induction d with
  | zero => intro y hy; rw [gl_end (by omega)]; exact List.Pairwise.nil
  | succ d ih =>
    intro y hy
    by_cases h3 : 300 < y
    · rw [gl_end h3]; exact List.Pairwise.nil
    cases hf : fine y with
    | false => rw [gl_no hs (by omega) hf]; exact ih (y + 1) (by omega)
    | true =>
      rw [gl_yes hs (by omega) hf]
      exact List.pairwise_cons.2 ⟨fun z hz => (gl_mem hs _ _ (Nat.le_refl _) z hz).2.2, ih (y + st) (by omega)⟩
end
end Go.Proofs.Ytiflhimmieflpaa
