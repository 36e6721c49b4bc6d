/- The blocks of the code are the reference's: no walks. -/
import Derived.Test.YtiflhimmieflpaaW46
namespace Go.Proofs.Ytiflhimmieflpaa

theorem maxTo_le (xs : List Int) (v : Int) : ∀ k, maxTo xs k ≤ v ↔ ∀ j, j ≤ k → xs.getD j 0 ≤ v := by
  intro k
  induction k with
  | zero => exact ⟨fun h j hj => (by have e : j = 0 := (by omega); rw [e]; exact h), fun h => h 0 (Nat.le_refl _)⟩
  | succ k ih =>
    rw [maxTo_succ]
    constructor
    · intro h j hj
      by_cases e : j = k + 1
      · rw [e]; omega
      · exact ih.1 (by omega) j (by omega)
    · intro h
      have h1 := ih.2 fun j hj => h j (by omega)
      have h2 := h (k + 1) (Nat.le_refl _)
      omega
theorem le_minTo (xs : List Int) (v : Int) : ∀ k, v ≤ minTo xs k ↔ ∀ j, j ≤ k → v ≤ xs.getD j 0 := by
  intro k
  induction k with
  | zero => exact ⟨fun h j hj => (by have e : j = 0 := (by omega); rw [e]; exact h), fun h => h 0 (Nat.le_refl _)⟩
  | succ k ih =>
    rw [minTo_succ]
    constructor
    · intro h j hj
      by_cases e : j = k + 1
      · rw [e]; omega
      · exact ih.1 (by omega) j (by omega)
    · intro h
      have h1 := ih.2 fun j hj => h j (by omega)
      have h2 := h (k + 1) (Nat.le_refl _)
      omega
theorem part_at (xs : List Int) (x l j : Nat) (hj : j < l) : ((xs.drop x).take l).getD j 0 = xs.getD (x + j) 0 := by
  simp [List.getD, hj, List.getElem?_drop]
/-- What a crack that is valid gives. -/
theorem crack_order {B : Bl} (h : B.cerr = 0) : ∀ k ∈ B.cr, k.cl ≤ k.ch ∧ k.fl ≤ k.fh ∧ k.fh ≤ k.tl ∧ k.tl ≤ k.th ∧ 0 ≤ k.cl ∧ k.ch < B.n ∧ 0 ≤ k.fl ∧ k.th ≤ 300 := by
  have h' : curveErr B.n B.n' B.m B.bend B.bot B.top B.cr = 0 := h
  unfold curveErr at h'
  split at h'
  · omega
  split at h'
  · omega
  split at h'
  · omega
  split at h'
  · omega
  split at h'
  · omega
  rename_i e1 e2 e3 e4 e5
  intro k hk
  simp only [Bool.not_eq_true, List.any_eq_false] at e5
  have := e5 k hk
  simp only [crackOk, validS, Bool.not_eq_false', Bool.and_eq_true, List.all_eq_true, decide_eq_true_eq, List.mem_cons, List.not_mem_nil, or_false, forall_eq, forall_eq_or_imp] at this
  omega

section
variable {B : Bl} {s : Sw} {x : Nat} {TA TB K : Option Addr} {c c' d : Nat}
theorem colSound_sure (y : Int) (i : Nat) : colSound (sureV B TA TB K c c' d) s.wide y i = true ↔ (B.worst s).bottom.getD i 0 ≤ y ∧ y + s.wide ≤ (B.worst s).top.getD i 0 ∧ ∀ k ∈ B.cr, ¬ (k.cl ≤ i ∧ i ≤ k.ch ∧ y < k.th ∧ k.fl < y + s.wide) := by
  have hb : (sureV B TA TB K c c' d).bot = (B.worst s).bottom := rfl
  have ht : (sureV B TA TB K c c' d).top = (B.worst s).top := rfl
  have hsp : (sureV B TA TB K c c' d).sp = B.cr.map splitOf := rfl
  unfold colSound noneOf
  rw [hb, ht, hsp, Bool.and_eq_true, Bool.and_eq_true, List.all_eq_true]
  simp only [Bool.not_eq_true', decide_eq_false_iff_not, Int.not_lt, List.mem_map, forall_exists_index, and_imp, forall_apply_eq_imp_iff₂, and_assoc]
  refine and_congr Iff.rfl (and_congr Iff.rfl (forall_congr' fun k => forall_congr' fun _ => ?_))
  rw [← Bool.not_eq_true]
  simp only [spoilV, inB, Bool.and_eq_true, decide_eq_true_eq, and_assoc]
  exact Iff.rfl
/-- A height is sound in all of the stick's columns: it lies in the room, and no split spoils it. -/
theorem fine_sure (hs : s.Ok) (hc : B.cerr = 0) (y : Nat) : fineV (sureV B TA TB K c c' d) s x y = true ↔ (roomL (B.worst s) x).1 ≤ y ∧ (y : Int) + s.wide ≤ (roomL (B.worst s) x).2 ∧ ∀ k ∈ (B.worst s).splits, spoilB (B.worst s) x y k = false := by
  obtain ⟨l, hl⟩ := Int.eq_ofNat_of_zero_le (show 0 ≤ s.long by have := hs.l1; omega)
  have l1 := hs.l1
  rw [hl] at l1
  have hlong : (B.worst s).long = s.long := rfl
  have hwide : (B.worst s).wide = s.wide := rfl
  have hsp : (B.worst s).splits = B.cr.map worstSplit := rfl
  have hco := crack_order hc
  unfold fineV soundV soundTo roomL
  rw [List.all_eq_true, hlong, hl, hsp]
  simp only [Int.toNat_natCast, List.mem_range, colSound_sure, maxTo_le, le_minTo]
  constructor
  · intro h
    refine ⟨fun j hj => ?_, fun j hj => ?_, fun k hk => ?_⟩
    · rw [part_at _ _ _ _ (by omega)]; exact (h j (by omega)).1
    · rw [part_at _ _ _ _ (by omega)]; exact (h j (by omega)).2.1
    · obtain ⟨q, hq, rfl⟩ := List.mem_map.1 hk
      have hqo := hco q hq
      cases hsx : spoilB (B.worst s) x y (worstSplit q) with
      | false => rfl
      | true =>
        exfalso
        simp only [spoilB, Bool.and_eq_true, decide_eq_true_eq] at hsx
        simp only [worstSplit, hlong, hwide, hl] at hsx
        obtain ⟨⟨⟨h1, h2⟩, h3⟩, h4⟩ := hsx
        by_cases e : q.cl ≤ x
        · exact (h 0 (by omega)).2.2 q hq ⟨by omega, by omega, h3, h4⟩
        · obtain ⟨j, hj⟩ := Int.eq_ofNat_of_zero_le (show 0 ≤ q.cl - x by omega)
          exact (h j (by omega)).2.2 q hq ⟨by omega, by omega, h3, h4⟩
  · rintro ⟨h1, h2, h3⟩ j hj
    have e1 := h1 j (by omega)
    have e2 := h2 j (by omega)
    rw [part_at _ _ _ _ (by omega)] at e1 e2
    refine ⟨e1, e2, fun k hk hh => ?_⟩
    have := h3 (worstSplit k) (List.mem_map.2 ⟨k, hk, rfl⟩)
    simp only [spoilB, Bool.and_eq_false_iff, decide_eq_false_iff_not] at this
    simp only [worstSplit, hlong, hwide, hl] at this
    omega
theorem blockGo_gl (hs : s.Ok) (hc : B.cerr = 0) (ht : (roomL (B.worst s) x).2 ≤ 300) : ∀ (f y : Nat), 302 ≤ f + y → (roomL (B.worst s) x).1 ≤ y →
    blockGo (B.worst s) x (roomL (B.worst s) x).2 f y = (gl (fineV (sureV B TA TB K c c' d) s x) (stV s) y).map fun z : Nat => (z : Int) := by
  have hwide : (B.worst s).wide = s.wide := rfl
  have hkerf : (B.worst s).kerf = s.kerf := rfl
  have hst : (stV s : Int) = s.wide + s.kerf := by unfold stV; have := hs.w1; have := hs.k1; omega
  have w1 := hs.w1
  have k1 := hs.k1
  have hst1 : 1 ≤ stV s := by omega
  intro f
  induction f with
  | zero => intro y hy _; rw [gl_end (by omega)]; rfl
  | succ f ih =>
    intro y hy h0
    simp only [blockGo, hwide, hkerf]
    by_cases htop : (y : Int) + s.wide ≤ (roomL (B.worst s) x).2
    · rw [if_pos htop]
      by_cases hsp : 0 ≤ idx (spoilB (B.worst s) x y) (B.worst s).splits
      · rw [if_pos hsp]
        rcases idx_cases (spoilB (B.worst s) x y) (B.worst s).splits Split.zero with e | ⟨k, hk, hkl, hkp⟩
        · omega
        · rw [hk, Int.toNat_natCast]
          have hmem : (B.worst s).splits.getD k Split.zero ∈ (B.worst s).splits := by
            simp only [List.getD, List.getElem?_eq_getElem hkl, Option.getD_some]
            exact List.getElem_mem hkl
          generalize (B.worst s).splits.getD k Split.zero = q at *
          have hq := hkp
          simp only [spoilB, Bool.and_eq_true, decide_eq_true_eq] at hq
          rw [hwide] at hq
          obtain ⟨up, hup⟩ := Int.eq_ofNat_of_zero_le (show 0 ≤ q.up by omega)
          rw [hup, ih up (by omega) (by omega)]
          obtain ⟨dd, hdd⟩ : ∃ dd, up = y + dd := ⟨up - y, by omega⟩
          rw [gl_skip hst1 (y := y) dd, hdd]
          intro z hz1 hz2 _
          cases hf : fineV (sureV B TA TB K c c' d) s x z with
          | false => rfl
          | true =>
            exfalso
            have := ((fine_sure hs hc z).1 hf).2.2 q hmem
            simp only [spoilB, Bool.and_eq_false_iff, decide_eq_false_iff_not] at this
            rw [hwide] at this
            omega
      · rw [if_neg hsp]
        have hfine : fineV (sureV B TA TB K c c' d) s x y = true := by
          refine (fine_sure hs hc y).2 ⟨h0, htop, fun k hk => ?_⟩
          have h2 : (B.worst s).splits.any (spoilB (B.worst s) x y) = false := by rw [← idx_any]; simpa using hsp
          rw [List.any_eq_false] at h2
          simpa using h2 k hk
        rw [gl_yes hst1 (by omega) hfine, List.map_cons, ← ih (y + stV s) (by omega) (by omega)]
        rw [show ((y + stV s : Nat) : Int) = (y : Int) + (s.wide + s.kerf) by omega]
    · rw [if_neg htop]
      rw [gl_skip hst1 (y := y) 301 fun z hz1 hz2 _ => ?_, gl_end (by omega)]
      · rfl
      · cases hf : fineV (sureV B TA TB K c c' d) s x z with
        | false => rfl
        | true => exact absurd ((fine_sure hs hc z).1 hf).2.1 (by omega)
theorem blockL_ref (hs : s.Ok) (hc : B.cerr = 0) (h0 : 0 ≤ (roomL (B.worst s) x).1) (ht : (roomL (B.worst s) x).2 ≤ 300) : blockL (B.worst s) x = refBlockL (sureV B TA TB K c c' d) s x := by
  obtain ⟨y0, hy0⟩ := Int.eq_ofNat_of_zero_le h0
  have hst1 : 1 ≤ stV s := by unfold stV; have := hs.w1; omega
  unfold blockL refBlockL
  have e : gl (fineV (sureV B TA TB K c c' d) s x) (stV s) 0 = gl (fineV (sureV B TA TB K c c' d) s x) (stV s) y0 := by
    have := gl_skip (fine := fineV (sureV B TA TB K c c' d) s x) hst1 (y := 0) y0 fun z _ hz2 _ => by
      cases hf : fineV (sureV B TA TB K c c' d) s x z with
      | false => rfl
      | true => exact absurd ((fine_sure hs hc z).1 hf).1 (by omega)
    rwa [Nat.zero_add] at this
  rw [e, ← blockGo_gl hs hc ht 302 y0 (by omega) (by omega), ← hy0]
end
end Go.Proofs.Ytiflhimmieflpaa
