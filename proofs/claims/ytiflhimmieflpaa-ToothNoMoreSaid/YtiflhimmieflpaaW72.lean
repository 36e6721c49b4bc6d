/- An edge of which one column was sounded: no walks. -/
import Derived.Test.YtiflhimmieflpaaW71
namespace Go.Proofs.Ytiflhimmieflpaa

section
variable {xs : List (Int × Int)} {bend : Int} {x : Nat}
theorem set_truths {v : Int} (hx : x < xs.length) (hv : ((bentL xs bend).getD x (0, 0)).1 ≤ v ∧ v ≤ ((bentL xs bend).getD x (0, 0)).2) (t : Nat → Int) : Truth ((bentL xs bend).set x (v, v)) bend t ↔ Truth (xs.set x (v, v)) bend t := by
  have hl := bentL_length xs bend
  have hs := bent_sub xs bend x hx
  rw [truth_set (by omega) hv, truth_set hx (by omega)]
  exact and_congr ⟨truth_of_bent, bent_of_truth⟩ Iff.rfl
theorem low_ok (hb : 0 ≤ bend) (h : bentOk xs bend = true) (hx : x < xs.length) : bentOk ((bentL xs bend).set x (((bentL xs bend).getD x (0, 0)).1, ((bentL xs bend).getD x (0, 0)).1)) bend = true := by
  have hf := bent_full hb h x hx
  exact truth_ok ((truth_set (by rw [bentL_length]; exact hx) ⟨Int.le_refl _, hf⟩).2 ⟨bent_of_truth (truth_lows hb h), rfl⟩)
theorem high_ok (hb : 0 ≤ bend) (h : bentOk xs bend = true) (hx : x < xs.length) : bentOk ((bentL xs bend).set x (((bentL xs bend).getD x (0, 0)).2, ((bentL xs bend).getD x (0, 0)).2)) bend = true := by
  have hf := bent_full hb h x hx
  exact truth_ok ((truth_set (by rw [bentL_length]; exact hx) ⟨hf, Int.le_refl _⟩).2 ⟨bent_of_truth (truth_highs hb h), rfl⟩)
theorem low_ok2 (hb : 0 ≤ bend) (h : bentOk xs bend = true) (hx : x < xs.length) : bentOk (xs.set x (((bentL xs bend).getD x (0, 0)).1, ((bentL xs bend).getD x (0, 0)).1)) bend = true := by
  have hf := bent_full hb h x hx
  exact truth_ok ((set_truths hx ⟨Int.le_refl _, hf⟩ _).1 (truth_lows hb (low_ok hb h hx)))
theorem high_ok2 (hb : 0 ≤ bend) (h : bentOk xs bend = true) (hx : x < xs.length) : bentOk (xs.set x (((bentL xs bend).getD x (0, 0)).2, ((bentL xs bend).getD x (0, 0)).2)) bend = true := by
  have hf := bent_full hb h x hx
  exact truth_ok ((set_truths hx ⟨hf, Int.le_refl _⟩ _).1 (truth_lows hb (high_ok hb h hx)))
theorem setLow_eq (hb : 0 ≤ bend) (h : bentOk xs bend = true) (hx : x < xs.length) : setLow (bentL xs bend) x bend = bentL (xs.set x (((bentL xs bend).getD x (0, 0)).1, ((bentL xs bend).getD x (0, 0)).1)) bend := by
  have hf := bent_full hb h x hx
  exact bent_unique hb (by simp [bentL_length]) (low_ok hb h hx) (set_truths hx ⟨Int.le_refl _, hf⟩)
theorem setHigh_eq (hb : 0 ≤ bend) (h : bentOk xs bend = true) (hx : x < xs.length) : setHigh (bentL xs bend) x bend = bentL (xs.set x (((bentL xs bend).getD x (0, 0)).2, ((bentL xs bend).getD x (0, 0)).2)) bend := by
  have hf := bent_full hb h x hx
  exact bent_unique hb (by simp [bentL_length]) (high_ok hb h hx) (set_truths hx ⟨hf, Int.le_refl _⟩)
end

/-- What a blade is sawn as when its column x was sounded. -/
def Bl.soundX (B : Bl) (s : Sw) (x : Nat) : Sawing := ⟨s.long, s.wide, s.kerf, s.across, (setLow (bentL B.bot B.bend) x B.bend).map (·.2), (setHigh (bentL B.top B.bend) x B.bend).map (·.1), B.cr.map worstSplit⟩
def gainAt (B : Bl) (s : Sw) (x : Nat) : Int := countL (B.soundX s x) B.n - countL (B.worst s) B.n
/-- The column that it is worth to sound, of the first k, and how many sticks more there would be. -/
def lookTo (B : Bl) (s : Sw) : Nat → Int × Int
  | 0 => (0, 0)
  | k + 1 => if (lookTo B s k).2 < gainAt B s k then ((k : Int), gainAt B s k) else lookTo B s k
theorem lookTo_in (B : Bl) (s : Sw) (hn : B.n ≤ 30) : ∀ k, k ≤ B.n → 0 ≤ (lookTo B s k).1 ∧ (lookTo B s k).1 ≤ 30 ∧ 0 ≤ (lookTo B s k).2 ∧ (lookTo B s k).2 ≤ 9060 ∧ ((lookTo B s k).2 = 0 → (lookTo B s k).1 = 0) := by
  intro k
  induction k with
  | zero => intro _; simp [lookTo]
  | succ k ih =>
    intro hk
    have h := ih (by omega)
    unfold lookTo
    split
    · have h1 := countL_in (B.soundX s k) B.n hn
      have h2 := countL_in (B.worst s) B.n hn
      unfold gainAt at *
      dsimp only
      refine ⟨by omega, by omega, by omega, by omega, fun e => by omega⟩
    · exact h
end Go.Proofs.Ytiflhimmieflpaa
