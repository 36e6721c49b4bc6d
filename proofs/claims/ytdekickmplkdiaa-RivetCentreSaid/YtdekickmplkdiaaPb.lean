/- Pure facts: the sticks in bytes, and what they truly weigh. -/
import Derived.Test.YtdekickmplkdiaaPa
import Derived.Test.YtdekickmplkdiaaUe
import Derived.Test.YtdekickmplkdiaaKk
namespace Go.Proofs.Ytdekickmplkdiaa
open Go.RowKit

/-- A slice reads as rows of five bytes. -/
structure Fives (w : World) (A : Option Addr) (n : Nat) (ys : List Int) : Prop where
  r : Reads w 5 A n (ys.map (Value.int .u8))
  b : ∀ v ∈ ys, Byte v
theorem Fives.below {w W : World} {A : Option Addr} {n : Nat} {ys : List Int} (h : Fives w A n ys) (hb : Below w.heap.size w W) : Fives W A n ys := ⟨h.r.below hb, h.b⟩
def fy (ys : List Int) (k j : Nat) : Int := ys.getD (k * 5 + j) 0
theorem fy_bd {ys : List Int} (h : ∀ v ∈ ys, Byte v) (k j : Nat) : 0 ≤ fy ys k j ∧ fy ys k j ≤ 255 := byte_getD h _
theorem Fives.cell {w : World} {A : Option Addr} {n k : Nat} {ys : List Int} (h : Fives w A n ys) (hk : k < n) : ∃ b off, A = some ⟨b, off, none⟩ ∧ b < w.heap.size ∧ ∀ j, j < 5 → w.cell? ⟨b, off + k * 5 + j, none⟩ = some (.int .u8 (fy ys k j)) := by
  obtain ⟨b, off, e, hb, hc⟩ := h.r.2 (by omega)
  refine ⟨b, off, e, hb, fun j hj => ?_⟩
  have hl : ys.length = n * 5 := by have := h.r.1; rwa [List.length_map] at this
  have hjl : k * 5 + j < ys.length := by omega
  have := hc (k * 5 + j) (.int .u8 (fy ys k j)) (by simp [fy, List.getD, hjl])
  rw [Nat.add_assoc, this]
/-- The stick that a row stands for. -/
def stF (ys : List Int) (k : Nat) : Stk := ⟨1 + fy ys k 0, 1 + fy ys k 0 + fy ys k 1 % 40, 1 + fy ys k 2 % 80, 1 + fy ys k 2 % 80 + fy ys k 3 % 20, 7 * fy ys k 4⟩
def stTo (ys : List Int) : Nat → List Stk
  | 0 => []
  | k + 1 => stTo ys k ++ [stF ys k]
def trW (ys xs : List Int) (k : Nat) : Int := insL (stF ys k).wl (stF ys k).wh (byteAt xs (2 * k))
def trT (ys xs : List Int) (k : Nat) : Int := insL (stF ys k).tl (stF ys k).th (byteAt xs (2 * k + 1))
def trN (ys xs : List Int) : Nat → Int
  | 0 => 0
  | k + 1 => trN ys xs k + trW ys xs k * (stF ys k).pl
def plM (ys : List Int) : Nat → Int
  | 0 => 0
  | k + 1 => max (plM ys k) (stF ys k).pl
theorem stTo_len (ys : List Int) (k : Nat) : (stTo ys k).length = k := by
  induction k with
  | zero => rfl
  | succ k ih => rw [stTo, List.length_append, ih]; rfl
theorem stTo_at (ys : List Int) {n k : Nat} (hk : k < n) : (stTo ys n).getD k Stk.zero = stF ys k := by
  induction n with
  | zero => omega
  | succ n ih =>
    by_cases h : k < n
    · rw [stTo]
      have := ih h
      simp only [List.getD, List.getElem?_append_left (show k < (stTo ys n).length by rw [stTo_len]; exact h)] at this ⊢
      exact this
    · obtain rfl : k = n := by omega
      have := snoc_last (stTo ys k) (stF ys k)
      rw [stTo_len] at this
      exact this
theorem stTo_mem (ys : List Int) (n : Nat) : ∀ s ∈ stTo ys n, ∃ k, s = stF ys k := by
  induction n with
  | zero => simp [stTo]
  | succ n ih =>
    intro s hs
    rcases List.mem_append.1 hs with h | h
    · exact ih s h
    · exact ⟨n, List.mem_singleton.1 h⟩
section
variable {ys xs : List Int}
theorem stF_bd (h : ∀ v ∈ ys, Byte v) (k : Nat) : (1 ≤ (stF ys k).wl ∧ (stF ys k).wl ≤ (stF ys k).wh ∧ (stF ys k).wh ≤ 295) ∧ (1 ≤ (stF ys k).tl ∧ (stF ys k).tl ≤ (stF ys k).th ∧ (stF ys k).th ≤ 99) ∧ 0 ≤ (stF ys k).pl ∧ (stF ys k).pl ≤ 1785 := by
  have h0 := fy_bd h k 0
  have h1 := fy_bd h k 1
  have h2 := fy_bd h k 2
  have h3 := fy_bd h k 3
  have h4 := fy_bd h k 4
  simp only [stF]
  omega
theorem stk_err0 {l : List Stk} (h : StkB l) : stkErr l = 0 := by
  unfold stkErr
  rw [if_neg (by have := h.n; omega), if_neg]
  intro hc
  obtain ⟨s, hs, hq⟩ := List.any_eq_true.1 hc
  have := h.s s hs
  have hk : stkOk s = true := by
    simp only [stkOk, validS, within, List.all_cons, List.all_nil, Bool.and_true, Bool.and_eq_true, decide_eq_true_eq]
    omega
  rw [hk] at hq
  cases hq
theorem stTo_B (h : ∀ v ∈ ys, Byte v) {n : Nat} (hn : n ≤ 11) : StkB (stTo ys n) := ⟨by rw [stTo_len]; omega, fun s hs => by
  obtain ⟨k, rfl⟩ := stTo_mem ys n s hs
  have := stF_bd h k
  omega⟩
theorem tr_bd (h : ∀ v ∈ ys, Byte v) (hx : ∀ v ∈ xs, Byte v) (k : Nat) : ((stF ys k).wl ≤ trW ys xs k ∧ trW ys xs k ≤ (stF ys k).wh) ∧ (stF ys k).tl ≤ trT ys xs k ∧ trT ys xs k ≤ (stF ys k).th := by
  have hb := stF_bd h k
  exact ⟨insL_bd hb.1.2.1 (byteAt_bd hx _), insL_bd hb.2.1.2.1 (byteAt_bd hx _)⟩
theorem tr_in (h : ∀ v ∈ ys, Byte v) (hx : ∀ v ∈ xs, Byte v) (n : Nat) : InW (stTo ys n) (trW ys xs) := fun i hi => by
  rw [stTo_len] at hi
  rw [stTo_at ys hi]
  exact (tr_bd h hx i).1
theorem trN_num (ys xs : List Int) {n k : Nat} (hk : k ≤ n) : numC (trW ys xs) (stTo ys n) k = trN ys xs k := by
  induction k with
  | zero => rfl
  | succ k ih => simp only [numC, trN, ih (by omega), stTo_at ys (show k < n by omega)]
theorem den_bd (h : ∀ v ∈ ys, Byte v) (hx : ∀ v ∈ xs, Byte v) (k : Nat) : ((k : Int) ≤ denC (trW ys xs) k ∧ denC (trW ys xs) k ≤ 295 * k) ∧ ((k : Int) ≤ denC (trT ys xs) k ∧ denC (trT ys xs) k ≤ 99 * k) ∧ 0 ≤ trN ys xs k ∧ trN ys xs k ≤ 526575 * k := by
  induction k with
  | zero => simp [denC, trN]
  | succ k ih =>
    have hb := stF_bd h k
    have ht := tr_bd h hx k
    have hm := mul_bd (x := trW ys xs k) (X := 295) (y := (stF ys k).pl) (Y := 1785) (by omega) (by omega) (by omega) (by omega)
    simp only [denC, trN]
    omega
theorem plM_bd (h : ∀ v ∈ ys, Byte v) (k : Nat) : 0 ≤ plM ys k ∧ plM ys k ≤ 1785 := by
  induction k with
  | zero => simp [plM]
  | succ k ih =>
    have hb := stF_bd h k
    simp only [plM]
    omega
theorem plM_le (ys : List Int) {i n : Nat} (hi : i < n) : (stF ys i).pl ≤ plM ys n := by
  induction n with
  | zero => omega
  | succ n ih =>
    simp only [plM]
    by_cases h : i < n
    · have := ih h; omega
    · obtain rfl : i = n := by omega
      omega
theorem sums_lo (u : Bool) (ys : List Int) (n : Nat) : sumLo u (stTo ys (n + 1)) = sumLo u (stTo ys n) + tlo u (stF ys n) ∧ sumHi u (stTo ys (n + 1)) = sumHi u (stTo ys n) + thi u (stF ys n) := by
  simp [sumLo, sumHi, stTo]
/-- What they truly weigh and measure lies in the sums. -/
theorem sums_in (h : ∀ v ∈ ys, Byte v) (hx : ∀ v ∈ xs, Byte v) (n : Nat) : (sumLo false (stTo ys n) ≤ denC (trW ys xs) n ∧ denC (trW ys xs) n ≤ sumHi false (stTo ys n)) ∧ sumLo true (stTo ys n) ≤ denC (trT ys xs) n ∧ denC (trT ys xs) n ≤ sumHi true (stTo ys n) := by
  induction n with
  | zero => simp [sumLo, sumHi, stTo, denC]
  | succ n ih =>
    have ht := tr_bd h hx n
    have e1 := sums_lo false ys n
    have e2 := sums_lo true ys n
    simp only [tlo, thi, cond_true, cond_false] at e1 e2
    simp only [denC]
    omega
/-- A stick more, beyond all others. -/
def stMore (far pl : Int) : Stk := ⟨1, 1 + far, 1, 1, pl + far⟩
theorem more_B (h : ∀ v ∈ ys, Byte v) {n : Nat} (hn : n ≤ 11) {far : Int} (hf : Byte far) : StkB (stTo ys n ++ [stMore far (plM ys n)]) := by
  have hb := stTo_B h hn
  have hp := plM_bd h n
  unfold Byte at hf
  refine ⟨by rw [List.length_append, stTo_len]; simp; omega, fun s hs => ?_⟩
  rcases List.mem_append.1 hs with q | q
  · exact hb.s s q
  · rw [List.mem_singleton.1 q]
    simp only [stMore]
    omega
theorem more_far (ys : List Int) (n : Nat) {far : Int} (hf : Byte far) : ∀ i < (stTo ys n).length, ((stTo ys n).getD i Stk.zero).pl ≤ (stMore far (plM ys n)).pl := fun i hi => by
  rw [stTo_len] at hi
  rw [stTo_at ys hi]
  have := plM_le ys hi
  unfold Byte at hf
  simp only [stMore]
  omega
end
end Go.Proofs.Ytdekickmplkdiaa
