/- Pure facts: two guards, one at the rivet, the other at a place. -/
import Derived.Test.YtllioljphpgfhaaGB
import Derived.Test.YtllioljphpgfhaaGD
import Derived.Test.YtllioljphpgfhaaRUd
namespace Go.Proofs.Ytllioljphpgfhaa
open Go.RowKit

def stkA (a s p : Int) : Stk := ⟨a - s, a + s, 3, 4, p⟩
structure TwoB (a b s p q : Int) : Prop where
  a0 : 1000 ≤ a
  a1 : a ≤ 1063
  b0 : 1000 ≤ b
  b1 : b ≤ 1063
  s0 : 0 ≤ s
  s1 : s ≤ 7
  p0 : 0 ≤ p
  p1 : p ≤ 510
  q0 : 0 ≤ q
  q1 : q ≤ 510
theorem stkA_ok {a s p : Int} (h0 : 1000 ≤ a) (h1 : a ≤ 1063) (s0 : 0 ≤ s) (s1 : s ≤ 7) (p0 : 0 ≤ p) (p1 : p ≤ 510) : stkOk (stkA a s p) = true := by
  simp only [stkOk, stkA, validS, within, List.all_cons, List.all_nil, Bool.and_true, Bool.and_eq_true, decide_eq_true_eq]
  refine ⟨⟨⟨?_, ⟨?_, ?_⟩, ?_, ?_⟩, ?_, ⟨?_, ?_⟩, ?_, ?_⟩, ?_, ?_⟩ <;> first | decide | omega
theorem two_err {a b s p q : Int} (h : TwoB a b s p q) : stkErr [stkA a s p, stkA b s q] = 0 := by
  have h1 := stkA_ok h.a0 h.a1 h.s0 h.s1 h.p0 h.p1
  have h2 := stkA_ok h.b0 h.b1 h.s0 h.s1 h.q0 h.q1
  simp [stkErr, h1, h2]
theorem wAt_in (u : Bool) (x a s p : Int) (hs : 0 ≤ s) : a - s ≤ wAt u x (stkA a s p) ∧ wAt u x (stkA a s p) ≤ a + s := by
  unfold wAt stkA
  cases u <;> (simp only [ris, fal, cond_true, cond_false]; split <;> omega)
theorem two_bal (u : Bool) {a b s p q : Int} (h : TwoB a b s p q) : ∃ w0 w1 : Int, (a - s ≤ w0 ∧ w0 ≤ a + s) ∧ (b - s ≤ w1 ∧ w1 ≤ b + s) ∧ balL u [stkA a s p, stkA b s q] = (w0 * p + w1 * q, w0 + w1) := by
  have hm : balL u [stkA a s p, stkA b s q] ∈ ratsL u [stkA a s p, stkA b s q] := pick_mem (u := u) (rs := ratsL u [stkA a s p, stkA b s q]) 1 (by simp [ratsL])
  unfold ratsL at hm
  obtain ⟨z, -, e⟩ := List.mem_map.1 hm
  rw [← e]
  refine ⟨wAt u z.pl (stkA a s p), wAt u z.pl (stkA b s q), wAt_in u _ a s p h.s0, wAt_in u _ b s q h.s0, ?_⟩
  have e1 : (stkA a s p).pl = p := rfl
  have e2 : (stkA b s q).pl = q := rfl
  simp only [numB, denB, mAt, List.map_cons, List.map_nil, List.sum_cons, List.sum_nil, Int.add_zero, e1, e2]
theorem lowR_div {N D : Int} (hN : 0 ≤ N) (hD : 1 ≤ D) : ∃ g : Int, 1 ≤ g ∧ (lowR (N, D)).1 * g = N ∧ (lowR (N, D)).2 * g = D := by
  have hg : 0 < Nat.gcd N.toNat D.toNat := Nat.gcd_pos_of_pos_right _ (by omega)
  refine ⟨(Nat.gcd N.toNat D.toNat : Nat), by omega, ?_, ?_⟩
  · show ((N.toNat / Nat.gcd N.toNat D.toNat : Nat) : Int) * _ = N
    rw [← Int.natCast_mul, Nat.div_mul_cancel (Nat.gcd_dvd_left _ _)]
    omega
  · show ((D.toNat / Nat.gcd N.toNat D.toNat : Nat) : Int) * _ = D
    rw [← Int.natCast_mul, Nat.div_mul_cancel (Nat.gcd_dvd_right _ _)]
    omega
/-- What is asked of a ratio of two guards' balance. -/
structure OffB (a b s at_ unlike : Int) (r : Int × Int) : Prop where
  y1 : 1 ≤ r.2
  yM : r.2 ≤ a + b + 2 * s
  x0 : 0 ≤ r.1
  x1 : r.1 ≤ at_ * r.2
  off : max (a - b) (b - a) + 2 * s ≤ unlike → max (2 * r.1 - at_ * r.2) (at_ * r.2 - 2 * r.1) * (a + b - 2 * s) ≤ at_ * unlike * r.2
theorem bal_off (u : Bool) {a b s q unlike : Int} (h : TwoB a b s 0 q) (hu : 0 ≤ unlike) : OffB a b s q unlike (lowR (balL u [stkA a s 0, stkA b s q])) := by
  obtain ⟨w0, w1, ⟨h0, h0'⟩, ⟨h1, h1'⟩, e⟩ := two_bal u h
  rw [e]
  have := h.a0
  have := h.b0
  have := h.s1
  have q0 := h.q0
  have hN : 0 ≤ w1 * q := Int.mul_nonneg (by omega) q0
  rw [Int.mul_zero, Int.zero_add]
  obtain ⟨g, hg, ex, ey⟩ := lowR_div (N := w1 * q) (D := w0 + w1) hN (by omega)
  generalize lowR (w1 * q, w0 + w1) = r at *
  obtain ⟨x, y⟩ := r
  simp only at ex ey
  have y1 : 1 ≤ y := by
    rcases Int.lt_or_le y 1 with hy | hy
    · have : y * g ≤ 0 := Int.mul_nonpos_of_nonpos_of_nonneg (by omega) (by omega)
      omega
    · exact hy
  have x0 : 0 ≤ x := by
    rcases Int.lt_or_le x 0 with hx | hx
    · have : x * g < 0 := Int.mul_neg_of_neg_of_pos hx (by omega)
      omega
    · exact hx
  have yM : y ≤ a + b + 2 * s := by
    have : y * 1 ≤ y * g := Int.mul_le_mul_of_nonneg_left hg (by omega)
    omega
  have key : ∀ z t : Int, z * g ≤ t * g → z ≤ t := fun z t hz => Int.le_of_mul_le_mul_right hz (by omega)
  refine ⟨y1, yM, x0, key _ _ ?_, fun hs => key _ _ ?_⟩
  · show x * g ≤ q * y * g
    rw [ex, Int.mul_assoc, ey, Int.mul_comm w1 q]
    exact Int.mul_le_mul_of_nonneg_left (by omega) q0
  · show max (2 * x - q * y) (q * y - 2 * x) * (a + b - 2 * s) * g ≤ q * unlike * y * g
    have e1 : (2 * x - q * y) * g = q * (w1 - w0) := by
      rw [Int.sub_mul, Int.mul_assoc, ex, Int.mul_assoc, ey, Int.mul_sub, Int.mul_add, Int.mul_comm w1 q]
      omega
    have e2 : (q * y - 2 * x) * g = q * (w0 - w1) := by
      have : q * y - 2 * x = -(2 * x - q * y) := by omega
      rw [this, Int.neg_mul, e1, ← Int.mul_neg]
      congr 1; omega
    have e3 : q * unlike * y * g = q * (unlike * (w0 + w1)) := by rw [Int.mul_assoc (q * unlike), ey, Int.mul_assoc]
    have pos : 0 ≤ a + b - 2 * s := by omega
    have fin : ∀ d : Int, d ≤ unlike → q * d * (a + b - 2 * s) ≤ q * (unlike * (w0 + w1)) := fun d hd => by
      rw [Int.mul_assoc]
      refine Int.mul_le_mul_of_nonneg_left ?_ q0
      have t1 : d * (a + b - 2 * s) ≤ unlike * (a + b - 2 * s) := Int.mul_le_mul_of_nonneg_right hd pos
      have t2 : unlike * (a + b - 2 * s) ≤ unlike * (w0 + w1) := Int.mul_le_mul_of_nonneg_left (by omega) hu
      omega
    rw [e3]
    have sw : ∀ m : Int, m * (a + b - 2 * s) * g = m * g * (a + b - 2 * s) := fun m => by rw [Int.mul_assoc, Int.mul_comm (a + b - 2 * s), ← Int.mul_assoc]
    rw [sw]
    rcases Int.le_total (2 * x - q * y) (q * y - 2 * x) with hc | hc
    · rw [Int.max_eq_right hc, e2]
      exact fin _ (by omega)
    · rw [Int.max_eq_left hc, e1]
      exact fin _ (by omega)
theorem bal_same (u : Bool) {a b s q : Int} (h : TwoB a b s q q) : lowR (balL u [stkA a s q, stkA b s q]) = (q, 1) := by
  obtain ⟨w0, w1, ⟨h0, h0'⟩, ⟨h1, h1'⟩, e⟩ := two_bal u h
  rw [e]
  have := h.a0
  have := h.b0
  have := h.s1
  have q0 := h.q0
  have e1 : lowR (w0 * q + w1 * q, w0 + w1) = lowR (q, 1) := by
    have t0 : 0 ≤ w0 * q := Int.mul_nonneg (by omega) q0
    have t1 : 0 ≤ w1 * q := Int.mul_nonneg (by omega) q0
    refine lowR_eq (by simp only; omega) q0 (by simp only; omega) (show (0 : Int) < 1 by decide) ?_
    simp only
    rw [Int.mul_one, ← Int.add_mul, Int.mul_comm]
  rw [e1]
  show (((q.toNat / Nat.gcd q.toNat 1 : Nat) : Int), ((1 / Nat.gcd q.toNat 1 : Nat) : Int)) = (q, 1)
  rw [Nat.gcd_one_right, Nat.div_one, Nat.div_one]
  congr 1
  omega
theorem balR_two {a b s p q : Int} (h : TwoB a b s p q) : balR [stkA a s p, stkA b s q] = (lowR (balL false [stkA a s p, stkA b s q]), lowR (balL true [stkA a s p, stkA b s q]), 0) := by
  unfold balR
  rw [if_pos (two_err h), if_neg (by simp)]
theorem close_two {a b s p q : Int} (h : TwoB a b s p q) :
    closeE [stkA a s p, stkA b s q] (sumLo false [stkA a s p, stkA b s q]) = a + b - 2 * s ∧ closeE [stkA a s p, stkA b s q] (sumHi false [stkA a s p, stkA b s q]) = a + b + 2 * s ∧
    closeE [stkA a s p, stkA b s q] (sumLo true [stkA a s p, stkA b s q]) = 6 ∧ closeE [stkA a s p, stkA b s q] (sumHi true [stkA a s p, stkA b s q]) = 8 := by
  unfold closeE
  rw [if_pos (two_err h), if_pos (two_err h), if_pos (two_err h), if_pos (two_err h)]
  simp only [sumLo, sumHi, tlo, thi, stkA, List.map_cons, List.map_nil, List.sum_cons, List.sum_nil, cond_false, cond_true]
  refine ⟨?_, ?_, ?_, ?_⟩ <;> omega
theorem alike_two {a b s u : Int} {A B : Option Addr} {c d : Nat} (h : TwoB a b s 0 0) (hu : 0 ≤ u ∧ u ≤ 255) :
    alikeR ⟨a, A, 1, c, [5]⟩ ⟨b, B, 1, d, [5]⟩ ⟨s, 0, u, 0⟩ (-2) = decide (max (a - b) (b - a) + 2 * s ≤ u) ∧ guardsErr [⟨a, A, 1, c, [5]⟩, ⟨b, B, 1, d, [5]⟩] ⟨s, 0, u, 0⟩ = 0 := by
  obtain ⟨a0, a1, b0, b1, s0, s1, -, -, -, -⟩ := h
  have e : guardsErr [⟨a, A, 1, c, [5]⟩, ⟨b, B, 1, d, [5]⟩] ⟨s, 0, u, 0⟩ = 0 := by
    refine guards_ok ⟨by simp only; omega, fun x hx => ?_⟩ ⟨by simp only; omega, fun x hx => ?_⟩ rfl (show 1 ≤ 1 by decide) (show 1 ≤ 4 by decide) (by simp only; omega)
    · simp only [List.mem_cons, List.not_mem_nil, or_false] at hx; omega
    · simp only [List.mem_cons, List.not_mem_nil, or_false] at hx; omega
  refine ⟨?_, e⟩
  unfold alikeR
  rw [if_pos e]
  have e2 : alikeB ⟨a, A, 1, c, [5]⟩ ⟨b, B, 1, d, [5]⟩ ⟨s, 0, u, 0⟩ (-2) = (okTo [5] [5] (0 + -2 * 0) 1 && decide (apartI a b ≤ u + -2 * s)) := rfl
  rw [e2, show okTo [5] [5] (0 + -2 * 0) 1 = true from by kernel_rfl, Bool.true_and]
  unfold apartI
  apply decide_eq_decide.2
  constructor <;> intro hx <;> omega
/-- What a round over a ratio needs. -/
structure OffW (a b s p u x y m : Int) : Prop where
  hm : (if 2 * x - p * y < p * y - 2 * x then p * y - 2 * x else 2 * x - p * y) = m
  w1 : IntKind.i64.wrap (p * y) = p * y
  w2 : IntKind.i64.wrap (2 * x) = 2 * x
  w3 : IntKind.i64.wrap (2 * x - p * y) = 2 * x - p * y
  w4 : IntKind.i64.wrap (p * y - 2 * x) = p * y - 2 * x
  w5 : IntKind.i64.wrap (m * (a + b - 2 * s)) = m * (a + b - 2 * s)
  w6 : IntKind.i64.wrap (p * u) = p * u
  w7 : IntKind.i64.wrap (p * u * y) = p * u * y
  n1 : ¬ y < 1
  n2 : ¬ a + b + 2 * s < y
  n3 : ¬ x < 0
  n4 : ¬ p * y < x
  n5 : ¬ p * u * y < m * (a + b - 2 * s)
theorem off_walk {a b s p u x y : Int} (h : TwoB a b s 0 p) (hu : 0 ≤ u ∧ u ≤ 255) (O : OffB a b s p u (x, y)) (hs : max (a - b) (b - a) + 2 * s ≤ u) : ∃ m, OffW a b s p u x y m := by
  obtain ⟨a0, a1, b0, b1, s0, s1, -, -, p0, p1⟩ := h
  obtain ⟨y1, yM, x0, x1, off⟩ := O
  simp only at y1 yM x0 x1 off
  have off := off hs
  have q1 := mul_bd p0 p1 (show 0 ≤ y by omega) (show y ≤ 2140 by omega)
  have q2 := mul_bd p0 p1 hu.1 hu.2
  have q3 := mul_bd q2.1 q2.2 (show 0 ≤ y by omega) (show y ≤ 2140 by omega)
  have m0 : 0 ≤ max (2 * x - p * y) (p * y - 2 * x) ∧ max (2 * x - p * y) (p * y - 2 * x) ≤ 3000000 := by omega
  have q4 := mul_bd m0.1 m0.2 (show 0 ≤ a + b - 2 * s by omega) (show a + b - 2 * s ≤ 2140 by omega)
  refine ⟨max (2 * x - p * y) (p * y - 2 * x), by split <;> omega, ?_, ?_, ?_, ?_, ?_, ?_, ?_, by omega, by omega, by omega, by omega, by omega⟩ <;> exact IntWalk.i64_in _ (by omega)
end Go.Proofs.Ytllioljphpgfhaa
