/- Walks: tusks in bytes; clamp, and the truth of a tusk. -/
import Derived.Test.YtiflhimmieflpaaW73
import Derived.Deep.AppendLies
namespace Go.Proofs.Ytiflhimmieflpaa
open Go.RowKit Go.Maps

/-- A tusk in bytes. -/
structure Tk where
  A : Option Addr
  K : Option Addr
  n : Nat
  c : Nat
  m : Nat
  d : Nat
  bend : Int
  cols : List Int
  crk : List Int
  s0 : Int
  s1 : Int
  s2 : Int
  s3 : Int
def Byte (x : Int) : Prop := 0 ≤ x ∧ x ≤ 255
def Tk.val (T : Tk) : Value := .agg #[.slice T.A T.n T.c, .int .u8 T.bend, .slice T.K T.m T.d, .int .u8 T.s0, .int .u8 T.s1, .int .u8 T.s2, .int .u8 T.s3]
def Tk.cells (T : Tk) : Array Value := #[.slice T.A T.n T.c, .int .u8 T.bend, .slice T.K T.m T.d, .int .u8 T.s0, .int .u8 T.s1, .int .u8 T.s2, .int .u8 T.s3]
structure Tk.At (T : Tk) (w : World) : Prop where
  hc : Reads w 4 T.A T.n (T.cols.map (Value.int .u8))
  hk : Reads w 6 T.K T.m (T.crk.map (Value.int .u8))
  bc : ∀ x ∈ T.cols, Byte x
  bk : ∀ x ∈ T.crk, Byte x
  b0 : Byte T.bend
  g0 : Byte T.s0
  g1 : Byte T.s1
  g2 : Byte T.s2
  g3 : Byte T.s3
  n1 : T.n ≤ maxLen
  m1 : T.m ≤ maxLen
theorem Tk.At.below {T : Tk} {w W : World} (h : T.At w) (hb : Below w.heap.size w W) : T.At W := ⟨h.hc.below hb, h.hk.below hb, h.bc, h.bk, h.b0, h.g0, h.g1, h.g2, h.g3, h.n1, h.m1⟩
/-- Byte j of column i, or of what stands for it. -/
def Tk.col (T : Tk) (i j : Nat) : Int := if i < T.n then T.cols.getD (i * 4 + j) 0 else ([7, 90, 3, 3] : List Int).getD j 0
def Tk.bd (T : Tk) : Int := 1 + T.bend % 40
def clampI (n lo hi : Int) : Int := max lo (min hi n)
def Tk.low (T : Tk) : Nat → Int
  | 0 => T.col 0 0 % 60
  | i + 1 => clampI (T.col (i + 1) 0 % 60) (T.low i - T.bd) (T.low i + T.bd)
def Tk.high (T : Tk) : Nat → Int
  | 0 => 70 + T.col 0 1 % 100
  | i + 1 => clampI (70 + T.col (i + 1) 1 % 100) (T.high i - T.bd) (T.high i + T.bd)
def Tk.len (T : Tk) : Nat := max 3 (min T.n 10)

theorem byte_getD {xs : List Int} (h : ∀ x ∈ xs, Byte x) (j : Nat) : Byte (xs.getD j 0) := by
  rcases Nat.lt_or_ge j xs.length with hj | hj
  · have e : xs.getD j 0 = xs[j] := by simp [List.getD, hj]
    rw [e]; exact h _ (List.getElem_mem _)
  · have e : xs.getD j 0 = 0 := by simp [List.getD, hj]
    rw [e]; unfold Byte; omega
theorem Tk.col_byte {T : Tk} (h : ∀ x ∈ T.cols, Byte x) (i j : Nat) : Byte (T.col i j) := by
  unfold Tk.col
  split
  · exact byte_getD h _
  · exact byte_getD (by intro x hx; simp only [List.mem_cons, List.not_mem_nil, or_false] at hx; unfold Byte; omega) _
theorem Tk.low_in {T : Tk} (hc : ∀ x ∈ T.cols, Byte x) : ∀ i, 0 ≤ T.low i ∧ T.low i ≤ 59 := by
  intro i
  induction i with
  | zero => have := Tk.col_byte hc 0 0; unfold Byte at this; unfold Tk.low; omega
  | succ i ih => have := Tk.col_byte hc (i + 1) 0; unfold Byte at this; unfold Tk.low clampI Tk.bd; omega
theorem Tk.high_in {T : Tk} (hc : ∀ x ∈ T.cols, Byte x) : ∀ i, 70 ≤ T.high i ∧ T.high i ≤ 169 := by
  intro i
  induction i with
  | zero => have := Tk.col_byte hc 0 1; unfold Byte at this; unfold Tk.high; omega
  | succ i ih => have := Tk.col_byte hc (i + 1) 1; unfold Byte at this; unfold Tk.high clampI Tk.bd; omega

set_option maxHeartbeats 400000 in
theorem clamp_any (n lo hi : Int) (w : World) : Calls Try.prog 110 #[.int .i64 n, .agg #[.int .i64 lo, .int .i64 hi]] w fun e w' => e = .returned (.int .i64 (clampI n lo hi)) ∧ Below w.heap.size w w' := by
  have B0 := Lib.hid (below_self w (.cells #[.int .i64 lo, .int .i64 hi] 98))
  by_cases h1 : n < hi
  · have e1 : min hi n = n := by omega
    by_cases h2 : lo < n
    · have HE : Hid (clampI n lo hi = n) := by unfold Hid clampI; omega
      clear e1
      go_enter Try.func110, Try.ntmps110
      go_wp2
      go_ret
      exact ⟨ret_int HE.out.symm, B0.out⟩
    · have HE : Hid (clampI n lo hi = lo) := by unfold Hid clampI; omega
      clear e1
      go_enter Try.func110, Try.ntmps110
      go_wp2
      go_ret
      exact ⟨ret_int HE.out.symm, B0.out⟩
  · by_cases h2 : lo < hi
    · have HE : Hid (clampI n lo hi = hi) := by unfold Hid clampI; omega
      go_enter Try.func110, Try.ntmps110
      go_wp2
      go_ret
      exact ⟨ret_int HE.out.symm, B0.out⟩
    · have HE : Hid (clampI n lo hi = lo) := by unfold Hid clampI; omega
      go_enter Try.func110, Try.ntmps110
      go_wp2
      go_ret
      exact ⟨ret_int HE.out.symm, B0.out⟩
end Go.Proofs.Ytiflhimmieflpaa
