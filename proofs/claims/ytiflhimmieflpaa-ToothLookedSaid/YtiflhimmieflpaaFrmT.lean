/- The frame of a law's row: a tusk in bytes, opened. -/
import Derived.Test.YtiflhimmieflpaaFrm2
import Derived.Test.YtiflhimmieflpaaW80
import Derived.Laws.IdiomArrays
import Derived.OpenShut
namespace Go.Proofs.Ytiflhimmieflpaa
open Go.ChangeShapes Go.WideShapes Go.ChangeAt Go.RowKit Go.Deep Go.Joins

theorem Try.cellsTusk : Try.prog.cellsOf 83 = 7 := by kernel_rfl
theorem Try.cellsU8 : Try.prog.cellsOf 5 = 1 := by kernel_rfl
theorem Try.cells4 : Try.prog.cellsOf 81 = 4 := by kernel_rfl
theorem Try.cells79 : Try.prog.cellsOf 79 = 1 := by kernel_rfl
theorem Try.cells80 : Try.prog.cellsOf 80 = 1 := by kernel_rfl
theorem Try.cells6 : Try.prog.cellsOf 172 = 6 := by kernel_rfl
abbrev B4 := { q : Int × Int × Int × Int // Byte q.1 ∧ Byte q.2.1 ∧ Byte q.2.2.1 ∧ Byte q.2.2.2 }
abbrev B6 := { q : Int × Int × Int × Int × Int × Int // Byte q.1 ∧ Byte q.2.1 ∧ Byte q.2.2.1 ∧ Byte q.2.2.2.1 ∧ Byte q.2.2.2.2.1 ∧ Byte q.2.2.2.2.2 }
theorem byte0 : Byte 0 := ⟨by decide, by decide⟩
instance : Inhabited B4 := ⟨⟨(0, 0, 0, 0), byte0, byte0, byte0, byte0⟩⟩
instance : Inhabited B6 := ⟨⟨(0, 0, 0, 0, 0, 0), byte0, byte0, byte0, byte0, byte0, byte0⟩⟩
def ints4 (q : B4) : List Int := [q.1.1, q.1.2.1, q.1.2.2.1, q.1.2.2.2]
def ints6 (q : B6) : List Int := [q.1.1, q.1.2.1, q.1.2.2.1, q.1.2.2.2.1, q.1.2.2.2.2.1, q.1.2.2.2.2.2]
theorem flatC_length {α : Type} (F : α → List Value) (size : Nat) (hF : ∀ x, (F x).length = size) (xs : List α) : (xs.flatMap F).length = xs.length * size := by
  induction xs with
  | nil => simp
  | cons a r ih => rw [List.flatMap_cons, List.length_append, hF, ih, List.length_cons, Nat.add_mul]; omega
theorem flatC_at {α : Type} (F : α → List Value) (size : Nat) (hF : ∀ x, (F x).length = size) (xs : List α) : ∀ k j (h : k < xs.length), j < size → (xs.flatMap F)[k * size + j]? = (F xs[k])[j]? := by
  induction xs with
  | nil => intro k j h; simp at h
  | cons a r ih =>
    intro k j h hj
    rw [List.flatMap_cons]
    cases k with
    | zero => rw [List.getElem?_append_left (by rw [hF]; omega)]; simp
    | succ k =>
      rw [List.getElem?_append_right (by rw [hF, Nat.add_mul]; omega), hF, show (k + 1) * size + j - size = k * size + j by rw [Nat.add_mul]; omega]
      simpa using ih k j (by simpa using h) hj
theorem flat_map {α : Type} (f : α → List Int) (xs : List α) : (xs.flatMap fun q => (f q).map (Value.int .u8)) = (xs.flatMap f).map (Value.int .u8) := by
  induction xs with
  | nil => rfl
  | cons a r ih => rw [List.flatMap_cons, List.flatMap_cons, List.map_append, ih]
theorem byte_of {n : Int} (h : (Lit.int .u8 n).wf = true) : Byte n := bounds_u8 h

section
variable {H : Type} {enc : TypeId × Value → H} {w : World} {base : Nat} {spare : Nat → Bool} {held : Bool} {fuel : Nat} {cs : List Value} {x : DataW H × List MemPlace}
set_option maxRecDepth 100000 in
theorem trod_b4 (h : DataW.trod enc Try.prog w base spare held fuel 81 cs = some x) : ∃ q : B4, cs = (ints4 q).map (Value.int .u8) := by
  obtain ⟨xs, m, _, _, hl, hlen, hg⟩ := DataW.trod_array Try.underlying81 h
  rw [Try.cells4] at hl
  match cs, hl, xs, hlen with
  | [c0, c1, c2, c3], _, [y0, y1, y2, y3], _ =>
    have g0 := hg 0 (by omega)
    have g1 := hg 1 (by omega)
    have g2 := hg 2 (by omega)
    have g3 := hg 3 (by omega)
    simp only [Try.cellsU8] at g0 g1 g2 g3
    obtain ⟨a0, e0, _, f0⟩ := DataW.trod_int Try.underlying5 (x := y0) (by simpa using g0)
    obtain ⟨a1, e1, _, f1⟩ := DataW.trod_int Try.underlying5 (x := y1) (by simpa using g1)
    obtain ⟨a2, e2, _, f2⟩ := DataW.trod_int Try.underlying5 (x := y2) (by simpa using g2)
    obtain ⟨a3, e3, _, f3⟩ := DataW.trod_int Try.underlying5 (x := y3) (by simpa using g3)
    simp at e0 e1 e2 e3
    exact ⟨⟨(a0, a1, a2, a3), byte_of f0, byte_of f1, byte_of f2, byte_of f3⟩, by rw [e0, e1, e2, e3]; rfl⟩
set_option maxRecDepth 100000 in
theorem trod_b6 (h : DataW.trod enc Try.prog w base spare held fuel 172 cs = some x) : ∃ q : B6, cs = (ints6 q).map (Value.int .u8) := by
  obtain ⟨xs, m, _, _, hl, hlen, hg⟩ := DataW.trod_array Try.underlying172 h
  rw [Try.cells6] at hl
  match cs, hl, xs, hlen with
  | [c0, c1, c2, c3, c4, c5], _, [y0, y1, y2, y3, y4, y5], _ =>
    have g0 := hg 0 (by omega)
    have g1 := hg 1 (by omega)
    have g2 := hg 2 (by omega)
    have g3 := hg 3 (by omega)
    have g4 := hg 4 (by omega)
    have g5 := hg 5 (by omega)
    simp only [Try.cellsU8] at g0 g1 g2 g3 g4 g5
    obtain ⟨a0, e0, _, f0⟩ := DataW.trod_int Try.underlying5 (x := y0) (by simpa using g0)
    obtain ⟨a1, e1, _, f1⟩ := DataW.trod_int Try.underlying5 (x := y1) (by simpa using g1)
    obtain ⟨a2, e2, _, f2⟩ := DataW.trod_int Try.underlying5 (x := y2) (by simpa using g2)
    obtain ⟨a3, e3, _, f3⟩ := DataW.trod_int Try.underlying5 (x := y3) (by simpa using g3)
    obtain ⟨a4, e4, _, f4⟩ := DataW.trod_int Try.underlying5 (x := y4) (by simpa using g4)
    obtain ⟨a5, e5, _, f5⟩ := DataW.trod_int Try.underlying5 (x := y5) (by simpa using g5)
    simp at e0 e1 e2 e3 e4 e5
    exact ⟨⟨(a0, a1, a2, a3, a4, a5), byte_of f0, byte_of f1, byte_of f2, byte_of f3, byte_of f4, byte_of f5⟩, by rw [e0, e1, e2, e3, e4, e5]; rfl⟩
theorem ints4_byte {xs : List B4} : ∀ v ∈ xs.flatMap ints4, Byte v := by
  intro v hv
  obtain ⟨q, _, hq⟩ := List.mem_flatMap.1 hv
  obtain ⟨⟨a, b, c, d⟩, h1, h2, h3, h4⟩ := q
  simp only [ints4, List.mem_cons, List.not_mem_nil, or_false] at hq
  rcases hq with rfl | rfl | rfl | rfl <;> assumption
theorem ints6_byte {xs : List B6} : ∀ v ∈ xs.flatMap ints6, Byte v := by
  intro v hv
  obtain ⟨q, _, hq⟩ := List.mem_flatMap.1 hv
  obtain ⟨⟨a, b, c, d, e, f⟩, h1, h2, h3, h4, h5, h6⟩ := q
  simp only [ints6, List.mem_cons, List.not_mem_nil, or_false] at hq
  rcases hq with rfl | rfl | rfl | rfl | rfl | rfl <;> assumption
set_option maxRecDepth 100000 in
theorem open_tusk {r : Reach} {b0 : Nat} {v : Value} {d : DataW H} {p : List MemPlace} (hv : Value.okWide Try.prog w r b0 83 v) (h : DataW.Trod enc Try.prog w base spare held 83 v d p) : ∃ T : Tk, v = T.val ∧ T.At w := by
  obtain ⟨cs, rfl, hsz⟩ := okWide_struct Try.underlying83 hv
  obtain ⟨fuel, hf⟩ := h
  obtain ⟨y0, y1, y2, y3, n, hx, hl, h0, h1, h2, h3⟩ := trod_struct4 Try.underlying83 hf
  rw [Try.cellsTusk] at hsz
  match cs, hsz with
  | ⟨[c0, c1, c2, c3, c4, c5, c6]⟩, _ =>
    have g0 : DataW.trod enc Try.prog w base spare held n 79 [c0] = some y0 := by simpa [Value.cells, Try.cells79] using h0
    have g1 : DataW.trod enc Try.prog w base spare held n 5 [c1] = some y1 := by simpa [Value.cells, Try.cellsU8] using h1
    have g2 : DataW.trod enc Try.prog w base spare held n 80 [c2] = some y2 := by simpa [Value.cells, Try.cells80] using h2
    have g3 : DataW.trod enc Try.prog w base spare held n 81 [c3, c4, c5, c6] = some y3 := by simpa [Value.cells, Try.cells4] using h3
    obtain ⟨A, l, c, cols, e0, r0, n0⟩ := open_list (fun q : B4 => (ints4 q).map (Value.int .u8)) (fun xs => xs.flatMap fun q => (ints4 q).map (Value.int .u8)) (fun xs => flatC_length _ 4 (fun _ => rfl) xs) (fun xs k j h hj => flatC_at _ 4 (fun _ => rfl) xs k j h hj) Try.underlying79 Try.cells4 (by omega) (fun h => trod_b4 h) g0
    obtain ⟨b, e1, _, wb⟩ := DataW.trod_int Try.underlying5 g1
    obtain ⟨K, m, dd, crk, e2, r2, n2⟩ := open_list (fun q : B6 => (ints6 q).map (Value.int .u8)) (fun xs => xs.flatMap fun q => (ints6 q).map (Value.int .u8)) (fun xs => flatC_length _ 6 (fun _ => rfl) xs) (fun xs k j h hj => flatC_at _ 6 (fun _ => rfl) xs k j h hj) Try.underlying80 Try.cells6 (by omega) (fun h => trod_b6 h) g2
    obtain ⟨⟨⟨a0, a1, a2, a3⟩, q0, q1, q2, q3⟩, e3⟩ := trod_b4 g3
    rw [flat_map] at r0 r2
    simp only [List.cons.injEq, and_true, ints4, List.map_cons, List.map_nil] at e0 e1 e2 e3
    obtain ⟨rfl, rfl, rfl, rfl⟩ := e3
    subst e0 e1 e2
    exact ⟨⟨A, K, l, c, m, dd, b, cols.flatMap ints4, crk.flatMap ints6, a0, a1, a2, a3⟩, rfl, r0, r2, ints4_byte, ints6_byte, byte_of wb, q0, q1, q2, q3, n0, n2⟩
end
end Go.Proofs.Ytiflhimmieflpaa
