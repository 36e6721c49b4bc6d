/- The frame of a law's row: a fan in bytes, and bytes, opened. -/
import Derived.Test.YtdekickmplkdiaaFrmR
import Derived.Test.YtdekickmplkdiaaVc
import Derived.Laws.IdiomArrays
import Derived.OpenShut
namespace Go.Proofs.Ytdekickmplkdiaa
open Go.ChangeShapes Go.WideShapes Go.ChangeAt Go.RowKit Go.Deep Go.Joins

theorem Try.cellsFolded : Try.prog.cellsOf 86 = 5 := by kernel_rfl
theorem Try.cellsU8 : Try.prog.cellsOf 5 = 1 := by kernel_rfl
theorem Try.cells2 : Try.prog.cellsOf 83 = 2 := by kernel_rfl
theorem Try.cells4 : Try.prog.cellsOf 94 = 4 := by kernel_rfl
theorem Try.cells44 : Try.prog.cellsOf 84 = 1 := by kernel_rfl
abbrev B4 := { q : Int × Int × Int × Int // Byte q.1 ∧ Byte q.2.1 ∧ Byte q.2.2.1 ∧ Byte q.2.2.2 }
theorem byte0 : Byte 0 := ⟨by decide, by decide⟩
instance : Inhabited B4 := ⟨⟨(0, 0, 0, 0), byte0, byte0, byte0, byte0⟩⟩
def ints4 (q : B4) : List Int := [q.1.1, q.1.2.1, q.1.2.2.1, q.1.2.2.2]
theorem flatC_length {α : Type} (F : α → List Value) (size : Nat) (hF : ∀ x, (F x).length = size) (xs : List α) : (xs.flatMap F).length = xs.length * size := by
  induction xs with
  | nil => simp
  | cons a r ih => rw [List.flatMap_cons, List.length_append, hF, ih, List.length_cons, Nat.add_mul]; omega
theorem flatC_at {α : Type} (F : α → List Value) (size : Nat) (hF : ∀ x, (F x).length = size) (xs : List α) : ∀ k j (h : k < xs.length), j < size → (xs.flatMap F)[k * size + j]? = (F xs[k])[j]? := by
  induction xs with
  | nil => intro k j h; simp at h
  | cons a r ih =>
    intro k j h hj
    rw [List.flatMap_cons]
    cases k with
    | zero => rw [List.getElem?_append_left (by rw [hF]; omega)]; simp
    | succ k =>
      rw [List.getElem?_append_right (by rw [hF, Nat.add_mul]; omega), hF, show (k + 1) * size + j - size = k * size + j by rw [Nat.add_mul]; omega]
      simpa using ih k j (by simpa using h) hj
theorem flat_map {α : Type} (f : α → List Int) (xs : List α) : (xs.flatMap fun q => (f q).map (Value.int .u8)) = (xs.flatMap f).map (Value.int .u8) := by
  induction xs with
  | nil => rfl
  | cons a r ih => rw [List.flatMap_cons, List.flatMap_cons, List.map_append, ih]
theorem byte_of {n : Int} (h : (Lit.int .u8 n).wf = true) : Byte n := bounds_u8 h

section
variable {H : Type} {enc : TypeId × Value → H} {w : World} {base : Nat} {spare : Nat → Bool} {held : Bool} {fuel : Nat} {cs : List Value} {x : DataW H × List MemPlace}
set_option maxRecDepth 100000 in
theorem trod_b4 (h : DataW.trod enc Try.prog w base spare held fuel 94 cs = some x) : ∃ q : B4, cs = (ints4 q).map (Value.int .u8) := by
  obtain ⟨xs, m, _, _, hl, hlen, hg⟩ := DataW.trod_array Try.underlying94 h
  rw [Try.cells4] at hl
  match cs, hl, xs, hlen with
  | [c0, c1, c2, c3], _, [y0, y1, y2, y3], _ =>
    have g0 := hg 0 (by omega)
    have g1 := hg 1 (by omega)
    have g2 := hg 2 (by omega)
    have g3 := hg 3 (by omega)
    simp only [Try.cellsU8] at g0 g1 g2 g3
    obtain ⟨a0, e0, _, f0⟩ := DataW.trod_int Try.underlying5 (x := y0) (by simpa using g0)
    obtain ⟨a1, e1, _, f1⟩ := DataW.trod_int Try.underlying5 (x := y1) (by simpa using g1)
    obtain ⟨a2, e2, _, f2⟩ := DataW.trod_int Try.underlying5 (x := y2) (by simpa using g2)
    obtain ⟨a3, e3, _, f3⟩ := DataW.trod_int Try.underlying5 (x := y3) (by simpa using g3)
    simp at e0 e1 e2 e3
    exact ⟨⟨(a0, a1, a2, a3), byte_of f0, byte_of f1, byte_of f2, byte_of f3⟩, by rw [e0, e1, e2, e3]; rfl⟩
set_option maxRecDepth 100000 in
theorem trod_b2 (h : DataW.trod enc Try.prog w base spare held fuel 83 cs = some x) : ∃ a b : Int, cs = [.int .u8 a, .int .u8 b] ∧ Byte a ∧ Byte b := by
  obtain ⟨xs, m, _, _, hl, hlen, hg⟩ := DataW.trod_array Try.underlying83 h
  rw [Try.cells2] at hl
  match cs, hl, xs, hlen with
  | [c0, c1], _, [y0, y1], _ =>
    have g0 := hg 0 (by omega)
    have g1 := hg 1 (by omega)
    simp only [Try.cellsU8] at g0 g1
    obtain ⟨a0, e0, _, f0⟩ := DataW.trod_int Try.underlying5 (x := y0) (by simpa using g0)
    obtain ⟨a1, e1, _, f1⟩ := DataW.trod_int Try.underlying5 (x := y1) (by simpa using g1)
    simp at e0 e1
    exact ⟨a0, a1, by rw [e0, e1], byte_of f0, byte_of f1⟩
theorem trod_byte (h : DataW.trod enc Try.prog w base spare held fuel 5 cs = some x) : ∃ q : { b : Int // Byte b }, cs = [Value.int .u8 q.1] := by
  obtain ⟨a0, e0, _, f0⟩ := DataW.trod_int Try.underlying5 h
  exact ⟨⟨a0, byte_of f0⟩, e0⟩
theorem ints4_byte {xs : List B4} : ∀ v ∈ xs.flatMap ints4, Byte v := by
  intro v hv
  obtain ⟨q, _, hq⟩ := List.mem_flatMap.1 hv
  obtain ⟨⟨a, b, c, d⟩, h1, h2, h3, h4⟩ := q
  simp only [ints4, List.mem_cons, List.not_mem_nil, or_false] at hq
  rcases hq with rfl | rfl | rfl | rfl <;> assumption
instance : Inhabited { b : Int // Byte b } := ⟨⟨0, byte0⟩⟩
theorem bytes_flat (xs : List { b : Int // Byte b }) : (xs.flatMap fun q => [Value.int .u8 q.1]) = (xs.map (·.1)).map (Value.int .u8) := by
  induction xs with
  | nil => rfl
  | cons a r ih => rw [List.flatMap_cons, ih]; rfl
set_option maxRecDepth 100000 in
theorem open_bytes {r : Reach} {b0 : Nat} {v : Value} {d : DataW H} {p : List MemPlace} (hv : Value.okWide Try.prog w r b0 87 v) (h : DataW.Trod enc Try.prog w base spare held 87 v d p) : ∃ (B : Option Addr) (m c : Nat) (xs : List Int), v = .slice B m c ∧ Bytes w B m xs ∧ m ≤ maxLen := by
  obtain ⟨a, l, cap, rfl⟩ := okWide_slice Try.underlying87 hv
  obtain ⟨fuel, hf⟩ := h
  obtain ⟨B, m, c, xs, e, r0, n0, _⟩ := open_list2 (fun q : { b : Int // Byte b } => [Value.int .u8 q.1]) (fun xs => xs.flatMap fun q => [Value.int .u8 q.1]) (fun xs => flatC_length _ 1 (fun _ => rfl) xs) (fun xs k j h hj => flatC_at _ 1 (fun _ => rfl) xs k j h hj) Try.underlying87 Try.cellsU8 (by omega) (fun h => trod_byte h) hf
  rw [bytes_flat] at r0
  simp only [Value.cells, List.cons.injEq, and_true] at e
  exact ⟨B, m, c, xs.map (·.1), e, ⟨r0, fun v hv => by
    obtain ⟨q, _, rfl⟩ := List.mem_map.1 hv
    exact q.2⟩, n0⟩
set_option maxRecDepth 100000 in
theorem open_folded {r : Reach} {b0 : Nat} {v : Value} {d : DataW H} {p : List MemPlace} (hv : Value.okWide Try.prog w r b0 86 v) (h : DataW.Trod enc Try.prog w base spare held 86 v d p) : ∃ T : Fo, v = .agg T.cells ∧ T.At w := by
  obtain ⟨cs, rfl, hsz⟩ := okWide_struct Try.underlying86 hv
  obtain ⟨fuel, hf⟩ := h
  obtain ⟨l⟩ := cs
  have hl : l.length = 5 := hsz.trans Try.cellsFolded
  match l, hl with
  | [c0, c1, c2, c3, c4], _ =>
    obtain ⟨y0, y1, y2, n, _, _, h0, h1, h2⟩ := trod_struct3 Try.underlying86 hf
    simp only [Try.cells2] at h0 h1
    simp only [Try.cells44] at h2
    obtain ⟨a0, b0, e0, p0, p1⟩ := trod_b2 (x := y0) h0
    obtain ⟨a1, b1, e1, p2, p3⟩ := trod_b2 (x := y1) h1
    obtain ⟨A, m, c, xs, e2, r0, n0, _⟩ := open_list2 (fun q : B4 => (ints4 q).map (Value.int .u8)) (fun xs => xs.flatMap fun q => (ints4 q).map (Value.int .u8)) (fun xs => flatC_length _ 4 (fun _ => rfl) xs) (fun xs k j h hj => flatC_at _ 4 (fun _ => rfl) xs k j h hj) Try.underlying84 Try.cells4 (by omega) (fun h => trod_b4 h) h2
    rw [flat_map] at r0
    simp [Value.cells] at e0 e1 e2
    obtain ⟨rfl, rfl⟩ := e0
    obtain ⟨rfl, rfl⟩ := e1
    subst e2
    exact ⟨⟨a0, b0, a1, b1, A, m, c, xs.flatMap ints4⟩, rfl, r0, ints4_byte, p0, p1, p2, p3, n0⟩
end
end Go.Proofs.Ytdekickmplkdiaa
