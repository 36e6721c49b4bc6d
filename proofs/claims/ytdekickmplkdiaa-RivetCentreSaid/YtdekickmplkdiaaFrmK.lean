/- The frame of a law's row: rows of five bytes, opened. -/
import Derived.Test.YtdekickmplkdiaaFrmG
import Derived.Test.YtdekickmplkdiaaPb
namespace Go.Proofs.Ytdekickmplkdiaa
open Go.ChangeShapes Go.WideShapes Go.ChangeAt Go.RowKit Go.Deep Go.Joins

theorem Try.cells5 : Try.prog.cellsOf 104 = 5 := by kernel_rfl
abbrev B5 := { q : Int × Int × Int × Int × Int // Byte q.1 ∧ Byte q.2.1 ∧ Byte q.2.2.1 ∧ Byte q.2.2.2.1 ∧ Byte q.2.2.2.2 }
instance : Inhabited B5 := ⟨⟨(0, 0, 0, 0, 0), byte0, byte0, byte0, byte0, byte0⟩⟩
def ints5 (q : B5) : List Int := [q.1.1, q.1.2.1, q.1.2.2.1, q.1.2.2.2.1, q.1.2.2.2.2]
section
variable {H : Type} {enc : TypeId × Value → H} {w : World} {base : Nat} {spare : Nat → Bool} {held : Bool}
set_option maxRecDepth 100000 in
theorem trod_b5 {fuel : Nat} {cs : List Value} {x : DataW H × List MemPlace} (h : DataW.trod enc Try.prog w base spare held fuel 104 cs = some x) : ∃ q : B5, cs = (ints5 q).map (Value.int .u8) := by
  obtain ⟨xs, m, _, _, hl, hlen, hg⟩ := DataW.trod_array Try.underlying104 h
  rw [Try.cells5] at hl
  match cs, hl, xs, hlen with
  | [c0, c1, c2, c3, c4], _, [y0, y1, y2, y3, y4], _ =>
    have g0 := hg 0 (by omega)
    have g1 := hg 1 (by omega)
    have g2 := hg 2 (by omega)
    have g3 := hg 3 (by omega)
    have g4 := hg 4 (by omega)
    simp only [Try.cellsU8] at g0 g1 g2 g3 g4
    obtain ⟨a0, e0, _, f0⟩ := DataW.trod_int Try.underlying5 (x := y0) (by simpa using g0)
    obtain ⟨a1, e1, _, f1⟩ := DataW.trod_int Try.underlying5 (x := y1) (by simpa using g1)
    obtain ⟨a2, e2, _, f2⟩ := DataW.trod_int Try.underlying5 (x := y2) (by simpa using g2)
    obtain ⟨a3, e3, _, f3⟩ := DataW.trod_int Try.underlying5 (x := y3) (by simpa using g3)
    obtain ⟨a4, e4, _, f4⟩ := DataW.trod_int Try.underlying5 (x := y4) (by simpa using g4)
    simp at e0 e1 e2 e3 e4
    exact ⟨⟨(a0, a1, a2, a3, a4), byte_of f0, byte_of f1, byte_of f2, byte_of f3, byte_of f4⟩, by rw [e0, e1, e2, e3, e4]; rfl⟩
theorem ints5_byte {xs : List B5} : ∀ v ∈ xs.flatMap ints5, Byte v := by
  intro v hv
  obtain ⟨q, _, hq⟩ := List.mem_flatMap.1 hv
  obtain ⟨⟨a, b, c, d, e⟩, h1, h2, h3, h4, h5⟩ := q
  simp only [ints5, List.mem_cons, List.not_mem_nil, or_false] at hq
  rcases hq with rfl | rfl | rfl | rfl | rfl <;> assumption
set_option maxRecDepth 100000 in
theorem open_fives {r : Reach} {b0 : Nat} {v : Value} {d : DataW H} {p : List MemPlace} (hv : Value.okWide Try.prog w r b0 103 v) (h : DataW.Trod enc Try.prog w base spare held 103 v d p) : ∃ (A : Option Addr) (n c : Nat) (ys : List Int), v = .slice A n c ∧ Fives w A n ys ∧ n ≤ maxLen := by
  obtain ⟨a, l, cap, rfl⟩ := okWide_slice Try.underlying103 hv
  obtain ⟨fuel, hf⟩ := h
  obtain ⟨A, n, c, xs, e, r0, n0, _⟩ := open_list2 (fun q : B5 => (ints5 q).map (Value.int .u8)) (fun xs => xs.flatMap fun q => (ints5 q).map (Value.int .u8)) (fun xs => flatC_length _ 5 (fun _ => rfl) xs) (fun xs k j h hj => flatC_at _ 5 (fun _ => rfl) xs k j h hj) Try.underlying103 Try.cells5 (by omega) (fun h => trod_b5 h) hf
  rw [flat_map] at r0
  simp only [Value.cells, List.cons.injEq, and_true] at e
  exact ⟨A, n, c, xs.flatMap ints5, e, ⟨r0, ints5_byte⟩, n0⟩
end
end Go.Proofs.Ytdekickmplkdiaa
