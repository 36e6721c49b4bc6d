/- The frame of a law's row: three bytes, opened. -/
import Derived.Test.YtdekickmplkdiaaFrmG
namespace Go.Proofs.Ytdekickmplkdiaa
open Go.ChangeShapes Go.WideShapes Go.ChangeAt Go.RowKit Go.Deep Go.Joins

theorem Try.cells3 : Try.prog.cellsOf 96 = 3 := by kernel_rfl
section
variable {H : Type} {enc : TypeId × Value → H} {w : World} {base : Nat} {spare : Nat → Bool} {held : Bool}
set_option maxRecDepth 100000 in
theorem trod_b3 {fuel : Nat} {cs : List Value} {x : DataW H × List MemPlace} (h : DataW.trod enc Try.prog w base spare held fuel 96 cs = some x) : ∃ a b c : Int, cs = [.int .u8 a, .int .u8 b, .int .u8 c] ∧ Byte a ∧ Byte b ∧ Byte c := by
  obtain ⟨xs, m, _, _, hl, hlen, hg⟩ := DataW.trod_array Try.underlying96 h
  rw [Try.cells3] at hl
  match cs, hl, xs, hlen with
  | [c0, c1, c2], _, [y0, y1, y2], _ =>
    have g0 := hg 0 (by omega)
    have g1 := hg 1 (by omega)
    have g2 := hg 2 (by omega)
    simp only [Try.cellsU8] at g0 g1 g2
    obtain ⟨a0, e0, _, f0⟩ := DataW.trod_int Try.underlying5 (x := y0) (by simpa using g0)
    obtain ⟨a1, e1, _, f1⟩ := DataW.trod_int Try.underlying5 (x := y1) (by simpa using g1)
    obtain ⟨a2, e2, _, f2⟩ := DataW.trod_int Try.underlying5 (x := y2) (by simpa using g2)
    simp at e0 e1 e2
    exact ⟨a0, a1, a2, by rw [e0, e1, e2], byte_of f0, byte_of f1, byte_of f2⟩
set_option maxRecDepth 100000 in
theorem open_b3 {r : Reach} {b0 : Nat} {v : Value} {d : DataW H} {p : List MemPlace} (hv : Value.okWide Try.prog w r b0 96 v) (h : DataW.Trod enc Try.prog w base spare held 96 v d p) : ∃ a b c : Int, v = .agg #[.int .u8 a, .int .u8 b, .int .u8 c] ∧ Byte a ∧ Byte b ∧ Byte c := by
  obtain ⟨cs, rfl, _⟩ := okWide_array Try.underlying96 hv
  obtain ⟨fuel, hf⟩ := h
  obtain ⟨a, b, c, e, h1, h2, h3⟩ := trod_b3 hf
  obtain ⟨l⟩ := cs
  have e : l = [.int .u8 a, .int .u8 b, .int .u8 c] := e
  subst e
  exact ⟨a, b, c, rfl, h1, h2, h3⟩
end
end Go.Proofs.Ytdekickmplkdiaa
