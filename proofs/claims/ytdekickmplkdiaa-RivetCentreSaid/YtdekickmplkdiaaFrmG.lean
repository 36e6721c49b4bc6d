/- The frame of a law's row: arrays of bytes, opened. -/
import Derived.Test.YtdekickmplkdiaaFrmF
namespace Go.Proofs.Ytdekickmplkdiaa
open Go.ChangeShapes Go.WideShapes Go.ChangeAt Go.RowKit Go.Deep Go.Joins

theorem okWide_array {P : Program} {w : World} {r : Reach} {base n : Nat} {t e : TypeId} {v : Value} (ht : P.underlying t = some (.array n e)) (h : Value.okWide P w r base t v) : ∃ cs, v = .agg cs ∧ cs.size = P.cellsOf t := by
  simp only [Value.okWide, ht] at h
  obtain ⟨cs, h1, h2, _⟩ := h
  exact ⟨cs, h1, h2⟩
section
variable {H : Type} {enc : TypeId × Value → H} {w : World} {base : Nat} {spare : Nat → Bool} {held : Bool}
set_option maxRecDepth 100000 in
theorem open_b2 {r : Reach} {b0 : Nat} {v : Value} {d : DataW H} {p : List MemPlace} (hv : Value.okWide Try.prog w r b0 83 v) (h : DataW.Trod enc Try.prog w base spare held 83 v d p) : ∃ a b : Int, v = .agg #[.int .u8 a, .int .u8 b] ∧ Byte a ∧ Byte b := by
  obtain ⟨cs, rfl, _⟩ := okWide_array Try.underlying83 hv
  obtain ⟨fuel, hf⟩ := h
  obtain ⟨a, b, e, h1, h2⟩ := trod_b2 hf
  obtain ⟨l⟩ := cs
  have e : l = [.int .u8 a, .int .u8 b] := e
  subst e
  exact ⟨a, b, rfl, h1, h2⟩
end
end Go.Proofs.Ytdekickmplkdiaa
