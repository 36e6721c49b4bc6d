/- What is needed of FrmI. -/
import Derived.Test.YtllioljphpgfhaaRUd
import Derived.Test.YtllioljphpgfhaaFFrmG
namespace Go.Proofs.Ytllioljphpgfhaa
open Go.ChangeShapes Go.WideShapes Go.ChangeAt Go.RowKit Go.Deep Go.Joins
section
variable {H : Type} {enc : TypeId × Value → H} {w : World} {base : Nat} {spare : Nat → Bool} {held : Bool}
set_option maxRecDepth 100000 in
theorem open_b4 {r : Reach} {b0 : Nat} {v : Value} {d : DataW H} {p : List MemPlace} (hv : Value.okWide Try.prog w r b0 22 v) (h : DataW.Trod enc Try.prog w base spare held 22 v d p) : ∃ a b c e : Int, v = .agg #[.int .u8 a, .int .u8 b, .int .u8 c, .int .u8 e] ∧ Byte a ∧ Byte b ∧ Byte c ∧ Byte e := by
  obtain ⟨cs, rfl, _⟩ := okWide_array Try.underlying22 hv
  obtain ⟨fuel, hf⟩ := h
  obtain ⟨⟨⟨a, b, c, e⟩, h1, h2, h3, h4⟩, he⟩ := trod_b4 hf
  obtain ⟨l⟩ := cs
  have he : l = [.int .u8 a, .int .u8 b, .int .u8 c, .int .u8 e] := he
  subst he
  exact ⟨a, b, c, e, rfl, h1, h2, h3, h4⟩
end
end Go.Proofs.Ytllioljphpgfhaa
