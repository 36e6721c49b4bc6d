/- The frame of a law's row: a slice of places, opened. -/
import Derived.Test.YtiflhimmieflpaaFrm2
namespace Go.Proofs.Ytiflhimmieflpaa
open Go.ChangeShapes Go.WideShapes Go.ChangeAt Go.RowKit Go.Deep Go.Joins
section
variable {H : Type} {enc : TypeId × Value → H} {w : World} {base : Nat} {spare : Nat → Bool} {held : Bool} {fuel : Nat} {cs : List Value} {x : DataW H × List MemPlace}
set_option maxRecDepth 100000 in
theorem trod_place (h : DataW.trod enc Try.prog w base spare held fuel 39 cs = some x) : ∃ a b : Int, cs = [.int .i64 a, .int .i64 b] := by
  obtain ⟨y0, y1, n, _, hl, h0, h1⟩ := trod_struct2 Try.underlying39 h
  rw [Try.cellsPlace] at hl
  match cs, hl with
  | [c0, c1], _ =>
    simp only [Try.cellsInt] at h0 h1
    obtain ⟨a, e0, _⟩ := DataW.trod_int Try.underlying3 h0
    obtain ⟨b, e1, _⟩ := DataW.trod_int Try.underlying3 h1
    simp at e0 e1
    exact ⟨a, b, by rw [e0, e1]⟩
set_option maxRecDepth 100000 in
theorem open_places {r : Reach} {b0 : Nat} {v : Value} {d : DataW H} {p : List MemPlace} (hv : Value.okWide Try.prog w r b0 54 v) (h : DataW.Trod enc Try.prog w base spare held 54 v d p) : ∃ (A : Option Addr) (n c : Nat) (xs : List (Int × Int)), v = .slice A n c ∧ Pairs w A n xs ∧ n ≤ maxLen := by
  obtain ⟨a, l, cap, rfl⟩ := okWide_slice Try.underlying54 hv
  obtain ⟨fuel, hf⟩ := h
  obtain ⟨A, n, c, xs, e, r0, n0⟩ := open_list (fun s : Int × Int => [Value.int .i64 s.1, .int .i64 s.2]) flat2 flat2_length spans_at Try.underlying54 Try.cellsPlace (by omega) (fun h => by obtain ⟨a, b, e⟩ := trod_place h; exact ⟨(a, b), e⟩) hf
  simp only [Value.cells, List.cons.injEq, and_true] at e
  exact ⟨A, n, c, xs, e, r0, n0⟩
end
end Go.Proofs.Ytiflhimmieflpaa
