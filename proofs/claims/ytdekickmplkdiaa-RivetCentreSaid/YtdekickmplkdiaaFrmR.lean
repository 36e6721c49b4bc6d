/- The frame of a law's row: a fan, a span, sticks as arguments, opened. -/
import Derived.Test.YtdekickmplkdiaaRows
import Derived.Test.YtdekickmplkdiaaKb
import Derived.ProofKit
import Derived.Deep.Slices
import Derived.Lib.SmallJoins
namespace Go.Proofs.Ytdekickmplkdiaa
open Go.ChangeShapes Go.WideShapes Go.ChangeAt Go.RowKit Go.Deep Go.Joins

theorem Try.own : ownKnob Try.prog.godebug = none := by kernel_rfl
theorem Try.laidOut : laidOutB Try.prog = true := by kernel_rfl
theorem Try.cellsFan : Try.prog.cellsOf 26 = 5 := by kernel_rfl
theorem Try.cellsGap : Try.prog.cellsOf 42 = 4 := by kernel_rfl
theorem Try.cellsStk : Try.prog.cellsOf 106 = 5 := by kernel_rfl
theorem Try.cellsSpan : Try.prog.cellsOf 23 = 2 := by kernel_rfl
theorem Try.cellsInt : Try.prog.cellsOf 3 = 1 := by kernel_rfl
theorem Try.cellsGaps : Try.prog.cellsOf 24 = 1 := by kernel_rfl

section
variable {H : Type} {enc : TypeId × Value → H} {w : World} {base : Nat} {spare : Nat → Bool} {held : Bool} {fuel : Nat} {cs : List Value} {x : DataW H × List MemPlace}
set_option maxRecDepth 100000 in
theorem trod_span (h : DataW.trod enc Try.prog w base spare held fuel 23 cs = some x) : ∃ a b : Int, cs = [.int .i64 a, .int .i64 b] := by
  obtain ⟨y0, y1, n, _, hl, h0, h1⟩ := trod_struct2 Try.underlying23 h
  rw [Try.cellsSpan] at hl
  match cs, hl with
  | [c0, c1], _ =>
    simp only [Try.cellsInt] at h0 h1
    obtain ⟨a, e0, _⟩ := DataW.trod_int Try.underlying3 h0
    obtain ⟨b, e1, _⟩ := DataW.trod_int Try.underlying3 h1
    simp at e0 e1
    exact ⟨a, b, by rw [e0, e1]⟩
set_option maxRecDepth 100000 in
theorem trod_gap (h : DataW.trod enc Try.prog w base spare held fuel 42 cs = some x) : ∃ g : Gap, cs = g.cells := by
  obtain ⟨xs, n, _, _, hl, hlen, hg⟩ := DataW.trod_struct Try.underlying42 h
  rw [Try.cellsGap] at hl
  match cs, hl, xs, hlen with
  | [c0, c1, c2, c3], _, [y0, y1], _ =>
    have g0 : DataW.trod enc Try.prog w base spare held n 23 (List.take (Try.prog.cellsOf 23) (List.drop 0 [c0, c1, c2, c3])) = some y0 := hg 0 _ rfl
    have g1 : DataW.trod enc Try.prog w base spare held n 23 (List.take (Try.prog.cellsOf 23) (List.drop 2 [c0, c1, c2, c3])) = some y1 := hg 1 _ rfl
    rw [Try.cellsSpan] at g0 g1
    obtain ⟨a0, b0, e0⟩ := trod_span (x := y0) (by simpa using g0)
    obtain ⟨a1, b1, e1⟩ := trod_span (x := y1) (by simpa using g1)
    simp at e0 e1
    exact ⟨⟨a0, b0, a1, b1⟩, by rw [e0.1, e0.2, e1.1, e1.2]; rfl⟩
set_option maxRecDepth 100000 in
theorem trod_stk (h : DataW.trod enc Try.prog w base spare held fuel 106 cs = some x) : ∃ g : Stk, cs = g.cells := by
  obtain ⟨xs, n, _, _, hl, hlen, hg⟩ := DataW.trod_struct Try.underlying106 h
  rw [Try.cellsStk] at hl
  match cs, hl, xs, hlen with
  | [c0, c1, c2, c3, c4], _, [y0, y1, y2], _ =>
    have g0 : DataW.trod enc Try.prog w base spare held n 23 (List.take (Try.prog.cellsOf 23) (List.drop 0 [c0, c1, c2, c3, c4])) = some y0 := hg 0 _ rfl
    have g1 : DataW.trod enc Try.prog w base spare held n 23 (List.take (Try.prog.cellsOf 23) (List.drop 2 [c0, c1, c2, c3, c4])) = some y1 := hg 1 _ rfl
    have g2 : DataW.trod enc Try.prog w base spare held n 3 (List.take (Try.prog.cellsOf 3) (List.drop 4 [c0, c1, c2, c3, c4])) = some y2 := hg 2 _ rfl
    rw [Try.cellsSpan] at g0 g1
    rw [Try.cellsInt] at g2
    obtain ⟨a0, b0, e0⟩ := trod_span (x := y0) (by simpa using g0)
    obtain ⟨a1, b1, e1⟩ := trod_span (x := y1) (by simpa using g1)
    obtain ⟨a2, e2, _⟩ := DataW.trod_int Try.underlying3 g2
    simp at e0 e1 e2
    exact ⟨⟨a0, b0, a1, b1, a2⟩, by rw [e0.1, e0.2, e1.1, e1.2, e2]; rfl⟩
/-- A slice of structs, each of them opened by 'op'. -/
theorem open_list2 {t e : TypeId} {size : Nat} {α : Type} [Inhabited α] (F : α → List Value) (fl : List α → List Value) (hfl : ∀ xs, (fl xs).length = xs.length * size) (hat : ∀ xs k j (h : k < xs.length), j < size → (fl xs)[k * size + j]? = (F xs[k])[j]?)
    (ht : Try.prog.underlying t = some (.slice e)) (hsz : Try.prog.cellsOf e = size) (h0 : 0 < size) (op : ∀ {n : Nat} {cs : List Value} {y : DataW H × List MemPlace}, DataW.trod enc Try.prog w base spare held n e cs = some y → ∃ z, cs = F z)
    (h : DataW.trod enc Try.prog w base spare held fuel t cs = some x) : ∃ (A : Option Addr) (n c : Nat) (xs : List α), cs = [.slice A n c] ∧ Reads w size A n (fl xs) ∧ n ≤ maxLen ∧ n ≤ c := by
  rcases open_slice ht h with ⟨rfl, _⟩ | ⟨a, len, cap, m, n, D, Pl, rfl, hb, hl, hm, hmm, hx, hi⟩
  · exact ⟨none, 0, 0, [], rfl, ⟨by rw [hfl]; rfl, fun h => absurd h (by omega)⟩, Nat.zero_le _, Nat.le_refl _⟩
  · have hlm : len ≤ m := by rw [hmm]; split <;> omega
    have key : ∀ i, i < len → ∃ z, ∀ j, j < size → w.cell? (a.add (i * size + j)) = (F z)[j]? ∧ (F z).length = size := fun i hil => by
      obtain ⟨cs', hc, ht'⟩ := hi i (by omega)
      rw [hsz] at hc
      obtain ⟨z, rfl⟩ := op ht'
      obtain ⟨_, hl, hc⟩ := World.cells?_some hc
      exact ⟨z, fun j hj => ⟨by rw [← Go.Deep.add_add]; exact hc j hj, hl⟩⟩
    obtain ⟨Z, hZ⟩ := choose_lt key
    refine ⟨some a, len, cap, (List.range len).map Z, rfl, ⟨by rw [hfl]; simp, fun hn => ?_⟩, Nat.le_trans hl hm, hl⟩
    obtain ⟨b, off, spot⟩ := a
    have h00 := hZ 0 hn 0 h0
    have hsome : ∃ v, (F (Z 0))[0]? = some v := ⟨_, List.getElem?_eq_getElem (by omega)⟩
    obtain ⟨v, hv⟩ := hsome
    rw [hv] at h00
    have hspot : spot = none := by simpa [Addr.add] using World.cell?_spot h00.1
    subst hspot
    refine ⟨b, off, rfl, ?_, fun j u hu => ?_⟩
    · have := lt_of_cell h00.1
      simpa [Addr.add] using this
    · have hj : j < len * size := by
        have := (List.getElem?_eq_some_iff.1 hu).1
        rw [hfl] at this; simpa using this
      have hd : j / size < len := Nat.div_lt_of_lt_mul (by rw [Nat.mul_comm]; exact hj)
      have hr : j % size < size := Nat.mod_lt _ h0
      have he : j = j / size * size + j % size := by rw [Nat.mul_comm]; exact (Nat.div_add_mod j size).symm
      have h1 := (hZ (j / size) hd (j % size) hr).1
      have h2 := hat ((List.range len).map Z) (j / size) (j % size) (by simpa using hd) hr
      rw [← he] at h1 h2
      rw [hu] at h2
      rw [addr_add] at h1
      rw [h1]
      simpa using h2.symm
instance : Inhabited Gap := ⟨Gap.zero⟩
instance : Inhabited Stk := ⟨⟨0, 0, 0, 0, 0⟩⟩
set_option maxRecDepth 100000 in
theorem open_fan {r : Reach} {b0 : Nat} {v : Value} {d : DataW H} {p : List MemPlace} (hv : Value.okWide Try.prog w r b0 26 v) (h : DataW.Trod enc Try.prog w base spare held 26 v d p) : ∃ (f : Fan) (A : Option Addr) (n c : Nat), v = .agg (fanA f A n c) ∧ Gaps w A n f.gs ∧ n ≤ maxLen ∧ n ≤ c := by
  obtain ⟨cs, rfl, hsz⟩ := okWide_struct Try.underlying26 hv
  obtain ⟨fuel, hf⟩ := h
  obtain ⟨l⟩ := cs
  have hl : l.length = 5 := hsz.trans Try.cellsFan
  match l, hl with
  | [c0, c1, c2, c3, c4], _ =>
    obtain ⟨y0, y1, y2, n, _, _, h0, h1, h2⟩ := trod_struct3 Try.underlying26 hf
    simp only [Try.cellsSpan] at h0 h1
    simp only [Try.cellsGaps] at h2
    obtain ⟨a0, b0, e0⟩ := trod_span (x := y0) h0
    obtain ⟨a1, b1, e1⟩ := trod_span (x := y1) h1
    obtain ⟨A, m, c, xs, e2, r0, n0, n1⟩ := open_list2 Gap.cells flatG flatG_length (fun xs k j h hj => flatG_at xs k j h hj) Try.underlying24 Try.cellsGap (by omega) (fun h => trod_gap h) h2
    simp [Value.cells] at e0 e1 e2
    obtain ⟨rfl, rfl⟩ := e0
    obtain ⟨rfl, rfl⟩ := e1
    subst e2
    exact ⟨⟨a0, b0, a1, b1, xs⟩, A, m, c, rfl, r0, n0, n1⟩
set_option maxRecDepth 100000 in
theorem open_sticks {r : Reach} {b0 : Nat} {v : Value} {d : DataW H} {p : List MemPlace} (hv : Value.okWide Try.prog w r b0 64 v) (h : DataW.Trod enc Try.prog w base spare held 64 v d p) : ∃ (A : Option Addr) (n c : Nat) (xs : List Stk), v = .slice A n c ∧ Stks w A n xs ∧ n ≤ maxLen ∧ n ≤ c := by
  obtain ⟨a, l, cap, rfl⟩ := okWide_slice Try.underlying64 hv
  obtain ⟨fuel, hf⟩ := h
  obtain ⟨A, n, c, xs, e, r0, n0, n1⟩ := open_list2 Stk.cells flatT flatT_length (fun xs k j h hj => flatT_at xs k j h hj) Try.underlying64 Try.cellsStk (by omega) (fun h => trod_stk h) hf
  simp only [Value.cells, List.cons.injEq, and_true] at e
  exact ⟨A, n, c, xs, e, r0, n0, n1⟩
set_option maxRecDepth 100000 in
theorem open_span {r : Reach} {b0 : Nat} {v : Value} {d : DataW H} {p : List MemPlace} (hv : Value.okWide Try.prog w r b0 23 v) (h : DataW.Trod enc Try.prog w base spare held 23 v d p) : ∃ a b : Int, v = .agg #[.int .i64 a, .int .i64 b] := by
  obtain ⟨c0, c1, y0, y1, m, rfl, _, _, h0, h1⟩ := open_agg2 Try.underlying23 (by kernel_rfl) Try.cellsSpan hv h
  obtain ⟨a0, e0, _⟩ := DataW.trod_int Try.underlying3 h0
  obtain ⟨a1, e1, _⟩ := DataW.trod_int Try.underlying3 h1
  simp only [List.cons.injEq, and_true] at e0 e1
  subst e0 e1
  exact ⟨a0, a1, rfl⟩
end
end Go.Proofs.Ytdekickmplkdiaa
