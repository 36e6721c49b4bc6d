/- The frame of a law's row: a blade, a saw and the rest as arguments, opened; a law's answer shut. -/
import Derived.Test.YtiflhimmieflpaaRows
import Derived.Test.YtiflhimmieflpaaM3
import Derived.ProofKit
import Derived.Deep.Slices
import Derived.Lib.SmallJoins
namespace Go.Proofs.Ytiflhimmieflpaa
open Go.ChangeShapes Go.WideShapes Go.ChangeAt Go.RowKit Go.Deep Go.Joins

theorem Try.own : ownKnob Try.prog.godebug = none := by kernel_rfl
theorem Try.laidOut : laidOutB Try.prog = true := by kernel_rfl
theorem Try.cellsBlade : Try.prog.cellsOf 25 = 4 := by kernel_rfl
theorem Try.cellsSaw : Try.prog.cellsOf 37 = 4 := by kernel_rfl
theorem Try.cellsPlace : Try.prog.cellsOf 39 = 2 := by kernel_rfl
theorem Try.cellsSpan : Try.prog.cellsOf 98 = 2 := by kernel_rfl
theorem Try.cellsCrack : Try.prog.cellsOf 111 = 6 := by kernel_rfl
theorem Try.cellsInt : Try.prog.cellsOf 3 = 1 := by kernel_rfl

section
variable {H : Type} {enc : TypeId × Value → H} {w : World} {base : Nat} {spare : Nat → Bool} {held : Bool} {fuel : Nat} {cs : List Value} {x : DataW H × List MemPlace}
set_option maxRecDepth 100000 in
theorem trod_span (h : DataW.trod enc Try.prog w base spare held fuel 98 cs = some x) : ∃ a b : Int, cs = [.int .i64 a, .int .i64 b] := by
  obtain ⟨y0, y1, n, _, hl, h0, h1⟩ := trod_struct2 Try.underlying98 h
  rw [Try.cellsSpan] at hl
  match cs, hl with
  | [c0, c1], _ =>
    simp only [Try.cellsInt] at h0 h1
    obtain ⟨a, e0, _⟩ := DataW.trod_int Try.underlying3 h0
    obtain ⟨b, e1, _⟩ := DataW.trod_int Try.underlying3 h1
    simp at e0 e1
    exact ⟨a, b, by rw [e0, e1]⟩
set_option maxRecDepth 100000 in
theorem trod_crack (h : DataW.trod enc Try.prog w base spare held fuel 111 cs = some x) : ∃ k : Crack, cs = k.cells := by
  obtain ⟨xs, n, _, _, hl, hlen, hg⟩ := DataW.trod_struct Try.underlying111 h
  rw [Try.cellsCrack] at hl
  match cs, hl, xs, hlen with
  | [c0, c1, c2, c3, c4, c5], _, [y0, y1, y2], _ =>
    have g0 : DataW.trod enc Try.prog w base spare held n 98 (List.take (Try.prog.cellsOf 98) (List.drop 0 [c0, c1, c2, c3, c4, c5])) = some y0 := hg 0 _ rfl
    have g1 : DataW.trod enc Try.prog w base spare held n 98 (List.take (Try.prog.cellsOf 98) (List.drop 2 [c0, c1, c2, c3, c4, c5])) = some y1 := hg 1 _ rfl
    have g2 : DataW.trod enc Try.prog w base spare held n 98 (List.take (Try.prog.cellsOf 98) (List.drop 4 [c0, c1, c2, c3, c4, c5])) = some y2 := hg 2 _ rfl
    rw [Try.cellsSpan] at g0 g1 g2
    obtain ⟨a0, b0, e0⟩ := trod_span (x := y0) (by simpa using g0)
    obtain ⟨a1, b1, e1⟩ := trod_span (x := y1) (by simpa using g1)
    obtain ⟨a2, b2, e2⟩ := trod_span (x := y2) (by simpa using g2)
    simp at e0 e1 e2
    exact ⟨⟨a0, b0, a1, b1, a2, b2⟩, by rw [e0.1, e0.2, e1.1, e1.2, e2.1, e2.2]; rfl⟩
/-- A slice of structs, each of them opened by 'op'. -/
theorem open_list {t e : TypeId} {size : Nat} {α : Type} [Inhabited α] (F : α → List Value) (fl : List α → List Value) (hfl : ∀ xs, (fl xs).length = xs.length * size) (hat : ∀ xs k j (h : k < xs.length), j < size → (fl xs)[k * size + j]? = (F xs[k])[j]?)
    (ht : Try.prog.underlying t = some (.slice e)) (hsz : Try.prog.cellsOf e = size) (h0 : 0 < size) (op : ∀ {n : Nat} {cs : List Value} {y : DataW H × List MemPlace}, DataW.trod enc Try.prog w base spare held n e cs = some y → ∃ z, cs = F z)
    (h : DataW.trod enc Try.prog w base spare held fuel t cs = some x) : ∃ (A : Option Addr) (n c : Nat) (xs : List α), cs = [.slice A n c] ∧ Reads w size A n (fl xs) ∧ n ≤ maxLen := by
  rcases open_slice ht h with ⟨rfl, _⟩ | ⟨a, len, cap, m, n, D, Pl, rfl, hb, hl, hm, hmm, hx, hi⟩
  · exact ⟨none, 0, 0, [], rfl, ⟨by rw [hfl]; rfl, fun h => absurd h (by omega)⟩, Nat.zero_le _⟩
  · have hlm : len ≤ m := by rw [hmm]; split <;> omega
    have key : ∀ i, i < len → ∃ z, ∀ j, j < size → w.cell? (a.add (i * size + j)) = (F z)[j]? ∧ (F z).length = size := fun i hil => by
      obtain ⟨cs', hc, ht'⟩ := hi i (by omega)
      rw [hsz] at hc
      obtain ⟨z, rfl⟩ := op ht'
      obtain ⟨_, hl, hc⟩ := World.cells?_some hc
      exact ⟨z, fun j hj => ⟨by rw [← Go.Deep.add_add]; exact hc j hj, hl⟩⟩
    obtain ⟨Z, hZ⟩ := choose_lt key
    refine ⟨some a, len, cap, (List.range len).map Z, rfl, ⟨by rw [hfl]; simp, fun hn => ?_⟩, Nat.le_trans hl hm⟩
    obtain ⟨b, off, spot⟩ := a
    have h00 := hZ 0 hn 0 h0
    have hsome : ∃ v, (F (Z 0))[0]? = some v := ⟨_, List.getElem?_eq_getElem (by omega)⟩
    obtain ⟨v, hv⟩ := hsome
    rw [hv] at h00
    have hspot : spot = none := by simpa [Addr.add] using World.cell?_spot h00.1
    subst hspot
    refine ⟨b, off, rfl, ?_, fun j u hu => ?_⟩
    · have := lt_of_cell h00.1
      simpa [Addr.add] using this
    · have hj : j < len * size := by
        have := (List.getElem?_eq_some_iff.1 hu).1
        rw [hfl] at this; simpa using this
      have hd : j / size < len := Nat.div_lt_of_lt_mul (by rw [Nat.mul_comm]; exact hj)
      have hr : j % size < size := Nat.mod_lt _ h0
      have he : j = j / size * size + j % size := by rw [Nat.mul_comm]; exact (Nat.div_add_mod j size).symm
      have h1 := (hZ (j / size) hd (j % size) hr).1
      have h2 := hat ((List.range len).map Z) (j / size) (j % size) (by simpa using hd) hr
      rw [← he] at h1 h2
      rw [hu] at h2
      rw [addr_add] at h1
      rw [h1]
      simpa using h2.symm
theorem spans_at (xs : List (Int × Int)) (k j : Nat) (h : k < xs.length) (hj : j < 2) : (flat2 xs)[k * 2 + j]? = ([Value.int .i64 xs[k].1, .int .i64 xs[k].2])[j]? := by
  have := flat2_at xs k h
  match j, hj with
  | 0, _ => simpa using this.1
  | 1, _ => simpa using this.2
instance : Inhabited Crack := ⟨Crack.zero⟩
set_option maxRecDepth 100000 in
theorem open_blade {r : Reach} {b0 : Nat} {v : Value} {d : DataW H} {p : List MemPlace} (hv : Value.okWide Try.prog w r b0 25 v) (h : DataW.Trod enc Try.prog w base spare held 25 v d p) : ∃ B : Bl, v = B.val ∧ B.At w := by
  obtain ⟨c0, c1, c2, c3, y0, y1, y2, y3, m, rfl, _, _, h0, h1, h2, h3⟩ := open_agg4 Try.underlying25 (by kernel_rfl) Try.cellsBlade hv h
  obtain ⟨A, n, c, bot, e0, r0, n0⟩ := open_list (fun s : Int × Int => [Value.int .i64 s.1, .int .i64 s.2]) flat2 flat2_length spans_at Try.underlying22 Try.cellsSpan (by omega) (fun h => by obtain ⟨a, b, e⟩ := trod_span h; exact ⟨(a, b), e⟩) h0
  obtain ⟨A', n', c', top, e1, r1, n1⟩ := open_list (fun s : Int × Int => [Value.int .i64 s.1, .int .i64 s.2]) flat2 flat2_length spans_at Try.underlying22 Try.cellsSpan (by omega) (fun h => by obtain ⟨a, b, e⟩ := trod_span h; exact ⟨(a, b), e⟩) h1
  obtain ⟨bend, e2, _⟩ := DataW.trod_int Try.underlying3 h2
  obtain ⟨K, mm, dd, cr, e3, r3, n3⟩ := open_list Crack.cells flat6 flat6_length (fun xs k j h hj => flat6_at xs k j h hj) Try.underlying23 Try.cellsCrack (by omega) (fun h => trod_crack h) h3
  simp only [List.cons.injEq, and_true] at e0 e1 e2 e3
  subst e0 e1 e2 e3
  exact ⟨⟨A, A', K, n, c, n', c', mm, dd, bend, bot, top, cr⟩, rfl, r0, r1, r3, n0, n1, n3⟩
end
end Go.Proofs.Ytiflhimmieflpaa
