/- ToothNoMore holds: for every tusk, list of bytes and byte the law returns true, and they read as they did. It has no condition. -/
import Derived.Test.YtiflhimmieflpaaRows
import Derived.Test.YtiflhimmieflpaaM3
import Derived.ProofKit
import Derived.Deep.Slices
import Derived.Lib.SmallJoins
import Derived.Test.YtiflhimmieflpaaW80
import Derived.Laws.IdiomArrays
import Derived.OpenShut
import Derived.Test.YtiflhimmieflpaaZJ

/- The frame of a law's row: a blade, a saw and the rest as arguments, opened; a law's answer shut. -/
namespace Go.Proofs.Ytiflhimmieflpaa
open Go.ChangeShapes Go.WideShapes Go.ChangeAt Go.RowKit Go.Deep Go.Joins

theorem Try.own : ownKnob Try.prog.godebug = none := by kernel_rfl
theorem Try.laidOut : laidOutB Try.prog = true := by kernel_rfl
theorem Try.cellsBlade : Try.prog.cellsOf 25 = 4 := by kernel_rfl
theorem Try.cellsSaw : Try.prog.cellsOf 37 = 4 := by kernel_rfl
theorem Try.cellsPlace : Try.prog.cellsOf 39 = 2 := by kernel_rfl
theorem Try.cellsSpan : Try.prog.cellsOf 98 = 2 := by kernel_rfl
theorem Try.cellsCrack : Try.prog.cellsOf 111 = 6 := by kernel_rfl
theorem Try.cellsInt : Try.prog.cellsOf 3 = 1 := by kernel_rfl

section
variable {H : Type} {enc : TypeId × Value → H} {w : World} {base : Nat} {spare : Nat → Bool} {held : Bool} {fuel : Nat} {cs : List Value} {x : DataW H × List MemPlace}
set_option maxRecDepth 100000 in
theorem trod_span (h : DataW.trod enc Try.prog w base spare held fuel 98 cs = some x) : ∃ a b : Int, cs = [.int .i64 a, .int .i64 b] := by
  obtain ⟨y0, y1, n, _, hl, h0, h1⟩ := trod_struct2 Try.underlying98 h
  rw [Try.cellsSpan] at hl
  match cs, hl with
  | [c0, c1], _ =>
    simp only [Try.cellsInt] at h0 h1
    obtain ⟨a, e0, _⟩ := DataW.trod_int Try.underlying3 h0
    obtain ⟨b, e1, _⟩ := DataW.trod_int Try.underlying3 h1
    simp at e0 e1
    exact ⟨a, b, by rw [e0, e1]⟩
set_option maxRecDepth 100000 in
theorem trod_crack (h : DataW.trod enc Try.prog w base spare held fuel 111 cs = some x) : ∃ k : Crack, cs = k.cells := by
  obtain ⟨xs, n, _, _, hl, hlen, hg⟩ := DataW.trod_struct Try.underlying111 h
  rw [Try.cellsCrack] at hl
  match cs, hl, xs, hlen with
  | [c0, c1, c2, c3, c4, c5], _, [y0, y1, y2], _ =>
    have g0 : DataW.trod enc Try.prog w base spare held n 98 (List.take (Try.prog.cellsOf 98) (List.drop 0 [c0, c1, c2, c3, c4, c5])) = some y0 := hg 0 _ rfl
    have g1 : DataW.trod enc Try.prog w base spare held n 98 (List.take (Try.prog.cellsOf 98) (List.drop 2 [c0, c1, c2, c3, c4, c5])) = some y1 := hg 1 _ rfl
    have g2 : DataW.trod enc Try.prog w base spare held n 98 (List.take (Try.prog.cellsOf 98) (List.drop 4 [c0, c1, c2, c3, c4, c5])) = some y2 := hg 2 _ rfl
    rw [Try.cellsSpan] at g0 g1 g2
    obtain ⟨a0, b0, e0⟩ := trod_span (x := y0) (by simpa using g0)
    obtain ⟨a1, b1, e1⟩ := trod_span (x := y1) (by simpa using g1)
    obtain ⟨a2, b2, e2⟩ := trod_span (x := y2) (by simpa using g2)
    simp at e0 e1 e2
    exact ⟨⟨a0, b0, a1, b1, a2, b2⟩, by rw [e0.1, e0.2, e1.1, e1.2, e2.1, e2.2]; rfl⟩
/-- A slice of structs, each of them opened by 'op'. -/
theorem open_list {t e : TypeId} {size : Nat} {α : Type} [Inhabited α] (F : α → List Value) (fl : List α → List Value) (hfl : ∀ xs, (fl xs).length = xs.length * size) (hat : ∀ xs k j (h : k < xs.length), j < size → (fl xs)[k * size + j]? = (F xs[k])[j]?)
    (ht : Try.prog.underlying t = some (.slice e)) (hsz : Try.prog.cellsOf e = size) (h0 : 0 < size) (op : ∀ {n : Nat} {cs : List Value} {y : DataW H × List MemPlace}, DataW.trod enc Try.prog w base spare held n e cs = some y → ∃ z, cs = F z)
    (h : DataW.trod enc Try.prog w base spare held fuel t cs = some x) : ∃ (A : Option Addr) (n c : Nat) (xs : List α), cs = [.slice A n c] ∧ Reads w size A n (fl xs) ∧ n ≤ maxLen := by
  rcases open_slice ht h with ⟨rfl, _⟩ | ⟨a, len, cap, m, n, D, Pl, rfl, hb, hl, hm, hmm, hx, hi⟩
  · exact ⟨none, 0, 0, [], rfl, ⟨by rw [hfl]; rfl, fun h => absurd h (by omega)⟩, Nat.zero_le _⟩
  · have hlm : len ≤ m := by rw [hmm]; split <;> omega
    have key : ∀ i, i < len → ∃ z, ∀ j, j < size → w.cell? (a.add (i * size + j)) = (F z)[j]? ∧ (F z).length = size := fun i hil => by
      obtain ⟨cs', hc, ht'⟩ := hi i (by omega)
      rw [hsz] at hc
      obtain ⟨z, rfl⟩ := op ht'
      obtain ⟨_, hl, hc⟩ := World.cells?_some hc
      exact ⟨z, fun j hj => ⟨by rw [← Go.Deep.add_add]; exact hc j hj, hl⟩⟩
    obtain ⟨Z, hZ⟩ := choose_lt key
    refine ⟨some a, len, cap, (List.range len).map Z, rfl, ⟨by rw [hfl]; simp, fun hn => ?_⟩, Nat.le_trans hl hm⟩
    obtain ⟨b, off, spot⟩ := a
    have h00 := hZ 0 hn 0 h0
    have hsome : ∃ v, (F (Z 0))[0]? = some v := ⟨_, List.getElem?_eq_getElem (by omega)⟩
    obtain ⟨v, hv⟩ := hsome
    rw [hv] at h00
    have hspot : spot = none := by simpa [Addr.add] using World.cell?_spot h00.1
    subst hspot
    refine ⟨b, off, rfl, ?_, fun j u hu => ?_⟩
    · have := lt_of_cell h00.1
      simpa [Addr.add] using this
    · have hj : j < len * size := by
        have := (List.getElem?_eq_some_iff.1 hu).1
        rw [hfl] at this; simpa using this
      have hd : j / size < len := Nat.div_lt_of_lt_mul (by rw [Nat.mul_comm]; exact hj)
      have hr : j % size < size := Nat.mod_lt _ h0
      have he : j = j / size * size + j % size := by rw [Nat.mul_comm]; exact (Nat.div_add_mod j size).symm
      have h1 := (hZ (j / size) hd (j % size) hr).1
      have h2 := hat ((List.range len).map Z) (j / size) (j % size) (by simpa using hd) hr
      rw [← he] at h1 h2
      rw [hu] at h2
      rw [addr_add] at h1
      rw [h1]
      simpa using h2.symm
theorem spans_at (xs : List (Int × Int)) (k j : Nat) (h : k < xs.length) (hj : j < 2) : (flat2 xs)[k * 2 + j]? = ([Value.int .i64 xs[k].1, .int .i64 xs[k].2])[j]? := by
  have := flat2_at xs k h
  match j, hj with
  | 0, _ => simpa using this.1
  | 1, _ => simpa using this.2
instance : Inhabited Crack := ⟨Crack.zero⟩
set_option maxRecDepth 100000 in
theorem open_blade {r : Reach} {b0 : Nat} {v : Value} {d : DataW H} {p : List MemPlace} (hv : Value.okWide Try.prog w r b0 25 v) (h : DataW.Trod enc Try.prog w base spare held 25 v d p) : ∃ B : Bl, v = B.val ∧ B.At w := by
  obtain ⟨c0, c1, c2, c3, y0, y1, y2, y3, m, rfl, _, _, h0, h1, h2, h3⟩ := open_agg4 Try.underlying25 (by kernel_rfl) Try.cellsBlade hv h
  obtain ⟨A, n, c, bot, e0, r0, n0⟩ := open_list (fun s : Int × Int => [Value.int .i64 s.1, .int .i64 s.2]) flat2 flat2_length spans_at Try.underlying22 Try.cellsSpan (by omega) (fun h => by obtain ⟨a, b, e⟩ := trod_span h; exact ⟨(a, b), e⟩) h0
  obtain ⟨A', n', c', top, e1, r1, n1⟩ := open_list (fun s : Int × Int => [Value.int .i64 s.1, .int .i64 s.2]) flat2 flat2_length spans_at Try.underlying22 Try.cellsSpan (by omega) (fun h => by obtain ⟨a, b, e⟩ := trod_span h; exact ⟨(a, b), e⟩) h1
  obtain ⟨bend, e2, _⟩ := DataW.trod_int Try.underlying3 h2
  obtain ⟨K, mm, dd, cr, e3, r3, n3⟩ := open_list Crack.cells flat6 flat6_length (fun xs k j h hj => flat6_at xs k j h hj) Try.underlying23 Try.cellsCrack (by omega) (fun h => trod_crack h) h3
  simp only [List.cons.injEq, and_true] at e0 e1 e2 e3
  subst e0 e1 e2 e3
  exact ⟨⟨A, A', K, n, c, n', c', mm, dd, bend, bot, top, cr⟩, rfl, r0, r1, r3, n0, n1, n3⟩
end
end Go.Proofs.Ytiflhimmieflpaa

/- The frame of a law's row: a saw, opened. -/
namespace Go.Proofs.Ytiflhimmieflpaa
open Go.ChangeShapes Go.WideShapes Go.ChangeAt Go.RowKit Go.Deep Go.Joins
section
variable {H : Type} {enc : TypeId × Value → H} {w : World} {base : Nat} {spare : Nat → Bool} {held : Bool}
set_option maxRecDepth 100000 in
theorem open_saw {r : Reach} {b0 : Nat} {v : Value} {d : DataW H} {p : List MemPlace} (hv : Value.okWide Try.prog w r b0 37 v) (h : DataW.Trod enc Try.prog w base spare held 37 v d p) : ∃ s : Sw, v = s.val := by
  obtain ⟨c0, c1, c2, c3, y0, y1, y2, y3, m, rfl, _, _, h0, h1, h2, h3⟩ := open_agg4 Try.underlying37 (by kernel_rfl) Try.cellsSaw hv h
  obtain ⟨a0, e0, _⟩ := DataW.trod_int Try.underlying3 h0
  obtain ⟨a1, e1, _⟩ := DataW.trod_int Try.underlying3 h1
  obtain ⟨a2, e2, _⟩ := DataW.trod_int Try.underlying3 h2
  obtain ⟨a3, e3, _⟩ := DataW.trod_int Try.underlying3 h3
  simp only [List.cons.injEq, and_true] at e0 e1 e2 e3
  subst e0 e1 e2 e3
  exact ⟨⟨a0, a1, a2, a3⟩, rfl⟩
end
end Go.Proofs.Ytiflhimmieflpaa

/- The frame of a law's row: a tusk in bytes, opened. -/
namespace Go.Proofs.Ytiflhimmieflpaa
open Go.ChangeShapes Go.WideShapes Go.ChangeAt Go.RowKit Go.Deep Go.Joins

theorem Try.cellsTusk : Try.prog.cellsOf 83 = 7 := by kernel_rfl
theorem Try.cellsU8 : Try.prog.cellsOf 5 = 1 := by kernel_rfl
theorem Try.cells4 : Try.prog.cellsOf 81 = 4 := by kernel_rfl
theorem Try.cells79 : Try.prog.cellsOf 79 = 1 := by kernel_rfl
theorem Try.cells80 : Try.prog.cellsOf 80 = 1 := by kernel_rfl
theorem Try.cells6 : Try.prog.cellsOf 172 = 6 := by kernel_rfl
abbrev B4 := { q : Int × Int × Int × Int // Byte q.1 ∧ Byte q.2.1 ∧ Byte q.2.2.1 ∧ Byte q.2.2.2 }
abbrev B6 := { q : Int × Int × Int × Int × Int × Int // Byte q.1 ∧ Byte q.2.1 ∧ Byte q.2.2.1 ∧ Byte q.2.2.2.1 ∧ Byte q.2.2.2.2.1 ∧ Byte q.2.2.2.2.2 }
theorem byte0 : Byte 0 := ⟨by decide, by decide⟩
instance : Inhabited B4 := ⟨⟨(0, 0, 0, 0), byte0, byte0, byte0, byte0⟩⟩
instance : Inhabited B6 := ⟨⟨(0, 0, 0, 0, 0, 0), byte0, byte0, byte0, byte0, byte0, byte0⟩⟩
def ints4 (q : B4) : List Int := [q.1.1, q.1.2.1, q.1.2.2.1, q.1.2.2.2]
def ints6 (q : B6) : List Int := [q.1.1, q.1.2.1, q.1.2.2.1, q.1.2.2.2.1, q.1.2.2.2.2.1, q.1.2.2.2.2.2]
theorem flatC_length {α : Type} (F : α → List Value) (size : Nat) (hF : ∀ x, (F x).length = size) (xs : List α) : (xs.flatMap F).length = xs.length * size := by
  induction xs with
  | nil => simp
  | cons a r ih => rw [List.flatMap_cons, List.length_append, hF, ih, List.length_cons, Nat.add_mul]; omega
theorem flatC_at {α : Type} (F : α → List Value) (size : Nat) (hF : ∀ x, (F x).length = size) (xs : List α) : ∀ k j (h : k < xs.length), j < size → (xs.flatMap F)[k * size + j]? = (F xs[k])[j]? := by
  induction xs with
  | nil => intro k j h; simp at h
  | cons a r ih =>
    intro k j h hj
    rw [List.flatMap_cons]
    cases k with
    | zero => rw [List.getElem?_append_left (by rw [hF]; omega)]; simp
    | succ k =>
      rw [List.getElem?_append_right (by rw [hF, Nat.add_mul]; omega), hF, show (k + 1) * size + j - size = k * size + j by rw [Nat.add_mul]; omega]
      simpa using ih k j (by simpa using h) hj
theorem flat_map {α : Type} (f : α → List Int) (xs : List α) : (xs.flatMap fun q => (f q).map (Value.int .u8)) = (xs.flatMap f).map (Value.int .u8) := by
  induction xs with
  | nil => rfl
  | cons a r ih => rw [List.flatMap_cons, List.flatMap_cons, List.map_append, ih]
theorem byte_of {n : Int} (h : (Lit.int .u8 n).wf = true) : Byte n := bounds_u8 h

section
variable {H : Type} {enc : TypeId × Value → H} {w : World} {base : Nat} {spare : Nat → Bool} {held : Bool} {fuel : Nat} {cs : List Value} {x : DataW H × List MemPlace}
set_option maxRecDepth 100000 in
theorem trod_b4 (h : DataW.trod enc Try.prog w base spare held fuel 81 cs = some x) : ∃ q : B4, cs = (ints4 q).map (Value.int .u8) := by
  obtain ⟨xs, m, _, _, hl, hlen, hg⟩ := DataW.trod_array Try.underlying81 h
  rw [Try.cells4] at hl
  match cs, hl, xs, hlen with
  | [c0, c1, c2, c3], _, [y0, y1, y2, y3], _ =>
    have g0 := hg 0 (by omega)
    have g1 := hg 1 (by omega)
    have g2 := hg 2 (by omega)
    have g3 := hg 3 (by omega)
    simp only [Try.cellsU8] at g0 g1 g2 g3
    obtain ⟨a0, e0, _, f0⟩ := DataW.trod_int Try.underlying5 (x := y0) (by simpa using g0)
    obtain ⟨a1, e1, _, f1⟩ := DataW.trod_int Try.underlying5 (x := y1) (by simpa using g1)
    obtain ⟨a2, e2, _, f2⟩ := DataW.trod_int Try.underlying5 (x := y2) (by simpa using g2)
    obtain ⟨a3, e3, _, f3⟩ := DataW.trod_int Try.underlying5 (x := y3) (by simpa using g3)
    simp at e0 e1 e2 e3
    exact ⟨⟨(a0, a1, a2, a3), byte_of f0, byte_of f1, byte_of f2, byte_of f3⟩, by rw [e0, e1, e2, e3]; rfl⟩
set_option maxRecDepth 100000 in
theorem trod_b6 (h : DataW.trod enc Try.prog w base spare held fuel 172 cs = some x) : ∃ q : B6, cs = (ints6 q).map (Value.int .u8) := by
  obtain ⟨xs, m, _, _, hl, hlen, hg⟩ := DataW.trod_array Try.underlying172 h
  rw [Try.cells6] at hl
  match cs, hl, xs, hlen with
  | [c0, c1, c2, c3, c4, c5], _, [y0, y1, y2, y3, y4, y5], _ =>
    have g0 := hg 0 (by omega)
    have g1 := hg 1 (by omega)
    have g2 := hg 2 (by omega)
    have g3 := hg 3 (by omega)
    have g4 := hg 4 (by omega)
    have g5 := hg 5 (by omega)
    simp only [Try.cellsU8] at g0 g1 g2 g3 g4 g5
    obtain ⟨a0, e0, _, f0⟩ := DataW.trod_int Try.underlying5 (x := y0) (by simpa using g0)
    obtain ⟨a1, e1, _, f1⟩ := DataW.trod_int Try.underlying5 (x := y1) (by simpa using g1)
    obtain ⟨a2, e2, _, f2⟩ := DataW.trod_int Try.underlying5 (x := y2) (by simpa using g2)
    obtain ⟨a3, e3, _, f3⟩ := DataW.trod_int Try.underlying5 (x := y3) (by simpa using g3)
    obtain ⟨a4, e4, _, f4⟩ := DataW.trod_int Try.underlying5 (x := y4) (by simpa using g4)
    obtain ⟨a5, e5, _, f5⟩ := DataW.trod_int Try.underlying5 (x := y5) (by simpa using g5)
    simp at e0 e1 e2 e3 e4 e5
    exact ⟨⟨(a0, a1, a2, a3, a4, a5), byte_of f0, byte_of f1, byte_of f2, byte_of f3, byte_of f4, byte_of f5⟩, by rw [e0, e1, e2, e3, e4, e5]; rfl⟩
theorem ints4_byte {xs : List B4} : ∀ v ∈ xs.flatMap ints4, Byte v := by
  intro v hv
  obtain ⟨q, _, hq⟩ := List.mem_flatMap.1 hv
  obtain ⟨⟨a, b, c, d⟩, h1, h2, h3, h4⟩ := q
  simp only [ints4, List.mem_cons, List.not_mem_nil, or_false] at hq
  rcases hq with rfl | rfl | rfl | rfl <;> assumption
theorem ints6_byte {xs : List B6} : ∀ v ∈ xs.flatMap ints6, Byte v := by
  intro v hv
  obtain ⟨q, _, hq⟩ := List.mem_flatMap.1 hv
  obtain ⟨⟨a, b, c, d, e, f⟩, h1, h2, h3, h4, h5, h6⟩ := q
  simp only [ints6, List.mem_cons, List.not_mem_nil, or_false] at hq
  rcases hq with rfl | rfl | rfl | rfl | rfl | rfl <;> assumption
set_option maxRecDepth 100000 in
theorem open_tusk {r : Reach} {b0 : Nat} {v : Value} {d : DataW H} {p : List MemPlace} (hv : Value.okWide Try.prog w r b0 83 v) (h : DataW.Trod enc Try.prog w base spare held 83 v d p) : ∃ T : Tk, v = T.val ∧ T.At w := by
  obtain ⟨cs, rfl, hsz⟩ := okWide_struct Try.underlying83 hv
  obtain ⟨fuel, hf⟩ := h
  obtain ⟨y0, y1, y2, y3, n, hx, hl, h0, h1, h2, h3⟩ := trod_struct4 Try.underlying83 hf
  rw [Try.cellsTusk] at hsz
  match cs, hsz with
  | ⟨[c0, c1, c2, c3, c4, c5, c6]⟩, _ =>
    have g0 : DataW.trod enc Try.prog w base spare held n 79 [c0] = some y0 := by simpa [Value.cells, Try.cells79] using h0
    have g1 : DataW.trod enc Try.prog w base spare held n 5 [c1] = some y1 := by simpa [Value.cells, Try.cellsU8] using h1
    have g2 : DataW.trod enc Try.prog w base spare held n 80 [c2] = some y2 := by simpa [Value.cells, Try.cells80] using h2
    have g3 : DataW.trod enc Try.prog w base spare held n 81 [c3, c4, c5, c6] = some y3 := by simpa [Value.cells, Try.cells4] using h3
    obtain ⟨A, l, c, cols, e0, r0, n0⟩ := open_list (fun q : B4 => (ints4 q).map (Value.int .u8)) (fun xs => xs.flatMap fun q => (ints4 q).map (Value.int .u8)) (fun xs => flatC_length _ 4 (fun _ => rfl) xs) (fun xs k j h hj => flatC_at _ 4 (fun _ => rfl) xs k j h hj) Try.underlying79 Try.cells4 (by omega) (fun h => trod_b4 h) g0
    obtain ⟨b, e1, _, wb⟩ := DataW.trod_int Try.underlying5 g1
    obtain ⟨K, m, dd, crk, e2, r2, n2⟩ := open_list (fun q : B6 => (ints6 q).map (Value.int .u8)) (fun xs => xs.flatMap fun q => (ints6 q).map (Value.int .u8)) (fun xs => flatC_length _ 6 (fun _ => rfl) xs) (fun xs k j h hj => flatC_at _ 6 (fun _ => rfl) xs k j h hj) Try.underlying80 Try.cells6 (by omega) (fun h => trod_b6 h) g2
    obtain ⟨⟨⟨a0, a1, a2, a3⟩, q0, q1, q2, q3⟩, e3⟩ := trod_b4 g3
    rw [flat_map] at r0 r2
    simp only [List.cons.injEq, and_true, ints4, List.map_cons, List.map_nil] at e0 e1 e2 e3
    obtain ⟨rfl, rfl, rfl, rfl⟩ := e3
    subst e0 e1 e2
    exact ⟨⟨A, K, l, c, m, dd, b, cols.flatMap ints4, crk.flatMap ints6, a0, a1, a2, a3⟩, rfl, r0, r2, ints4_byte, ints6_byte, byte_of wb, q0, q1, q2, q3, n0, n2⟩
end
end Go.Proofs.Ytiflhimmieflpaa

namespace Go.Proofs.Ytiflhimmieflpaa
open Go.ChangeShapes Go.WideShapes Go.ChangeAt Go.RowKit Go.Deep Go.Joins

section
variable {H : Type} {enc : TypeId × Value → H} {w : World} {base : Nat} {spare : Nat → Bool} {held : Bool}
theorem trod_byte {fuel : Nat} {cs : List Value} {x : DataW H × List MemPlace} (h : DataW.trod enc Try.prog w base spare held fuel 5 cs = some x) : ∃ q : { b : Int // Byte b }, cs = [Value.int .u8 q.1] := by
  obtain ⟨a0, e0, _, f0⟩ := DataW.trod_int Try.underlying5 h
  exact ⟨⟨a0, byte_of f0⟩, e0⟩
instance : Inhabited { b : Int // Byte b } := ⟨⟨0, byte0⟩⟩
theorem bytes_flat (xs : List { b : Int // Byte b }) : (xs.flatMap fun q => [Value.int .u8 q.1]) = (xs.map (·.1)).map (Value.int .u8) := by
  induction xs with
  | nil => rfl
  | cons a r ih => rw [List.flatMap_cons, ih]; rfl
set_option maxRecDepth 100000 in
theorem open_bytes {r : Reach} {b0 : Nat} {v : Value} {d : DataW H} {p : List MemPlace} (hv : Value.okWide Try.prog w r b0 93 v) (h : DataW.Trod enc Try.prog w base spare held 93 v d p) : ∃ (B : Option Addr) (m c : Nat) (xs : List Int), v = .slice B m c ∧ Reads w 1 B m (xs.map (Value.int .u8)) ∧ (∀ v ∈ xs, Byte v) ∧ m ≤ maxLen := by
  obtain ⟨a, l, cap, rfl⟩ := okWide_slice Try.underlying93 hv
  obtain ⟨fuel, hf⟩ := h
  obtain ⟨B, m, c, xs, e, r0, n0⟩ := open_list (fun q : { b : Int // Byte b } => [Value.int .u8 q.1]) (fun xs => xs.flatMap fun q => [Value.int .u8 q.1]) (fun xs => flatC_length _ 1 (fun _ => rfl) xs) (fun xs k j h hj => flatC_at _ 1 (fun _ => rfl) xs k j h hj) Try.underlying93 Try.cellsU8 (by omega) (fun h => trod_byte h) hf
  rw [bytes_flat] at r0
  simp only [Value.cells, List.cons.injEq, and_true] at e
  exact ⟨B, m, c, xs.map (·.1), e, r0, fun v hv => by
    obtain ⟨q, _, rfl⟩ := List.mem_map.1 hv
    exact q.2, n0⟩
end
end Go.Proofs.Ytiflhimmieflpaa

namespace Go.Proofs.Ytiflhimmieflpaa.toothNoMore
open Go.ChangeShapes Go.WideShapes Go.ChangeAt Go.RowKit

set_option maxRecDepth 100000 in
theorem lifted (os : Os) (started : os.Started) (H : Type) (enc : TypeId × Value → H) :
    ReturnsInHanded {} Try.checked os 14 .any (Rows.toothNoMoreSpec.pre6 enc Try.prog Try.f14 Rows.toothNoMoreRow.domain false) (Rows.toothNoMoreSpec.post enc Try.prog Try.f14 false true false false) := by
  refine returnsInHanded_of_change (C := Try.checked) Try.own started (by kernel_rfl) Try.func14
    (ChangeSpec.witness6 (enc := enc) (C := Try.checked) false ⟨#[], #[.agg #[.slice none 0 0, .int .u8 0, .slice none 0 0, .int .u8 0, .int .u8 0, .int .u8 0, .int .u8 0], .slice none 0 0, .int .u8 0], []⟩ 8 (by kernel_rfl) (by kernel_rfl) (by kernel_rfl) (by kernel_rfl)) ?_
  intro W base args ds gs before hval0 hW hcnd _
  have hval : ∀ (j : Nat) t v, Try.f14.params[j]? = some t → args[j]? = some v → Value.okWide Try.prog W .any base t v := hval0
  have hW' := hW
  obtain ⟨p, q, hA0, hV, rfl, hfz, hnd⟩ := hW
  have hA : DataW.TrodAll enc Try.prog W 0 (fun _ => true) true Try.f14.params.toList args.toList ds p := hA0
  rw [Try.params14] at hA hval
  obtain ⟨v0, v1, v2, d0, d1, d2, p0, p1, p2, rfl, rfl, rfl, h0, h1, h2⟩ := trodAll_three hA
  obtain ⟨rfl, rfl⟩ := trodVars_none hV
  obtain ⟨T, rfl, hat⟩ := open_tusk (hval 0 83 v0 rfl rfl) h0
  obtain ⟨K1, bm, bd, xs, rfl, hB, hxb, hbm⟩ := open_bytes (hval 1 93 v1 rfl rfl) h1
  obtain ⟨mx, rfl, _, _, wx⟩ := open_int Try.underlying5 (hval 2 5 v2 rfl rfl) h2
  clear hA0 hval0
  simp only [List.append_nil, List.append_assoc] at hW'
  have hlt : ∀ y ∈ p0 ++ (p1 ++ p2), y.block < W.heap.size := fun y hy => by simpa using hW'.lt y hy
  refine (ToothNoMore_any T K1 bm bd xs mx W hat (Lib.hid hB) (Lib.hid hxb) (Lib.hid hbm) (Lib.hid (byte_of wx))).mono fun e W' ⟨he, hb⟩ => ?_
  subst he
  exact ⟨_, rfl, _, _, _, [], p0 ++ (p1 ++ p2), [], hW', trodAll_mk1 (shut_bool Try.underlying4 true), trodAll_mk3 (Below.trod Try.laidOut (by kernel_rfl) (of_decide_eq_true (by kernel_rfl)) h0 hb (fun y hy => hlt y (by simp [hy]))) (Below.trod Try.laidOut (by kernel_rfl) (of_decide_eq_true (by kernel_rfl)) h1 hb (fun y hy => hlt y (by simp [hy]))) (Below.trod Try.laidOut (by kernel_rfl) (of_decide_eq_true (by kernel_rfl)) h2 hb (fun y hy => hlt y (by simp [hy]))), rfl, hb.frame _, fun h => by cases h⟩

theorem over : Rows.toothNoMoreRow.holds Try.pinned (OpenSpec.ofChange Rows.toothNoMoreSpec) :=
  OpenClaim.holds_of_wide 14 Try.f14 rfl rfl rfl rfl rfl rfl rfl ⟨rfl, rfl, rfl, rfl, rfl⟩ rfl rfl rfl rfl rfl (by kernel_rfl) Try.func14 (by kernel_rfl)
    (of_decide_eq_true (by kernel_rfl)) (by unfold Func.isWrapper; first | (rw [if_pos (by decide +kernel)]; kernel_rfl) | (rw [if_neg (by decide +kernel)]; exact ⟨rfl, rfl⟩))
    (fun os started H enc _ => lifted os started H enc)
end Go.Proofs.Ytiflhimmieflpaa.toothNoMore
namespace Go.Proofs.Ytiflhimmieflpaa
/-- The statement. -/
theorem nomore_holds : Rows.ToothNoMoreSaid := toothNoMore.over
#print axioms nomore_holds
end Go.Proofs.Ytiflhimmieflpaa
