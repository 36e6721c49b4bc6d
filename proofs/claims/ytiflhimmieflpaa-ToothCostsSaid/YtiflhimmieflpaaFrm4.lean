/- The frame of a law's row: a blade, opened, whose cracks have room for their number. -/
import Derived.Test.YtiflhimmieflpaaFrm2
namespace Go.Proofs.Ytiflhimmieflpaa
open Go.ChangeShapes Go.WideShapes Go.ChangeAt Go.RowKit Go.Deep Go.Joins
section
variable {H : Type} {enc : TypeId × Value → H} {w : World} {base : Nat} {spare : Nat → Bool} {held : Bool} {fuel : Nat} {cs : List Value} {x : DataW H × List MemPlace}
/-- A slice of structs, each of them opened by 'op'. -/
theorem open_list2 {t e : TypeId} {size : Nat} {α : Type} [Inhabited α] (F : α → List Value) (fl : List α → List Value) (hfl : ∀ xs, (fl xs).length = xs.length * size) (hat : ∀ xs k j (h : k < xs.length), j < size → (fl xs)[k * size + j]? = (F xs[k])[j]?)
    (ht : Try.prog.underlying t = some (.slice e)) (hsz : Try.prog.cellsOf e = size) (h0 : 0 < size) (op : ∀ {n : Nat} {cs : List Value} {y : DataW H × List MemPlace}, DataW.trod enc Try.prog w base spare held n e cs = some y → ∃ z, cs = F z)
    (h : DataW.trod enc Try.prog w base spare held fuel t cs = some x) : ∃ (A : Option Addr) (n c : Nat) (xs : List α), cs = [.slice A n c] ∧ Reads w size A n (fl xs) ∧ n ≤ maxLen ∧ n ≤ c := by
  rcases open_slice ht h with ⟨rfl, _⟩ | ⟨a, len, cap, m, n, D, Pl, rfl, hb, hl, hm, hmm, hx, hi⟩
  · exact ⟨none, 0, 0, [], rfl, ⟨by rw [hfl]; rfl, fun h => absurd h (by omega)⟩, Nat.zero_le _, Nat.le_refl _⟩
  · have hlm : len ≤ m := by rw [hmm]; split <;> omega
    have key : ∀ i, i < len → ∃ z, ∀ j, j < size → w.cell? (a.add (i * size + j)) = (F z)[j]? ∧ (F z).length = size := fun i hil => by
      obtain ⟨cs', hc, ht'⟩ := hi i (by omega)
      rw [hsz] at hc
      obtain ⟨z, rfl⟩ := op ht'
      obtain ⟨_, hl, hc⟩ := World.cells?_some hc
      exact ⟨z, fun j hj => ⟨by rw [← Go.Deep.add_add]; exact hc j hj, hl⟩⟩
    obtain ⟨Z, hZ⟩ := choose_lt key
    refine ⟨some a, len, cap, (List.range len).map Z, rfl, ⟨by rw [hfl]; simp, fun hn => ?_⟩, Nat.le_trans hl hm, hl⟩
    obtain ⟨b, off, spot⟩ := a
    have h00 := hZ 0 hn 0 h0
    have hsome : ∃ v, (F (Z 0))[0]? = some v := ⟨_, List.getElem?_eq_getElem (by omega)⟩
    obtain ⟨v, hv⟩ := hsome
    rw [hv] at h00
    have hspot : spot = none := by simpa [Addr.add] using World.cell?_spot h00.1
    subst hspot
    refine ⟨b, off, rfl, ?_, fun j u hu => ?_⟩
    · have := lt_of_cell h00.1
      simpa [Addr.add] using this
    · have hj : j < len * size := by
        have := (List.getElem?_eq_some_iff.1 hu).1
        rw [hfl] at this; simpa using this
      have hd : j / size < len := Nat.div_lt_of_lt_mul (by rw [Nat.mul_comm]; exact hj)
      have hr : j % size < size := Nat.mod_lt _ h0
      have he : j = j / size * size + j % size := by rw [Nat.mul_comm]; exact (Nat.div_add_mod j size).symm
      have h1 := (hZ (j / size) hd (j % size) hr).1
      have h2 := hat ((List.range len).map Z) (j / size) (j % size) (by simpa using hd) hr
      rw [← he] at h1 h2
      rw [hu] at h2
      rw [addr_add] at h1
      rw [h1]
      simpa using h2.symm
set_option maxRecDepth 100000 in
theorem open_blade2 {r : Reach} {b0 : Nat} {v : Value} {d : DataW H} {p : List MemPlace} (hv : Value.okWide Try.prog w r b0 25 v) (h : DataW.Trod enc Try.prog w base spare held 25 v d p) : ∃ B : Bl, v = B.val ∧ B.At w ∧ B.m ≤ B.d := by
  obtain ⟨c0, c1, c2, c3, y0, y1, y2, y3, m, rfl, _, _, h0, h1, h2, h3⟩ := open_agg4 Try.underlying25 (by kernel_rfl) Try.cellsBlade hv h
  obtain ⟨A, n, c, bot, e0, r0, n0⟩ := open_list (fun s : Int × Int => [Value.int .i64 s.1, .int .i64 s.2]) flat2 flat2_length spans_at Try.underlying22 Try.cellsSpan (by omega) (fun h => by obtain ⟨a, b, e⟩ := trod_span h; exact ⟨(a, b), e⟩) h0
  obtain ⟨A', n', c', top, e1, r1, n1⟩ := open_list (fun s : Int × Int => [Value.int .i64 s.1, .int .i64 s.2]) flat2 flat2_length spans_at Try.underlying22 Try.cellsSpan (by omega) (fun h => by obtain ⟨a, b, e⟩ := trod_span h; exact ⟨(a, b), e⟩) h1
  obtain ⟨bend, e2, _⟩ := DataW.trod_int Try.underlying3 h2
  obtain ⟨K, mm, dd, cr, e3, r3, n3, c3⟩ := open_list2 Crack.cells flat6 flat6_length (fun xs k j h hj => flat6_at xs k j h hj) Try.underlying23 Try.cellsCrack (by omega) (fun h => trod_crack h) h3
  simp only [List.cons.injEq, and_true] at e0 e1 e2 e3
  subst e0 e1 e2 e3
  exact ⟨⟨A, A', K, n, c, n', c', mm, dd, bend, bot, top, cr⟩, rfl, ⟨r0, r1, r3, n0, n1, n3⟩, c3⟩
end
end Go.Proofs.Ytiflhimmieflpaa
