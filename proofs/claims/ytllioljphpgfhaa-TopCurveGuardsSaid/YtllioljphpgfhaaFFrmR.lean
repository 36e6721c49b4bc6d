/- What is needed of FrmR. -/
import Derived.Test.YtllioljphpgfhaaRUd
import Derived.Test.YtllioljphpgfhaaRows
import Derived.Test.YtllioljphpgfhaaFKa
import Derived.Deep.RegionHeld3
import Derived.ProofKit
import Derived.Deep.Slices
import Derived.Lib.SmallJoins
namespace Go.Proofs.Ytllioljphpgfhaa
open Go.ChangeShapes Go.WideShapes Go.ChangeAt Go.RowKit Go.Deep Go.Joins
theorem Try.own : ownKnob Try.prog.godebug = none := by kernel_rfl
theorem Try.laidOut : laidOutB Try.prog = true := by kernel_rfl
section
variable {H : Type} {enc : TypeId × Value → H} {w : World} {base : Nat} {spare : Nat → Bool} {held : Bool} {fuel : Nat} {cs : List Value} {x : DataW H × List MemPlace}
/-- A slice of structs, each of them opened by 'op'. -/
theorem open_list2 {t e : TypeId} {size : Nat} {α : Type} [Inhabited α] (F : α → List Value) (fl : List α → List Value) (hfl : ∀ xs, (fl xs).length = xs.length * size) (hat : ∀ xs k j (h : k < xs.length), j < size → (fl xs)[k * size + j]? = (F xs[k])[j]?)
    (ht : Try.prog.underlying t = some (.slice e)) (hsz : Try.prog.cellsOf e = size) (h0 : 0 < size) (op : ∀ {n : Nat} {cs : List Value} {y : DataW H × List MemPlace}, DataW.trod enc Try.prog w base spare held n e cs = some y → ∃ z, cs = F z)
    (h : DataW.trod enc Try.prog w base spare held fuel t cs = some x) : ∃ (A : Option Addr) (n c : Nat) (xs : List α), cs = [.slice A n c] ∧ Reads w size A n (fl xs) ∧ n ≤ maxLen ∧ n ≤ c := by
  rcases open_slice ht h with ⟨rfl, _⟩ | ⟨a, len, cap, m, n, D, Pl, rfl, hb, hl, hm, hmm, hx, hi⟩
  · exact ⟨none, 0, 0, [], rfl, ⟨by rw [hfl]; rfl, fun h => absurd h (by omega)⟩, Nat.zero_le _, Nat.le_refl _⟩
  · have hlm : len ≤ m := by rw [hmm]; split <;> omega
    have key : ∀ i, i < len → ∃ z, ∀ j, j < size → w.cell? (a.add (i * size + j)) = (F z)[j]? ∧ (F z).length = size := fun i hil => by
      obtain ⟨cs', hc, ht'⟩ := hi i (by omega)
      rw [hsz] at hc
      obtain ⟨z, rfl⟩ := op ht'
      obtain ⟨_, hl, hc⟩ := World.cells?_some hc
      exact ⟨z, fun j hj => ⟨by rw [← Go.Deep.add_add]; exact hc j hj, hl⟩⟩
    obtain ⟨Z, hZ⟩ := choose_lt key
    refine ⟨some a, len, cap, (List.range len).map Z, rfl, ⟨by rw [hfl]; simp, fun hn => ?_⟩, Nat.le_trans hl hm, hl⟩
    obtain ⟨b, off, spot⟩ := a
    have h00 := hZ 0 hn 0 h0
    have hsome : ∃ v, (F (Z 0))[0]? = some v := ⟨_, List.getElem?_eq_getElem (by omega)⟩
    obtain ⟨v, hv⟩ := hsome
    rw [hv] at h00
    have hspot : spot = none := by simpa [Addr.add] using World.cell?_spot h00.1
    subst hspot
    refine ⟨b, off, rfl, ?_, fun j u hu => ?_⟩
    · have := lt_of_cell h00.1
      simpa [Addr.add] using this
    · have hj : j < len * size := by
        have := (List.getElem?_eq_some_iff.1 hu).1
        rw [hfl] at this; simpa using this
      have hd : j / size < len := Nat.div_lt_of_lt_mul (by rw [Nat.mul_comm]; exact hj)
      have hr : j % size < size := Nat.mod_lt _ h0
      have he : j = j / size * size + j % size := by rw [Nat.mul_comm]; exact (Nat.div_add_mod j size).symm
      have h1 := (hZ (j / size) hd (j % size) hr).1
      have h2 := hat ((List.range len).map Z) (j / size) (j % size) (by simpa using hd) hr
      rw [← he] at h1 h2
      rw [hu] at h2
      rw [addr_add] at h1
      rw [h1]
      simpa using h2.symm
end
end Go.Proofs.Ytllioljphpgfhaa
