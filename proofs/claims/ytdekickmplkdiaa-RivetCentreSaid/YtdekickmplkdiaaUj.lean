/- Lists of lists of ints. -/
import Derived.Test.YtdekickmplkdiaaKs
namespace Go.Proofs.Ytdekickmplkdiaa
open Go.RowKit

theorem Reads.keepBy {w w' : World} {size n : Nat} {A : Option Addr} {xs : List Value} (h : Reads w size A n xs) (hk : ∀ b o, A = some ⟨b, o, none⟩ → 0 < n → b < w.heap.size → b < w'.heap.size ∧ w'.heap[b]? = w.heap[b]?) : Reads w' size A n xs :=
  ⟨h.1, fun hn => by
    obtain ⟨b, off, e, hlt, hc⟩ := h.2 hn
    obtain ⟨h1, h2⟩ := hk b off e hn hlt
    exact ⟨b, off, e, h1, fun j u hu => (World.cell?_of_block (w := w) (a := ⟨b, off + j, none⟩) h2).trans (hc j u hu)⟩⟩
theorem reads_one {W : World} {g : Nat} {t : TypeId} {v : Value} (h : Blk W g t #[v]) : Reads W 1 (some ⟨g, 0, none⟩) 1 [v] := by
  refine ⟨rfl, fun _ => ⟨g, 0, rfl, h.lt, fun j u hj => ?_⟩⟩
  rw [Nat.zero_add, h.cell]
  simpa using hj
theorem Try.infoInts : (Try.prog.info? 54).map (fun i => (i.zero, i.size, i.bytes)) = some (some (.slice none 0 0), 1, 24) := by kernel_rfl
/-- A slice value reads as a list of ints, in a block of ints. -/
def IntRow (W : World) (v : Value) (xs : List Int) : Prop := ∃ A c, v = .slice A xs.length c ∧ Ints W A xs.length xs ∧ (0 < xs.length → ∃ b o cs, A = some ⟨b, o, none⟩ ∧ Blk W b 3 cs)
/-- A slice value reads as lists of ints. -/
def Lists (base : Nat) (W : World) (v : Value) (ls : List (List Int)) : Prop := ∃ vs, W.ownsRow base 54 1 v ls.length vs ∧ ∀ i, i < ls.length → ∃ u, vs[i]? = some u ∧ IntRow W u (ls.getD i [])
section
variable {W W' : World} {base base' : Nat} {u v : Value} {xs : List Int} {ls ls' : List (List Int)}
theorem IntRow.below (h : IntRow W v xs) (hb : Below W.heap.size W W') : IntRow W' v xs := by
  obtain ⟨A, c, rfl, hi, ht⟩ := h
  exact ⟨A, c, rfl, hi.below hb, fun hn => by obtain ⟨b, o, cs, e, hk⟩ := ht hn; exact ⟨b, o, cs, e, blk_keep hb hk⟩⟩
theorem IntRow.grown {n : Nat} {ys : List Value} (h : IntRow W v xs) (ho : W.ownsRow base 54 1 u n ys) (hg : W.grownBy W' u.ownBlock) : IntRow W' v xs := by
  obtain ⟨A, c, rfl, hi, ht⟩ := h
  refine ⟨A, c, rfl, ?_, fun hn => ?_⟩
  · refine Reads.keepBy hi fun b o e hn hb => ?_
    obtain ⟨b', o', cs, e', hk⟩ := ht hn
    rw [e] at e'; cases e'
    exact ⟨Nat.lt_of_lt_of_le hb hg.size, hg.block b hb (fun e2 => own_blk_ne ho hk (by decide) e2.symm)⟩
  · obtain ⟨b, o, cs, e, hk⟩ := ht hn
    exact ⟨b, o, cs, e, hk.grown hg (own_blk_ne ho hk (by decide))⟩
theorem Lists.below (h : Lists base W v ls) (hb : Below W.heap.size W W') : Lists base W' v ls := by
  obtain ⟨vs, ho, hi⟩ := h
  exact ⟨vs, ownsRow_below ho hb, fun i hl => by obtain ⟨u, e, hr⟩ := hi i hl; exact ⟨u, e, hr.below hb⟩⟩
theorem Lists.lower (h : Lists base W v ls) (hb : base' ≤ base) : Lists base' W v ls := by
  obtain ⟨vs, ho, hi⟩ := h
  exact ⟨vs, own_base ho hb, hi⟩
/-- Behind an append of lists to lists. -/
theorem Lists.append {b2 : Nat} {vs vs' : List Value} {u' : Value} (ho : W.ownsRow base 54 1 u ls.length vs) (hi : ∀ i, i < ls.length → ∃ z, vs[i]? = some z ∧ IntRow W z (ls.getD i [])) (hi' : ∀ i, i < ls'.length → ∃ z, vs'[i]? = some z ∧ IntRow W z (ls'.getD i []))
    (hl : vs.length = ls.length) (hg : W.grownBy W' u.ownBlock) (ho' : W'.ownsRow b2 54 1 u' (ls.length + ls'.length) (vs ++ vs')) : Lists b2 W' u' (ls ++ ls') := by
  refine ⟨vs ++ vs', by rw [List.length_append]; exact ho', fun i hlt => ?_⟩
  rw [List.length_append] at hlt
  by_cases hc : i < ls.length
  · obtain ⟨z, e, hr⟩ := hi i hc
    refine ⟨z, by rw [List.getElem?_append_left (by omega)]; exact e, ?_⟩
    have e2 : (ls ++ ls').getD i [] = ls.getD i [] := by simp [List.getD, List.getElem?_append_left hc]
    rw [e2]; exact hr.grown ho hg
  · obtain ⟨z, e, hr⟩ := hi' (i - ls.length) (by omega)
    refine ⟨z, by rw [List.getElem?_append_right (by omega), hl]; exact e, ?_⟩
    have e2 : (ls ++ ls').getD i [] = ls'.getD (i - ls.length) [] := by simp [List.getD, List.getElem?_append_right (show ls.length ≤ i by omega)]
    rw [e2]; exact hr.grown ho hg
theorem Lists.nil (W : World) : Lists base W (.slice none 0 0) [] := ⟨[], World.ownsRow_nil _ _ _ _, fun i h => absurd h (by simp)⟩
theorem Lists.at_ (h : Lists base W v ls) {i : Nat} (hi : i < ls.length) : ∃ g cap u, v = .slice (some ⟨g, 0, none⟩) ls.length cap ∧ W.cell? ⟨g, i, none⟩ = some u ∧ IntRow W u (ls.getD i []) := by
  obtain ⟨vs, ho, hr⟩ := h
  obtain ⟨u, e, hu⟩ := hr i hi
  obtain ⟨g, cap, rfl⟩ := own_form ho (by omega)
  exact ⟨g, cap, u, rfl, by rw [ho.cellAt i (by omega)]; exact e, hu⟩
end
theorem intRow_of_own {W : World} {base : Nat} {v : Value} {xs : List Int} (h : W.ownsRow base 3 1 v xs.length (xs.map (Value.int .i64))) : IntRow W v xs := by
  obtain ⟨A, c, rfl⟩ := own_slice h
  refine ⟨A, c, rfl, (reads_of_own h).r, fun hn => ?_⟩
  obtain ⟨g, cap, e⟩ := own_form h hn
  simp only [Value.slice.injEq, true_and] at e
  obtain ⟨rfl, rfl⟩ := e
  obtain ⟨cs, hk, _⟩ := own_blk h
  exact ⟨g, 0, cs, rfl, hk⟩
end Go.Proofs.Ytdekickmplkdiaa
