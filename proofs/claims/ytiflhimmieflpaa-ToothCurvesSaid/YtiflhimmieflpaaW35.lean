/- Memory: an append of a list onto an empty one; what is read lies in new blocks. -/
import Derived.Test.YtiflhimmieflpaaW34
import Derived.ArgAppend
namespace Go.Proofs.Ytiflhimmieflpaa
open Go.RowKit Go.Maps

/-- The slice reads as xs, in a block from base on. -/
structure NR (base : Nat) (w : World) (size : Nat) (A : Option Addr) (n : Nat) (xs : List Value) : Prop where
  r : Reads w size A n xs
  far : 0 < n → ∀ b o, A = some ⟨b, o, none⟩ → base ≤ b
theorem NR.below {base : Nat} {w w' : World} {size n : Nat} {A : Option Addr} {xs : List Value} (h : NR base w size A n xs) (hb : Below w.heap.size w w') : NR base w' size A n xs := ⟨h.r.below hb, h.far⟩
theorem NR.alloc {base : Nat} {w : World} {size n : Nat} {A : Option Addr} {xs : List Value} (h : NR base w size A n xs) (o : Obj) : NR base (w.alloc o) size A n xs := h.below (below_self w o)
theorem NR.setCell {base : Nat} {w : World} {size n : Nat} {A : Option Addr} {xs : List Value} (h : NR base w size A n xs) {p : Addr} (hp : p.block < base) (u : Value) : NR base (w.setCell p u) size A n xs := by
  refine ⟨⟨h.r.1, fun hn => ?_⟩, h.far⟩
  obtain ⟨b, o, e, hb, hc⟩ := h.r.2 hn
  have hbb := h.far hn b o e
  exact ⟨b, o, e, by simpa using hb, fun j v hv => (World.cell?_setCell_other _ _ _ _ (fun e => by subst e; simp at hp; omega)).trans (hc j v hv)⟩
theorem reads_of_own {w : World} {base : Nat} {e : TypeId} {size n cap : Nat} {A : Option Addr} {xs : List Value} (h : w.ownsRow base e size (.slice A n cap) n xs) : NR base w size A n xs := by
  refine ⟨⟨h.1, fun hn => ?_⟩, fun hn b o hA => ?_⟩
  · obtain ⟨g, cap', hv⟩ := own_form h hn
    simp only [Value.slice.injEq, true_and] at hv
    obtain ⟨rfl, _⟩ := hv
    obtain ⟨cs, hB, h1, h2, h3, h4, h5⟩ := own_blk h
    refine ⟨g, 0, rfl, hB.lt, fun j u hu => ?_⟩
    have hj : j < xs.length := by
      rcases Nat.lt_or_ge j xs.length with hl | hl
      · exact hl
      · rw [List.getElem?_eq_none hl] at hu; cases hu
    rw [Nat.zero_add, hB.cell j, cs_at h3 j hj, hu]
  · obtain ⟨g, cap', hv⟩ := own_form h hn
    simp only [Value.slice.injEq, true_and] at hv
    obtain ⟨rfl, _⟩ := hv
    obtain ⟨cs, hB, h1, h2, h3, h4, h5⟩ := own_blk h
    simp only [Option.some.injEq, Addr.mk.injEq, and_true] at hA
    omega
theorem grown_none {w w' : World} (h : w.grownBy w' none) : Below w.heap.size w w' := ⟨h.os, h.tape, h.output, h.size, fun k hk => h.block k hk (by simp)⟩
theorem run_append_copy {P : Program} (w : World) (t ty e : TypeId) (i : TypeInfo) (z : Value) (size bytes : Nat) (ht : P.underlying t = some (.slice e)) (hi : P.info? e = some i) (hz : i.zero = some z) (hs : i.size = size) (hby : i.bytes = bytes) (hzs : z.cells.size = size) (h0 : 0 < size)
    (g : Nat) (A : Option Addr) (n c : Nat) (xs : List Value) (hr : Reads w size A n xs) (hn : n ≤ maxLen) (hb : n * bytes ≤ 140737488355328) :
    ∃ A' c' w', (Builtin.append_ #[t, t] ty #[.slice (some ⟨g, 0, none⟩) 0 0, .slice A n c]).run P w = .ok (.slice A' n c') w' ∧ NR w.heap.size w' size A' n xs ∧ Below w.heap.size w w' := by
  rcases Nat.eq_zero_or_pos n with rfl | hpos
  · have hx : xs = [] := List.eq_nil_of_length_eq_zero (by have := hr.1; omega)
    subst hx
    refine ⟨some ⟨g, 0, none⟩, 0, w, ?_, ⟨⟨by simp, fun h => absurd h (by omega)⟩, fun h => absurd h (by omega)⟩, Below.refl _ _⟩
    cases A with
    | none => simp [Builtin.append_, run_underlying ht, sizeOf, typeInfo, hi, Builtin.lenOf, Builtin.firstCells, storeCells]
    | some ad => simp [Builtin.append_, run_underlying ht, sizeOf, typeInfo, hi, Builtin.lenOf, Builtin.firstCells, storeCells, loadCells, loadCellsFrom]
  · obtain ⟨b, o, rfl, hlt, hc⟩ := hr.2 hpos
    obtain ⟨v', w', hrun, hown, hgr⟩ := run_append_arg_grows (P := P) w t ty e i z size bytes ht hi hz hs hby hzs h0 ⟨g, 0, none⟩ 0 0 [] (by simp) (by simp) ⟨b, o, none⟩ n c xs hr.1 (fun j u hu => by rw [addr_add]; exact hc j u hu) (by omega) (by omega) (by rw [Nat.zero_add]; exact hb)
    simp only [Nat.zero_add, List.nil_append] at hown
    obtain ⟨g', cap', rfl⟩ := own_form hown hpos
    exact ⟨_, _, w', hrun, reads_of_own hown, grown_none hgr⟩
/-- The same as one step of a region that draws. -/
theorem step_append_copy {P : Program} {ops : Array Oper} {o : Oper} {a : Act} {w : World} {K : Act → World → Prop} {Q : Exit → Act → World → Prop} {E : Prop}
    (hg : o.guard = none) (s x : Operand) (t : TypeId) (hop : o.op = Op.call { callee := Callee.builtin Builtin.append, args := #[s, x], argTypes := #[t, t] })
    (e : TypeId) (i : TypeInfo) (z : Value) (size bytes : Nat) (ht : P.underlying t = some (.slice e)) (hi : P.info? e = some i) (hz : i.zero = some z) (hsz : i.size = size) (hby : i.bytes = bytes) (hzs : z.cells.size = size) (h0 : 0 < size)
    (g : Nat) (hs : a.eval s = .slice (some ⟨g, 0, none⟩) 0 0) (A : Option Addr) (n c : Nat) (hx : a.eval x = .slice A n c) (xs : List Value) (hr : Reads w size A n xs) (hn : n ≤ maxLen) (hb : n * bytes ≤ 140737488355328)
    (hK : ∀ A' c' w', NR w.heap.size w' size A' n xs → Below w.heap.size w w' → K (a.put o.dst (.slice A' n c')) w') :
    if Region.wanted o (yielded ops a.tmps) = true then Oper.wp P o a w K Q else E := by
  have hw : Region.wanted o (yielded ops a.tmps) = true := by simp [Region.wanted, hg]
  rw [if_pos hw]
  obtain ⟨A', c', w', hrun, h1, h2⟩ := run_append_copy (P := P) w t o.type e i z size bytes ht hi hz hsz hby hzs h0 g A n c xs hr hn hb
  unfold Oper.wp
  simp [execOp, hop, resolve, invoke, builtin, hs, hx, hrun, Result.andThen]
  exact hK A' c' w' h1 h2
end Go.Proofs.Ytiflhimmieflpaa
