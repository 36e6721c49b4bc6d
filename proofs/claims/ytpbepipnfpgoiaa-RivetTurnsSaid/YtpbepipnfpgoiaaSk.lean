/- Walks: the reference's Copy, with what it owns; Wide, Widen. -/
import Derived.Test.YtpbepipnfpgoiaaSe
import Derived.Test.YtpbepipnfpgoiaaRl
namespace Go.Proofs.Ytpbepipnfpgoiaa
open Go.RowKit

section
variable {base : Nat} {w w' : World} {A : Option Addr} {n : Nat} {xs : List Gap}
theorem OwnG.below (h : OwnG base w A n xs) (hb : Below w.heap.size w w') : OwnG base w' A n xs :=
  ⟨h.1.below hb, fun h0 => by obtain ⟨g, e, h1, h2⟩ := h.2 h0; exact ⟨g, e, h1, h2.below hb⟩⟩
theorem OwnG.alloc (h : OwnG base w A n xs) (o : Obj) : OwnG base (w.alloc o) A n xs := h.below (below_self w o)
theorem OwnG.less {b : Nat} (h : OwnG base w A n xs) (hb : b ≤ base) : OwnG b w A n xs :=
  ⟨h.1, fun h0 => by obtain ⟨g, e, h1, h2⟩ := h.2 h0; exact ⟨g, e, Nat.le_trans hb h1, h2⟩⟩
theorem OwnG.setCell (h : OwnG base w A n xs) {p : Addr} (hp : p.block < base) (u : Value) : OwnG base (w.setCell p u) A n xs := by
  refine ⟨⟨h.1.1, fun h0 => ?_⟩, fun h0 => ?_⟩
  · obtain ⟨g, e, h1, h2⟩ := h.2 h0
    obtain ⟨b, o, e', hb, hc⟩ := h.1.2 h0
    have eb : b = g := by rw [e] at e'; simp at e'; exact e'.1.symm
    subst eb
    exact ⟨b, o, e', by simpa using hb, fun j v hv => (World.cell?_setCell_other _ _ _ _ (fun e => by subst e; simp at hp; omega)).trans (hc j v hv)⟩
  · obtain ⟨g, e, h1, h2⟩ := h.2 h0
    exact ⟨g, e, h1, h2.far (fun e => by omega) u⟩
end
theorem run_append_copyG {P : Program} (w : World) (t ty : TypeId) (i : TypeInfo) (z : Value) (bytes : Nat) (ht : P.underlying t = some (.slice 42)) (hi : P.info? 42 = some i) (hz : i.zero = some z) (hs : i.size = 4) (hby : i.bytes = bytes) (hzs : z.cells.size = 4)
    (g : Nat) (A : Option Addr) (n c : Nat) (xs : List Gap) (hr : Gaps w A n xs) (hn : n ≤ maxLen) (hb : n * bytes ≤ 140737488355328) :
    ∃ A' c' w', (Builtin.append_ #[t, t] ty #[.slice (some ⟨g, 0, none⟩) 0 0, .slice A n c]).run P w = .ok (.slice A' n c') w' ∧ OwnG w.heap.size w' A' n xs ∧ Below w.heap.size w w' := by
  rcases Nat.eq_zero_or_pos n with rfl | hpos
  · have hx : xs = [] := List.eq_nil_of_length_eq_zero hr.len
    subst hx
    refine ⟨some ⟨g, 0, none⟩, 0, w, ?_, ⟨⟨by simp [flatG], fun h => absurd h (by omega)⟩, fun h => absurd h (by omega)⟩, Below.refl _ _⟩
    cases A with
    | none => simp [Builtin.append_, run_underlying ht, sizeOf, typeInfo, hi, Builtin.lenOf, Builtin.firstCells, storeCells]
    | some ad => simp [Builtin.append_, run_underlying ht, sizeOf, typeInfo, hi, Builtin.lenOf, Builtin.firstCells, storeCells, loadCells, loadCellsFrom]
  · obtain ⟨b, o, rfl, hlt, hc⟩ := hr.2 hpos
    obtain ⟨v', w', hrun, hown, hgr⟩ := run_append_arg_grows (P := P) w t ty 42 i z 4 bytes ht hi hz hs hby hzs (by decide) ⟨g, 0, none⟩ 0 0 [] (by simp) (by simp) ⟨b, o, none⟩ n c (flatG xs) hr.1 (fun j u hu => by rw [addr_add]; exact hc j u hu) (by omega) (by omega) (by rw [Nat.zero_add]; exact hb)
    simp only [Nat.zero_add, List.nil_append] at hown
    obtain ⟨A', c', rfl, ho⟩ := ownG_of hown
    exact ⟨A', c', w', hrun, ho, grown_none hgr⟩
theorem step_append_copyG {P : Program} {ops : Array Oper} {o : Oper} {a : Act} {w : World} {K : Act → World → Prop} {Q : Exit → Act → World → Prop} {E : Prop}
    (hg : o.guard = none) (s x : Operand) (t : TypeId) (hop : o.op = Op.call { callee := Callee.builtin Builtin.append, args := #[s, x], argTypes := #[t, t] })
    (i : TypeInfo) (z : Value) (bytes : Nat) (ht : P.underlying t = some (.slice 42)) (hi : P.info? 42 = some i) (hz : i.zero = some z) (hsz : i.size = 4) (hby : i.bytes = bytes) (hzs : z.cells.size = 4)
    (g : Nat) (hs : a.eval s = .slice (some ⟨g, 0, none⟩) 0 0) (A : Option Addr) (n c : Nat) (hx : a.eval x = .slice A n c) (xs : List Gap) (hr : Gaps w A n xs) (hn : n ≤ maxLen) (hb : n * bytes ≤ 140737488355328)
    (hK : ∀ A' c' w', OwnG w.heap.size w' A' n xs → Below w.heap.size w w' → K (a.put o.dst (.slice A' n c')) w') :
    if Region.wanted o (yielded ops a.tmps) = true then Oper.wp P o a w K Q else E := by
  have hw : Region.wanted o (yielded ops a.tmps) = true := by simp [Region.wanted, hg]
  rw [if_pos hw]
  obtain ⟨A', c', w', hrun, h1, h2⟩ := run_append_copyG (P := P) w t o.type i z bytes ht hi hz hsz hby hzs g A n c xs hr hn hb
  unfold Oper.wp
  simp [execOp, hop, resolve, invoke, builtin, hs, hx, hrun, Result.andThen]
  exact hK A' c' w' h1 h2
theorem OwnG.set5 {g b : Nat} {W : World} {n : Nat} {A : Option Addr} {xs : List Gap} (h : OwnG b W A n xs) (hb : g < b) (u0 u1 u2 u3 u4 : Value) : OwnG b (((((W.setCell ⟨g, 0, none⟩ u0).setCell ⟨g, 1, none⟩ u1).setCell ⟨g, 2, none⟩ u2).setCell ⟨g, 3, none⟩ u3).setCell ⟨g, 4, none⟩ u4) A n xs :=
  (((((h.setCell (p := ⟨g, 0, none⟩) hb u0).setCell (p := ⟨g, 1, none⟩) hb u1).setCell (p := ⟨g, 2, none⟩) hb u2).setCell (p := ⟨g, 3, none⟩) hb u3).setCell (p := ⟨g, 4, none⟩) hb u4)
def OwnRes (w : World) (f : Fan) (n : Nat) (e : Ending) (w' : World) : Prop := ∃ A c, e = .returned (.agg (fanA f A n c)) ∧ OwnG w.heap.size w' A n f.gs ∧ Below w.heap.size w w'
theorem copy_endG {w W : World} {f : Fan} {n : Nat} {a1 : Option Addr} {a2 : Nat} {c1 c2 : Array Value} {t1 t2 : TypeId} (h : Env2 w W t1 t2 c1 c2) (qa : OwnG (w.heap.size + 1 + 1) W a1 n f.gs) :
    OwnRes w f n (.returned (.agg (fanA f a1 n a2))) (((((W.setCell ⟨w.heap.size + 1, 0, none⟩ (.int .i64 f.a)).setCell ⟨w.heap.size + 1, 1, none⟩ (.int .i64 f.b)).setCell ⟨w.heap.size + 1, 2, none⟩ (.int .i64 f.c)).setCell ⟨w.heap.size + 1, 3, none⟩ (.int .i64 f.d)).setCell ⟨w.heap.size + 1, 4, none⟩ (.slice a1 n a2)) :=
  ⟨a1, a2, rfl, (qa.set5 (Nat.lt_succ_self _) _ _ _ _ _).less (by omega),
    ((((h.bel.setCell (p := ⟨w.heap.size + 1, 0, none⟩) (by simp) _).setCell (p := ⟨w.heap.size + 1, 1, none⟩) (by simp) _).setCell (p := ⟨w.heap.size + 1, 2, none⟩) (by simp) _).setCell (p := ⟨w.heap.size + 1, 3, none⟩) (by simp) _).setCell (p := ⟨w.heap.size + 1, 4, none⟩) (by simp) _⟩
section
attribute [local go_sem ↓] Go.wp_at_zero Go.wp_at_succ
set_option maxRecDepth 100000 in
set_option maxHeartbeats 8000000 in
theorem RefCopy_own (f : Fan) (A : Option Addr) (n c : Nat) (w : World) (h : Gaps w A n f.gs) (hn : n ≤ 1000) :
    Calls Try.prog 18 #[.agg (fanA f A n c)] w (OwnRes w f n) := by
  obtain ⟨i0, hi, hz0, hz1, hz2⟩ := info_parts Try.infoGap
  have HW := Lib.hid (Env2.start w 26 26 (fanA f A n c) #[.int .i64 0, .int .i64 0, .int .i64 0, .int .i64 0, .slice none 0 0]).drewd
  have HG := Lib.hid h
  have HE := Lib.hid (fun (W : World) (a1 : Option Addr) (a2 : Nat) (c1 c2 : Array Value) (hE : Env2 w W 26 26 c1 c2) hq => copy_endG (f := f) (n := n) (a1 := a1) (a2 := a2) hE hq)
  clear h
  generalize OwnRes w f n = RR at *
  obtain ⟨fa, fb, fc, fd, gs⟩ := f
  simp only [fanA] at *
  go_enter Try.func18, Try.ntmps18
  go_wp2_with fail
  go_region_held3 (fun W => W.cell? ⟨w.heap.size, 0, none⟩ = some (.int .i64 fa) ∧ W.cell? ⟨w.heap.size, 1, none⟩ = some (.int .i64 fb) ∧ W.cell? ⟨w.heap.size, 2, none⟩ = some (.int .i64 fc) ∧ W.cell? ⟨w.heap.size, 3, none⟩ = some (.int .i64 fd) ∧ W.cell? ⟨w.heap.size, 4, none⟩ = some (.slice A n c))
    (first | with_reducible exact fan_set HW.out _ _ _ _ _ | exact fan_get HW.out.p | exact fan_get (HW.out.alloc _).p)
    (first
    | (refine step_append_copyG rfl (.tmp 7) (.tmp 9) 24 rfl i0 _ 32 Try.underlying24 hi hz0 hz1 hz2 rfl _ (by rfl) A n c (by rfl) _ (by first | exact HG.out.below HW.out.bel | exact HG.out.below (HW.out.alloc _).bel) (by have := hn; unfold maxLen; omega) (by have := hn; omega) ?_; intro a1 a2 x1 h1 h2; have E1 := Lib.hid (Env2.below (by first | exact HW.out | exact (HW.out.alloc _)) h2); have Qa := Lib.hid (OwnG.less h1 (by first | exact HW.out.q.lt | exact (HW.out.alloc _).q.lt)); clear HW h1 h2; have HW := E1; clear E1; obtain ⟨⟨z0, z1, z2, z3, z4⟩, f0, f1, f2, f3, f4⟩ := fan_row HW.out))
  all_goals
    clear z0 z1 z2 z3 z4 f0 f1 f2 f3 f4
    go_wp2
    exact bodyPost_ret (results_c rfl _ _ _ _ _ _ _ rfl (((((HW.out.q.set_ 0 _).set_ 1 _).set_ 2 _).set_ 3 _).set_ 4 _) Try.underlying26 (by kernel_rfl)) rfl (HE.out _ _ _ _ _ HW.out Qa.out)
end
end Go.Proofs.Ytpbepipnfpgoiaa
