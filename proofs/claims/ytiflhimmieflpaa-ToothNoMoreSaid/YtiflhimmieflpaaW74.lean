/- Walks: the reference's Copy, whose slices are its own. -/
import Derived.Test.YtiflhimmieflpaaW73
namespace Go.Proofs.Ytiflhimmieflpaa
open Go.RowKit Go.Maps

/-- A slice that reads as a list, and is of the call's own if it has an element. -/
structure ON (b : Nat) (w : World) (e : TypeId) (size n : Nat) (A : Option Addr) (c : Nat) (xs : List Value) : Prop where
  nr : NR b w size A n xs
  own : 0 < n → w.ownsRow b e size (.slice A n c) n xs
section
variable {b : Nat} {w w' : World} {e : TypeId} {size n c : Nat} {A : Option Addr} {xs : List Value}
theorem ON.below (h : ON b w e size n A c xs) (hb : Below w.heap.size w w') : ON b w' e size n A c xs := ⟨h.nr.below hb, fun hn => ownsRow_below (h.own hn) hb⟩
theorem ON.alloc (h : ON b w e size n A c xs) (o : Obj) : ON b (w.alloc o) e size n A c xs := h.below (below_self w o)
theorem ON.more {b' : Nat} (h : ON b w e size n A c xs) (hb : b' < b) : ON (b' + 1) w e size n A c xs := ⟨h.nr.more hb, fun hn => own_base (h.own hn) hb⟩
theorem ON.setCell (h : ON b w e size n A c xs) {p : Addr} (hp : p.block < b) (u : Value) : ON b (w.setCell p u) e size n A c xs := ⟨h.nr.setCell hp u, fun hn => ownsRow_setCell_below (h.own hn) hp u⟩
theorem ON.ge {b' : Nat} (h : ON b w e size n A c xs) (hb : b' ≤ b) : ON b' w e size n A c xs := ⟨h.nr.ge hb, fun hn => own_base (h.own hn) hb⟩
end
theorem run_append_copy2 {P : Program} (w : World) (t ty e : TypeId) (i : TypeInfo) (z : Value) (size bytes : Nat) (ht : P.underlying t = some (.slice e)) (hi : P.info? e = some i) (hz : i.zero = some z) (hs : i.size = size) (hby : i.bytes = bytes) (hzs : z.cells.size = size) (h0 : 0 < size)
    (g : Nat) (A : Option Addr) (n c : Nat) (xs : List Value) (hr : Reads w size A n xs) (hn : n ≤ maxLen) (hb : n * bytes ≤ 140737488355328) :
    ∃ A' c' w', (Builtin.append_ #[t, t] ty #[.slice (some ⟨g, 0, none⟩) 0 0, .slice A n c]).run P w = .ok (.slice A' n c') w' ∧ ON w.heap.size w' e size n A' c' xs ∧ Below w.heap.size w w' := by
  rcases Nat.eq_zero_or_pos n with rfl | hpos
  · obtain ⟨A', c', w', h1, h2, h3⟩ := run_append_copy (P := P) w t ty e i z size bytes ht hi hz hs hby hzs h0 g A 0 c xs hr hn hb
    exact ⟨A', c', w', h1, ⟨h2, fun h => absurd h (by omega)⟩, h3⟩
  · obtain ⟨b, o, rfl, hlt, hc⟩ := hr.2 hpos
    obtain ⟨v', w', hrun, hown, hgr⟩ := run_append_arg_grows (P := P) w t ty e i z size bytes ht hi hz hs hby hzs h0 ⟨g, 0, none⟩ 0 0 [] (by simp) (by simp) ⟨b, o, none⟩ n c xs hr.1 (fun j u hu => by rw [addr_add]; exact hc j u hu) (by omega) (by omega) (by rw [Nat.zero_add]; exact hb)
    simp only [Nat.zero_add, List.nil_append] at hown
    obtain ⟨g', cap', rfl⟩ := own_form hown hpos
    exact ⟨_, _, w', hrun, ⟨reads_of_own hown, fun _ => hown⟩, grown_none hgr⟩
theorem step_append_copy2 {P : Program} {ops : Array Oper} {o : Oper} {a : Act} {w : World} {K : Act → World → Prop} {Q : Exit → Act → World → Prop} {E : Prop}
    (hg : o.guard = none) (s x : Operand) (t : TypeId) (hop : o.op = Op.call { callee := Callee.builtin Builtin.append, args := #[s, x], argTypes := #[t, t] })
    (e : TypeId) (i : TypeInfo) (z : Value) (size bytes : Nat) (ht : P.underlying t = some (.slice e)) (hi : P.info? e = some i) (hz : i.zero = some z) (hsz : i.size = size) (hby : i.bytes = bytes) (hzs : z.cells.size = size) (h0 : 0 < size)
    (g : Nat) (hs : a.eval s = .slice (some ⟨g, 0, none⟩) 0 0) (A : Option Addr) (n c : Nat) (hx : a.eval x = .slice A n c) (xs : List Value) (hr : Reads w size A n xs) (hn : n ≤ maxLen) (hb : n * bytes ≤ 140737488355328)
    (hK : ∀ A' c' w', ON w.heap.size w' e size n A' c' xs → Below w.heap.size w w' → K (a.put o.dst (.slice A' n c')) w') :
    if Region.wanted o (yielded ops a.tmps) = true then Oper.wp P o a w K Q else E := by
  have hw : Region.wanted o (yielded ops a.tmps) = true := by simp [Region.wanted, hg]
  rw [if_pos hw]
  obtain ⟨A', c', w', hrun, h1, h2⟩ := run_append_copy2 (P := P) w t o.type e i z size bytes ht hi hz hsz hby hzs h0 g A n c xs hr hn hb
  unfold Oper.wp
  simp [execOp, hop, resolve, invoke, builtin, hs, hx, hrun, Result.andThen]
  exact hK A' c' w' h1 h2

def CopyRes2 (w : World) (B : Bl) (e : Ending) (w' : World) : Prop := ∃ B' : Bl, e = .returned B'.val ∧ B.Like B' ∧ B'.At w' ∧ Below w.heap.size w w' ∧
  ON w.heap.size w' 98 2 B'.n B'.A B'.c (flat2 B'.bot) ∧ ON w.heap.size w' 98 2 B'.n' B'.A' B'.c' (flat2 B'.top) ∧ ON w.heap.size w' 111 6 B'.m B'.K B'.d (flat6 B'.cr) ∧ ∀ ga oa gb ob, 0 < B'.n → 0 < B'.n' → B'.A = some ⟨ga, oa, none⟩ → B'.A' = some ⟨gb, ob, none⟩ → ga ≠ gb
theorem sep_of {b : Nat} {W w' : World} {e e' : TypeId} {size size' n n' c c' : Nat} {A A' : Option Addr} {xs ys : List Value} (h : ON b W e size n A c xs) (h' : ON W.heap.size w' e' size' n' A' c' ys) {ga oa gb ob : Nat} (hn : 0 < n) (hn' : 0 < n') (e1 : A = some ⟨ga, oa, none⟩) (e2 : A' = some ⟨gb, ob, none⟩) : ga ≠ gb := by
  obtain ⟨b, o, e, hb, _⟩ := h.nr.r.2 hn
  rw [e1] at e
  simp only [Option.some.injEq, Addr.mk.injEq, and_true] at e
  have := h'.nr.far hn' gb ob e2
  omega
theorem ON.set4 {g b : Nat} {W : World} {e : TypeId} {size n c : Nat} {A : Option Addr} {xs : List Value} (h : ON b W e size n A c xs) (hb : g < b) (u0 u1 u2 u3 : Value) : ON b ((((W.setCell ⟨g, 0, none⟩ u0).setCell ⟨g, 1, none⟩ u1).setCell ⟨g, 2, none⟩ u2).setCell ⟨g, 3, none⟩ u3) e size n A c xs :=
  (((h.setCell (p := ⟨g, 0, none⟩) hb u0).setCell (p := ⟨g, 1, none⟩) hb u1).setCell (p := ⟨g, 2, none⟩) hb u2).setCell (p := ⟨g, 3, none⟩) hb u3
theorem copy_end2 {w W : World} {B : Bl} {a1 b1 c1 : Option Addr} {a2 b2 c2 : Nat} (h : CW w B W) (ha : B.At w) (qa : ON (w.heap.size + 1 + 1) W 98 2 B.n a1 a2 (flat2 B.bot)) (qb : ON (w.heap.size + 1 + 1) W 98 2 B.n' b1 b2 (flat2 B.top)) (qc : ON (w.heap.size + 1 + 1) W 111 6 B.m c1 c2 (flat6 B.cr)) (hs : ∀ ga oa gb ob, 0 < B.n → 0 < B.n' → a1 = some ⟨ga, oa, none⟩ → b1 = some ⟨gb, ob, none⟩ → ga ≠ gb) :
    CopyRes2 w B (.returned (.agg #[.slice a1 B.n a2, .slice b1 B.n' b2, .int .i64 B.bend, .slice c1 B.m c2])) ((((W.setCell ⟨w.heap.size + 1, 0, none⟩ (.slice a1 B.n a2)).setCell ⟨w.heap.size + 1, 1, none⟩ (.slice b1 B.n' b2)).setCell ⟨w.heap.size + 1, 2, none⟩ (.int .i64 B.bend)).setCell ⟨w.heap.size + 1, 3, none⟩ (.slice c1 B.m c2)) := by
  have ra := qa.set4 (g := w.heap.size + 1) (by omega) (.slice a1 B.n a2) (.slice b1 B.n' b2) (.int .i64 B.bend) (.slice c1 B.m c2)
  have rb := qb.set4 (g := w.heap.size + 1) (by omega) (.slice a1 B.n a2) (.slice b1 B.n' b2) (.int .i64 B.bend) (.slice c1 B.m c2)
  have rc := qc.set4 (g := w.heap.size + 1) (by omega) (.slice a1 B.n a2) (.slice b1 B.n' b2) (.int .i64 B.bend) (.slice c1 B.m c2)
  exact ⟨⟨a1, b1, c1, B.n, a2, B.n', b2, B.m, c2, B.bend, B.bot, B.top, B.cr⟩, rfl, ⟨rfl, rfl, rfl, rfl, rfl, rfl, rfl⟩, ⟨ra.nr.r, rb.nr.r, rc.nr.r, ha.n1, ha.n2, ha.n3⟩,
    (((h.bel.setCell (p := ⟨w.heap.size + 1, 0, none⟩) (by simp) _).setCell (p := ⟨w.heap.size + 1, 1, none⟩) (by simp) _).setCell (p := ⟨w.heap.size + 1, 2, none⟩) (by simp) _).setCell (p := ⟨w.heap.size + 1, 3, none⟩) (by simp) _, ra.ge (by omega), rb.ge (by omega), rc.ge (by omega), hs⟩

set_option maxRecDepth 100000 in
set_option maxHeartbeats 8000000 in
theorem RefCopy_own (B : Bl) (w : World) (h : B.At w) (hn : B.n ≤ 1000) (hn' : B.n' ≤ 1000) (hm : B.m ≤ 1000) : Calls Try.prog 19 #[B.val] w (CopyRes2 w B) := by
  obtain ⟨i0, hi, hz0, hz1, hz2⟩ := info_parts Try.infoSpan
  obtain ⟨j0, hj, hy0, hy1, hy2⟩ := info_parts Try.infoCrack
  have HW : Hid (CW w B ((w.alloc (.cells #[.slice B.A B.n B.c, .slice B.A' B.n' B.c', .int .i64 B.bend, .slice B.K B.m B.d] 25)).alloc (.cells #[.slice none 0 0, .slice none 0 0, .int .i64 0, .slice none 0 0] 25)).drew) :=
    ⟨(Blk.new w _ _ rfl).alloc _, Blk.new _ _ _ (by simp), (below_alloc' (below_self _ _) _).drew⟩
  have HA := Lib.hid h
  clear h
  unfold Bl.val
  go_enter Try.func19, Try.ntmps19
  go_wp2_with fail
  obtain ⟨s0, s1, s2, s3⟩ := HW.out.s
  go_region_held3 (fun w' => w'.cell? ⟨w.heap.size, 0, none⟩ = some (.slice B.A B.n B.c) ∧ w'.cell? ⟨w.heap.size, 1, none⟩ = some (.slice B.A' B.n' B.c') ∧ w'.cell? ⟨w.heap.size, 2, none⟩ = some (.int .i64 B.bend) ∧ w'.cell? ⟨w.heap.size, 3, none⟩ = some (.slice B.K B.m B.d)) (first | with_reducible exact HW.out.s4 _ _ _ _ | exact HW.out.s | exact (HW.out.alloc _).s | exact ((HW.out.alloc _).alloc _).s | exact (((HW.out.alloc _).alloc _).alloc _).s)
    (first
    | (refine step_append_copy2 rfl (.tmp 3) (.tmp 5) 22 rfl 98 i0 _ 2 16 Try.underlying22 hi hz0 hz1 hz2 rfl (by decide) _ (by rfl) B.A B.n B.c (by rfl) _ (by first | exact HA.out.hb.below HW.out.bel | exact HA.out.hb.below (HW.out.alloc _).bel | exact HA.out.hb.below ((HW.out.alloc _).alloc _).bel | exact HA.out.hb.below (((HW.out.alloc _).alloc _).alloc _).bel) (by have := hn; unfold maxLen; omega) (by have := hn; omega) ?_; intro a1 a2 x1 h1 h2; have E1 := Lib.hid (CW.below (by first | exact HW.out | exact (HW.out.alloc _) | exact ((HW.out.alloc _).alloc _) | exact (((HW.out.alloc _).alloc _).alloc _)) h2); have Qa := Lib.hid (ON.more h1 (by first | exact HW.out.z.lt | exact (HW.out.alloc _).z.lt | exact ((HW.out.alloc _).alloc _).z.lt | exact (((HW.out.alloc _).alloc _).alloc _).z.lt)); clear HW h1 h2 s0 s1 s2 s3; have HW := E1; clear E1; obtain ⟨s0, s1, s2, s3⟩ := HW.out.s; obtain ⟨⟨z0, z1, z2, z3⟩, f0, f1, f2, f3⟩ := HW.out.zs)
    | (refine step_append_copy2 rfl (.tmp 7) (.tmp 9) 22 rfl 98 i0 _ 2 16 Try.underlying22 hi hz0 hz1 hz2 rfl (by decide) _ (by rfl) B.A' B.n' B.c' (by rfl) _ (by first | exact HA.out.ht.below HW.out.bel | exact HA.out.ht.below (HW.out.alloc _).bel | exact HA.out.ht.below ((HW.out.alloc _).alloc _).bel | exact HA.out.ht.below (((HW.out.alloc _).alloc _).alloc _).bel) (by have := hn'; unfold maxLen; omega) (by have := hn'; omega) ?_; intro b1 b2 x1 h1 h2; have E1 := Lib.hid (CW.below (by first | exact HW.out | exact (HW.out.alloc _) | exact ((HW.out.alloc _).alloc _) | exact (((HW.out.alloc _).alloc _).alloc _)) h2); have Qb := Lib.hid (ON.more h1 (by first | exact HW.out.z.lt | exact (HW.out.alloc _).z.lt | exact ((HW.out.alloc _).alloc _).z.lt | exact (((HW.out.alloc _).alloc _).alloc _).z.lt)); have HNE : Hid (∀ ga oa gb ob, 0 < B.n → 0 < B.n' → a1 = some ⟨ga, oa, none⟩ → b1 = some ⟨gb, ob, none⟩ → ga ≠ gb) := fun ga oa gb ob m1 m2 e1 e2 => sep_of (by first | exact Qa.out | exact Qa.out.alloc _ | exact (Qa.out.alloc _).alloc _ | exact ((Qa.out.alloc _).alloc _).alloc _) h1 m1 m2 e1 e2; have Za := Lib.hid (ON.below (by first | exact Qa.out | exact Qa.out.alloc _ | exact (Qa.out.alloc _).alloc _ | exact ((Qa.out.alloc _).alloc _).alloc _) h2); clear Qa; have Qa := Za; clear Za; clear z0 z1 z2 z3 f0 f1 f2 f3 HW h1 h2 s0 s1 s2 s3; have HW := E1; clear E1; obtain ⟨s0, s1, s2, s3⟩ := HW.out.s; obtain ⟨⟨z0, z1, z2, z3⟩, f0, f1, f2, f3⟩ := HW.out.zs)
    | (refine step_append_copy2 rfl (.tmp 13) (.tmp 15) 23 rfl 111 j0 _ 6 48 Try.underlying23 hj hy0 hy1 hy2 rfl (by decide) _ (by rfl) B.K B.m B.d (by rfl) _ (by first | exact HA.out.hk.below HW.out.bel | exact HA.out.hk.below (HW.out.alloc _).bel | exact HA.out.hk.below ((HW.out.alloc _).alloc _).bel | exact HA.out.hk.below (((HW.out.alloc _).alloc _).alloc _).bel) (by have := hm; unfold maxLen; omega) (by have := hm; omega) ?_; intro c1 c2 x1 h1 h2; have E1 := Lib.hid (CW.below (by first | exact HW.out | exact (HW.out.alloc _) | exact ((HW.out.alloc _).alloc _) | exact (((HW.out.alloc _).alloc _).alloc _)) h2); have Qc := Lib.hid (ON.more h1 (by first | exact HW.out.z.lt | exact (HW.out.alloc _).z.lt | exact ((HW.out.alloc _).alloc _).z.lt | exact (((HW.out.alloc _).alloc _).alloc _).z.lt)); have Za := Lib.hid (ON.below (by first | exact Qa.out | exact Qa.out.alloc _ | exact (Qa.out.alloc _).alloc _ | exact ((Qa.out.alloc _).alloc _).alloc _) h2); clear Qa; have Qa := Za; clear Za; have Zb := Lib.hid (ON.below (by first | exact Qb.out | exact Qb.out.alloc _ | exact (Qb.out.alloc _).alloc _ | exact ((Qb.out.alloc _).alloc _).alloc _) h2); clear Qb; have Qb := Zb; clear Zb; clear z0 z1 z2 z3 f0 f1 f2 f3 HW h1 h2 s0 s1 s2 s3; have HW := E1; clear E1; obtain ⟨s0, s1, s2, s3⟩ := HW.out.s; obtain ⟨⟨z0, z1, z2, z3⟩, f0, f1, f2, f3⟩ := HW.out.zs))
  all_goals
    clear z0 z1 z2 z3 f0 f1 f2 f3 s0 s1 s2 s3
    go_wp2
    exact bodyPost_ret (results_c rfl _ _ _ _ _ _ _ rfl ((((HW.out.z.set_ 0 _).set_ 1 _).set_ 2 _).set_ 3 _) Try.underlying25 (by kernel_rfl)) rfl (copy_end2 HW.out HA.out Qa.out Qb.out Qc.out HNE.out)
end Go.Proofs.Ytiflhimmieflpaa
