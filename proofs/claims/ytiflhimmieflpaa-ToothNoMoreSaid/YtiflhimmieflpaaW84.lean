/- Walks: the blade of a tusk: its columns. -/
import Derived.Test.YtiflhimmieflpaaW82
import Derived.Test.YtiflhimmieflpaaW83
import Derived.Test.YtiflhimmieflpaaUntil
import Derived.Deep.AppendLies
namespace Go.Proofs.Ytiflhimmieflpaa
open Go.RowKit Go.Maps

/-- The spans of a column. -/
def Tk.botS (T : Tk) (k : Nat) : Int × Int := (max 0 (T.low k - T.col k 2 % 9), min 65 (T.low k + T.col k 2 / 16))
def Tk.topS (T : Tk) (k : Nat) : Int × Int := (max 66 (T.high k - T.col k 3 % 9), T.high k + T.col k 3 / 16)
/-- What blade's own variables hold, with k columns in the blade. -/
structure BI (w : World) (T : Tk) (k gB gT g1 c1 g2 c2 : Nat) (u1 u2 : Value) (W : World) : Prop where
  box : Blk W w.heap.size 83 #[.slice T.A T.n T.c, .int .u8 T.bend, .slice T.K T.m T.d, .int .u8 T.s0, .int .u8 T.s1, .int .u8 T.s2, .int .u8 T.s3]
  r1 : Blk W (w.heap.size + 1) 25 #[.slice none 0 0, .slice none 0 0, .int .i64 0, .slice none 0 0]
  r2 : Blk W (w.heap.size + 1 + 1) 37 #[.int .i64 0, .int .i64 0, .int .i64 0, .int .i64 0]
  r3 : Blk W (w.heap.size + 1 + 1 + 1) 86 #[.slice none 0 0, .slice none 0 0, .slice none 0 0]
  e1 : W.ownsRow (w.heap.size + 1 + 1 + 1 + 1) 3 1 (.slice (some ⟨g1, 0, none⟩) T.len c1) T.len (((List.range T.len).map T.low).map (Value.int .i64))
  e2 : W.ownsRow (w.heap.size + 1 + 1 + 1 + 1) 3 1 (.slice (some ⟨g2, 0, none⟩) T.len c2) T.len (((List.range T.len).map T.high).map (Value.int .i64))
  sep12 : g1 ≠ g2
  bl : Blk W gB 25 #[u1, u2, .int .i64 T.bd, .slice none 0 0]
  tr : Blk W gT 86 #[.slice (some ⟨g1, 0, none⟩) T.len c1, .slice (some ⟨g2, 0, none⟩) T.len c2, .slice none 0 0]
  p1 : W.ownsRow (w.heap.size + 1 + 1 + 1 + 1) 98 2 u1 k (flat2 ((List.range k).map T.botS))
  p2 : W.ownsRow (w.heap.size + 1 + 1 + 1 + 1) 98 2 u2 k (flat2 ((List.range k).map T.topS))
  sep : u1.ownBlock = none ∨ u1.ownBlock ≠ u2.ownBlock
  lB : w.heap.size + 1 + 1 + 1 < gB
  lT : gB < gT
  bel : Below w.heap.size w W
section
variable {w W W' : World} {T : Tk} {k gB gT g1 c1 g2 c2 : Nat} {u1 u2 : Value}
theorem BI.below (h : BI w T k gB gT g1 c1 g2 c2 u1 u2 W) (hb : Below W.heap.size W W') : BI w T k gB gT g1 c1 g2 c2 u1 u2 W' :=
  ⟨blk_keep hb h.box, blk_keep hb h.r1, blk_keep hb h.r2, blk_keep hb h.r3, ownsRow_below h.e1 hb, ownsRow_below h.e2 hb, h.sep12, blk_keep hb h.bl, blk_keep hb h.tr, ownsRow_below h.p1 hb, ownsRow_below h.p2 hb, h.sep, h.lB, h.lT, below_then h.bel hb⟩
theorem BI.alloc (h : BI w T k gB gT g1 c1 g2 c2 u1 u2 W) (o : Obj) : BI w T k gB gT g1 c1 g2 c2 u1 u2 (W.alloc o) := h.below (below_self W o)
theorem BI.drewd (h : BI w T k gB gT g1 c1 g2 c2 u1 u2 W) : BI w T k gB gT g1 c1 g2 c2 u1 u2 W.drew := h.below (Below.refl _ _).drew
/-- A row of one's own, of another type than the lists, is stored. -/
theorem BI.setRow {g : Nat} {t : TypeId} {cs : Array Value} (h : BI w T k gB gT g1 c1 g2 c2 u1 u2 W) (hg : Blk W g t cs) (h1 : 3 ≠ t) (h2 : 98 ≠ t) (hw : gT < g) (cs' : Array Value) : BI w T k gB gT g1 c1 g2 c2 u1 u2 (W.setRow g cs') := by
  have a := h.lB
  have b := h.lT
  exact ⟨h.box.setRow_far (by omega) _, h.r1.setRow_far (by omega) _, h.r2.setRow_far (by omega) _, h.r3.setRow_far (by omega) _, own_setRow h.e1 hg h1 _, own_setRow h.e2 hg h1 _, h.sep12, h.bl.setRow_far (by omega) _, h.tr.setRow_far (by omega) _, own_setRow h.p1 hg h2 _, own_setRow h.p2 hg h2 _, h.sep, h.lB, h.lT, below_setR h.bel (by omega) _⟩
end
theorem step_store_rowN {P : Program} {ops : Array Oper} {op : Oper} {a : Act} {w : World} {K : Act → World → Prop} {Q : Exit → Act → World → Prop} {E : Prop} (hgd : op.guard = none) (hd : op.dst = none) (ty : TypeId) (x y : Operand) (ho : op.op = .store ty x y)
    (g : Nat) (cells : Array Value) (hx : a.eval x = .pointer (some ⟨g, 0, none⟩)) (hy : a.eval y = .agg cells) (t : TypeId) (old : Array Value) (hg : Blk w g t old) (hi : (P.info? ty).map (·.size) = some cells.size) (hold : old.size = cells.size) (h1 : cells.all (·.oneCell') = true)
    (h : K a (w.setRow g cells)) : if Region.wanted op (yielded ops a.tmps) = true then op.wp P a w K Q else E := by
  have hw : Region.wanted op (yielded ops a.tmps) = true := by simp [Region.wanted, hgd]
  rw [if_pos hw]
  exact wp_store_rowN hd ty x y ho g cells hx hy t old hg hi hold h1 h
def S8 (g cb o : Nat) (A : Option Addr) (n c : Nat) (x y : Int) (W : World) : Prop := W.cell? ⟨g, 0, none⟩ = some (.slice A n c) ∧ W.cell? ⟨cb, o + 2, none⟩ = some (.int .u8 x) ∧ W.cell? ⟨cb, o + 3, none⟩ = some (.int .u8 y)
def S9 (g1 g2 V k : Nat) (lo hg x y : Int) (W : World) : Prop := W.cell? ⟨g1, k, none⟩ = some (.int .i64 lo) ∧ W.cell? ⟨g2, k, none⟩ = some (.int .i64 hg) ∧ W.cell? ⟨V, 0, none⟩ = some (.int .u8 x) ∧ W.cell? ⟨V, 1, none⟩ = some (.int .u8 y)
theorem onesT2 (a b : Int) : (#[Value.int .i64 a, Value.int .i64 b]).all (·.oneCell') = true := all_oneCell_toArray (cs := [.int .i64 a, .int .i64 b]) (fun v hv => by simp only [List.mem_cons, List.not_mem_nil, or_false] at hv; rcases hv with rfl | rfl <;> rfl)
/-- The same without the lists that grow. -/
structure BY (w : World) (T : Tk) (gB gT g1 c1 g2 c2 : Nat) (u1 u2 v1 v2 : Value) (W : World) : Prop where
  box : Blk W w.heap.size 83 #[.slice T.A T.n T.c, .int .u8 T.bend, .slice T.K T.m T.d, .int .u8 T.s0, .int .u8 T.s1, .int .u8 T.s2, .int .u8 T.s3]
  r1 : Blk W (w.heap.size + 1) 25 #[.slice none 0 0, .slice none 0 0, .int .i64 0, .slice none 0 0]
  r2 : Blk W (w.heap.size + 1 + 1) 37 #[.int .i64 0, .int .i64 0, .int .i64 0, .int .i64 0]
  r3 : Blk W (w.heap.size + 1 + 1 + 1) 86 #[.slice none 0 0, .slice none 0 0, .slice none 0 0]
  e1 : W.ownsRow (w.heap.size + 1 + 1 + 1 + 1) 3 1 (.slice (some ⟨g1, 0, none⟩) T.len c1) T.len (((List.range T.len).map T.low).map (Value.int .i64))
  e2 : W.ownsRow (w.heap.size + 1 + 1 + 1 + 1) 3 1 (.slice (some ⟨g2, 0, none⟩) T.len c2) T.len (((List.range T.len).map T.high).map (Value.int .i64))
  sep12 : g1 ≠ g2
  bl : Blk W gB 25 #[u1, u2, .int .i64 T.bd, v1]
  tr : Blk W gT 86 #[.slice (some ⟨g1, 0, none⟩) T.len c1, .slice (some ⟨g2, 0, none⟩) T.len c2, v2]
  lB : w.heap.size + 1 + 1 + 1 < gB
  lT : gB < gT
  bel : Below w.heap.size w W
abbrev BX (w : World) (T : Tk) (gB gT g1 c1 g2 c2 : Nat) (u1 u2 : Value) (W : World) : Prop := BY w T gB gT g1 c1 g2 c2 u1 u2 (.slice none 0 0) (.slice none 0 0) W
section
variable {w W W' : World} {T : Tk} {k gB gT g1 c1 g2 c2 : Nat} {u1 u2 v1 v2 : Value}
theorem BI.x (h : BI w T k gB gT g1 c1 g2 c2 u1 u2 W) : BX w T gB gT g1 c1 g2 c2 u1 u2 W := ⟨h.box, h.r1, h.r2, h.r3, h.e1, h.e2, h.sep12, h.bl, h.tr, h.lB, h.lT, h.bel⟩
theorem BY.below (h : BY w T gB gT g1 c1 g2 c2 u1 u2 v1 v2 W) (hb : Below W.heap.size W W') : BY w T gB gT g1 c1 g2 c2 u1 u2 v1 v2 W' :=
  ⟨blk_keep hb h.box, blk_keep hb h.r1, blk_keep hb h.r2, blk_keep hb h.r3, ownsRow_below h.e1 hb, ownsRow_below h.e2 hb, h.sep12, blk_keep hb h.bl, blk_keep hb h.tr, h.lB, h.lT, below_then h.bel hb⟩
theorem BY.grown (h : BY w T gB gT g1 c1 g2 c2 u1 u2 v1 v2 W) {v : Value} {n : Nat} {xs : List Value} (P : W.ownsRow (w.heap.size + 1 + 1 + 1 + 1) 98 2 v n xs) (hg : W.grownBy W' v.ownBlock) : BY w T gB gT g1 c1 g2 c2 u1 u2 v1 v2 W' :=
  ⟨h.box.grown hg (own_blk_ne P h.box (by decide)), h.r1.grown hg (own_blk_ne P h.r1 (by decide)), h.r2.grown hg (own_blk_ne P h.r2 (by decide)), h.r3.grown hg (own_blk_ne P h.r3 (by decide)), h.e1.kept hg (own_apart h.e1 P (by decide)), h.e2.kept hg (own_apart h.e2 P (by decide)), h.sep12,
    h.bl.grown hg (own_blk_ne P h.bl (by decide)), h.tr.grown hg (own_blk_ne P h.tr (by decide)), h.lB, h.lT, h.bel.grown hg h.bel.size (fun q hq => by have := (P.lt q hq).1; omega)⟩
theorem BY.set0 (h : BY w T gB gT g1 c1 g2 c2 u1 u2 v1 v2 W) (u : Value) : BY w T gB gT g1 c1 g2 c2 u u2 v1 v2 (W.setCell ⟨gB, 0, none⟩ u) := by
  have a := h.lB
  have b := h.lT
  exact ⟨h.box.far (p := ⟨gB, 0, none⟩) (by simp; omega) _, h.r1.far (p := ⟨gB, 0, none⟩) (by simp; omega) _, h.r2.far (p := ⟨gB, 0, none⟩) (by simp; omega) _, h.r3.far (p := ⟨gB, 0, none⟩) (by simp; omega) _, own_setCell h.e1 h.bl (by decide) 0 u, own_setCell h.e2 h.bl (by decide) 0 u, h.sep12, h.bl.set_ 0 u, h.tr.far (p := ⟨gB, 0, none⟩) (by simp; omega) _, h.lB, h.lT, h.bel.setCell (p := ⟨gB, 0, none⟩) (by simp; omega) _⟩
theorem BY.set1 (h : BY w T gB gT g1 c1 g2 c2 u1 u2 v1 v2 W) (u : Value) : BY w T gB gT g1 c1 g2 c2 u1 u v1 v2 (W.setCell ⟨gB, 1, none⟩ u) := by
  have a := h.lB
  have b := h.lT
  exact ⟨h.box.far (p := ⟨gB, 1, none⟩) (by simp; omega) _, h.r1.far (p := ⟨gB, 1, none⟩) (by simp; omega) _, h.r2.far (p := ⟨gB, 1, none⟩) (by simp; omega) _, h.r3.far (p := ⟨gB, 1, none⟩) (by simp; omega) _, own_setCell h.e1 h.bl (by decide) 1 u, own_setCell h.e2 h.bl (by decide) 1 u, h.sep12, h.bl.set_ 1 u, h.tr.far (p := ⟨gB, 1, none⟩) (by simp; omega) _, h.lB, h.lT, h.bel.setCell (p := ⟨gB, 1, none⟩) (by simp; omega) _⟩
end
def flat3 (xs : List (Int × Int × Int)) : List Value := xs.flatMap fun s => [.int .i64 s.1, .int .i64 s.2.1, .int .i64 s.2.2]
def crackVals (c : Crack) : List Value := [.int .i64 c.cl, .int .i64 c.ch, .int .i64 c.fl, .int .i64 c.fh, .int .i64 c.tl, .int .i64 c.th]
/-- What blade's own variables hold, with j cracks in the blade. -/
structure BJ (w : World) (T : Tk) (j gB gT g1 c1 g2 c2 : Nat) (u1 u2 v1 v2 : Value) (W : World) : Prop where
  x : BY w T gB gT g1 c1 g2 c2 u1 u2 v1 v2 W
  p1 : W.ownsRow (w.heap.size + 1 + 1 + 1 + 1) 98 2 u1 T.len (flat2 ((List.range T.len).map T.botS))
  p2 : W.ownsRow (w.heap.size + 1 + 1 + 1 + 1) 98 2 u2 T.len (flat2 ((List.range T.len).map T.topS))
  sep : u1.ownBlock = none ∨ u1.ownBlock ≠ u2.ownBlock
  q1 : W.ownsRow (w.heap.size + 1 + 1 + 1 + 1) 111 6 v1 j (flat6 ((List.range j).map fun i => T.crackL i T.len))
  q2 : W.ownsRow (w.heap.size + 1 + 1 + 1 + 1) 150 3 v2 j (flat3 ((List.range j).map fun i => T.realL i T.len))
theorem BJ.below {w W W' : World} {T : Tk} {j gB gT g1 c1 g2 c2 : Nat} {u1 u2 v1 v2 : Value} (h : BJ w T j gB gT g1 c1 g2 c2 u1 u2 v1 v2 W) (hb : Below W.heap.size W W') : BJ w T j gB gT g1 c1 g2 c2 u1 u2 v1 v2 W' :=
  ⟨h.x.below hb, ownsRow_below h.p1 hb, ownsRow_below h.p2 hb, h.sep, ownsRow_below h.q1 hb, ownsRow_below h.q2 hb⟩
theorem flat6_range (f : Nat → Crack) (k : Nat) : flat6 ((List.range (k + 1)).map f) = flat6 ((List.range k).map f) ++ [.int .i64 (f k).cl, .int .i64 (f k).ch, .int .i64 (f k).fl, .int .i64 (f k).fh, .int .i64 (f k).tl, .int .i64 (f k).th] := by
  rw [List.range_succ, List.map_append, flat6_append]; rfl
theorem flat3_range (f : Nat → Int × Int × Int) (k : Nat) : flat3 ((List.range (k + 1)).map f) = flat3 ((List.range k).map f) ++ [.int .i64 (f k).1, .int .i64 (f k).2.1, .int .i64 (f k).2.2] := by
  rw [List.range_succ, List.map_append]; simp [flat3, List.flatMap_append]
theorem Try.infoThree : (Try.prog.info? 150).map (fun i => (i.zero, i.size, i.bytes)) = some (some (.agg #[.int .i64 0, .int .i64 0, .int .i64 0]), 3, 24) := by kernel_rfl
theorem BY.setC {w W : World} {T : Tk} {gB gT g1 c1 g2 c2 : Nat} {u1 u2 v1 v2 : Value} (h : BY w T gB gT g1 c1 g2 c2 u1 u2 v1 v2 W) (u : Value) : BY w T gB gT g1 c1 g2 c2 u1 u2 u v2 (W.setCell ⟨gB, 3, none⟩ u) := by
  have a := h.lB
  have b := h.lT
  exact ⟨h.box.far (p := ⟨gB, 3, none⟩) (by simp; omega) _, h.r1.far (p := ⟨gB, 3, none⟩) (by simp; omega) _, h.r2.far (p := ⟨gB, 3, none⟩) (by simp; omega) _, h.r3.far (p := ⟨gB, 3, none⟩) (by simp; omega) _, own_setCell h.e1 h.bl (by decide) 3 u, own_setCell h.e2 h.bl (by decide) 3 u, h.sep12, h.bl.set_ 3 u, h.tr.far (p := ⟨gB, 3, none⟩) (by simp; omega) _, h.lB, h.lT, h.bel.setCell (p := ⟨gB, 3, none⟩) (by simp; omega) _⟩
theorem BY.setR {w W : World} {T : Tk} {gB gT g1 c1 g2 c2 : Nat} {u1 u2 v1 v2 : Value} (h : BY w T gB gT g1 c1 g2 c2 u1 u2 v1 v2 W) (u : Value) : BY w T gB gT g1 c1 g2 c2 u1 u2 v1 u (W.setCell ⟨gT, 2, none⟩ u) := by
  have a := h.lB
  have b := h.lT
  exact ⟨h.box.far (p := ⟨gT, 2, none⟩) (by simp; omega) _, h.r1.far (p := ⟨gT, 2, none⟩) (by simp; omega) _, h.r2.far (p := ⟨gT, 2, none⟩) (by simp; omega) _, h.r3.far (p := ⟨gT, 2, none⟩) (by simp; omega) _, own_setCell h.e1 h.tr (by decide) 2 u, own_setCell h.e2 h.tr (by decide) 2 u, h.sep12, h.bl.far (p := ⟨gT, 2, none⟩) (by simp; omega) _, h.tr.set_ 2 u, h.lB, h.lT, h.bel.setCell (p := ⟨gT, 2, none⟩) (by simp; omega) _⟩
theorem BY.grownE {w W W' : World} {T : Tk} {gB gT g1 c1 g2 c2 : Nat} {u1 u2 v1 v2 : Value} (h : BY w T gB gT g1 c1 g2 c2 u1 u2 v1 v2 W) {e : TypeId} {size : Nat} {v : Value} {n : Nat} {xs : List Value} (P : W.ownsRow (w.heap.size + 1 + 1 + 1 + 1) e size v n xs) (hg : W.grownBy W' v.ownBlock)
    (n1 : e ≠ 83) (n2 : e ≠ 25) (n3 : e ≠ 37) (n4 : e ≠ 86) (n5 : 3 ≠ e) : BY w T gB gT g1 c1 g2 c2 u1 u2 v1 v2 W' :=
  ⟨h.box.grown hg (own_blk_ne P h.box n1), h.r1.grown hg (own_blk_ne P h.r1 n2), h.r2.grown hg (own_blk_ne P h.r2 n3), h.r3.grown hg (own_blk_ne P h.r3 n4), h.e1.kept hg (own_apart h.e1 P n5), h.e2.kept hg (own_apart h.e2 P n5), h.sep12,
    h.bl.grown hg (own_blk_ne P h.bl n2), h.tr.grown hg (own_blk_ne P h.tr n4), h.lB, h.lT, h.bel.grown hg h.bel.size (fun q hq => by have := (P.lt q hq).1; omega)⟩
def S15 (gB gT gc ge : Nat) (v1 v2 : Value) (x0 x1 x2 x3 x4 x5 y0 y1 y2 : Int) (W : World) : Prop := W.cell? ⟨gB, 3, none⟩ = some v1 ∧ W.cell? ⟨gT, 2, none⟩ = some v2 ∧ W.cell? ⟨gc, 0, none⟩ = some (.int .i64 x0) ∧ W.cell? ⟨gc, 1, none⟩ = some (.int .i64 x1) ∧ W.cell? ⟨gc, 2, none⟩ = some (.int .i64 x2) ∧ W.cell? ⟨gc, 3, none⟩ = some (.int .i64 x3) ∧ W.cell? ⟨gc, 4, none⟩ = some (.int .i64 x4) ∧ W.cell? ⟨gc, 5, none⟩ = some (.int .i64 x5) ∧ W.cell? ⟨ge, 0, none⟩ = some (.int .i64 y0) ∧ W.cell? ⟨ge, 1, none⟩ = some (.int .i64 y1) ∧ W.cell? ⟨ge, 2, none⟩ = some (.int .i64 y2)
theorem results_ccc {fn : Func} {p q r : Tmp} {ty tz tx : TypeId} (h : fn.results = #[.cell p ty, .cell q tz, .cell r tx]) (tmps : Array Value) (P : Program) (w : World) (g g' g'' : Nat) (v u x : Value)
    (hp : tmps.getD p undef = .pointer (some ⟨g, 0, none⟩)) (hg : (loadVar ty ⟨g, 0, none⟩).run P w = .ok v w) (hq : tmps.getD q undef = .pointer (some ⟨g', 0, none⟩)) (hg' : (loadVar tz ⟨g', 0, none⟩).run P w = .ok u w) (hr : tmps.getD r undef = .pointer (some ⟨g'', 0, none⟩)) (hg'' : (loadVar tx ⟨g'', 0, none⟩).run P w = .ok x w) :
    (results fn tmps).run P w = .ok (.tuple #[v, u, x]) w := by
  have hp' : tmps[p]?.getD undef = .pointer (some ⟨g, 0, none⟩) := by simpa using hp
  have hq' : tmps[q]?.getD undef = .pointer (some ⟨g', 0, none⟩) := by simpa using hq
  have hr' : tmps[r]?.getD undef = .pointer (some ⟨g'', 0, none⟩) := by simpa using hr
  simp [results, h, hp', hq', hr', asAddr, hg, hg', hg'']
theorem ones4 (a b c d : Int) : (#[Value.int .i64 a, Value.int .i64 b, Value.int .i64 c, Value.int .i64 d]).all (·.oneCell') = true := all_oneCell_toArray (cs := [.int .i64 a, .int .i64 b, .int .i64 c, .int .i64 d]) (fun v hv => by simp only [List.mem_cons, List.not_mem_nil, or_false] at hv; rcases hv with rfl | rfl | rfl | rfl <;> rfl)
def S16 (b gB gT : Nat) (s0 s1 s2 s3 : Int) (q0 q1 q2 q3 r0 r1 r2 : Value) (W : World) : Prop := W.cell? ⟨b, 3, none⟩ = some (.int .u8 s0) ∧ W.cell? ⟨b, 4, none⟩ = some (.int .u8 s1) ∧ W.cell? ⟨b, 5, none⟩ = some (.int .u8 s2) ∧ W.cell? ⟨b, 6, none⟩ = some (.int .u8 s3) ∧ W.cell? ⟨gB, 0, none⟩ = some q0 ∧ W.cell? ⟨gB, 1, none⟩ = some q1 ∧ W.cell? ⟨gB, 2, none⟩ = some q2 ∧ W.cell? ⟨gB, 3, none⟩ = some q3 ∧ W.cell? ⟨gT, 0, none⟩ = some r0 ∧ W.cell? ⟨gT, 1, none⟩ = some r1 ∧ W.cell? ⟨gT, 2, none⟩ = some r2
/-- The blade of a tusk, wherever its lists lie. -/
def Tk.blade (T : Tk) (A A' K : Option Addr) (ca ca' m cd : Nat) : Bl := ⟨A, A', K, T.len, ca, T.len, ca', m, cd, T.bd, (List.range T.len).map T.botS, (List.range T.len).map T.topS, (List.range m).map fun i => T.crackL i T.len⟩
/-- What blade returns. -/
def TuskRes (w : World) (T : Tk) (e : Ending) (w' : World) : Prop := ∃ (A A' K K' : Option Addr) (ca ca' cd cd' m g1 g2 c1 c2 : Nat),
  e = .returned (.tuple #[(T.blade A A' K ca ca' m cd).val, .agg #[.int .i64 (1 + T.s0 % 4), .int .i64 (8 + T.s1 % 40), .int .i64 (T.s2 % 6), .int .i64 (T.s3 % 3)], .agg #[.slice (some ⟨g1, 0, none⟩) T.len c1, .slice (some ⟨g2, 0, none⟩) T.len c2, .slice K' m cd']]) ∧ m = min T.m 3 ∧
  w'.ownsRow (w.heap.size + 1 + 1 + 1 + 1) 98 2 (.slice A T.len ca) T.len (flat2 ((List.range T.len).map T.botS)) ∧ w'.ownsRow (w.heap.size + 1 + 1 + 1 + 1) 98 2 (.slice A' T.len ca') T.len (flat2 ((List.range T.len).map T.topS)) ∧ ((Value.slice A T.len ca).ownBlock = none ∨ (Value.slice A T.len ca).ownBlock ≠ (Value.slice A' T.len ca').ownBlock) ∧
  w'.ownsRow (w.heap.size + 1 + 1 + 1 + 1) 111 6 (.slice K m cd) m (flat6 ((List.range m).map fun i => T.crackL i T.len)) ∧ w'.ownsRow (w.heap.size + 1 + 1 + 1 + 1) 150 3 (.slice K' m cd') m (flat3 ((List.range m).map fun i => T.realL i T.len)) ∧
  w'.ownsRow (w.heap.size + 1 + 1 + 1 + 1) 3 1 (.slice (some ⟨g1, 0, none⟩) T.len c1) T.len (((List.range T.len).map T.low).map (Value.int .i64)) ∧ w'.ownsRow (w.heap.size + 1 + 1 + 1 + 1) 3 1 (.slice (some ⟨g2, 0, none⟩) T.len c2) T.len (((List.range T.len).map T.high).map (Value.int .i64)) ∧ g1 ≠ g2 ∧ Below w.heap.size w w'
theorem own_not {w : World} {b : Nat} {e : TypeId} {size n g : Nat} {v : Value} {xs : List Value} (h : w.ownsRow b e size v n xs) (hg : w.heap.size ≤ g) : v.ownBlock ≠ some g := fun q => by have := (h.lt g q).2; omega
theorem own_sep_symm {u v : Value} (h : u.ownBlock = none ∨ u.ownBlock ≠ v.ownBlock) : v.ownBlock = none ∨ v.ownBlock ≠ u.ownBlock := by
  rcases h with h | h
  · rcases Decidable.em (v.ownBlock = none) with e | e
    · exact .inl e
    · exact .inr (by rw [h]; exact e)
  · exact .inr (fun e => h e.symm)
def S10 (gB ga gb g1 g2 k : Nat) (u1 u2 : Value) (p1 p2 p3 p4 lo hg : Int) (W : World) : Prop := W.cell? ⟨gB, 0, none⟩ = some u1 ∧ W.cell? ⟨gB, 1, none⟩ = some u2 ∧ W.cell? ⟨ga, 0, none⟩ = some (.int .i64 p1) ∧ W.cell? ⟨ga, 1, none⟩ = some (.int .i64 p2) ∧ W.cell? ⟨gb, 0, none⟩ = some (.int .i64 p3) ∧ W.cell? ⟨gb, 1, none⟩ = some (.int .i64 p4) ∧ W.cell? ⟨g1, k, none⟩ = some (.int .i64 lo) ∧ W.cell? ⟨g2, k, none⟩ = some (.int .i64 hg)
theorem flat2_snoc (f : Nat → Int × Int) (k : Nat) : flat2 ((List.range (k + 1)).map f) = flat2 ((List.range k).map f) ++ [.int .i64 (f k).1, .int .i64 (f k).2] := by
  rw [List.range_succ, List.map_append, flat2_append]; rfl
theorem Tk.len_in (T : Tk) : 3 ≤ T.len ∧ T.len ≤ 10 := by unfold Tk.len; omega
/-- A goal that is proved elsewhere. -/
structure Lk (p : Prop) : Prop where
  out : p
end Go.Proofs.Ytiflhimmieflpaa
