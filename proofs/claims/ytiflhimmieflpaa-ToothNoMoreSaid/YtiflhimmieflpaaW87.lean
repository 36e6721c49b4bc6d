/- Walks: what the law of the curve says of a blade, and what it stores. -/
import Derived.Test.YtiflhimmieflpaaW85
import Derived.Test.YtiflhimmieflpaaW76
namespace Go.Proofs.Ytiflhimmieflpaa
open Go.RowKit Go.Maps

/-- A valid blade, and edges that are true of it. -/
structure BF (B : Bl) (L H : Nat → Int) : Prop where
  nn : B.n' = B.n
  n3 : 3 ≤ B.n
  n10 : B.n ≤ 10
  m3 : B.m ≤ 3
  lb : B.bot.length = B.n
  lt : B.top.length = B.n
  ed : EdgeIn B.bend B.bot B.top
  ck : (B.cr.any fun k => !crackOk B.n k) = false
  tb : Truth B.bot B.bend L
  tt : Truth B.top B.bend H
theorem Tk.bf {T : Tk} (hc : ∀ x ∈ T.cols, Byte x) (hk : ∀ x ∈ T.crk, Byte x) (A A' K : Option Addr) (ca ca' m cd : Nat) (hm : m ≤ 3) : BF (T.blade A A' K ca ca' m cd) T.low T.high :=
  ⟨rfl, T.len_in.1, T.len_in.2, hm, by simp [Tk.blade], by simp [Tk.blade], Tk.edgeIn hc, Tk.cracks_ok hk m T.len_in.1 T.len_in.2, Tk.botTruth hc _, Tk.topTruth hc _⟩
theorem edge_cerr {n n' m : Nat} {bend : Int} {bot top : List (Int × Int)} {cr : List Crack} (hn : bot.length = n) (hnn : n' = n) (hm : m ≤ 4) (h : EdgeIn bend bot top) (hc : (cr.any fun k => !crackOk n k) = false) :
    curveErr n n' m bend bot top cr = if bentOk bot bend = false then 9 else if bentOk top bend = false then 9 else 0 := by
  subst hn
  subst hnn
  exact h.err hm hc
section
variable {B B' : Bl} {L H : Nat → Int}
theorem BF.oks (h : BF B L H) : bentOk B.bot B.bend = true ∧ bentOk B.top B.bend = true := ⟨truth_ok h.tb, truth_ok h.tt⟩
theorem BF.ok (h : BF B L H) : B.cerr = 0 := by
  unfold Bl.cerr
  rw [edge_cerr h.lb h.nn (by have := h.m3; omega) h.ed h.ck, h.oks.1, h.oks.2]
  rfl
/-- The edge that is looked at. -/
def Bl.edge (B : Bl) (ab : Bool) : List (Int × Int) := if ab = true then B.top else B.bot
/-- A blade of which a column of one edge is set to a height. -/
def Bl.put (B : Bl) (ab : Bool) (x : Nat) (v : Int) : Bl := ⟨B.A, B.A', B.K, B.n, B.c, B.n', B.c', B.m, B.d, B.bend, if ab = true then B.bot else B.bot.set x (v, v), if ab = true then B.top.set x (v, v) else B.top, B.cr⟩
theorem Bl.Like.put (h : B.Like B') (ab : Bool) (x : Nat) (v : Int) : (B.put ab x v).Like (B'.put ab x v) := by
  cases ab
  · exact ⟨h.n, h.n', h.m, h.bend, (show B'.bot.set x (v, v) = B.bot.set x (v, v) by rw [h.bot]), h.top, h.cr⟩
  · exact ⟨h.n, h.n', h.m, h.bend, h.bot, (show B'.top.set x (v, v) = B.top.set x (v, v) by rw [h.top]), h.cr⟩
theorem BF.put_cerr (h : BF B L H) (ab : Bool) {x : Nat} {v : Int} (hx : x < B.n) (hv : ((B.edge ab).getD x (0, 0)).1 ≤ v ∧ v ≤ ((B.edge ab).getD x (0, 0)).2) :
    (B.put ab x v).cerr = if bentOk ((B.edge ab).set x (v, v)) B.bend = false then 9 else 0 := by
  unfold Bl.cerr
  have hm : B.m ≤ 4 := by have := h.m3; omega
  have hlb := h.lb
  cases ab
  · have e := edge_cerr (m := B.m) (cr := B.cr) (n := B.n) (n' := B.n') (by rw [List.length_set]; exact hlb) h.nn hm (set_edge h.ed (by omega) hv) h.ck
    rw [h.oks.2] at e
    simpa [Bl.put, Bl.edge] using e
  · have e := edge_cerr (m := B.m) (cr := B.cr) (n := B.n) (n' := B.n') hlb h.nn hm (set_edge' h.ed (by omega) hv) h.ck
    rw [h.oks.1] at e
    simpa [Bl.put, Bl.edge] using e
/-- The four heights that are tried. -/
def nth4 (a b : Int) (k : Nat) : Int := if k = 0 then a else if k = 1 then b else if k = 2 then a - 1 else b + 1
theorem BF.tried (h : BF B L H) (ab : Bool) {x k : Nat} {v a b : Int} (hx : x < B.n) (ha : a = ((bentL (B.edge ab) B.bend).getD x (0, 0)).1) (hb : b = ((bentL (B.edge ab) B.bend).getD x (0, 0)).2) (hv : v = nth4 a b k) (hin : ((B.edge ab).getD x (0, 0)).1 ≤ v ∧ v ≤ ((B.edge ab).getD x (0, 0)).2) :
    (B.put ab x v).cerr = if k < 2 then 0 else 9 := by
  rw [h.put_cerr ab hx hin]
  have hl : x < (B.edge ab).length := by
    have := h.lb
    have := h.lt
    cases ab <;> simp [Bl.edge] <;> omega
  have hok : bentOk (B.edge ab) B.bend = true := by
    cases ab
    · exact h.oks.1
    · exact h.oks.2
  by_cases h2 : k < 2
  · rw [if_pos h2, bent_set_ok h.ed.b0.1 hok hl (by unfold nth4 at hv; split at hv; · left; omega
                                                    split at hv; · right; omega
                                                    omega)]
    rfl
  · rw [if_neg h2, bent_set_no h.ed.b0.1 hl hin (by unfold nth4 at hv; rw [if_neg (by omega), if_neg (by omega)] at hv; split at hv <;> omega)]
    rfl
theorem BF.like (h : BF B L H) (hl : B.Like B') : BF B' L H := by
  refine ⟨by rw [hl.n', hl.n]; exact h.nn, by rw [hl.n]; exact h.n3, by rw [hl.n]; exact h.n10, by rw [hl.m]; exact h.m3, by rw [hl.n, hl.bot]; exact h.lb, by rw [hl.n, hl.top]; exact h.lt, by rw [hl.bend, hl.bot, hl.top]; exact h.ed, by rw [hl.n, hl.cr]; exact h.ck, by rw [hl.bend, hl.bot]; exact h.tb, by rw [hl.bend, hl.top]; exact h.tt⟩
/-- Within the curve a blade has the same curve. -/
theorem BF.within (h : BF B L H) : curveErr B.n B.n' B.m B.bend (bentL B.bot B.bend) (bentL B.top B.bend) B.cr = 0 := by
  have b := h.ed.b0.1
  rw [edge_cerr (by rw [bentL_length]; exact h.lb) h.nn (by have := h.m3; omega) (bent_edge h.ed h.oks.1 h.oks.2) h.ck, (bent_twice b h.oks.1).1, (bent_twice b h.oks.2).1]
  rfl
/-- What is said of each column. -/
theorem BF.col (h : BF B L H) {i : Nat} (hi : i < B.n) :
    (((bentL B.bot B.bend).getD i (0, 0)).1 ≤ L i ∧ L i ≤ ((bentL B.bot B.bend).getD i (0, 0)).2) ∧ (((bentL B.top B.bend).getD i (0, 0)).1 ≤ H i ∧ H i ≤ ((bentL B.top B.bend).getD i (0, 0)).2) ∧
    ((B.bot.getD i (0, 0)).1 ≤ ((bentL B.bot B.bend).getD i (0, 0)).1 ∧ ((bentL B.bot B.bend).getD i (0, 0)).2 ≤ (B.bot.getD i (0, 0)).2) ∧ ((B.top.getD i (0, 0)).1 ≤ ((bentL B.top B.bend).getD i (0, 0)).1 ∧ ((bentL B.top B.bend).getD i (0, 0)).2 ≤ (B.top.getD i (0, 0)).2) :=
  ⟨truth_bent h.tb i (by rw [h.lb]; exact hi), truth_bent h.tt i (by rw [h.lt]; exact hi), bent_sub _ _ i (by rw [h.lb]; exact hi), bent_sub _ _ i (by rw [h.lt]; exact hi)⟩
theorem BF.range (h : BF B L H) (ab : Bool) {i : Nat} (hi : i < B.n) : 0 ≤ ((B.edge ab).getD i (0, 0)).1 ∧ ((B.edge ab).getD i (0, 0)).2 ≤ 300 ∧ ((B.edge ab).getD i (0, 0)).1 ≤ ((bentL (B.edge ab) B.bend).getD i (0, 0)).1 ∧ ((bentL (B.edge ab) B.bend).getD i (0, 0)).1 ≤ ((bentL (B.edge ab) B.bend).getD i (0, 0)).2 ∧ ((bentL (B.edge ab) B.bend).getD i (0, 0)).2 ≤ ((B.edge ab).getD i (0, 0)).2 := by
  have a := h.ed.bs i (by rw [h.lb]; exact hi)
  have b := h.ed.b0.1
  cases ab
  · have c := bent_sub B.bot B.bend i (by rw [h.lb]; exact hi)
    have d := bent_full b h.oks.1 i (by rw [h.lb]; exact hi)
    simp only [Bl.edge, Bool.false_eq_true, if_false]
    omega
  · have c := bent_sub B.top B.bend i (by rw [h.lt]; exact hi)
    have d := bent_full b h.oks.2 i (by rw [h.lt]; exact hi)
    simp only [Bl.edge, if_true]
    omega
end
/-- What the law holds of the blade, and of what it truly is. -/
structure CV (w : World) (B : Bl) (L H : Nat → Int) (gb g1 c1 g2 c2 : Nat) (v : Value) (zs : Array Value) (W : World) : Prop where
  bl : Blk W gb 25 #[.slice B.A B.n B.c, .slice B.A' B.n' B.c', .int .i64 B.bend, .slice B.K B.m B.d]
  sl : Blk W (gb + 1) 37 zs
  rl : Blk W (gb + 1 + 1) 86 #[.slice (some ⟨g1, 0, none⟩) B.n c1, .slice (some ⟨g2, 0, none⟩) B.n c2, v]
  at_ : B.At W
  i1 : Ints W (some ⟨g1, 0, none⟩) B.n ((List.range B.n).map L)
  i2 : Ints W (some ⟨g2, 0, none⟩) B.n ((List.range B.n).map H)
  bel : Below w.heap.size w W
theorem CV.below {w W W' : World} {B : Bl} {L H : Nat → Int} {gb g1 c1 g2 c2 : Nat} {v : Value} {zs : Array Value} (h : CV w B L H gb g1 c1 g2 c2 v zs W) (hb : Below W.heap.size W W') : CV w B L H gb g1 c1 g2 c2 v zs W' :=
  ⟨blk_keep hb h.bl, blk_keep hb h.sl, blk_keep hb h.rl, h.at_.below hb, h.i1.below hb, h.i2.below hb, below_then h.bel hb⟩
theorem ints_cell {w : World} {g n k : Nat} {f : Nat → Int} (h : Ints w (some ⟨g, 0, none⟩) n ((List.range n).map f)) (hk : k < n) : w.cell? ⟨g, k, none⟩ = some (.int .i64 (f k)) := by
  obtain ⟨b, o, e, _, hc⟩ := h.at_ hk
  simp only [Option.some.injEq, Addr.mk.injEq, and_true] at e
  obtain ⟨rfl, rfl⟩ := e
  rw [range_getD f 0 hk, Nat.zero_add] at hc
  exact hc
theorem pairs_cell0 {w : World} {g n k : Nat} {xs : List (Int × Int)} (h : Pairs w (some ⟨g, 0, none⟩) n xs) (hk : k < n) : w.cell? ⟨g, k * 2, none⟩ = some (.int .i64 (xs.getD k (0, 0)).1) ∧ w.cell? ⟨g, k * 2 + 1, none⟩ = some (.int .i64 (xs.getD k (0, 0)).2) := by
  obtain ⟨b, o, e, _, h1, h2⟩ := h.at_ hk
  simp only [Option.some.injEq, Addr.mk.injEq, and_true] at e
  obtain ⟨rfl, rfl⟩ := e
  rw [Nat.zero_add] at h1 h2
  exact ⟨h1, h2⟩
theorem below_put {s : Nat} {W0 W : World} {g o : Nat} {u v : Value} (h : Below s W0 W) (hg : s ≤ g) : Below s W0 (W.setCells g o [u, v]) :=
  (h.setCell (p := ⟨g, o, none⟩) hg u).setCell (p := ⟨g, o + 1, none⟩) hg v
theorem blk_put {W : World} {g g' o : Nat} {t : TypeId} {cs : Array Value} {u v : Value} (h : Blk W g t cs) (hg : g ≠ g') : Blk (W.setCells g' o [u, v]) g t cs :=
  (h.far (p := ⟨g', o, none⟩) hg u).far (p := ⟨g', o + 1, none⟩) hg v
theorem reads_put {W : World} {size n g o : Nat} {A : Option Addr} {xs : List Value} {u v : Value} (h : Reads W size A n xs) (hne : ∀ b o, A = some ⟨b, o, none⟩ → 0 < n → b ≠ g) : Reads (W.setCells g o [u, v]) size A n xs :=
  (h.setFar hne o u).setFar hne (o + 1) v
theorem on_far {b g : Nat} {W : World} {e t : TypeId} {size n : Nat} {A : Option Addr} {c : Nat} {xs : List Value} {cs : Array Value} (h : ON b W e size n A c xs) (hg : Blk W g t cs) (hne : e ≠ t) : ∀ b o, A = some ⟨b, o, none⟩ → 0 < n → b ≠ g := fun b' o e' hn => by
  obtain ⟨g1, cc, e2⟩ := own_form (h.own hn) hn
  simp only [Value.slice.injEq, true_and] at e2
  obtain ⟨e3, rfl⟩ := e2
  have oc := h.own hn
  rw [e3] at oc e'
  obtain ⟨csc, Bc, _⟩ := own_blk oc
  simp only [Option.some.injEq, Addr.mk.injEq, and_true] at e'
  obtain ⟨rfl, _⟩ := e'
  exact blk_ne Bc hg hne
theorem own_put1 {b : Nat} {W : World} {B : Bl} (hat : B.At W) (ha : ON b W 98 2 B.n B.A B.c (flat2 B.bot)) (hb : ON b W 98 2 B.n' B.A' B.c' (flat2 B.top)) (hc : ON b W 111 6 B.m B.K B.d (flat6 B.cr))
    (hs : ∀ ga oa gb ob, 0 < B.n → 0 < B.n' → B.A = some ⟨ga, oa, none⟩ → B.A' = some ⟨gb, ob, none⟩ → ga ≠ gb) (hnn : B.n' = B.n) (ab : Bool) {x : Nat} (hx : x < B.n) (v : Int) :
    ∃ g cs, (if ab = true then B.A' else B.A) = some ⟨g, 0, none⟩ ∧ b ≤ g ∧ Blk W g 98 cs ∧ W.there g (x * 2) 2 ∧ (B.put ab x v).At (W.setCells g (x * 2) [.int .i64 v, .int .i64 v]) := by
  have la : B.bot.length = B.n := hat.hb.len
  have lb : B.top.length = B.n' := hat.ht.len
  obtain ⟨ga, ca, ea⟩ := own_form (ha.own (by omega)) (by omega)
  obtain ⟨gb, cb, eb⟩ := own_form (hb.own (by omega)) (by omega)
  simp only [Value.slice.injEq, true_and] at ea eb
  have oa := ha.own (by omega)
  have ob := hb.own (by omega)
  rw [ea.1] at oa
  rw [eb.1] at ob
  have hne : ga ≠ gb := hs ga 0 gb 0 (by omega) (by omega) ea.1 eb.1
  obtain ⟨csa, Ba, _⟩ := own_blk oa
  obtain ⟨csb, Bb, _⟩ := own_blk ob
  cases ab
  · have q := row2_of_own oa la x hx
    have hq : Pairs (W.setCells ga (x * 2) [.int .i64 v, .int .i64 v]) (some ⟨ga, 0, none⟩) B.n (B.bot.set x (v, v)) := setCell2_own oa la hx v
    refine ⟨ga, csa, ea.1, (oa.lt ga rfl).1, Ba, there2 q.1 q.2.1 q.2.2.1 q.2.2.2, ⟨?_, reads_put hat.ht (fun b o e _ => ?_), reads_put hat.hk (on_far hc Ba (by decide)), hat.n1, hat.n2, hat.n3⟩⟩
    · rw [← ea.1] at hq; exact hq
    · have e' := e
      rw [show (B.put false x v).A' = B.A' from rfl, eb.1] at e'
      simp only [Option.some.injEq, Addr.mk.injEq, and_true] at e'
      rw [← e'.1]
      exact fun h => hne h.symm
  · have q := row2_of_own ob lb x (by omega)
    have hq : Pairs (W.setCells gb (x * 2) [.int .i64 v, .int .i64 v]) (some ⟨gb, 0, none⟩) B.n' (B.top.set x (v, v)) := setCell2_own ob lb (by omega) v
    refine ⟨gb, csb, eb.1, (ob.lt gb rfl).1, Bb, there2 q.1 q.2.1 q.2.2.1 q.2.2.2, ⟨reads_put hat.hb (fun b o e _ => ?_), ?_, reads_put hat.hk (on_far hc Bb (by decide)), hat.n1, hat.n2, hat.n3⟩⟩
    · have e' := e
      rw [show (B.put true x v).A = B.A from rfl, ea.1] at e'
      simp only [Option.some.injEq, Addr.mk.injEq, and_true] at e'
      rw [← e'.1]
      exact hne
    · rw [← eb.1] at hq; exact hq
/-- A span of one's own copy is stored into. -/
theorem own_put {b : Nat} {W : World} {B : Bl} (hat : B.At W) (ha : ON b W 98 2 B.n B.A B.c (flat2 B.bot)) (hb : ON b W 98 2 B.n' B.A' B.c' (flat2 B.top)) (hc : ON b W 111 6 B.m B.K B.d (flat6 B.cr))
    (hs : ∀ ga oa gb ob, 0 < B.n → 0 < B.n' → B.A = some ⟨ga, oa, none⟩ → B.A' = some ⟨gb, ob, none⟩ → ga ≠ gb) (hnn : B.n' = B.n) (ab : Bool) {x : Nat} (hx : x < B.n) (v : Int) :
    ∃ g, (if ab = true then B.A' else B.A) = some ⟨g, 0, none⟩ ∧ b ≤ g ∧ ∀ W', Below W.heap.size W W' → (∃ cs, Blk W' g 98 cs) ∧ W'.there g (x * 2) 2 ∧ (B.put ab x v).At (W'.setCells g (x * 2) [.int .i64 v, .int .i64 v]) := by
  obtain ⟨g, cs, e, h1, _, _, _⟩ := own_put1 hat ha hb hc hs hnn ab hx v
  refine ⟨g, e, h1, fun W' hbl => ?_⟩
  obtain ⟨g', cs', e', h1', h2, h3, h4⟩ := own_put1 (hat.below hbl) (ha.below hbl) (hb.below hbl) (hc.below hbl) hs hnn ab hx v
  rw [e] at e'
  simp only [Option.some.injEq, Addr.mk.injEq, and_true] at e'
  subst e'
  exact ⟨⟨cs', h2⟩, h3, h4⟩
theorem wpList_append_copy2 {P : Program} {ops : Array Oper} {rest : List Oper} {o : Oper} {a : Act} {w : World} {Q : Exit → Act → World → Prop} (hgd : o.guard = none) (s x : Operand) (t : TypeId) (hop : o.op = Op.call { callee := Callee.builtin Builtin.append, args := #[s, x], argTypes := #[t, t] })
    (e : TypeId) (i : TypeInfo) (z : Value) (size bytes : Nat) (ht : P.underlying t = some (.slice e)) (hi : P.info? e = some i) (hz : i.zero = some z) (hsz : i.size = size) (hby : i.bytes = bytes) (hzs : z.cells.size = size) (h0 : 0 < size)
    (g : Nat) (hs : a.eval s = .slice (some ⟨g, 0, none⟩) 0 0) (A : Option Addr) (n c : Nat) (hx : a.eval x = .slice A n c) (xs : List Value) (hr : Reads w size A n xs) (hn : n ≤ maxLen) (hb : n * bytes ≤ 140737488355328)
    (h : ∀ A' c' w', ON w.heap.size w' e size n A' c' xs → Below w.heap.size w w' → wpList P ops Q rest (a.put o.dst (.slice A' n c')) w') : wpList P ops Q (o :: rest) a w := by
  refine wpList_plain hgd fun K hK => ?_
  obtain ⟨A', c', w', hrun, h1, h2⟩ := run_append_copy2 (P := P) w t o.type e i z size bytes ht hi hz hsz hby hzs h0 g A n c xs hr hn hb
  unfold Oper.wp
  simp [execOp, hop, resolve, invoke, builtin, hs, hx, hrun, Result.andThen]
  exact hK _ _ (h A' c' w' h1 h2)
/-- The same with the curve's lists. -/
structure CP (w : World) (B : Bl) (L H : Nat → Int) (gb g1 c1 g2 c2 h1 h2 : Nat) (v : Value) (zs : Array Value) (W : World) : Prop where
  c : CV w B L H gb g1 c1 g2 c2 v zs W
  p : Pairs W (some ⟨h1, 0, none⟩) B.n (bentL B.bot B.bend)
  q : Pairs W (some ⟨h2, 0, none⟩) B.n (bentL B.top B.bend)
theorem CP.below {w W W' : World} {B : Bl} {L H : Nat → Int} {gb g1 c1 g2 c2 h1 h2 : Nat} {v : Value} {zs : Array Value} (h : CP w B L H gb g1 c1 g2 c2 h1 h2 v zs W) (hb : Below W.heap.size W W') : CP w B L H gb g1 c1 g2 c2 h1 h2 v zs W' :=
  ⟨h.c.below hb, h.p.below hb, h.q.below hb⟩
def S11 (gb f ba o h k : Nat) (V : Value) (r1 r2 p1 p2 : Int) (W : World) : Prop := W.cell? ⟨gb, f, none⟩ = some V ∧ W.cell? ⟨ba, o, none⟩ = some (.int .i64 r1) ∧ W.cell? ⟨ba, o + 1, none⟩ = some (.int .i64 r2) ∧ W.cell? ⟨h, k * 2, none⟩ = some (.int .i64 p1) ∧ W.cell? ⟨h, k * 2 + 1, none⟩ = some (.int .i64 p2)
def S21 (go f : Nat) (V : Value) (W : World) : Prop := W.cell? ⟨go, f, none⟩ = some V ∧ True
end Go.Proofs.Ytiflhimmieflpaa
