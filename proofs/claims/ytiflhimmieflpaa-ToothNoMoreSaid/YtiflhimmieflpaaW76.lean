/- Walks: the reference's Sounded. -/
import Derived.Test.YtiflhimmieflpaaW75
namespace Go.Proofs.Ytiflhimmieflpaa
open Go.RowKit Go.Maps

/-- What is held may change on the way, to what says more. -/
theorem wpAnyH_mono {P : Program} {ops : Array Oper} {Q : Exit → Act → World → Prop} {md : Region.Mode} {S S' : World → Prop} (h : ∀ w, S' w → S w) : ∀ (fuel : Nat) (listed : Array Bool) (a : Act) (w : World), wpAnyH P md ops Q S' fuel listed a w → wpAnyH P md ops Q S fuel listed a w
  | 0, _, _, _, hh => hh
  | fuel + 1, _, _, _, hh => ⟨hh.1, fun i hi => wpOp_mono (fun a' w' h' => ⟨h _ h'.1, wpAnyH_mono h fuel _ a' w' h'.2⟩) (hh.2 i hi)⟩
theorem cell_stay {W W' : World} (hb : Below W.heap.size W W') {a : Addr} {v : Value} (hc : W.cell? a = some v) : W'.cell? a = some v := (hb.cell (World.block_lt_of_cell? W a hc)).trans hc
theorem wpAnyH_takeD {P : Program} {ops : Array Oper} {Q : Exit → Act → World → Prop} {md : Region.Mode} {S : World → Prop} {i : Nat} {oi : Oper} (d : Tmp) {v : Value} {fuel : Nat} {listed : Array Bool} {a : Act} {w : World} (hi : ops[i]? = some oi) (hd : (ops[i]?).bind (·.dst) = some d)
    (hs : Region.noSelect ops = true) (hf : Region.free md ops listed i = true) (hr : (Region.ready md ops listed).contains i = true)
    (hQ : ∀ c a w, Q (.panic c) (a.put (some d) v) w → Q (.panic c) a w) (hy : YieldsIf P ops S oi v a) (hS : S w)
    (h : wpAnyH P md ops Q S fuel (listed.setIfInBounds i true) (a.put (some d) v) w) : wpAnyH P md ops Q S (fuel + 1) listed a w := by
  have e : oi.dst = some d := by rw [hi] at hd; exact hd
  rw [← e] at hQ h
  exact wpAnyH_take hi hs hf hr hQ hy hS h
/-- Three cells of a box, and one cell more, and another one. -/
def Held3 (g : Nat) (a b c : Value) (W : World) : Prop := W.cell? ⟨g, 0, none⟩ = some a ∧ W.cell? ⟨g, 1, none⟩ = some b ∧ W.cell? ⟨g, 2, none⟩ = some c
def Held4 (g : Nat) (a b c : Value) (p : Addr) (u : Value) (W : World) : Prop := Held3 g a b c W ∧ W.cell? p = some u
def Held5 (g : Nat) (a b c : Value) (p : Addr) (u : Value) (q : Addr) (v : Value) (W : World) : Prop := Held4 g a b c p u W ∧ W.cell? q = some v
theorem ones2 (a b : Int) : (#[Value.int .i64 a, Value.int .i64 b]).all (·.oneCell') = true := all_oneCell_toArray (cs := [.int .i64 a, .int .i64 b]) (fun v hv => by simp only [List.mem_cons, List.not_mem_nil, or_false] at hv; rcases hv with rfl | rfl <;> rfl)
theorem wp_store_midN {P : Program} {op : Oper} {a : Act} {w : World} {K : Act → World → Prop} {Q : Exit → Act → World → Prop} (hd : op.dst = none) (ty : TypeId) (x y : Operand) (ho : op.op = .store ty x y)
    (b o : Nat) (cells : Array Value) (hx : a.eval x = .pointer (some ⟨b, o, none⟩)) (hy : a.eval y = .agg cells) (ht : w.there b o cells.size) (hi : (P.info? ty).map (·.size) = some cells.size) (h1 : cells.all (·.oneCell') = true)
    (h : K a (w.setCells b o cells.toList)) : op.wp P a w K Q := wp_store_mid ty x y ho b o cells hx hy ht hi h1 (by rw [hd]; exact h)
theorem there2 {w : World} {g o : Nat} {a b : Value} (h1 : w.cell? ⟨g, o, none⟩ = some a) (h2 : w.cell? ⟨g, o + 1, none⟩ = some b) (f1 : w.frozen? ⟨g, o, none⟩ = false) (f2 : w.frozen? ⟨g, o + 1, none⟩ = false) : w.there g o 2 := fun j hj => by
  match j, hj with
  | 0, _ => exact ⟨by rw [Nat.add_zero, h1]; rfl, f1⟩
  | 1, _ => exact ⟨by rw [h2]; rfl, f2⟩
theorem blk_ne {w : World} {g g' : Nat} {t t' : TypeId} {cs cs' : Array Value} (h : Blk w g t cs) (h' : Blk w g' t' cs') (hne : t ≠ t') : g ≠ g' := by
  rintro rfl
  unfold Blk at h h'
  rw [h] at h'
  simp only [Option.some.injEq, Obj.cells.injEq] at h'
  exact hne h'.2.1
theorem Row2.far {w : World} {g g' n x : Nat} {S : Nat → Int × Int} (h : Row2 w g n S) (hne : g ≠ g') (u v : Value) : Row2 ((w.setCell ⟨g', x * 2, none⟩ u).setCell ⟨g', x * 2 + 1, none⟩ v) g n S := fun i hi => by
  obtain ⟨h1, h2, h3, h4⟩ := h i hi
  have e := fun p (hp : p.block = g) => set_far w g' x 0 u v p (by rw [hp]; exact hne)
  exact ⟨(e _ rfl).trans h1, (e _ rfl).trans h2, (World.frozen?_setCell _ _ _ _).trans ((World.frozen?_setCell _ _ _ _).trans h3), (World.frozen?_setCell _ _ _ _).trans ((World.frozen?_setCell _ _ _ _).trans h4)⟩
theorem Reads.setFar {w : World} {size n g : Nat} {A : Option Addr} {xs : List Value} (h : Reads w size A n xs) (hne : ∀ b o, A = some ⟨b, o, none⟩ → 0 < n → b ≠ g) (i : Nat) (u : Value) : Reads (w.setCell ⟨g, i, none⟩ u) size A n xs := by
  refine ⟨h.1, fun hn => ?_⟩
  obtain ⟨b, o, e, hb, hc⟩ := h.2 hn
  have hb2 := hne b o e hn
  exact ⟨b, o, e, by simpa using hb, fun j v hv => (World.cell?_setCell_other _ _ _ _ (fun e => hb2 (congrArg Addr.block e).symm)).trans (hc j v hv)⟩
theorem Reads.rowFar {w : World} {size n g : Nat} {A : Option Addr} {xs : List Value} (h : Reads w size A n xs) (hne : ∀ b o, A = some ⟨b, o, none⟩ → 0 < n → b ≠ g) (cs : Array Value) : Reads (w.setRow g cs) size A n xs := by
  refine ⟨h.1, fun hn => ?_⟩
  obtain ⟨b, o, e, hb, hc⟩ := h.2 hn
  have hb2 := hne b o e hn
  exact ⟨b, o, e, by simpa using hb, fun j v hv => by rw [World.cell?_of_block (w := w) (setRow_other w g b cs hb2)]; exact hc j v hv⟩
theorem setCell2_own {w : World} {base : Nat} {e : TypeId} {n g cap : Nat} {xs : List (Int × Int)} (h : w.ownsRow base e 2 (.slice (some ⟨g, 0, none⟩) n cap) n (flat2 xs)) (hl : xs.length = n) {x : Nat} (hx : x < n) (v : Int) :
    Pairs ((w.setCell ⟨g, x * 2, none⟩ (.int .i64 v)).setCell ⟨g, x * 2 + 1, none⟩ (.int .i64 v)) (some ⟨g, 0, none⟩) n (xs.set x (v, v)) :=
  pairs_of_row2 ((row2_of_own h hl).set x hx v v 0) (by rw [List.length_set]; exact hl) (fun k hk => getD_set xs x k (v, v) (by omega))
theorem CW.s3 {w W : World} {B : Bl} (h : CW w B W) : W.cell? ⟨w.heap.size, 0, none⟩ = some (.slice B.A B.n B.c) ∧ W.cell? ⟨w.heap.size, 1, none⟩ = some (.slice B.A' B.n' B.c') ∧ W.cell? ⟨w.heap.size, 2, none⟩ = some (.int .i64 B.bend) := ⟨h.b.cell 0, h.b.cell 1, h.b.cell 2⟩
theorem CW.far {w W : World} {B : Bl} (h : CW w B W) {g : Nat} (hg : w.heap.size + 1 < g) (i : Nat) (u : Value) : CW w B (W.setCell ⟨g, i, none⟩ u) :=
  ⟨h.b.far (p := ⟨g, i, none⟩) (by simp; omega) u, h.z.far (p := ⟨g, i, none⟩) (by simp; omega) u, h.bel.setCell (p := ⟨g, i, none⟩) (by simp; omega) u⟩
/-- A blade when its column x was sounded. -/
def Bl.sound (B : Bl) (x : Nat) (lo hi : Int) : Bl := ⟨B.A, B.A', B.K, B.n, B.c, B.n', B.c', B.m, B.d, B.bend, B.bot.set x (lo, lo), B.top.set x (hi, hi), B.cr⟩

set_option maxRecDepth 100000 in
set_option maxHeartbeats 8000000 in
theorem RefSounded_any (B : Bl) (x : Nat) (lo hi : Int) (w : World) (h : B.At w) (hO : B.Ok) (hc : B.cerr = 0) (hx : x < B.n) (hlo : lo = ((bentL B.bot B.bend).getD x (0, 0)).1) (hhi : hi = ((bentL B.top B.bend).getD x (0, 0)).2) :
    Calls Try.prog 87 #[B.val, .int .i64 x] w fun e w' => ∃ B' : Bl, e = .returned B'.val ∧ (B.sound x lo hi).Like B' ∧ B'.At w' ∧ Below w.heap.size w w' := by
  have n2 := hO.n2
  have m4 := hO.m4
  have hE := bentOk_both hc
  have HW : Hid (CW w B ((w.alloc (.cells #[.slice B.A B.n B.c, .slice B.A' B.n' B.c', .int .i64 B.bend, .slice B.K B.m B.d] 25)).alloc (.cells #[.slice none 0 0, .slice none 0 0, .int .i64 0, .slice none 0 0] 25))) :=
    ⟨(Blk.new w _ _ rfl).alloc _, Blk.new _ _ _ (by simp), below_alloc' (below_self _ _) _⟩
  have HC := Lib.hid (fun W (hb : Below w.heap.size w W) => RefCopy_own B W (h.below hb) (by omega) (by have := hO.nn; omega) (by omega))
  have HC1 := Lib.hid (fun W (hb : Below w.heap.size w W) => RefCurve_ok B.A B.n B.c B.bot B.bend W (h.hb.below hb) (by omega) hO.bot hO.b0 hO.b3 hE.1)
  have HC2 := Lib.hid (fun W (hb : Below w.heap.size w W) => RefCurve_ok B.A' B.n' B.c' B.top B.bend W (h.ht.below hb) (by have := hO.nn; omega) hO.top hO.b0 hO.b3 hE.2)
  have HA := Lib.hid h
  have HNN := Lib.hid hO.nn
  have hx1 : (x : Int) < (B.n : Int) := by omega
  have hx2 : (x : Int) < (B.n' : Int) := by have := hO.nn; omega
  have HLO := Lib.hid hlo
  have HHI := Lib.hid hhi
  clear h hlo hhi hE hO hc
  unfold Bl.val at *
  go_enter Try.func87, Try.ntmps87
  have s0 := HW.out.s
  go_wp2_with fail
  generalize ((w.alloc (.cells #[.slice B.A B.n B.c, .slice B.A' B.n' B.c', .int .i64 B.bend, .slice B.K B.m B.d] 25)).alloc (.cells #[.slice none 0 0, .slice none 0 0, .int .i64 0, .slice none 0 0] 25)) = W0 at *
  refine (HC.out _ HW.out.bel).mono ?_
  rintro e w2 ⟨B', rfl, hlike, hat, b2, ha, hb, hc, hsep⟩
  have HL := Lib.hid hlike
  have HS := Lib.hid hsep
  have W2 := Lib.hid (HW.out.below b2)
  have HQ := Lib.hid ((ha.ge HW.out.z.lt).alloc (.cells #[.slice B'.A B'.n B'.c, .slice B'.A' B'.n' B'.c', .int .i64 B'.bend, .slice B'.K B'.m B'.d] 25))
  have HQ' := Lib.hid ((hb.ge HW.out.z.lt).alloc (.cells #[.slice B'.A B'.n B'.c, .slice B'.A' B'.n' B'.c', .int .i64 B'.bend, .slice B'.K B'.m B'.d] 25))
  have HQ3 := Lib.hid ((hc.ge HW.out.z.lt).alloc (.cells #[.slice B'.A B'.n B'.c, .slice B'.A' B'.n' B'.c', .int .i64 B'.bend, .slice B'.K B'.m B'.d] 25))
  have W3 := Lib.hid (W2.out.alloc (.cells #[.slice B'.A B'.n B'.c, .slice B'.A' B'.n' B'.c', .int .i64 B'.bend, .slice B'.K B'.m B'.d] 25))
  have X3 := Lib.hid (Blk.new w2 25 #[.slice B'.A B'.n B'.c, .slice B'.A' B'.n' B'.c', .int .i64 B'.bend, .slice B'.K B'.m B'.d] (g := w2.heap.size) rfl)
  have HZ : Hid (w.heap.size + 1 < w2.heap.size) := W2.out.z.lt
  have HAT := Lib.hid hat
  clear hlike hsep hat b2 ha hb hc HC HW s0
  unfold Bl.val
  have x3 := X3.out.cell
  have s3 := W3.out.s
  go_wp2_with fail
  clear x3 s3
  generalize (w2.alloc (.cells #[.slice B'.A B'.n B'.c, .slice B'.A' B'.n' B'.c', .int .i64 B'.bend, .slice B'.K B'.m B'.d] 25)) = w3 at *
  go_cut [6, 7] (fun s6 s7 W => s6 = .int .i64 lo ∧ s7 = .int .i64 hi ∧ Below w3.heap.size w3 W)
  case first =>
    have WD := Lib.hid W3.out.drew
    have s4 := WD.out.s
    have D4 : Hid (Below w3.heap.size w3 w3.drew) := (Below.refl _ _).drew
    have hS0 : Held3 w.heap.size (.slice B.A B.n B.c) (.slice B.A' B.n' B.c') (.int .i64 B.bend) w3.drew := WD.out.s3
    refine wp_region_held_drew (S := Held3 w.heap.size (.slice B.A B.n B.c) (.slice B.A' B.n' B.c') (.int .i64 B.bend)) (by kernel_rfl) hS0 (fun _ => ?_)
    refine wpAnyH_takeD (i := 0) 10 (v := ?v0) rfl (by kernel_rfl) (by kernel_rfl) (by kernel_rfl) (by kernel_rfl) (fun _ _ _ h => h) (Or.inl ⟨by rfl, ?hy0⟩) (by assumption) ?r0
    case hy0 => (intro w hSw; obtain ⟨h0, h1, h2⟩ := hSw; go_simp; try with_reducible rfl)
    refine wpAnyH_takeD (i := 1) 11 (v := ?v1) rfl (by kernel_rfl) (by kernel_rfl) (by kernel_rfl) (by kernel_rfl) (fun _ _ _ h => h) (Or.inl ⟨by rfl, ?hy1⟩) (by assumption) ?r1
    case hy1 => (intro w hSw; obtain ⟨h0, h1, h2⟩ := hSw; go_simp; try with_reducible rfl)
    refine wpAnyH_takeD (i := 2) 12 (v := ?v2) rfl (by kernel_rfl) (by kernel_rfl) (by kernel_rfl) (by kernel_rfl) (fun _ _ _ h => h) (Or.inl ⟨by rfl, ?hy2⟩) (by assumption) ?r2
    case hy2 => (intro w hSw; obtain ⟨h0, h1, h2⟩ := hSw; go_simp; try with_reducible rfl)
    refine wpAnyH_takeD (i := 3) 13 (v := ?v3) rfl (by kernel_rfl) (by kernel_rfl) (by kernel_rfl) (by kernel_rfl) (fun _ _ _ h => h) (Or.inl ⟨by rfl, ?hy3⟩) (by assumption) ?r3
    case hy3 => (intro w hSw; obtain ⟨h0, h1, h2⟩ := hSw; go_simp; try with_reducible rfl)
    refine wpAnyH_takeD (i := 5) 15 (v := ?v5) rfl (by kernel_rfl) (by kernel_rfl) (by kernel_rfl) (by kernel_rfl) (fun _ _ _ h => h) (Or.inl ⟨by rfl, ?hy5⟩) (by assumption) ?r5
    case hy5 => (intro w hSw; obtain ⟨h0, h1, h2⟩ := hSw; go_simp; try with_reducible rfl)
    refine wpAnyH_takeD (i := 9) 19 (v := ?v9) rfl (by kernel_rfl) (by kernel_rfl) (by kernel_rfl) (by kernel_rfl) (fun _ _ _ h => h) (Or.inl ⟨by rfl, ?hy9⟩) (by assumption) ?r9
    case hy9 => (intro w hSw; obtain ⟨h0, h1, h2⟩ := hSw; go_simp; try with_reducible rfl)
    refine wpAnyH_takeD (i := 10) 20 (v := ?v10) rfl (by kernel_rfl) (by kernel_rfl) (by kernel_rfl) (by kernel_rfl) (fun _ _ _ h => h) (Or.inl ⟨by rfl, ?hy10⟩) (by assumption) ?r10
    case hy10 => (intro w hSw; obtain ⟨h0, h1, h2⟩ := hSw; go_simp; try with_reducible rfl)
    refine wpAnyH_takeD (i := 11) 21 (v := ?v11) rfl (by kernel_rfl) (by kernel_rfl) (by kernel_rfl) (by kernel_rfl) (fun _ _ _ h => h) (Or.inl ⟨by rfl, ?hy11⟩) (by assumption) ?r11
    case hy11 => (intro w hSw; obtain ⟨h0, h1, h2⟩ := hSw; go_simp; try with_reducible rfl)
    refine wpAnyH_takeD (i := 12) 22 (v := ?v12) rfl (by kernel_rfl) (by kernel_rfl) (by kernel_rfl) (by kernel_rfl) (fun _ _ _ h => h) (Or.inl ⟨by rfl, ?hy12⟩) (by assumption) ?r12
    case hy12 => (intro w hSw; obtain ⟨h0, h1, h2⟩ := hSw; go_simp; try with_reducible rfl)
    refine wpAnyH_takeD (i := 14) 24 (v := ?v14) rfl (by kernel_rfl) (by kernel_rfl) (by kernel_rfl) (by kernel_rfl) (fun _ _ _ h => h) (Or.inl ⟨by rfl, ?hy14⟩) (by assumption) ?r14
    case hy14 => (intro w hSw; obtain ⟨h0, h1, h2⟩ := hSw; go_simp; try with_reducible rfl)
    simp only [Act.put, List.setIfInBounds_toArray, List.set_cons_zero, List.set_cons_succ]
    refine wpAnyH_ready (rs := [4]) (by kernel_rfl) (by simp) ?_
    refine AllReadyH.cons rfl (fun K hK => ?_) AllReadyH.nil
    go_simp
    refine (HC1.out _ WD.out.bel).mono ?_
    rintro e W5' ⟨TA, tc, rfl, hT, b5⟩
    have W5 := Lib.hid (WD.out.below b5)
    have D5 := Lib.hid (below_then D4.out b5)
    obtain ⟨ta, tao, rfl, hta, q5, _⟩ := Pairs.at_ hT.r hx
    rw [← HLO.out] at q5
    have hS4 : Held4 w.heap.size (.slice B.A B.n B.c) (.slice B.A' B.n' B.c') (.int .i64 B.bend) ⟨ta, tao + x * 2, none⟩ (.int .i64 lo) W5' := ⟨W5.out.s3, q5⟩
    clear hT b5 hta q5 WD D4 s4 hS0
    refine hK.out _ _ hS4.1 (fun _ => ?_)
    clear hK
    refine wpAnyH_mono (S' := Held4 w.heap.size (.slice B.A B.n B.c) (.slice B.A' B.n' B.c') (.int .i64 B.bend) ⟨ta, tao + x * 2, none⟩ (.int .i64 lo)) (fun _ h => h.1) _ _ _ _ ?_
    refine wpAnyH_takeD (i := 6) 16 (v := ?v6) rfl (by kernel_rfl) (by kernel_rfl) (by kernel_rfl) (by kernel_rfl) (fun _ _ _ h => h) (Or.inl ⟨by rfl, ?hy6⟩) (by assumption) ?r6
    case hy6 => (intro w hSw; obtain ⟨⟨h0, h1, h2⟩, h3⟩ := hSw; go_simp; try with_reducible rfl)
    refine wpAnyH_takeD (i := 7) 17 (v := ?v7) rfl (by kernel_rfl) (by kernel_rfl) (by kernel_rfl) (by kernel_rfl) (fun _ _ _ h => h) (Or.inl ⟨by rfl, ?hy7⟩) (by assumption) ?r7
    case hy7 => (intro w hSw; obtain ⟨⟨h0, h1, h2⟩, h3⟩ := hSw; go_simp; try with_reducible rfl)
    refine wpAnyH_takeD (i := 8) 18 (v := ?v8) rfl (by kernel_rfl) (by kernel_rfl) (by kernel_rfl) (by kernel_rfl) (fun _ _ _ h => h) (Or.inl ⟨by rfl, ?hy8⟩) (by assumption) ?r8
    case hy8 => (intro w hSw; obtain ⟨⟨h0, h1, h2⟩, h3⟩ := hSw; go_simp; try with_reducible rfl)
    simp only [Act.put, List.setIfInBounds_toArray, List.set_cons_zero, List.set_cons_succ]
    refine wpAnyH_ready (rs := [13]) (by kernel_rfl) (by simp) ?_
    refine AllReadyH.cons rfl (fun K hK => ?_) AllReadyH.nil
    go_simp
    refine (HC2.out _ W5.out.bel).mono ?_
    rintro e W6' ⟨TB, td, rfl, hT, b6⟩
    have W6 := Lib.hid (W5.out.below b6)
    have D6 := Lib.hid (below_then D5.out b6)
    obtain ⟨tb, tbo, rfl, htb, _, q7⟩ := Pairs.at_ hT.r (show x < B.n' by omega)
    rw [← HHI.out] at q7
    have hS5 : Held5 w.heap.size (.slice B.A B.n B.c) (.slice B.A' B.n' B.c') (.int .i64 B.bend) ⟨ta, tao + x * 2, none⟩ (.int .i64 lo) ⟨tb, tbo + x * 2 + 1, none⟩ (.int .i64 hi) W6' := ⟨⟨W6.out.s3, cell_stay b6 hS4.2⟩, q7⟩
    clear hT b6 htb q7 W5 D5 hS4
    refine hK.out _ _ hS5.1 (fun _ => ?_)
    clear hK
    refine wpAnyH_mono (S' := Held5 w.heap.size (.slice B.A B.n B.c) (.slice B.A' B.n' B.c') (.int .i64 B.bend) ⟨ta, tao + x * 2, none⟩ (.int .i64 lo) ⟨tb, tbo + x * 2 + 1, none⟩ (.int .i64 hi)) (fun _ h => h.1) _ _ _ _ ?_
    refine wpAnyH_takeD (i := 15) 25 (v := ?v15) rfl (by kernel_rfl) (by kernel_rfl) (by kernel_rfl) (by kernel_rfl) (fun _ _ _ h => h) (Or.inl ⟨by rfl, ?hy15⟩) (by assumption) ?r15
    case hy15 => (intro w hSw; obtain ⟨⟨⟨h0, h1, h2⟩, h3⟩, h4⟩ := hSw; go_simp; try with_reducible rfl)
    refine wpAnyH_takeD (i := 16) 26 (v := ?v16) rfl (by kernel_rfl) (by kernel_rfl) (by kernel_rfl) (by kernel_rfl) (fun _ _ _ h => h) (Or.inl ⟨by rfl, ?hy16⟩) (by assumption) ?r16
    case hy16 => (intro w hSw; obtain ⟨⟨⟨h0, h1, h2⟩, h3⟩, h4⟩ := hSw; go_simp; try with_reducible rfl)
    refine wpAnyH_takeD (i := 17) 27 (v := ?v17) rfl (by kernel_rfl) (by kernel_rfl) (by kernel_rfl) (by kernel_rfl) (fun _ _ _ h => h) (Or.inl ⟨by rfl, ?hy17⟩) (by assumption) ?r17
    case hy17 => (intro w hSw; obtain ⟨⟨⟨h0, h1, h2⟩, h3⟩, h4⟩ := hSw; go_simp; try with_reducible rfl)
    refine wpAnyH_takeD (i := 18) 6 (v := ?v18) rfl (by kernel_rfl) (by kernel_rfl) (by kernel_rfl) (by kernel_rfl) (fun _ _ _ h => h) (Or.inl ⟨by rfl, ?hy18⟩) (by assumption) ?r18
    case hy18 => (intro w hSw; obtain ⟨⟨⟨h0, h1, h2⟩, h3⟩, h4⟩ := hSw; go_simp; try with_reducible rfl)
    refine wpAnyH_takeD (i := 19) 7 (v := ?v19) rfl (by kernel_rfl) (by kernel_rfl) (by kernel_rfl) (by kernel_rfl) (fun _ _ _ h => h) (Or.inl ⟨by rfl, ?hy19⟩) (by assumption) ?r19
    case hy19 => (intro w hSw; obtain ⟨⟨⟨h0, h1, h2⟩, h3⟩, h4⟩ := hSw; go_simp; try with_reducible rfl)
    simp only [Act.put, List.setIfInBounds_toArray, List.set_cons_zero, List.set_cons_succ]
    refine wpAnyH_done (by kernel_rfl) ?_ _
    go_wp2_with fail
    go_meet
    exact ⟨rfl, rfl, D6.out⟩
  case rest =>
    obtain ⟨rfl, rfl, hD⟩ := hcut
    have D6 := Lib.hid hD.drew
    clear hD HC1 HC2 HLO HHI
    have hxn : x < B'.n := by rw [HL.out.n]; exact hx
    have hxn' : x < B'.n' := by rw [HL.out.n', HNN.out]; exact hx
    have X6 := Lib.hid (blk_keep D6.out X3.out)
    have W6 := Lib.hid (W3.out.below D6.out)
    have oa := (HQ.out.below D6.out).own (by omega)
    have ob := (HQ'.out.below D6.out).own (by omega)
    have oc := HQ3.out.below D6.out
    have la : B'.bot.length = B'.n := HAT.out.hb.len
    have lb : B'.top.length = B'.n' := HAT.out.ht.len
    have HLI := Lib.hid (And.intro HL.out.n (And.intro HL.out.n' (And.intro HL.out.m (And.intro HL.out.bend (And.intro HL.out.bot (And.intro HL.out.top HL.out.cr))))))
    have HN3 := Lib.hid (And.intro HAT.out.n1 (And.intro HAT.out.n2 HAT.out.n3))
    obtain ⟨A1, A2, A3, bn, bc, bn', bc', bm, bd, bb, bbot, btop, bcr⟩ := B'
    simp only at hxn hxn' oa ob oc la lb HLI HN3 X6 HS
    obtain ⟨ga, ca, e⟩ := own_form oa (by omega)
    simp only [Value.slice.injEq, true_and] at e
    obtain ⟨rfl, rfl⟩ := e
    obtain ⟨gb, cb, e⟩ := own_form ob (by omega)
    simp only [Value.slice.injEq, true_and] at e
    obtain ⟨rfl, rfl⟩ := e
    have hab : ga ≠ gb := HS.out ga 0 gb 0 (by omega) (by omega) rfl rfl
    obtain ⟨csa, Ba, -⟩ := own_blk oa
    obtain ⟨csb, Bb, -⟩ := own_blk ob
    have hag : w2.heap.size ≠ ga := blk_ne X6.out Ba (by decide)
    have hbg : w2.heap.size ≠ gb := blk_ne X6.out Bb (by decide)
    have haz : w.heap.size + 1 ≠ ga := blk_ne W6.out.z Ba (by decide)
    have hbz : w.heap.size + 1 ≠ gb := blk_ne W6.out.z Bb (by decide)
    have haw : w.heap.size + 1 < ga := by have := (oa.lt ga rfl).1; omega
    have hbw : w.heap.size + 1 < gb := by have := (ob.lt gb rfl).1; omega
    have HKF : Hid (∀ b o, A3 = some ⟨b, o, none⟩ → 0 < bm → b ≠ ga ∧ b ≠ gb ∧ b ≠ w.heap.size + 1) := fun b o e hm => by
      obtain ⟨g, cc, e2⟩ := own_form (oc.own hm) hm
      simp only [Value.slice.injEq, true_and] at e2
      obtain ⟨e3, rfl⟩ := e2
      have oc2 := oc.own hm
      rw [e3] at oc2
      obtain ⟨csc, Bc, _⟩ := own_blk oc2
      rw [e3] at e
      simp only [Option.some.injEq, Addr.mk.injEq, and_true] at e
      obtain ⟨rfl, _⟩ := e
      exact ⟨blk_ne Bc Ba (by decide), blk_ne Bc Bb (by decide), fun e4 => blk_ne W6.out.z Bc (by decide) e4.symm⟩
    have RA := row2_of_own oa la
    have RB := row2_of_own ob lb
    have RC := oc.nr.r
    clear oa ob oc csa csb Ba Bb HQ HQ' HQ3 HAT HS HL D6 W3 X3
    have HHA := Lib.hid haz
    have HHB := Lib.hid hbz
    have HHC := Lib.hid haw
    have HHD := Lib.hid hbw
    have HLA := Lib.hid la
    have HLB := Lib.hid lb
    clear haz hbz haw hbw la lb
    have pa := RA x hxn
    have pb := RB x hxn'
    have pb' := RB.far (x := x) hab.symm (.int .i64 lo) (.int .i64 lo) x hxn'
    have pa' := RA.far (x := x) hab (.int .i64 hi) (.int .i64 hi) x hxn
    have XA : Hid (Blk ((wc.drew.setCell ⟨ga, x * 2, none⟩ (.int .i64 lo)).setCell ⟨ga, x * 2 + 1, none⟩ (.int .i64 lo)) w2.heap.size 25 #[.slice (some ⟨ga, 0, none⟩) bn bc, .slice (some ⟨gb, 0, none⟩) bn' bc', .int .i64 bb, .slice A3 bm bd]) := (X6.out.far (p := ⟨ga, x * 2, none⟩) (by simpa using hag) _).far (p := ⟨ga, x * 2 + 1, none⟩) (by simpa using hag) _
    have XB : Hid (Blk ((wc.drew.setCell ⟨gb, x * 2, none⟩ (.int .i64 hi)).setCell ⟨gb, x * 2 + 1, none⟩ (.int .i64 hi)) w2.heap.size 25 #[.slice (some ⟨ga, 0, none⟩) bn bc, .slice (some ⟨gb, 0, none⟩) bn' bc', .int .i64 bb, .slice A3 bm bd]) := (X6.out.far (p := ⟨gb, x * 2, none⟩) (by simpa using hbg) _).far (p := ⟨gb, x * 2 + 1, none⟩) (by simpa using hbg) _
    have XAB : Hid (Blk ((((wc.drew.setCell ⟨ga, x * 2, none⟩ (.int .i64 lo)).setCell ⟨ga, x * 2 + 1, none⟩ (.int .i64 lo)).setCell ⟨gb, x * 2, none⟩ (.int .i64 hi)).setCell ⟨gb, x * 2 + 1, none⟩ (.int .i64 hi)) w2.heap.size 25 #[.slice (some ⟨ga, 0, none⟩) bn bc, .slice (some ⟨gb, 0, none⟩) bn' bc', .int .i64 bb, .slice A3 bm bd]) := (XA.out.far (p := ⟨gb, x * 2, none⟩) (by simpa using hbg) _).far (p := ⟨gb, x * 2 + 1, none⟩) (by simpa using hbg) _
    have XBA : Hid (Blk ((((wc.drew.setCell ⟨gb, x * 2, none⟩ (.int .i64 hi)).setCell ⟨gb, x * 2 + 1, none⟩ (.int .i64 hi)).setCell ⟨ga, x * 2, none⟩ (.int .i64 lo)).setCell ⟨ga, x * 2 + 1, none⟩ (.int .i64 lo)) w2.heap.size 25 #[.slice (some ⟨ga, 0, none⟩) bn bc, .slice (some ⟨gb, 0, none⟩) bn' bc', .int .i64 bb, .slice A3 bm bd]) := (XB.out.far (p := ⟨ga, x * 2, none⟩) (by simpa using hag) _).far (p := ⟨ga, x * 2 + 1, none⟩) (by simpa using hag) _
    have HRA := Lib.hid RA
    have HRB := Lib.hid RB
    have HRC := Lib.hid RC
    clear RA RB RC
    simp only at pa pb pa' pb'
    have HAB := Lib.hid hab
    have HXN := Lib.hid hxn
    have HXN' := Lib.hid hxn'
    have hx3 : (x : Int) < (bn : Int) := by omega
    have hx4 : (x : Int) < (bn' : Int) := by omega
    clear hab hag hbg
    go_upto_region 3 with (fail)
    have hS0 : Held3 w2.heap.size (.slice (some ⟨ga, 0, none⟩) bn bc) (.slice (some ⟨gb, 0, none⟩) bn' bc') (.int .i64 bb) wc.drew := ⟨X6.out.cell 0, X6.out.cell 1, X6.out.cell 2⟩
    refine wp_region_held_drew (S := Held3 w2.heap.size (.slice (some ⟨ga, 0, none⟩) bn bc) (.slice (some ⟨gb, 0, none⟩) bn' bc') (.int .i64 bb)) (by kernel_rfl) hS0 (fun _ => ?_)
    refine wpAnyH_takeD (i := 0) 28 (v := ?w0) rfl (by kernel_rfl) (by kernel_rfl) (by kernel_rfl) (by kernel_rfl) (fun _ _ _ h => h) (Or.inl ⟨by rfl, ?gy0⟩) (by assumption) ?s0
    case gy0 => (intro w hSw; obtain ⟨h0, h1, h2⟩ := hSw; go_simp; try with_reducible rfl)
    refine wpAnyH_takeD (i := 1) 29 (v := ?w1) rfl (by kernel_rfl) (by kernel_rfl) (by kernel_rfl) (by kernel_rfl) (fun _ _ _ h => h) (Or.inl ⟨by rfl, ?gy1⟩) (by assumption) ?s1
    case gy1 => (intro w hSw; obtain ⟨h0, h1, h2⟩ := hSw; go_simp; try with_reducible rfl)
    refine wpAnyH_takeD (i := 2) 30 (v := ?w2) rfl (by kernel_rfl) (by kernel_rfl) (by kernel_rfl) (by kernel_rfl) (fun _ _ _ h => h) (Or.inl ⟨by rfl, ?gy2⟩) (by assumption) ?s2
    case gy2 => (intro w hSw; obtain ⟨h0, h1, h2⟩ := hSw; go_simp; try with_reducible rfl)
    refine wpAnyH_takeD (i := 3) 31 (v := ?w3) rfl (by kernel_rfl) (by kernel_rfl) (by kernel_rfl) (by kernel_rfl) (fun _ _ _ h => h) (Or.inl ⟨by rfl, ?gy3⟩) (by assumption) ?s3
    case gy3 => (intro w hSw; obtain ⟨h0, h1, h2⟩ := hSw; go_simp; try with_reducible rfl)
    refine wpAnyH_takeD (i := 4) 32 (v := ?w4) rfl (by kernel_rfl) (by kernel_rfl) (by kernel_rfl) (by kernel_rfl) (fun _ _ _ h => h) (Or.inl ⟨by rfl, ?gy4⟩) (by assumption) ?s4
    case gy4 => (intro w hSw; obtain ⟨h0, h1, h2⟩ := hSw; go_simp; try with_reducible rfl)
    refine wpAnyH_takeD (i := 5) 33 (v := ?w5) rfl (by kernel_rfl) (by kernel_rfl) (by kernel_rfl) (by kernel_rfl) (fun _ _ _ h => h) (Or.inl ⟨by rfl, ?gy5⟩) (by assumption) ?s5
    case gy5 => (intro w hSw; obtain ⟨h0, h1, h2⟩ := hSw; go_simp; try with_reducible rfl)
    refine wpAnyH_takeD (i := 6) 34 (v := ?w6) rfl (by kernel_rfl) (by kernel_rfl) (by kernel_rfl) (by kernel_rfl) (fun _ _ _ h => h) (Or.inl ⟨by rfl, ?gy6⟩) (by assumption) ?s6
    case gy6 => (intro w hSw; obtain ⟨h0, h1, h2⟩ := hSw; go_simp; try with_reducible rfl)
    refine wpAnyH_takeD (i := 7) 35 (v := ?w7) rfl (by kernel_rfl) (by kernel_rfl) (by kernel_rfl) (by kernel_rfl) (fun _ _ _ h => h) (Or.inl ⟨by rfl, ?gy7⟩) (by assumption) ?s7
    case gy7 => (intro w hSw; obtain ⟨h0, h1, h2⟩ := hSw; go_simp; try with_reducible rfl)
    refine wpAnyH_takeD (i := 8) 36 (v := ?w8) rfl (by kernel_rfl) (by kernel_rfl) (by kernel_rfl) (by kernel_rfl) (fun _ _ _ h => h) (Or.inl ⟨by rfl, ?gy8⟩) (by assumption) ?s8
    case gy8 => (intro w hSw; obtain ⟨h0, h1, h2⟩ := hSw; go_simp; try with_reducible rfl)
    refine wpAnyH_takeD (i := 9) 37 (v := ?w9) rfl (by kernel_rfl) (by kernel_rfl) (by kernel_rfl) (by kernel_rfl) (fun _ _ _ h => h) (Or.inl ⟨by rfl, ?gy9⟩) (by assumption) ?s9
    case gy9 => (intro w hSw; obtain ⟨h0, h1, h2⟩ := hSw; go_simp; try with_reducible rfl)
    refine wpAnyH_takeD (i := 10) 38 (v := ?w10) rfl (by kernel_rfl) (by kernel_rfl) (by kernel_rfl) (by kernel_rfl) (fun _ _ _ h => h) (Or.inl ⟨by rfl, ?gy10⟩) (by assumption) ?s10
    case gy10 => (intro w hSw; obtain ⟨h0, h1, h2⟩ := hSw; go_simp; try with_reducible rfl)
    refine wpAnyH_takeD (i := 11) 39 (v := ?w11) rfl (by kernel_rfl) (by kernel_rfl) (by kernel_rfl) (by kernel_rfl) (fun _ _ _ h => h) (Or.inl ⟨by rfl, ?gy11⟩) (by assumption) ?s11
    case gy11 => (intro w hSw; obtain ⟨h0, h1, h2⟩ := hSw; go_simp; try with_reducible rfl)
    refine wpAnyH_takeD (i := 12) 40 (v := ?w12) rfl (by kernel_rfl) (by kernel_rfl) (by kernel_rfl) (by kernel_rfl) (fun _ _ _ h => h) (Or.inl ⟨by rfl, ?gy12⟩) (by assumption) ?s12
    case gy12 => (intro w hSw; obtain ⟨h0, h1, h2⟩ := hSw; go_simp; try with_reducible rfl)
    simp only [Act.put, List.setIfInBounds_toArray, List.set_cons_zero, List.set_cons_succ]
    refine wpAnyH_ready (rs := [13]) (by kernel_rfl) (by simp) ?_
    refine AllReadyH.cons rfl (fun K hK => ?_) AllReadyH.nil
    rw [if_pos (by rfl)]
    refine wp_store_midN rfl _ _ _ rfl ga (x * 2) #[.int .i64 lo, .int .i64 lo] rfl rfl (there2 pa.1 pa.2.1 pa.2.2.1 pa.2.2.2) (by kernel_rfl) (ones2 _ _) ?_
    have hS1 : Held3 w2.heap.size (.slice (some ⟨ga, 0, none⟩) bn bc) (.slice (some ⟨gb, 0, none⟩) bn' bc') (.int .i64 bb) (wc.drew.setCells ga (x * 2) [.int .i64 lo, .int .i64 lo]) := ⟨XA.out.cell 0, XA.out.cell 1, XA.out.cell 2⟩
    refine hK.out _ _ hS1 (fun _ => ?_)
    clear hK
    refine wpAnyH_takeD (i := 14) 41 (v := ?w14) rfl (by kernel_rfl) (by kernel_rfl) (by kernel_rfl) (by kernel_rfl) (fun _ _ _ h => h) (Or.inl ⟨by rfl, ?gy14⟩) (by assumption) ?s14
    case gy14 => (intro w hSw; obtain ⟨h0, h1, h2⟩ := hSw; go_simp; try with_reducible rfl)
    refine wpAnyH_ready (rs := [15]) (by kernel_rfl) (by simp) ?_
    refine AllReadyH.cons rfl (fun K hK => ?_) AllReadyH.nil
    rw [if_pos (by rfl)]
    refine wp_store_midN rfl _ _ _ rfl gb (x * 2) #[.int .i64 hi, .int .i64 hi] rfl rfl (there2 pb'.1 pb'.2.1 pb'.2.2.1 pb'.2.2.2) (by kernel_rfl) (ones2 _ _) ?_
    have hS2 : Held3 w2.heap.size (.slice (some ⟨ga, 0, none⟩) bn bc) (.slice (some ⟨gb, 0, none⟩) bn' bc') (.int .i64 bb) ((wc.drew.setCells ga (x * 2) [.int .i64 lo, .int .i64 lo]).setCells gb (x * 2) [.int .i64 hi, .int .i64 hi]) := ⟨XAB.out.cell 0, XAB.out.cell 1, XAB.out.cell 2⟩
    refine hK.out _ _ hS2 (fun _ => ?_)
    clear hK
    simp only [Act.put, List.setIfInBounds_toArray, List.set_cons_zero, List.set_cons_succ]
    refine wpAnyH_done (by kernel_rfl) ?_ _
    have hCA := (W6.out.far HHC.out (x * 2) (.int .i64 lo)).far HHC.out (x * 2 + 1) (.int .i64 lo)
    have hCB := (hCA.far HHD.out (x * 2) (.int .i64 hi)).far HHD.out (x * 2 + 1) (.int .i64 hi)
    have hRA := (HRA.out.set x HXN.out lo lo 0).far (x := x) HAB.out (.int .i64 hi) (.int .i64 hi)
    have hRB := (HRB.out.far (x := x) HAB.out.symm (.int .i64 lo) (.int .i64 lo)).set x HXN'.out hi hi 0
    have hRC := (((HRC.out.setFar (fun b o e hm => (HKF.out b o e hm).1) (x * 2) (.int .i64 lo)).setFar (fun b o e hm => (HKF.out b o e hm).1) (x * 2 + 1) (.int .i64 lo)).setFar (fun b o e hm => (HKF.out b o e hm).2.1) (x * 2) (.int .i64 hi)).setFar (fun b o e hm => (HKF.out b o e hm).2.1) (x * 2 + 1) (.int .i64 hi)
    have hPA := pairs_of_row2 hRA (xs := bbot.set x (lo, lo)) (by rw [List.length_set]; exact HLA.out) (fun k hk => getD_set bbot x k (lo, lo) (by rw [HLA.out]; exact hk))
    have hPB := pairs_of_row2 hRB (xs := btop.set x (hi, hi)) (by rw [List.length_set]; exact HLB.out) (fun k hk => getD_set btop x k (hi, hi) (by rw [HLB.out]; exact hk))
    obtain ⟨W9, hW9, X9, C9, PA9, PB9, RC9⟩ : ∃ W9, ((wc.drew.setCells ga (x * 2) [.int .i64 lo, .int .i64 lo]).setCells gb (x * 2) [.int .i64 hi, .int .i64 hi]) = W9 ∧ Hid (Blk W9 w2.heap.size 25 #[.slice (some ⟨ga, 0, none⟩) bn bc, .slice (some ⟨gb, 0, none⟩) bn' bc', .int .i64 bb, .slice A3 bm bd]) ∧ Hid (CW w B W9) ∧ Hid (Pairs W9 (some ⟨ga, 0, none⟩) bn (bbot.set x (lo, lo))) ∧ Hid (Pairs W9 (some ⟨gb, 0, none⟩) bn' (btop.set x (hi, hi))) ∧ Hid (Reads W9 6 A3 bm (flat6 bcr)) := ⟨_, rfl, XAB.out, hCB, hPA, hPB, hRC⟩
    rw [hW9]
    clear hW9 hCA hCB hRA hRB hRC hPA hPB XA XB XAB XBA X6 W6 pa pb pa' pb' hS0 HRA HRB HRC
    have c9 := X9.out.cell
    have z9 := X9.out.lt
    go_wp2_with (refine wpList_store_row rfl 25 _ _ rfl (w.heap.size + 1) _ rfl rfl 25 _ C9.out.z (by kernel_rfl) rfl (by kernel_rfl) ?_)
    exact bodyPost_ret (results_c rfl _ _ _ _ _ _ _ rfl (C9.out.z.setRow _) Try.underlying25 (by kernel_rfl)) rfl
      ⟨⟨some ⟨ga, 0, none⟩, some ⟨gb, 0, none⟩, A3, bn, bc, bn', bc', bm, bd, bb, bbot.set x (lo, lo), btop.set x (hi, hi), bcr⟩, rfl, ⟨HLI.out.1, HLI.out.2.1, HLI.out.2.2.1, HLI.out.2.2.2.1, by rw [HLI.out.2.2.2.2.1]; rfl, by rw [HLI.out.2.2.2.2.2.1]; rfl, HLI.out.2.2.2.2.2.2⟩,
        ⟨Reads.rowFar PA9.out (fun b o e _ => by simp only [Option.some.injEq, Addr.mk.injEq, and_true] at e; obtain ⟨rfl, _⟩ := e; exact HHA.out.symm) _, Reads.rowFar PB9.out (fun b o e _ => by simp only [Option.some.injEq, Addr.mk.injEq, and_true] at e; obtain ⟨rfl, _⟩ := e; exact HHB.out.symm) _, RC9.out.rowFar (fun b o e hm => (HKF.out b o e hm).2.2) _, HN3.out.1, HN3.out.2.1, HN3.out.2.2⟩, below_setR C9.out.bel (by omega) _⟩
end Go.Proofs.Ytiflhimmieflpaa
