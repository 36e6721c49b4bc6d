/- Walks: a fan in a truth by bytes. -/
import Derived.Test.YtdekickmplkdiaaVc
namespace Go.Proofs.Ytdekickmplkdiaa
open Go.RowKit

def SX (g gt : Nat) (x y z : Value) (W : World) : Prop := W.cell? ⟨g, 0, none⟩ = some x ∧ W.cell? ⟨g, 1, none⟩ = some y ∧ W.cell? ⟨gt, 0, none⟩ = some z
set_option maxRecDepth 100000 in
set_option maxHeartbeats 1000000 in
theorem exact_any (lo hi : Int) (i : Nat) (xs : List Int) (gt : Nat) (B : Option Addr) (m d : Nat) (w : World) (h0 : 0 ≤ lo) (h1 : lo ≤ hi) (h2 : hi ≤ 1000000) (hi1 : i ≤ 1000000) (hT : Blk w gt 87 #[.slice B m d]) (hB : Bytes w B m xs) (hm : m ≤ maxLen) :
    Calls Try.prog 92 #[.agg #[.int .i64 lo, .int .i64 hi], .int .i64 i, .pointer (some ⟨gt, 0, none⟩)] w fun e w' => e = .returned (.agg #[.int .i64 (insL lo hi (byteAt xs i)), .int .i64 (insL lo hi (byteAt xs i))]) ∧ Below w.heap.size w w' := by
  have E0 := Lib.hid (Env2.start w 23 23 #[.int .i64 lo, .int .i64 hi] #[.int .i64 0, .int .i64 0]).drewd
  have T0 := Lib.hid (blk_keep E0.out.bel hT)
  have HBO := Lib.hid (fun W (hb : Below w.heap.size w W) => byteOf_any xs i B m d W (hB.below hb) hm hi1)
  have HIN := Lib.hid (fun W => inside_any lo hi (byteAt xs i) W h0 h1 h2 (byteAt_bd hB.b i))
  have HSP := Lib.hid (fun a b W => lawSpan_any a b W)
  clear hT hB
  generalize insL lo hi (byteAt xs i) = x at *
  generalize byteAt xs i = y at *
  go_enter Try.func92, Try.ntmps92
  go_wp2_with fail
  have S0 : SX w.heap.size gt (.int .i64 lo) (.int .i64 hi) (.slice B m d) _ := ⟨E0.out.p.cell 0, E0.out.p.cell 1, T0.out.cell 0⟩
  refine wp_region_untl (S := SX w.heap.size gt (.int .i64 lo) (.int .i64 hi) (.slice B m d)) [] (by kernel_rfl) S0 (fun _ => ?_)
  generalize (((w.alloc (.cells #[.int .i64 lo, .int .i64 hi] 23)).alloc (.cells #[.int .i64 0, .int .i64 0] 23)).drew) = wd at *
  refine untlTake (i := 0) 7 (v := ?v1) rfl (by kernel_rfl) (by kernel_rfl) (by kernel_rfl) (by kernel_rfl) (by kernel_rfl) (by kernel_rfl) (fun _ _ _ h => h) (Or.inl ⟨by rfl, ?y1⟩) (by assumption) ?r1
  case y1 => (intro w hSw; obtain ⟨g0, g1, g2⟩ := hSw; go_simp; try with_reducible rfl)
  refine untlTake (i := 1) 8 (v := ?v2) rfl (by kernel_rfl) (by kernel_rfl) (by kernel_rfl) (by kernel_rfl) (by kernel_rfl) (by kernel_rfl) (fun _ _ _ h => h) (Or.inl ⟨by rfl, ?y2⟩) (by assumption) ?r2
  case y2 => (intro w hSw; obtain ⟨g0, g1, g2⟩ := hSw; go_simp; try with_reducible rfl)
  refine untlTake (i := 2) 9 (v := ?v3) rfl (by kernel_rfl) (by kernel_rfl) (by kernel_rfl) (by kernel_rfl) (by kernel_rfl) (by kernel_rfl) (fun _ _ _ h => h) (Or.inl ⟨by rfl, ?y3⟩) (by assumption) ?r3
  case y3 => (intro w hSw; obtain ⟨g0, g1, g2⟩ := hSw; go_simp; try with_reducible rfl)
  simp only [Act.put, List.setIfInBounds_toArray, List.set_cons_zero, List.set_cons_succ]
  refine untlStep (i := 3) (by kernel_rfl) rfl (fun K3 hK3 => ?_)
  go_simp
  refine (HBO.out _ E0.out.bel).mono ?_
  rintro e W1 ⟨rfl, hw1⟩
  subst hw1
  refine hK3.out _ _ (.inr S0) ?_
  refine untlStep (i := 4) (by kernel_rfl) rfl (fun K4 hK4 => ?_)
  go_simp
  refine (HIN.out _).mono ?_
  rintro e W2 ⟨rfl, b2⟩
  have E2 := Lib.hid (E0.out.below b2)
  have T2 := Lib.hid (blk_keep b2 T0.out)
  clear b2
  have S2 : SX w.heap.size gt (.int .i64 lo) (.int .i64 hi) (.slice B m d) W2 := ⟨E2.out.p.cell 0, E2.out.p.cell 1, T2.out.cell 0⟩
  refine hK4.out _ _ (.inr S2) ?_
  refine untlTake (i := 5) 6 (v := ?v4) rfl (by kernel_rfl) (by kernel_rfl) (by kernel_rfl) (by kernel_rfl) (by kernel_rfl) (by kernel_rfl) (fun _ _ _ h => h) (Or.inl ⟨by rfl, ?y4⟩) (by assumption) ?r4
  case y4 => (intro w hSw; obtain ⟨g0, g1, g2⟩ := hSw; go_simp; try with_reducible rfl)
  refine untlDone (by kernel_rfl) ?_ _
  clear S0 S2 E0 T0
  go_wp2_with fail
  refine (HSP.out _ _ _).mono ?_
  rintro e W3 ⟨rfl, b3⟩
  have E3 := Lib.hid (E2.out.below b3)
  clear b3 E2
  go_wp2_with (refine wpList_store_row rfl 23 _ _ rfl (w.heap.size + 1) _ rfl rfl 23 _ E3.out.q (by kernel_rfl) rfl (by kernel_rfl) ?_)
  exact bodyPost_ret (results_c rfl _ _ _ _ _ _ _ rfl (E3.out.q.setRow _) Try.underlying23 (by kernel_rfl)) rfl ⟨rfl, below_setR E3.out.bel (Nat.le_succ _) _⟩

/-- A gap in a truth by bytes, and a fan. -/
def trueGap (xs : List Int) (g : Gap) (k : Nat) : Gap := ⟨insL g.ll g.lh (byteAt xs (2 * k + 2)), insL g.ll g.lh (byteAt xs (2 * k + 2)), insL g.fl g.fh (byteAt xs (2 * k + 3)), insL g.fl g.fh (byteAt xs (2 * k + 3))⟩
def trueTo (xs : List Int) (gs : List Gap) : Nat → List Gap
  | 0 => []
  | k + 1 => trueTo xs gs k ++ [trueGap xs (gs.getD k Gap.zero) k]
def Fan.true (f : Fan) (xs : List Int) : Fan := ⟨insL f.a f.b (byteAt xs 0), insL f.a f.b (byteAt xs 0), insL f.c f.d (byteAt xs 1), insL f.c f.d (byteAt xs 1), trueTo xs f.gs f.gs.length⟩
theorem trueTo_len (xs : List Int) (gs : List Gap) (k : Nat) : (trueTo xs gs k).length = k := by
  induction k with
  | zero => rfl
  | succ k ih => rw [trueTo, List.length_append, ih]; rfl
/-- What truly's own boxes hold, ahead of its fan's. -/
structure CT (w W : World) (fan tb : Array Value) (g5 : Option Nat) : Prop where
  p : Blk W w.heap.size 26 fan
  t : Blk W (w.heap.size + 1) 87 tb
  r : Blk W (w.heap.size + 1 + 1) 26 #[.int .i64 0, .int .i64 0, .int .i64 0, .int .i64 0, .slice none 0 0]
  bel : Below w.heap.size w W
  h5 : ∀ g, g5 = some g → Blk W g 26 #[.int .i64 0, .int .i64 0, .int .i64 0, .int .i64 0, .slice none 0 0] ∧ w.heap.size + 1 + 1 < g
theorem CT.below {w W W' : World} {fan tb : Array Value} {g5 : Option Nat} (h : CT w W fan tb g5) (hb : Below W.heap.size W W') : CT w W' fan tb g5 := ⟨blk_keep hb h.p, blk_keep hb h.t, blk_keep hb h.r, below_then h.bel hb, fun g e => ⟨blk_keep hb (h.h5 g e).1, (h.h5 g e).2⟩⟩
theorem CT.new5 {w W : World} {fan tb : Array Value} (h : CT w W fan tb none) : CT w (W.alloc (.cells #[.int .i64 0, .int .i64 0, .int .i64 0, .int .i64 0, .slice none 0 0] 26)) fan tb (some W.heap.size) :=
  have k := h.below (below_self W (.cells #[.int .i64 0, .int .i64 0, .int .i64 0, .int .i64 0, .slice none 0 0] 26))
  ⟨k.p, k.t, k.r, k.bel, fun g e => (by cases e; exact ⟨Blk.new W _ _ rfl, h.r.lt⟩)⟩
theorem CT.start (w : World) (fan tb : Array Value) : CT w ((((w.alloc (.cells fan 26)).alloc (.cells tb 87)).alloc (.cells #[.int .i64 0, .int .i64 0, .int .i64 0, .int .i64 0, .slice none 0 0] 26)).drew) fan tb none :=
  ⟨((Blk.new w _ _ rfl).alloc _).alloc _, (Blk.new _ _ _ (by simp)).alloc _, Blk.new _ _ _ (by simp), (below_alloc' (below_alloc' (below_self w _) _) _).drew, fun g e => (by cases e)⟩
structure ET (w W : World) (fan tb : Array Value) (g : Nat) (out : Array Value) : Prop where
  p : Blk W w.heap.size 26 fan
  t : Blk W (w.heap.size + 1) 87 tb
  r : Blk W (w.heap.size + 1 + 1) 26 #[.int .i64 0, .int .i64 0, .int .i64 0, .int .i64 0, .slice none 0 0]
  q : Blk W g 26 out
  bel : Below w.heap.size w W
  lt : w.heap.size + 1 + 1 < g
section
variable {w W W' : World} {fan tb out : Array Value} {g : Nat}
theorem ET.below (h : ET w W fan tb g out) (hb : Below W.heap.size W W') : ET w W' fan tb g out := ⟨blk_keep hb h.p, blk_keep hb h.t, blk_keep hb h.r, blk_keep hb h.q, below_then h.bel hb, h.lt⟩
theorem ET.alloc (h : ET w W fan tb g out) (o : Obj) : ET w (W.alloc o) fan tb g out := h.below (below_self W o)
theorem ET.drewd (h : ET w W fan tb g out) : ET w W.drew fan tb g out := ⟨h.p, h.t, h.r, h.q, h.bel.drew, h.lt⟩
theorem ET.grown (h : ET w W fan tb g out) {base n size : Nat} {e : TypeId} {v : Value} {xs : List Value} (ho : W.ownsRow base e size v n xs) (h0 : e ≠ 87) (h1 : e ≠ 26) (hb : w.heap.size ≤ base) (hg : W.grownBy W' v.ownBlock) : ET w W' fan tb g out :=
  ⟨h.p.grown hg (own_blk_ne ho h.p h1), h.t.grown hg (own_blk_ne ho h.t h0), h.r.grown hg (own_blk_ne ho h.r h1), h.q.grown hg (own_blk_ne ho h.q h1), h.bel.grown hg h.bel.size (fun k e => Nat.le_trans hb (ho.lt k e.symm.symm).1), h.lt⟩
theorem ET.setQ (h : ET w W fan tb g out) (i : Nat) (u : Value) : ET w (W.setCell ⟨g, i, none⟩ u) fan tb g (out.setIfInBounds i u) :=
  have hl := h.lt
  ⟨h.p.far (p := ⟨g, i, none⟩) (by show w.heap.size ≠ g; omega) u, h.t.far (p := ⟨g, i, none⟩) (by show w.heap.size + 1 ≠ g; omega) u, h.r.far (p := ⟨g, i, none⟩) (by show w.heap.size + 1 + 1 ≠ g; omega) u, h.q.set_ i u, h.bel.setCell (p := ⟨g, i, none⟩) (by show w.heap.size ≤ g; omega) u, h.lt⟩
theorem CT.put (h : CT w W fan tb (some g)) (cs : Array Value) : ET w (W.setRow g cs) fan tb g cs :=
  have h5 := h.h5 g rfl
  ⟨h.p.setRow_far (by omega) cs, h.t.setRow_far (by omega) cs, h.r.setRow_far (by omega) cs, h5.1.setRow cs, below_setR h.bel (by omega) cs, h5.2⟩
end
theorem gap_cells {W : World} {A : Option Addr} {n k b off : Nat} {gs : List Gap} (h : Gaps W A n gs) (hA : A = some ⟨b, off, none⟩) (hk : k < n) : W.cell? ⟨b, off + k * 4, none⟩ = some (.int .i64 (gs.getD k Gap.zero).ll) ∧ W.cell? ⟨b, off + k * 4 + 1, none⟩ = some (.int .i64 (gs.getD k Gap.zero).lh) ∧ W.cell? ⟨b, off + k * 4 + 2, none⟩ = some (.int .i64 (gs.getD k Gap.zero).fl) ∧ W.cell? ⟨b, off + k * 4 + 3, none⟩ = some (.int .i64 (gs.getD k Gap.zero).fh) := by
  obtain ⟨b', o', e, _, c0, c1, c2, c3⟩ := h.at_ hk
  rw [hA] at e
  simp only [Option.some.injEq, Addr.mk.injEq, and_true] at e
  obtain ⟨rfl, rfl⟩ := e
  exact ⟨c0, c1, c2, c3⟩
/-- What truly's round looks at. -/
def STr (w : World) (g b o : Nat) (x y u0 u1 u2 u3 : Value) (W : World) : Prop := W.cell? ⟨g, 4, none⟩ = some x ∧ W.cell? ⟨w.heap.size, 4, none⟩ = some y ∧ W.cell? ⟨b, o, none⟩ = some u0 ∧ W.cell? ⟨b, o + 1, none⟩ = some u1 ∧ W.cell? ⟨b, o + 2, none⟩ = some u2 ∧ W.cell? ⟨b, o + 3, none⟩ = some u3

set_option maxRecDepth 100000 in
set_option maxHeartbeats 8000000 in
theorem truly_any (f : Fan) (xs : List Int) (A B : Option Addr) (n c m d : Nat) (w : World) (hf : FanB f) (h : Gaps w A n f.gs) (hB : Bytes w B m xs) (hm : m ≤ maxLen) :
    Calls Try.prog 50 #[.agg (fanA f A n c), .slice B m d] w (OwnRes w (f.true xs) n) := by
  obtain ⟨i0, hi, hz0, hz1, hz2⟩ := info_parts Try.infoGap
  have hmf : ∀ (fn : Fn) (first cap : Array Value) (w : World), (Instr.makeFunc fn first cap).run Try.prog w = .ok (.func fn first cap) w := fun _ _ _ _ => rfl
  have hl := h.len
  have hn : n ≤ 41 := by have := hf.n; omega
  have C0 := Lib.hid (CT.start w (fanA f A n c) #[.slice B m d])
  have HG := Lib.hid h
  have HEX := Lib.hid (fun (lo hi : Int) (i : Nat) gt W (h0 : 0 ≤ lo) (h1 : lo ≤ hi) (h2 : hi ≤ 1000000) (hi1 : i ≤ 1000000) (hb : Below w.heap.size w W) (hT : Blk W gt 87 #[.slice B m d]) => exact_any lo hi i xs gt B m d W h0 h1 h2 hi1 hT (hB.below hb) hm)
  have HGB := Lib.hid (fun k (hk : k < n) => hf.g (f.gs.getD k Gap.zero) (by
    have e : f.gs.getD k Gap.zero = f.gs[k]'(by omega) := by simp [List.getD, show k < f.gs.length from by omega]
    rw [e]; exact List.getElem_mem _))
  have hfa := hf.a1
  have hfb := hf.ab
  have hfb5 := hf.b5
  have hfc := hf.c1
  have hfd := hf.cd
  have hfd5 := hf.d5
  have HT0 : Hid (trueTo xs f.gs 0 = []) := rfl
  have HT1 := Lib.hid (fun k => show trueTo xs f.gs (k + 1) = trueTo xs f.gs k ++ [trueGap xs (f.gs.getD k Gap.zero) k] from rfl)
  have HTG := Lib.hid (fun g k => show trueGap xs g k = ⟨insL g.ll g.lh (byteAt xs (2 * k + 2)), insL g.ll g.lh (byteAt xs (2 * k + 2)), insL g.fl g.fh (byteAt xs (2 * k + 3)), insL g.fl g.fh (byteAt xs (2 * k + 3))⟩ from rfl)
  have HE := Lib.hid (fun W a1 a2 (ho : W.ownsRow w.heap.size 42 4 (.slice a1 n a2) n (flatG (trueTo xs f.gs n))) (hb : Below w.heap.size w W) => show OwnRes w (f.true xs) n (.returned (.agg #[.int .i64 (insL f.a f.b (byteAt xs 0)), .int .i64 (insL f.a f.b (byteAt xs 0)), .int .i64 (insL f.c f.d (byteAt xs 1)), .int .i64 (insL f.c f.d (byteAt xs 1)), .slice a1 n a2])) W from by
    obtain ⟨a3, a4, e, ho2⟩ := ownG_of ho
    simp only [Value.slice.injEq, true_and] at e
    obtain ⟨rfl, rfl⟩ := e
    exact ⟨a1, a2, rfl, by show OwnG _ _ _ _ (trueTo xs f.gs f.gs.length); rw [hl]; exact ho2, hb⟩)
  generalize OwnRes w (f.true xs) n = RR at *
  generalize trueTo xs f.gs = tg at *
  generalize trueGap xs = gap at *
  clear h hB hf hl
  obtain ⟨fa, fb, fc, fd, gs⟩ := f
  simp only [fanA] at *
  generalize hx0 : insL fa fb (byteAt xs 0) = x0 at *
  generalize hx1 : insL fc fd (byteAt xs 1) = x1 at *
  have HX0 := Lib.hid (fun gt W (hb : Below w.heap.size w W) (hT : Blk W gt 87 #[.slice B m d]) => HEX.out fa fb 0 gt W (by omega) hfb (by omega) (by omega) hb hT)
  have HX1 := Lib.hid (fun gt W (hb : Below w.heap.size w W) (hT : Blk W gt 87 #[.slice B m d]) => HEX.out fc fd 1 gt W (by omega) hfd (by omega) (by omega) hb hT)
  rw [hx0] at HX0
  rw [hx1] at HX1
  clear hx0 hx1
  go_enter Try.func50, Try.ntmps50
  go_wp2_with fail
  go_cut [6] from 6 to 17 (fun s6 W => ∃ g : Nat, s6 = .pointer (some ⟨g, 0, none⟩) ∧ ET w W #[.int .i64 fa, .int .i64 fb, .int .i64 fc, .int .i64 fd, .slice A n c] #[.slice B m d] g #[.int .i64 x0, .int .i64 x0, .int .i64 x1, .int .i64 x1, .slice none 0 0])
  case first =>
    have S0 : SFan w (.int .i64 fa) (.int .i64 fb) (.int .i64 fc) (.int .i64 fd) (.slice A n c) _ := fan5_get C0.out.p
    refine wp_region_untl (S := SFan w (.int .i64 fa) (.int .i64 fb) (.int .i64 fc) (.int .i64 fd) (.slice A n c)) [] (by kernel_rfl) S0 (fun _ => ?_)
    generalize ((((w.alloc (.cells #[.int .i64 fa, .int .i64 fb, .int .i64 fc, .int .i64 fd, .slice A n c] 26)).alloc (.cells #[.slice B m d] 87)).alloc (.cells #[.int .i64 0, .int .i64 0, .int .i64 0, .int .i64 0, .slice none 0 0] 26)).drew) = wd at *
    refine untlTake (i := 0) 9 (v := ?v5) rfl (by kernel_rfl) (by kernel_rfl) (by kernel_rfl) (by kernel_rfl) (by kernel_rfl) (by kernel_rfl) (fun _ _ _ h => h) (Or.inl ⟨by rfl, ?y5⟩) (by assumption) ?r5
    case y5 => (intro w hSw; obtain ⟨g0, g1, g2, g3, g4⟩ := hSw; go_simp; try with_reducible rfl)
    refine untlTake (i := 1) 10 (v := ?v6) rfl (by kernel_rfl) (by kernel_rfl) (by kernel_rfl) (by kernel_rfl) (by kernel_rfl) (by kernel_rfl) (fun _ _ _ h => h) (Or.inl ⟨by rfl, ?y6⟩) (by assumption) ?r6
    case y6 => (intro w hSw; obtain ⟨g0, g1, g2, g3, g4⟩ := hSw; go_simp; try with_reducible rfl)
    refine untlTake (i := 2) 11 (v := ?v7) rfl (by kernel_rfl) (by kernel_rfl) (by kernel_rfl) (by kernel_rfl) (by kernel_rfl) (by kernel_rfl) (fun _ _ _ h => h) (Or.inl ⟨by rfl, ?y7⟩) (by assumption) ?r7
    case y7 => (intro w hSw; obtain ⟨g0, g1, g2, g3, g4⟩ := hSw; go_simp; try with_reducible rfl)
    refine untlTake (i := 4) 13 (v := ?v8) rfl (by kernel_rfl) (by kernel_rfl) (by kernel_rfl) (by kernel_rfl) (by kernel_rfl) (by kernel_rfl) (fun _ _ _ h => h) (Or.inl ⟨by rfl, ?y8⟩) (by assumption) ?r8
    case y8 => (intro w hSw; obtain ⟨g0, g1, g2, g3, g4⟩ := hSw; go_simp; try with_reducible rfl)
    refine untlTake (i := 5) 14 (v := ?v9) rfl (by kernel_rfl) (by kernel_rfl) (by kernel_rfl) (by kernel_rfl) (by kernel_rfl) (by kernel_rfl) (fun _ _ _ h => h) (Or.inl ⟨by rfl, ?y9⟩) (by assumption) ?r9
    case y9 => (intro w hSw; obtain ⟨g0, g1, g2, g3, g4⟩ := hSw; go_simp; try with_reducible rfl)
    refine untlTake (i := 6) 15 (v := ?v10) rfl (by kernel_rfl) (by kernel_rfl) (by kernel_rfl) (by kernel_rfl) (by kernel_rfl) (by kernel_rfl) (fun _ _ _ h => h) (Or.inl ⟨by rfl, ?y10⟩) (by assumption) ?r10
    case y10 => (intro w hSw; obtain ⟨g0, g1, g2, g3, g4⟩ := hSw; go_simp; try with_reducible rfl)
    simp only [Act.put, List.setIfInBounds_toArray, List.set_cons_zero, List.set_cons_succ]
    refine untlReady (rs := [3, 9]) (by kernel_rfl) (by simp) ?_
    refine UReady.cons rfl (fun K11 hK11 => ?_) ?_
    · skip
      go_simp
      refine (HX0.out _ _ C0.out.bel C0.out.t).mono ?_
      rintro e V13 ⟨rfl, b0⟩
      have C12 := Lib.hid (C0.out.below b0)
      clear b0
      have s14 : SFan w (.int .i64 fa) (.int .i64 fb) (.int .i64 fc) (.int .i64 fd) (.slice A n c) V13 := fan5_get C12.out.p
      refine hK11.out _ _ (.inr s14) ?_
      refine untlReady (rs := [7, 9]) (by kernel_rfl) (by simp) ?_
      refine UReady.cons rfl (fun K15 hK15 => ?_) ?_
      · skip
        go_simp
        refine (HX1.out _ _ C12.out.bel C12.out.t).mono ?_
        rintro e V17 ⟨rfl, b0⟩
        have C16 := Lib.hid (C12.out.below b0)
        clear b0
        have s18 : SFan w (.int .i64 fa) (.int .i64 fb) (.int .i64 fc) (.int .i64 fd) (.slice A n c) V17 := fan5_get C16.out.p
        refine hK15.out _ _ (.inr s18) ?_
        refine untlTake (i := 8) 17 (v := ?v19) rfl (by kernel_rfl) (by kernel_rfl) (by kernel_rfl) (by kernel_rfl) (by kernel_rfl) (by kernel_rfl) (fun _ _ _ h => h) (Or.inl ⟨by rfl, ?y19⟩) (by assumption) ?r19
        case y19 => (intro w hSw; obtain ⟨g0, g1, g2, g3, g4⟩ := hSw; go_simp; try with_reducible rfl)
        refine untlReady (rs := [9]) (by kernel_rfl) (by simp) ?_
        refine UReady.cons rfl (fun K20 hK20 => ?_) UReady.nil
        go_simp
        have C21 := Lib.hid C16.out.new5
        refine hK20.out _ _ (.inr (fan5_get C21.out.p)) ?_
        obtain ⟨V22, hW⟩ : ∃ V, V = V17.alloc (.cells #[.int .i64 0, .int .i64 0, .int .i64 0, .int .i64 0, .slice none 0 0] 26) := ⟨_, rfl⟩
        rw [← hW] at C21 ⊢
        clear hW
        have s23 : SFan w (.int .i64 fa) (.int .i64 fb) (.int .i64 fc) (.int .i64 fd) (.slice A n c) V22 := fan5_get C21.out.p
        refine untlStep (i := 10) (by kernel_rfl) rfl (fun K24 hK24 => ?_)
        rw [if_pos (by rfl)]
        refine wp_store_rowN rfl _ _ _ rfl _ _ rfl rfl _ _ (C21.out.h5 _ rfl).1 (by kernel_rfl) rfl (ones5v _ _ _ _ _ _ _) ?_
        have E25 := Lib.hid (C21.out.put #[.int .i64 x0, .int .i64 x0, .int .i64 x1, .int .i64 x1, .slice none 0 0])
        refine hK24.out _ _ (.inr (fan5_get E25.out.p)) ?_
        refine untlDone (by kernel_rfl) ?_ _
        go_wp2_with fail
        go_meet
        exact ⟨_, rfl, E25.out⟩
      refine UReady.cons rfl (fun K26 hK26 => ?_) UReady.nil
      go_simp
      have C27 := Lib.hid C12.out.new5
      refine hK26.out _ _ (.inr (fan5_get C27.out.p)) ?_
      obtain ⟨V28, hW⟩ : ∃ V, V = V13.alloc (.cells #[.int .i64 0, .int .i64 0, .int .i64 0, .int .i64 0, .slice none 0 0] 26) := ⟨_, rfl⟩
      rw [← hW] at C27 ⊢
      clear hW
      have s29 : SFan w (.int .i64 fa) (.int .i64 fb) (.int .i64 fc) (.int .i64 fd) (.slice A n c) V28 := fan5_get C27.out.p
      refine untlReady (rs := [7]) (by kernel_rfl) (by simp) ?_
      refine UReady.cons rfl (fun K30 hK30 => ?_) UReady.nil
      go_simp
      refine (HX1.out _ _ C27.out.bel C27.out.t).mono ?_
      rintro e V32 ⟨rfl, b0⟩
      have C31 := Lib.hid (C27.out.below b0)
      clear b0
      have s33 : SFan w (.int .i64 fa) (.int .i64 fb) (.int .i64 fc) (.int .i64 fd) (.slice A n c) V32 := fan5_get C31.out.p
      refine hK30.out _ _ (.inr s33) ?_
      refine untlTake (i := 8) 17 (v := ?v34) rfl (by kernel_rfl) (by kernel_rfl) (by kernel_rfl) (by kernel_rfl) (by kernel_rfl) (by kernel_rfl) (fun _ _ _ h => h) (Or.inl ⟨by rfl, ?y34⟩) (by assumption) ?r34
      case y34 => (intro w hSw; obtain ⟨g0, g1, g2, g3, g4⟩ := hSw; go_simp; try with_reducible rfl)
      refine untlStep (i := 10) (by kernel_rfl) rfl (fun K35 hK35 => ?_)
      rw [if_pos (by rfl)]
      refine wp_store_rowN rfl _ _ _ rfl _ _ rfl rfl _ _ (C31.out.h5 _ rfl).1 (by kernel_rfl) rfl (ones5v _ _ _ _ _ _ _) ?_
      have E36 := Lib.hid (C31.out.put #[.int .i64 x0, .int .i64 x0, .int .i64 x1, .int .i64 x1, .slice none 0 0])
      refine hK35.out _ _ (.inr (fan5_get E36.out.p)) ?_
      refine untlDone (by kernel_rfl) ?_ _
      go_wp2_with fail
      go_meet
      exact ⟨_, rfl, E36.out⟩
    refine UReady.cons rfl (fun K37 hK37 => ?_) UReady.nil
    go_simp
    have C38 := Lib.hid C0.out.new5
    refine hK37.out _ _ (.inr (fan5_get C38.out.p)) ?_
    obtain ⟨V39, hW⟩ : ∃ V, V = wd.alloc (.cells #[.int .i64 0, .int .i64 0, .int .i64 0, .int .i64 0, .slice none 0 0] 26) := ⟨_, rfl⟩
    rw [← hW] at C38 ⊢
    clear hW
    have s40 : SFan w (.int .i64 fa) (.int .i64 fb) (.int .i64 fc) (.int .i64 fd) (.slice A n c) V39 := fan5_get C38.out.p
    refine untlReady (rs := [3]) (by kernel_rfl) (by simp) ?_
    refine UReady.cons rfl (fun K41 hK41 => ?_) UReady.nil
    go_simp
    refine (HX0.out _ _ C38.out.bel C38.out.t).mono ?_
    rintro e V43 ⟨rfl, b0⟩
    have C42 := Lib.hid (C38.out.below b0)
    clear b0
    have s44 : SFan w (.int .i64 fa) (.int .i64 fb) (.int .i64 fc) (.int .i64 fd) (.slice A n c) V43 := fan5_get C42.out.p
    refine hK41.out _ _ (.inr s44) ?_
    refine untlReady (rs := [7]) (by kernel_rfl) (by simp) ?_
    refine UReady.cons rfl (fun K45 hK45 => ?_) UReady.nil
    go_simp
    refine (HX1.out _ _ C42.out.bel C42.out.t).mono ?_
    rintro e V47 ⟨rfl, b0⟩
    have C46 := Lib.hid (C42.out.below b0)
    clear b0
    have s48 : SFan w (.int .i64 fa) (.int .i64 fb) (.int .i64 fc) (.int .i64 fd) (.slice A n c) V47 := fan5_get C46.out.p
    refine hK45.out _ _ (.inr s48) ?_
    refine untlTake (i := 8) 17 (v := ?v49) rfl (by kernel_rfl) (by kernel_rfl) (by kernel_rfl) (by kernel_rfl) (by kernel_rfl) (by kernel_rfl) (fun _ _ _ h => h) (Or.inl ⟨by rfl, ?y49⟩) (by assumption) ?r49
    case y49 => (intro w hSw; obtain ⟨g0, g1, g2, g3, g4⟩ := hSw; go_simp; try with_reducible rfl)
    refine untlStep (i := 10) (by kernel_rfl) rfl (fun K50 hK50 => ?_)
    rw [if_pos (by rfl)]
    refine wp_store_rowN rfl _ _ _ rfl _ _ rfl rfl _ _ (C46.out.h5 _ rfl).1 (by kernel_rfl) rfl (ones5v _ _ _ _ _ _ _) ?_
    have E51 := Lib.hid (C46.out.put #[.int .i64 x0, .int .i64 x0, .int .i64 x1, .int .i64 x1, .slice none 0 0])
    refine hK50.out _ _ (.inr (fan5_get E51.out.p)) ?_
    refine untlDone (by kernel_rfl) ?_ _
    go_wp2_with fail
    go_meet
    exact ⟨_, rfl, E51.out⟩
  case rest =>
    obtain ⟨g, rfl, hE⟩ := hcut
    have E1 := Lib.hid hE
    have p1 := fan5_get hE.p
    clear hE C0 HX0 HX1
    go_wp2_with fail
    clear p1
    go_loopw [7] (fun s7 wr => ∃ (k : Nat) (A' : Option Addr) (c' : Nat), k ≤ n ∧ s7 = .int .i64 k ∧ wr.ownsRow w.heap.size 42 4 (.slice A' k c') k (flatG (tg k)) ∧ ET w wr #[.int .i64 fa, .int .i64 fb, .int .i64 fc, .int .i64 fd, .slice A n c] #[.slice B m d] g #[.int .i64 x0, .int .i64 x0, .int .i64 x1, .int .i64 x1, .slice A' k c']) (fun s7 _ => n - (intOf s7).toNat)
    case atStart => exact ⟨0, none, 0, Nat.zero_le _, rfl, by rw [HT0.out]; exact World.ownsRow_nil _ _ _ _, E1.out⟩
    case round =>
      obtain ⟨k, A', c', hk, rfl, hown, hE⟩ := hrel
      have OW := Lib.hid hown
      have EK := Lib.hid hE
      have p2 := fan5_get hE.p
      clear hown hE E1
      by_cases hlt : k < n
      · have hkz : k ≤ 41 := by omega
        obtain ⟨b, off, hA, _, _, _, _, _⟩ := HG.out.at_ hlt
        have HCL := Lib.hid (fun W (hb : Below w.heap.size w W) => gap_cells (HG.out.below hb) hA hlt)
        subst hA
        have hgb := HGB.out k hlt
        have ht1 := Lib.hid (HT1.out k)
        have htg := Lib.hid (HTG.out (gs.getD k Gap.zero) k)
        generalize hy : gs.getD k Gap.zero = y at *
        obtain ⟨ll, lh, fl, fh⟩ := y
        simp only at HCL hgb htg
        have HY1 := Lib.hid (fun gt W (hb : Below w.heap.size w W) (hT : Blk W gt 87 #[.slice B m d]) => HEX.out ll lh (2 * k + 2) gt W (by omega) (by omega) (by omega) (by omega) hb hT)
        have HY2 := Lib.hid (fun gt W (hb : Below w.heap.size w W) (hT : Blk W gt 87 #[.slice B m d]) => HEX.out fl fh (2 * k + 3) gt W (by omega) (by omega) (by omega) (by omega) hb hT)
        generalize insL ll lh (byteAt xs (2 * k + 2)) = e1 at *
        generalize insL fl fh (byteAt xs (2 * k + 3)) = e2 at *
        have e3 : (((2 * k + 2 : Nat)) : Int) = 2 * (k : Int) + 2 := by omega
        have e4 : (((2 * k + 3 : Nat)) : Int) = 2 * (k : Int) + 3 := by omega
        rw [e3] at HY1
        rw [e4] at HY2
        clear hy hgb e3 e4
        have E4 := Lib.hid EK.out.drewd
        have O4 : Hid (wr.drew.ownsRow w.heap.size 42 4 (.slice A' k c') k (flatG (tg k))) := OW.out
        have a1 : IntKind.i64.wrap (2 * (k : Int)) = 2 * (k : Int) := IntWalk.i64_in _ (by omega)
        have a2 : IntKind.i64.wrap (2 * (k : Int) + 2) = 2 * (k : Int) + 2 := IntWalk.i64_in _ (by omega)
        have a3 : IntKind.i64.wrap (2 * (k : Int) + 3) = 2 * (k : Int) + 3 := IntWalk.i64_in _ (by omega)
        have hkn : (k : Int) < n := by omega
        go_wp2_with fail
        clear p2 EK OW
        have S4 : STr w g b (off + k * 4) (.slice A' k c') (.slice (some ⟨b, off, none⟩) n c) (.int .i64 ll) (.int .i64 lh) (.int .i64 fl) (.int .i64 fh) wr.drew := ⟨E4.out.q.cell 4, E4.out.p.cell 4, (HCL.out _ E4.out.bel)⟩
        refine wp_region_untl (S := STr w g b (off + k * 4) (.slice A' k c') (.slice (some ⟨b, off, none⟩) n c) (.int .i64 ll) (.int .i64 lh) (.int .i64 fl) (.int .i64 fh)) [28] (by kernel_rfl) S4 (fun _ => ?_)
        generalize wr.drew = wd2 at *
        refine untlTake (i := 0) 25 (v := ?v52) rfl (by kernel_rfl) (by kernel_rfl) (by kernel_rfl) (by kernel_rfl) (by kernel_rfl) (by kernel_rfl) (fun _ _ _ h => h) (Or.inl ⟨by rfl, ?y52⟩) (by assumption) ?r52
        case y52 => (intro w hSw; obtain ⟨g0, g1, g2, g3, g4, g5⟩ := hSw; go_simp; try with_reducible rfl)
        refine untlTake (i := 1) 26 (v := ?v53) rfl (by kernel_rfl) (by kernel_rfl) (by kernel_rfl) (by kernel_rfl) (by kernel_rfl) (by kernel_rfl) (fun _ _ _ h => h) (Or.inl ⟨by rfl, ?y53⟩) (by assumption) ?r53
        case y53 => (intro w hSw; obtain ⟨g0, g1, g2, g3, g4, g5⟩ := hSw; go_simp; try with_reducible rfl)
        refine untlTake (i := 2) 27 (v := ?v54) rfl (by kernel_rfl) (by kernel_rfl) (by kernel_rfl) (by kernel_rfl) (by kernel_rfl) (by kernel_rfl) (fun _ _ _ h => h) (Or.inl ⟨by rfl, ?y54⟩) (by assumption) ?r54
        case y54 => (intro w hSw; obtain ⟨g0, g1, g2, g3, g4, g5⟩ := hSw; go_simp; try with_reducible rfl)
        refine untlTake (i := 3) 28 (v := ?v55) rfl (by kernel_rfl) (by kernel_rfl) (by kernel_rfl) (by kernel_rfl) (by kernel_rfl) (by kernel_rfl) (fun _ _ _ h => h) (Or.inl ⟨by rfl, ?y55⟩) (by assumption) ?r55
        case y55 => (intro w hSw; obtain ⟨g0, g1, g2, g3, g4, g5⟩ := hSw; go_simp; try with_reducible rfl)
        refine untlTake (i := 4) 29 (v := ?v56) rfl (by kernel_rfl) (by kernel_rfl) (by kernel_rfl) (by kernel_rfl) (by kernel_rfl) (by kernel_rfl) (fun _ _ _ h => h) (Or.inl ⟨by rfl, ?y56⟩) (by assumption) ?r56
        case y56 => (intro w hSw; obtain ⟨g0, g1, g2, g3, g4, g5⟩ := hSw; go_simp; try with_reducible rfl)
        refine untlTake (i := 5) 30 (v := ?v57) rfl (by kernel_rfl) (by kernel_rfl) (by kernel_rfl) (by kernel_rfl) (by kernel_rfl) (by kernel_rfl) (fun _ _ _ h => h) (Or.inl ⟨by rfl, ?y57⟩) (by assumption) ?r57
        case y57 => (intro w hSw; obtain ⟨g0, g1, g2, g3, g4, g5⟩ := hSw; go_simp; try with_reducible rfl)
        refine untlTake (i := 6) 31 (v := ?v58) rfl (by kernel_rfl) (by kernel_rfl) (by kernel_rfl) (by kernel_rfl) (by kernel_rfl) (by kernel_rfl) (fun _ _ _ h => h) (Or.inl ⟨by rfl, ?y58⟩) (by assumption) ?r58
        case y58 => (intro w hSw; obtain ⟨g0, g1, g2, g3, g4, g5⟩ := hSw; go_simp; try with_reducible rfl)
        refine untlTake (i := 7) 32 (v := ?v59) rfl (by kernel_rfl) (by kernel_rfl) (by kernel_rfl) (by kernel_rfl) (by kernel_rfl) (by kernel_rfl) (fun _ _ _ h => h) (Or.inl ⟨by rfl, ?y59⟩) (by assumption) ?r59
        case y59 => (intro w hSw; obtain ⟨g0, g1, g2, g3, g4, g5⟩ := hSw; go_simp; try with_reducible rfl)
        refine untlTake (i := 8) 33 (v := ?v60) rfl (by kernel_rfl) (by kernel_rfl) (by kernel_rfl) (by kernel_rfl) (by kernel_rfl) (by kernel_rfl) (fun _ _ _ h => h) (Or.inl ⟨by rfl, ?y60⟩) (by assumption) ?r60
        case y60 => (intro w hSw; obtain ⟨g0, g1, g2, g3, g4, g5⟩ := hSw; go_simp; try with_reducible rfl)
        refine untlTake (i := 9) 34 (v := ?v61) rfl (by kernel_rfl) (by kernel_rfl) (by kernel_rfl) (by kernel_rfl) (by kernel_rfl) (by kernel_rfl) (fun _ _ _ h => h) (Or.inl ⟨by rfl, ?y61⟩) (by assumption) ?r61
        case y61 => (intro w hSw; obtain ⟨g0, g1, g2, g3, g4, g5⟩ := hSw; go_simp; try with_reducible rfl)
        refine untlTake (i := 10) 35 (v := ?v62) rfl (by kernel_rfl) (by kernel_rfl) (by kernel_rfl) (by kernel_rfl) (by kernel_rfl) (by kernel_rfl) (fun _ _ _ h => h) (Or.inl ⟨by rfl, ?y62⟩) (by assumption) ?r62
        case y62 => (intro w hSw; obtain ⟨g0, g1, g2, g3, g4, g5⟩ := hSw; go_simp; try with_reducible rfl)
        refine untlTake (i := 11) 36 (v := ?v63) rfl (by kernel_rfl) (by kernel_rfl) (by kernel_rfl) (by kernel_rfl) (by kernel_rfl) (by kernel_rfl) (fun _ _ _ h => h) (Or.inl ⟨by rfl, ?y63⟩) (by assumption) ?r63
        case y63 => (intro w hSw; obtain ⟨g0, g1, g2, g3, g4, g5⟩ := hSw; go_simp; try with_reducible rfl)
        refine untlTake (i := 13) 38 (v := ?v64) rfl (by kernel_rfl) (by kernel_rfl) (by kernel_rfl) (by kernel_rfl) (by kernel_rfl) (by kernel_rfl) (fun _ _ _ h => h) (Or.inl ⟨by rfl, ?y64⟩) (by assumption) ?r64
        case y64 => (intro w hSw; obtain ⟨g0, g1, g2, g3, g4, g5⟩ := hSw; go_simp; try with_reducible rfl)
        refine untlTake (i := 14) 39 (v := ?v65) rfl (by kernel_rfl) (by kernel_rfl) (by kernel_rfl) (by kernel_rfl) (by kernel_rfl) (by kernel_rfl) (fun _ _ _ h => h) (Or.inl ⟨by rfl, ?y65⟩) (by assumption) ?r65
        case y65 => (intro w hSw; obtain ⟨g0, g1, g2, g3, g4, g5⟩ := hSw; go_simp; try with_reducible rfl)
        refine untlTake (i := 15) 40 (v := ?v66) rfl (by kernel_rfl) (by kernel_rfl) (by kernel_rfl) (by kernel_rfl) (by kernel_rfl) (by kernel_rfl) (fun _ _ _ h => h) (Or.inl ⟨by rfl, ?y66⟩) (by assumption) ?r66
        case y66 => (intro w hSw; obtain ⟨g0, g1, g2, g3, g4, g5⟩ := hSw; go_simp; try with_reducible rfl)
        refine untlTake (i := 16) 41 (v := ?v67) rfl (by kernel_rfl) (by kernel_rfl) (by kernel_rfl) (by kernel_rfl) (by kernel_rfl) (by kernel_rfl) (fun _ _ _ h => h) (Or.inl ⟨by rfl, ?y67⟩) (by assumption) ?r67
        case y67 => (intro w hSw; obtain ⟨g0, g1, g2, g3, g4, g5⟩ := hSw; go_simp; try with_reducible rfl)
        refine untlTake (i := 17) 42 (v := ?v68) rfl (by kernel_rfl) (by kernel_rfl) (by kernel_rfl) (by kernel_rfl) (by kernel_rfl) (by kernel_rfl) (fun _ _ _ h => h) (Or.inl ⟨by rfl, ?y68⟩) (by assumption) ?r68
        case y68 => (intro w hSw; obtain ⟨g0, g1, g2, g3, g4, g5⟩ := hSw; go_simp; try with_reducible rfl)
        refine untlTake (i := 18) 43 (v := ?v69) rfl (by kernel_rfl) (by kernel_rfl) (by kernel_rfl) (by kernel_rfl) (by kernel_rfl) (by kernel_rfl) (fun _ _ _ h => h) (Or.inl ⟨by rfl, ?y69⟩) (by assumption) ?r69
        case y69 => (intro w hSw; obtain ⟨g0, g1, g2, g3, g4, g5⟩ := hSw; go_simp; try with_reducible rfl)
        refine untlTake (i := 19) 44 (v := ?v70) rfl (by kernel_rfl) (by kernel_rfl) (by kernel_rfl) (by kernel_rfl) (by kernel_rfl) (by kernel_rfl) (fun _ _ _ h => h) (Or.inl ⟨by rfl, ?y70⟩) (by assumption) ?r70
        case y70 => (intro w hSw; obtain ⟨g0, g1, g2, g3, g4, g5⟩ := hSw; go_simp; try with_reducible rfl)
        refine untlTake (i := 20) 45 (v := ?v71) rfl (by kernel_rfl) (by kernel_rfl) (by kernel_rfl) (by kernel_rfl) (by kernel_rfl) (by kernel_rfl) (fun _ _ _ h => h) (Or.inl ⟨by rfl, ?y71⟩) (by assumption) ?r71
        case y71 => (intro w hSw; obtain ⟨g0, g1, g2, g3, g4, g5⟩ := hSw; go_simp; try with_reducible rfl)
        refine untlTake (i := 21) 46 (v := ?v72) rfl (by kernel_rfl) (by kernel_rfl) (by kernel_rfl) (by kernel_rfl) (by kernel_rfl) (by kernel_rfl) (fun _ _ _ h => h) (Or.inl ⟨by rfl, ?y72⟩) (by assumption) ?r72
        case y72 => (intro w hSw; obtain ⟨g0, g1, g2, g3, g4, g5⟩ := hSw; go_simp; try with_reducible rfl)
        refine untlTake (i := 22) 47 (v := ?v73) rfl (by kernel_rfl) (by kernel_rfl) (by kernel_rfl) (by kernel_rfl) (by kernel_rfl) (by kernel_rfl) (fun _ _ _ h => h) (Or.inl ⟨by rfl, ?y73⟩) (by assumption) ?r73
        case y73 => (intro w hSw; obtain ⟨g0, g1, g2, g3, g4, g5⟩ := hSw; go_simp; try with_reducible rfl)
        simp only [Act.put, List.setIfInBounds_toArray, List.set_cons_zero, List.set_cons_succ]
        refine untlStep (i := 12) (by kernel_rfl) rfl (fun K9 hK9 => ?_)
        go_simp
        refine (HY1.out _ _ E4.out.bel E4.out.t).mono ?_
        rintro e W5 ⟨rfl, b5⟩
        have E5 := Lib.hid (E4.out.below b5)
        have O5 := Lib.hid (ownsRow_below O4.out b5)
        clear b5 E4 O4 S4
        refine hK9.out _ _ (.inr ⟨E5.out.q.cell 4, E5.out.p.cell 4, (HCL.out _ E5.out.bel)⟩) ?_
        refine untlStep (i := 23) (by kernel_rfl) rfl (fun K17 hK17 => ?_)
        go_simp
        refine (HY2.out _ _ E5.out.bel E5.out.t).mono ?_
        rintro e W6 ⟨rfl, b6⟩
        have E6 := Lib.hid (E5.out.below b6)
        have O6 := Lib.hid (ownsRow_below O5.out b6)
        clear b6 E5 O5
        have S6 : STr w g b (off + k * 4) (.slice A' k c') (.slice (some ⟨b, off, none⟩) n c) (.int .i64 ll) (.int .i64 lh) (.int .i64 fl) (.int .i64 fh) W6 := ⟨E6.out.q.cell 4, E6.out.p.cell 4, (HCL.out _ E6.out.bel)⟩
        refine hK17.out _ _ (.inr S6) ?_
        refine untlTake (i := 24) 49 (v := ?v74) rfl (by kernel_rfl) (by kernel_rfl) (by kernel_rfl) (by kernel_rfl) (by kernel_rfl) (by kernel_rfl) (fun _ _ _ h => h) (Or.inl ⟨by rfl, ?y74⟩) (by assumption) ?r74
        case y74 => (intro w hSw; obtain ⟨g0, g1, g2, g3, g4, g5⟩ := hSw; go_simp; try with_reducible rfl)
        refine untlStep (i := 25) (by kernel_rfl) rfl (fun K19 hK19 => ?_)
        go_simp
        have E7 := Lib.hid (E6.out.alloc (.cells #[.int .i64 e1, .int .i64 e1, .int .i64 e2, .int .i64 e2] 42))
        have O7 := Lib.hid (ownsRow_below O6.out (below_self _ (.cells #[.int .i64 e1, .int .i64 e1, .int .i64 e2, .int .i64 e2] 42)))
        refine hK19.out _ _ (.inr ⟨E7.out.q.cell 4, E7.out.p.cell 4, (HCL.out _ E7.out.bel)⟩) ?_
        refine untlStep (i := 26) (by kernel_rfl) rfl (fun K20 hK20 => ?_)
        refine step_append_any rfl (.tmp 26) (.tmp 50) 24 rfl w.heap.size 42 i0 _ 4 32 Try.underlying24 hi hz0 hz1 hz2 rfl (by decide) (.slice A' k c') k (flatG (tg k)) (by rfl) O7.out (some ⟨W6.heap.size, 0, none⟩) 1 1 (by rfl) (Gap.cells ⟨e1, e1, e2, e2⟩) (rep_new W6 ⟨e1, e1, e2, e2⟩ _) (cells_one _) (by unfold maxLen; omega) (by omega) (by have := E6.out.bel.size; simp at this ⊢; omega) ?_
        intro v8 W8 hown hgrow
        rw [flatG_snoc] at hown
        obtain ⟨A3, c3, rfl⟩ := own_slice hown
        have E8 := Lib.hid (E7.out.grown O7.out (by decide) (by decide) (Nat.le_refl _) hgrow)
        have O8 := Lib.hid hown
        have s8 : W8.cell? ⟨g, 4, none⟩ = some (.slice A' k c') := E8.out.q.cell 4
        clear hown hgrow E6 O6 S6
        have S8 : STr w g b (off + k * 4) (.slice A' k c') (.slice (some ⟨b, off, none⟩) n c) (.int .i64 ll) (.int .i64 lh) (.int .i64 fl) (.int .i64 fh) W8 := ⟨E8.out.q.cell 4, E8.out.p.cell 4, (HCL.out _ E8.out.bel)⟩
        refine hK20.out _ _ (.inr S8) ?_
        refine untlTake (i := 27) 52 (v := ?v75) rfl (by kernel_rfl) (by kernel_rfl) (by kernel_rfl) (by kernel_rfl) (by kernel_rfl) (by kernel_rfl) (fun _ _ _ h => h) (Or.inl ⟨by rfl, ?y75⟩) (by assumption) ?r75
        case y75 => (intro w hSw; obtain ⟨g0, g1, g2, g3, g4, g5⟩ := hSw; go_simp; try with_reducible rfl)
        refine untlStep (i := 28) (by kernel_rfl) rfl (fun K22 hK22 => ?_)
        have f8 := E8.out.q.frozen 4
        go_simp
        have O9 := Lib.hid (own_setCell (i := 4) O8.out E8.out.q (by decide) (.slice A3 (k + 1) c3))
        have E9 := Lib.hid (E8.out.setQ 4 (.slice A3 (k + 1) c3))
        clear s8 f8 S8 E8 O8 E7 O7
        refine hK22.out _ _ (.inl (by decide)) ?_
        refine untlDone (by kernel_rfl) ?_ _
        clear a1 a2 a3
        go_wp2_with fail
        go_roundw
        case rel => exact ⟨k + 1, A3, c3, by omega, by go_num, by rw [ht1.out, htg.out]; exact O9.out, E9.out⟩
        case measure => simp [intOf]; omega
      · obtain rfl : k = n := by omega
        have O9 := Lib.hid (own_set5 OW.out EK.out.r (by decide) (.int .i64 x0) (.int .i64 x0) (.int .i64 x1) (.int .i64 x1) (.slice A' k c'))
        have q9 := fan5_get EK.out.q
        have r9 := fan5_get EK.out.r
        have f9 := EK.out.r.frozen
        go_wp2_with fail
        exact bodyPost_ret (results_c rfl _ _ _ (w.heap.size + 1 + 1) _ _ _ rfl (((((EK.out.r.set_ 0 _).set_ 1 _).set_ 2 _).set_ 3 _).set_ 4 _) Try.underlying26 (by kernel_rfl)) rfl (HE.out _ _ _ O9.out (((((EK.out.bel.setCell (p := ⟨w.heap.size + 1 + 1, 0, none⟩) (by simp; omega) _).setCell (p := ⟨w.heap.size + 1 + 1, 1, none⟩) (by simp; omega) _).setCell (p := ⟨w.heap.size + 1 + 1, 2, none⟩) (by simp; omega) _).setCell (p := ⟨w.heap.size + 1 + 1, 3, none⟩) (by simp; omega) _).setCell (p := ⟨w.heap.size + 1 + 1, 4, none⟩) (by simp; omega) _))
end Go.Proofs.Ytdekickmplkdiaa
