/- Walks: the least and the most open truth of a fan. -/
import Derived.Test.YtdekickmplkdiaaVd
namespace Go.Proofs.Ytdekickmplkdiaa
open Go.RowKit

def gapsTo (F : Gap → Gap) (gs : List Gap) : Nat → List Gap
  | 0 => []
  | k + 1 => gapsTo F gs k ++ [F (gs.getD k Gap.zero)]
theorem gapsTo_take (F : Gap → Gap) (gs : List Gap) (k : Nat) (hk : k ≤ gs.length) : gapsTo F gs k = (gs.take k).map F := by
  induction k with
  | zero => rfl
  | succ k ih => rw [gapsTo, ih (by omega), List.take_succ_eq_append_getElem (by omega), List.map_append]; simp [List.getD, show k < gs.length from by omega]
theorem gapsTo_all (F : Gap → Gap) (gs : List Gap) : gapsTo F gs gs.length = gs.map F := by rw [gapsTo_take F gs _ (Nat.le_refl _), List.take_length]
def lowGap (g : Gap) : Gap := ⟨g.ll, g.ll, g.fl, g.fl⟩
def highGap (g : Gap) : Gap := ⟨g.lh, g.lh, g.fh, g.fh⟩
def Fan.least (f : Fan) : Fan := ⟨f.b, f.b, f.d, f.d, gapsTo lowGap f.gs f.gs.length⟩
def Fan.most (f : Fan) : Fan := ⟨f.a, f.a, f.c, f.c, gapsTo highGap f.gs f.gs.length⟩
/-- What their own boxes hold, ahead of the answer's. -/
structure CL (w W : World) (fan : Array Value) (g5 : Option Nat) : Prop where
  p : Blk W w.heap.size 26 fan
  r : Blk W (w.heap.size + 1) 26 #[.int .i64 0, .int .i64 0, .int .i64 0, .int .i64 0, .slice none 0 0]
  bel : Below w.heap.size w W
  h5 : ∀ g, g5 = some g → Blk W g 26 #[.int .i64 0, .int .i64 0, .int .i64 0, .int .i64 0, .slice none 0 0] ∧ w.heap.size + 1 < g
theorem CL.below {w W W' : World} {fan : Array Value} {g5 : Option Nat} (h : CL w W fan g5) (hb : Below W.heap.size W W') : CL w W' fan g5 := ⟨blk_keep hb h.p, blk_keep hb h.r, below_then h.bel hb, fun g e => ⟨blk_keep hb (h.h5 g e).1, (h.h5 g e).2⟩⟩
theorem CL.new5 {w W : World} {fan : Array Value} (h : CL w W fan none) : CL w (W.alloc (.cells #[.int .i64 0, .int .i64 0, .int .i64 0, .int .i64 0, .slice none 0 0] 26)) fan (some W.heap.size) :=
  have k := h.below (below_self W (.cells #[.int .i64 0, .int .i64 0, .int .i64 0, .int .i64 0, .slice none 0 0] 26))
  ⟨k.p, k.r, k.bel, fun g e => (by cases e; exact ⟨Blk.new W _ _ rfl, h.r.lt⟩)⟩
theorem CL.start (w : World) (fan : Array Value) : CL w (((w.alloc (.cells fan 26)).alloc (.cells #[.int .i64 0, .int .i64 0, .int .i64 0, .int .i64 0, .slice none 0 0] 26)).drew) fan none :=
  ⟨(Blk.new w _ _ rfl).alloc _, Blk.new _ _ _ (by simp), (below_alloc' (below_self w _) _).drew, fun g e => (by cases e)⟩
structure EL (w W : World) (fan : Array Value) (g : Nat) (out : Array Value) : Prop where
  p : Blk W w.heap.size 26 fan
  r : Blk W (w.heap.size + 1) 26 #[.int .i64 0, .int .i64 0, .int .i64 0, .int .i64 0, .slice none 0 0]
  q : Blk W g 26 out
  bel : Below w.heap.size w W
  lt : w.heap.size + 1 < g
section
variable {w W W' : World} {fan out : Array Value} {g : Nat}
theorem EL.below (h : EL w W fan g out) (hb : Below W.heap.size W W') : EL w W' fan g out := ⟨blk_keep hb h.p, blk_keep hb h.r, blk_keep hb h.q, below_then h.bel hb, h.lt⟩
theorem EL.alloc (h : EL w W fan g out) (o : Obj) : EL w (W.alloc o) fan g out := h.below (below_self W o)
theorem EL.drewd (h : EL w W fan g out) : EL w W.drew fan g out := ⟨h.p, h.r, h.q, h.bel.drew, h.lt⟩
theorem EL.grown (h : EL w W fan g out) {base n size : Nat} {e : TypeId} {v : Value} {xs : List Value} (ho : W.ownsRow base e size v n xs) (h1 : e ≠ 26) (hb : w.heap.size ≤ base) (hg : W.grownBy W' v.ownBlock) : EL w W' fan g out :=
  ⟨h.p.grown hg (own_blk_ne ho h.p h1), h.r.grown hg (own_blk_ne ho h.r h1), h.q.grown hg (own_blk_ne ho h.q h1), h.bel.grown hg h.bel.size (fun k e => Nat.le_trans hb (ho.lt k e.symm.symm).1), h.lt⟩
theorem EL.setQ (h : EL w W fan g out) (i : Nat) (u : Value) : EL w (W.setCell ⟨g, i, none⟩ u) fan g (out.setIfInBounds i u) :=
  have hl := h.lt
  ⟨h.p.far (p := ⟨g, i, none⟩) (by show w.heap.size ≠ g; omega) u, h.r.far (p := ⟨g, i, none⟩) (by show w.heap.size + 1 ≠ g; omega) u, h.q.set_ i u, h.bel.setCell (p := ⟨g, i, none⟩) (by show w.heap.size ≤ g; omega) u, h.lt⟩
theorem CL.put (h : CL w W fan (some g)) (cs : Array Value) : EL w (W.setRow g cs) fan g cs :=
  have h5 := h.h5 g rfl
  ⟨h.p.setRow_far (by omega) cs, h.r.setRow_far (by omega) cs, h5.1.setRow cs, below_setR h.bel (by omega) cs, h5.2⟩
end
/-- What their round looks at. -/
def SG (g gv i j : Nat) (x y z : Value) (W : World) : Prop := W.cell? ⟨g, 4, none⟩ = some x ∧ W.cell? ⟨gv, i, none⟩ = some y ∧ W.cell? ⟨gv, j, none⟩ = some z

set_option maxRecDepth 100000 in
set_option maxHeartbeats 8000000 in
theorem least_any (f : Fan) (A : Option Addr) (n c : Nat) (w : World) (hf : FanB f) (h : Gaps w A n f.gs) :
    Calls Try.prog 54 #[.agg (fanA f A n c)] w (OwnRes w f.least n) := by
  obtain ⟨i0, hi, hz0, hz1, hz2⟩ := info_parts Try.infoGap
  have hl := h.len
  have hn : n ≤ 41 := by have := hf.n; omega
  have HSP := Lib.hid (fun a b W => lawSpan_any a b W)
  have C0 := Lib.hid (CL.start w (fanA f A n c))
  have HG := Lib.hid h
  have HT0 : Hid (gapsTo lowGap f.gs 0 = []) := rfl
  have HT1 := Lib.hid (fun k => show gapsTo lowGap f.gs (k + 1) = gapsTo lowGap f.gs k ++ [lowGap (f.gs.getD k Gap.zero)] from rfl)
  have HTG := Lib.hid (fun g => show lowGap g = ⟨g.ll, g.ll, g.fl, g.fl⟩ from rfl)
  have HE := Lib.hid (fun W a1 a2 (ho : W.ownsRow w.heap.size 42 4 (.slice a1 n a2) n (flatG (gapsTo lowGap f.gs n))) (hb : Below w.heap.size w W) => show OwnRes w f.least n (.returned (.agg #[.int .i64 f.b, .int .i64 f.b, .int .i64 f.d, .int .i64 f.d, .slice a1 n a2])) W from by
    obtain ⟨a3, a4, e, ho2⟩ := ownG_of ho
    simp only [Value.slice.injEq, true_and] at e
    obtain ⟨rfl, rfl⟩ := e
    exact ⟨a1, a2, rfl, by show OwnG _ _ _ _ (gapsTo lowGap f.gs f.gs.length); rw [hl]; exact ho2, hb⟩)
  generalize OwnRes w f.least n = RR at *
  generalize gapsTo lowGap f.gs = tg at *
  generalize lowGap = gap at *
  clear h hf hl
  obtain ⟨fa, fb, fc, fd, gs⟩ := f
  simp only [fanA] at *
  go_enter Try.func54, Try.ntmps54
  go_wp2_with fail
  go_cut [3] from 3 to 20 (fun s3 W => ∃ g : Nat, s3 = .pointer (some ⟨g, 0, none⟩) ∧ EL w W #[.int .i64 fa, .int .i64 fb, .int .i64 fc, .int .i64 fd, .slice A n c] g #[.int .i64 fb, .int .i64 fb, .int .i64 fd, .int .i64 fd, .slice none 0 0])
  case first =>
    have S0 : SFan w (.int .i64 fa) (.int .i64 fb) (.int .i64 fc) (.int .i64 fd) (.slice A n c) _ := fan5_get C0.out.p
    refine wp_region_untl (S := SFan w (.int .i64 fa) (.int .i64 fb) (.int .i64 fc) (.int .i64 fd) (.slice A n c)) [] (by kernel_rfl) S0 (fun _ => ?_)
    generalize (((w.alloc (.cells #[.int .i64 fa, .int .i64 fb, .int .i64 fc, .int .i64 fd, .slice A n c] 26)).alloc (.cells #[.int .i64 0, .int .i64 0, .int .i64 0, .int .i64 0, .slice none 0 0] 26)).drew) = wd at *
    refine untlTake (i := 0) 6 (v := ?v1) rfl (by kernel_rfl) (by kernel_rfl) (by kernel_rfl) (by kernel_rfl) (by kernel_rfl) (by kernel_rfl) (fun _ _ _ h => h) (Or.inl ⟨by rfl, ?y1⟩) (by assumption) ?r1
    case y1 => (intro w hSw; obtain ⟨g0, g1, g2, g3, g4⟩ := hSw; go_simp; try with_reducible rfl)
    refine untlTake (i := 1) 7 (v := ?v2) rfl (by kernel_rfl) (by kernel_rfl) (by kernel_rfl) (by kernel_rfl) (by kernel_rfl) (by kernel_rfl) (fun _ _ _ h => h) (Or.inl ⟨by rfl, ?y2⟩) (by assumption) ?r2
    case y2 => (intro w hSw; obtain ⟨g0, g1, g2, g3, g4⟩ := hSw; go_simp; try with_reducible rfl)
    refine untlTake (i := 2) 8 (v := ?v3) rfl (by kernel_rfl) (by kernel_rfl) (by kernel_rfl) (by kernel_rfl) (by kernel_rfl) (by kernel_rfl) (fun _ _ _ h => h) (Or.inl ⟨by rfl, ?y3⟩) (by assumption) ?r3
    case y3 => (intro w hSw; obtain ⟨g0, g1, g2, g3, g4⟩ := hSw; go_simp; try with_reducible rfl)
    refine untlTake (i := 3) 9 (v := ?v4) rfl (by kernel_rfl) (by kernel_rfl) (by kernel_rfl) (by kernel_rfl) (by kernel_rfl) (by kernel_rfl) (fun _ _ _ h => h) (Or.inl ⟨by rfl, ?y4⟩) (by assumption) ?r4
    case y4 => (intro w hSw; obtain ⟨g0, g1, g2, g3, g4⟩ := hSw; go_simp; try with_reducible rfl)
    refine untlTake (i := 4) 10 (v := ?v5) rfl (by kernel_rfl) (by kernel_rfl) (by kernel_rfl) (by kernel_rfl) (by kernel_rfl) (by kernel_rfl) (fun _ _ _ h => h) (Or.inl ⟨by rfl, ?y5⟩) (by assumption) ?r5
    case y5 => (intro w hSw; obtain ⟨g0, g1, g2, g3, g4⟩ := hSw; go_simp; try with_reducible rfl)
    refine untlTake (i := 5) 11 (v := ?v6) rfl (by kernel_rfl) (by kernel_rfl) (by kernel_rfl) (by kernel_rfl) (by kernel_rfl) (by kernel_rfl) (fun _ _ _ h => h) (Or.inl ⟨by rfl, ?y6⟩) (by assumption) ?r6
    case y6 => (intro w hSw; obtain ⟨g0, g1, g2, g3, g4⟩ := hSw; go_simp; try with_reducible rfl)
    refine untlTake (i := 7) 13 (v := ?v7) rfl (by kernel_rfl) (by kernel_rfl) (by kernel_rfl) (by kernel_rfl) (by kernel_rfl) (by kernel_rfl) (fun _ _ _ h => h) (Or.inl ⟨by rfl, ?y7⟩) (by assumption) ?r7
    case y7 => (intro w hSw; obtain ⟨g0, g1, g2, g3, g4⟩ := hSw; go_simp; try with_reducible rfl)
    refine untlTake (i := 8) 14 (v := ?v8) rfl (by kernel_rfl) (by kernel_rfl) (by kernel_rfl) (by kernel_rfl) (by kernel_rfl) (by kernel_rfl) (fun _ _ _ h => h) (Or.inl ⟨by rfl, ?y8⟩) (by assumption) ?r8
    case y8 => (intro w hSw; obtain ⟨g0, g1, g2, g3, g4⟩ := hSw; go_simp; try with_reducible rfl)
    refine untlTake (i := 9) 15 (v := ?v9) rfl (by kernel_rfl) (by kernel_rfl) (by kernel_rfl) (by kernel_rfl) (by kernel_rfl) (by kernel_rfl) (fun _ _ _ h => h) (Or.inl ⟨by rfl, ?y9⟩) (by assumption) ?r9
    case y9 => (intro w hSw; obtain ⟨g0, g1, g2, g3, g4⟩ := hSw; go_simp; try with_reducible rfl)
    refine untlTake (i := 10) 16 (v := ?v10) rfl (by kernel_rfl) (by kernel_rfl) (by kernel_rfl) (by kernel_rfl) (by kernel_rfl) (by kernel_rfl) (fun _ _ _ h => h) (Or.inl ⟨by rfl, ?y10⟩) (by assumption) ?r10
    case y10 => (intro w hSw; obtain ⟨g0, g1, g2, g3, g4⟩ := hSw; go_simp; try with_reducible rfl)
    refine untlTake (i := 11) 17 (v := ?v11) rfl (by kernel_rfl) (by kernel_rfl) (by kernel_rfl) (by kernel_rfl) (by kernel_rfl) (by kernel_rfl) (fun _ _ _ h => h) (Or.inl ⟨by rfl, ?y11⟩) (by assumption) ?r11
    case y11 => (intro w hSw; obtain ⟨g0, g1, g2, g3, g4⟩ := hSw; go_simp; try with_reducible rfl)
    refine untlTake (i := 12) 18 (v := ?v12) rfl (by kernel_rfl) (by kernel_rfl) (by kernel_rfl) (by kernel_rfl) (by kernel_rfl) (by kernel_rfl) (fun _ _ _ h => h) (Or.inl ⟨by rfl, ?y12⟩) (by assumption) ?r12
    case y12 => (intro w hSw; obtain ⟨g0, g1, g2, g3, g4⟩ := hSw; go_simp; try with_reducible rfl)
    simp only [Act.put, List.setIfInBounds_toArray, List.set_cons_zero, List.set_cons_succ]
    refine untlReady (rs := [6, 15]) (by kernel_rfl) (by simp) ?_
    refine UReady.cons rfl (fun K13 hK13 => ?_) ?_
    · skip
      go_simp
      refine (HSP.out _ _ _).mono ?_
      rintro e V15 ⟨rfl, b0⟩
      have C14 := Lib.hid (C0.out.below b0)
      clear b0
      have s16 : SFan w (.int .i64 fa) (.int .i64 fb) (.int .i64 fc) (.int .i64 fd) (.slice A n c) V15 := fan5_get C14.out.p
      refine hK13.out _ _ (.inr s16) ?_
      refine untlReady (rs := [13, 15]) (by kernel_rfl) (by simp) ?_
      refine UReady.cons rfl (fun K17 hK17 => ?_) ?_
      · skip
        go_simp
        refine (HSP.out _ _ _).mono ?_
        rintro e V19 ⟨rfl, b0⟩
        have C18 := Lib.hid (C14.out.below b0)
        clear b0
        have s20 : SFan w (.int .i64 fa) (.int .i64 fb) (.int .i64 fc) (.int .i64 fd) (.slice A n c) V19 := fan5_get C18.out.p
        refine hK17.out _ _ (.inr s20) ?_
        refine untlTake (i := 14) 20 (v := ?v21) rfl (by kernel_rfl) (by kernel_rfl) (by kernel_rfl) (by kernel_rfl) (by kernel_rfl) (by kernel_rfl) (fun _ _ _ h => h) (Or.inl ⟨by rfl, ?y21⟩) (by assumption) ?r21
        case y21 => (intro w hSw; obtain ⟨g0, g1, g2, g3, g4⟩ := hSw; go_simp; try with_reducible rfl)
        refine untlReady (rs := [15]) (by kernel_rfl) (by simp) ?_
        refine UReady.cons rfl (fun K22 hK22 => ?_) UReady.nil
        go_simp
        have C23 := Lib.hid C18.out.new5
        refine hK22.out _ _ (.inr (fan5_get C23.out.p)) ?_
        obtain ⟨V24, hW⟩ : ∃ V, V = V19.alloc (.cells #[.int .i64 0, .int .i64 0, .int .i64 0, .int .i64 0, .slice none 0 0] 26) := ⟨_, rfl⟩
        rw [← hW] at C23 ⊢
        clear hW
        have s25 : SFan w (.int .i64 fa) (.int .i64 fb) (.int .i64 fc) (.int .i64 fd) (.slice A n c) V24 := fan5_get C23.out.p
        refine untlStep (i := 16) (by kernel_rfl) rfl (fun K26 hK26 => ?_)
        rw [if_pos (by rfl)]
        refine wp_store_rowN rfl _ _ _ rfl _ _ rfl rfl _ _ (C23.out.h5 _ rfl).1 (by kernel_rfl) rfl (ones5v _ _ _ _ _ _ _) ?_
        have E27 := Lib.hid (C23.out.put #[.int .i64 fb, .int .i64 fb, .int .i64 fd, .int .i64 fd, .slice none 0 0])
        refine hK26.out _ _ (.inr (fan5_get E27.out.p)) ?_
        refine untlDone (by kernel_rfl) ?_ _
        go_wp2_with fail
        go_meet
        exact ⟨_, rfl, E27.out⟩
      refine UReady.cons rfl (fun K28 hK28 => ?_) UReady.nil
      go_simp
      have C29 := Lib.hid C14.out.new5
      refine hK28.out _ _ (.inr (fan5_get C29.out.p)) ?_
      obtain ⟨V30, hW⟩ : ∃ V, V = V15.alloc (.cells #[.int .i64 0, .int .i64 0, .int .i64 0, .int .i64 0, .slice none 0 0] 26) := ⟨_, rfl⟩
      rw [← hW] at C29 ⊢
      clear hW
      have s31 : SFan w (.int .i64 fa) (.int .i64 fb) (.int .i64 fc) (.int .i64 fd) (.slice A n c) V30 := fan5_get C29.out.p
      refine untlReady (rs := [13]) (by kernel_rfl) (by simp) ?_
      refine UReady.cons rfl (fun K32 hK32 => ?_) UReady.nil
      go_simp
      refine (HSP.out _ _ _).mono ?_
      rintro e V34 ⟨rfl, b0⟩
      have C33 := Lib.hid (C29.out.below b0)
      clear b0
      have s35 : SFan w (.int .i64 fa) (.int .i64 fb) (.int .i64 fc) (.int .i64 fd) (.slice A n c) V34 := fan5_get C33.out.p
      refine hK32.out _ _ (.inr s35) ?_
      refine untlTake (i := 14) 20 (v := ?v36) rfl (by kernel_rfl) (by kernel_rfl) (by kernel_rfl) (by kernel_rfl) (by kernel_rfl) (by kernel_rfl) (fun _ _ _ h => h) (Or.inl ⟨by rfl, ?y36⟩) (by assumption) ?r36
      case y36 => (intro w hSw; obtain ⟨g0, g1, g2, g3, g4⟩ := hSw; go_simp; try with_reducible rfl)
      refine untlStep (i := 16) (by kernel_rfl) rfl (fun K37 hK37 => ?_)
      rw [if_pos (by rfl)]
      refine wp_store_rowN rfl _ _ _ rfl _ _ rfl rfl _ _ (C33.out.h5 _ rfl).1 (by kernel_rfl) rfl (ones5v _ _ _ _ _ _ _) ?_
      have E38 := Lib.hid (C33.out.put #[.int .i64 fb, .int .i64 fb, .int .i64 fd, .int .i64 fd, .slice none 0 0])
      refine hK37.out _ _ (.inr (fan5_get E38.out.p)) ?_
      refine untlDone (by kernel_rfl) ?_ _
      go_wp2_with fail
      go_meet
      exact ⟨_, rfl, E38.out⟩
    refine UReady.cons rfl (fun K39 hK39 => ?_) UReady.nil
    go_simp
    have C40 := Lib.hid C0.out.new5
    refine hK39.out _ _ (.inr (fan5_get C40.out.p)) ?_
    obtain ⟨V41, hW⟩ : ∃ V, V = wd.alloc (.cells #[.int .i64 0, .int .i64 0, .int .i64 0, .int .i64 0, .slice none 0 0] 26) := ⟨_, rfl⟩
    rw [← hW] at C40 ⊢
    clear hW
    have s42 : SFan w (.int .i64 fa) (.int .i64 fb) (.int .i64 fc) (.int .i64 fd) (.slice A n c) V41 := fan5_get C40.out.p
    refine untlReady (rs := [6]) (by kernel_rfl) (by simp) ?_
    refine UReady.cons rfl (fun K43 hK43 => ?_) UReady.nil
    go_simp
    refine (HSP.out _ _ _).mono ?_
    rintro e V45 ⟨rfl, b0⟩
    have C44 := Lib.hid (C40.out.below b0)
    clear b0
    have s46 : SFan w (.int .i64 fa) (.int .i64 fb) (.int .i64 fc) (.int .i64 fd) (.slice A n c) V45 := fan5_get C44.out.p
    refine hK43.out _ _ (.inr s46) ?_
    refine untlReady (rs := [13]) (by kernel_rfl) (by simp) ?_
    refine UReady.cons rfl (fun K47 hK47 => ?_) UReady.nil
    go_simp
    refine (HSP.out _ _ _).mono ?_
    rintro e V49 ⟨rfl, b0⟩
    have C48 := Lib.hid (C44.out.below b0)
    clear b0
    have s50 : SFan w (.int .i64 fa) (.int .i64 fb) (.int .i64 fc) (.int .i64 fd) (.slice A n c) V49 := fan5_get C48.out.p
    refine hK47.out _ _ (.inr s50) ?_
    refine untlTake (i := 14) 20 (v := ?v51) rfl (by kernel_rfl) (by kernel_rfl) (by kernel_rfl) (by kernel_rfl) (by kernel_rfl) (by kernel_rfl) (fun _ _ _ h => h) (Or.inl ⟨by rfl, ?y51⟩) (by assumption) ?r51
    case y51 => (intro w hSw; obtain ⟨g0, g1, g2, g3, g4⟩ := hSw; go_simp; try with_reducible rfl)
    refine untlStep (i := 16) (by kernel_rfl) rfl (fun K52 hK52 => ?_)
    rw [if_pos (by rfl)]
    refine wp_store_rowN rfl _ _ _ rfl _ _ rfl rfl _ _ (C48.out.h5 _ rfl).1 (by kernel_rfl) rfl (ones5v _ _ _ _ _ _ _) ?_
    have E53 := Lib.hid (C48.out.put #[.int .i64 fb, .int .i64 fb, .int .i64 fd, .int .i64 fd, .slice none 0 0])
    refine hK52.out _ _ (.inr (fan5_get E53.out.p)) ?_
    refine untlDone (by kernel_rfl) ?_ _
    go_wp2_with fail
    go_meet
    exact ⟨_, rfl, E53.out⟩
  case rest =>
    obtain ⟨g, rfl, hE⟩ := hcut
    have E1 := Lib.hid hE
    have p1 := fan5_get hE.p
    clear hE C0
    go_wp2_with fail
    clear p1
    go_loopw [4] (fun s4 wr => ∃ (k : Nat) (A' : Option Addr) (c' : Nat), k ≤ n ∧ s4 = .int .i64 k ∧ wr.ownsRow w.heap.size 42 4 (.slice A' k c') k (flatG (tg k)) ∧ EL w wr #[.int .i64 fa, .int .i64 fb, .int .i64 fc, .int .i64 fd, .slice A n c] g #[.int .i64 fb, .int .i64 fb, .int .i64 fd, .int .i64 fd, .slice A' k c']) (fun s4 _ => n - (intOf s4).toNat)
    case atStart => exact ⟨0, none, 0, Nat.zero_le _, rfl, by rw [HT0.out]; exact World.ownsRow_nil _ _ _ _, E1.out⟩
    case round =>
      obtain ⟨k, A', c', hk, rfl, hown, hE⟩ := hrel
      have OW := Lib.hid hown
      have EK := Lib.hid hE
      have p2 := fan5_get hE.p
      clear hown hE E1
      by_cases hlt : k < n
      · obtain ⟨b, off, hA, _, _, _, _, _⟩ := HG.out.at_ hlt
        obtain ⟨y0, y1, y2, y3⟩ := gap_cells (HG.out.below EK.out.bel) hA hlt
        subst hA
        have ht1 := Lib.hid (HT1.out k)
        have htg := Lib.hid (HTG.out (gs.getD k Gap.zero))
        generalize hy : gs.getD k Gap.zero = y at *
        obtain ⟨ll, lh, fl, fh⟩ := y
        simp only at y0 y1 y2 y3 htg
        clear hy
        have V4 := Lib.hid (show Blk ((wr.alloc (.cells #[.int .i64 ll, .int .i64 lh, .int .i64 fl, .int .i64 fh] 42)).drew) wr.heap.size 42 #[.int .i64 ll, .int .i64 lh, .int .i64 fl, .int .i64 fh] from Blk.new wr 42 #[.int .i64 ll, .int .i64 lh, .int .i64 fl, .int .i64 fh] (g := wr.heap.size) rfl)
        have E4 := Lib.hid (EK.out.alloc (.cells #[.int .i64 ll, .int .i64 lh, .int .i64 fl, .int .i64 fh] 42)).drewd
        have O4 : Hid (((wr.alloc (.cells #[.int .i64 ll, .int .i64 lh, .int .i64 fl, .int .i64 fh] 42)).drew).ownsRow w.heap.size 42 4 (.slice A' k c') k (flatG (tg k))) := ownsRow_below OW.out (below_self wr (.cells #[.int .i64 ll, .int .i64 lh, .int .i64 fl, .int .i64 fh] 42)).drew
        have HNE : Hid ((Value.slice A' k c').ownBlock ≠ some wr.heap.size) := fun e => by
          have := (OW.out.lt _ e).2
          omega
        go_wp2_with fail
        clear p2 EK OW y0 y1 y2 y3
        generalize hgv : wr.heap.size = gv at *
        clear hgv
        have S4 : SG g gv 0 2 (.slice A' k c') (.int .i64 ll) (.int .i64 fl) ((wr.alloc (.cells #[.int .i64 ll, .int .i64 lh, .int .i64 fl, .int .i64 fh] 42)).drew) := ⟨E4.out.q.cell 4, V4.out.cell 0, V4.out.cell 2⟩
        refine wp_region_untl (S := SG g gv 0 2 (.slice A' k c') (.int .i64 ll) (.int .i64 fl)) [20] (by kernel_rfl) S4 (fun _ => ?_)
        generalize ((wr.alloc (.cells #[.int .i64 ll, .int .i64 lh, .int .i64 fl, .int .i64 fh] 42)).drew) = wd2 at *
        refine untlTake (i := 0) 33 (v := ?v54) rfl (by kernel_rfl) (by kernel_rfl) (by kernel_rfl) (by kernel_rfl) (by kernel_rfl) (by kernel_rfl) (fun _ _ _ h => h) (Or.inl ⟨by rfl, ?y54⟩) (by assumption) ?r54
        case y54 => (intro w hSw; obtain ⟨g0, g1, g2⟩ := hSw; go_simp; try with_reducible rfl)
        refine untlTake (i := 1) 34 (v := ?v55) rfl (by kernel_rfl) (by kernel_rfl) (by kernel_rfl) (by kernel_rfl) (by kernel_rfl) (by kernel_rfl) (fun _ _ _ h => h) (Or.inl ⟨by rfl, ?y55⟩) (by assumption) ?r55
        case y55 => (intro w hSw; obtain ⟨g0, g1, g2⟩ := hSw; go_simp; try with_reducible rfl)
        refine untlTake (i := 2) 35 (v := ?v56) rfl (by kernel_rfl) (by kernel_rfl) (by kernel_rfl) (by kernel_rfl) (by kernel_rfl) (by kernel_rfl) (fun _ _ _ h => h) (Or.inl ⟨by rfl, ?y56⟩) (by assumption) ?r56
        case y56 => (intro w hSw; obtain ⟨g0, g1, g2⟩ := hSw; go_simp; try with_reducible rfl)
        refine untlTake (i := 3) 36 (v := ?v57) rfl (by kernel_rfl) (by kernel_rfl) (by kernel_rfl) (by kernel_rfl) (by kernel_rfl) (by kernel_rfl) (fun _ _ _ h => h) (Or.inl ⟨by rfl, ?y57⟩) (by assumption) ?r57
        case y57 => (intro w hSw; obtain ⟨g0, g1, g2⟩ := hSw; go_simp; try with_reducible rfl)
        refine untlTake (i := 4) 37 (v := ?v58) rfl (by kernel_rfl) (by kernel_rfl) (by kernel_rfl) (by kernel_rfl) (by kernel_rfl) (by kernel_rfl) (fun _ _ _ h => h) (Or.inl ⟨by rfl, ?y58⟩) (by assumption) ?r58
        case y58 => (intro w hSw; obtain ⟨g0, g1, g2⟩ := hSw; go_simp; try with_reducible rfl)
        refine untlTake (i := 5) 38 (v := ?v59) rfl (by kernel_rfl) (by kernel_rfl) (by kernel_rfl) (by kernel_rfl) (by kernel_rfl) (by kernel_rfl) (fun _ _ _ h => h) (Or.inl ⟨by rfl, ?y59⟩) (by assumption) ?r59
        case y59 => (intro w hSw; obtain ⟨g0, g1, g2⟩ := hSw; go_simp; try with_reducible rfl)
        refine untlTake (i := 6) 39 (v := ?v60) rfl (by kernel_rfl) (by kernel_rfl) (by kernel_rfl) (by kernel_rfl) (by kernel_rfl) (by kernel_rfl) (fun _ _ _ h => h) (Or.inl ⟨by rfl, ?y60⟩) (by assumption) ?r60
        case y60 => (intro w hSw; obtain ⟨g0, g1, g2⟩ := hSw; go_simp; try with_reducible rfl)
        refine untlTake (i := 7) 40 (v := ?v61) rfl (by kernel_rfl) (by kernel_rfl) (by kernel_rfl) (by kernel_rfl) (by kernel_rfl) (by kernel_rfl) (fun _ _ _ h => h) (Or.inl ⟨by rfl, ?y61⟩) (by assumption) ?r61
        case y61 => (intro w hSw; obtain ⟨g0, g1, g2⟩ := hSw; go_simp; try with_reducible rfl)
        refine untlTake (i := 9) 42 (v := ?v62) rfl (by kernel_rfl) (by kernel_rfl) (by kernel_rfl) (by kernel_rfl) (by kernel_rfl) (by kernel_rfl) (fun _ _ _ h => h) (Or.inl ⟨by rfl, ?y62⟩) (by assumption) ?r62
        case y62 => (intro w hSw; obtain ⟨g0, g1, g2⟩ := hSw; go_simp; try with_reducible rfl)
        refine untlTake (i := 10) 43 (v := ?v63) rfl (by kernel_rfl) (by kernel_rfl) (by kernel_rfl) (by kernel_rfl) (by kernel_rfl) (by kernel_rfl) (fun _ _ _ h => h) (Or.inl ⟨by rfl, ?y63⟩) (by assumption) ?r63
        case y63 => (intro w hSw; obtain ⟨g0, g1, g2⟩ := hSw; go_simp; try with_reducible rfl)
        refine untlTake (i := 11) 44 (v := ?v64) rfl (by kernel_rfl) (by kernel_rfl) (by kernel_rfl) (by kernel_rfl) (by kernel_rfl) (by kernel_rfl) (fun _ _ _ h => h) (Or.inl ⟨by rfl, ?y64⟩) (by assumption) ?r64
        case y64 => (intro w hSw; obtain ⟨g0, g1, g2⟩ := hSw; go_simp; try with_reducible rfl)
        refine untlTake (i := 12) 45 (v := ?v65) rfl (by kernel_rfl) (by kernel_rfl) (by kernel_rfl) (by kernel_rfl) (by kernel_rfl) (by kernel_rfl) (fun _ _ _ h => h) (Or.inl ⟨by rfl, ?y65⟩) (by assumption) ?r65
        case y65 => (intro w hSw; obtain ⟨g0, g1, g2⟩ := hSw; go_simp; try with_reducible rfl)
        refine untlTake (i := 13) 46 (v := ?v66) rfl (by kernel_rfl) (by kernel_rfl) (by kernel_rfl) (by kernel_rfl) (by kernel_rfl) (by kernel_rfl) (fun _ _ _ h => h) (Or.inl ⟨by rfl, ?y66⟩) (by assumption) ?r66
        case y66 => (intro w hSw; obtain ⟨g0, g1, g2⟩ := hSw; go_simp; try with_reducible rfl)
        refine untlTake (i := 14) 47 (v := ?v67) rfl (by kernel_rfl) (by kernel_rfl) (by kernel_rfl) (by kernel_rfl) (by kernel_rfl) (by kernel_rfl) (fun _ _ _ h => h) (Or.inl ⟨by rfl, ?y67⟩) (by assumption) ?r67
        case y67 => (intro w hSw; obtain ⟨g0, g1, g2⟩ := hSw; go_simp; try with_reducible rfl)
        simp only [Act.put, List.setIfInBounds_toArray, List.set_cons_zero, List.set_cons_succ]
        refine untlStep (i := 8) (by kernel_rfl) rfl (fun K9 hK9 => ?_)
        go_simp
        refine (HSP.out _ _ _).mono ?_
        rintro e W5 ⟨rfl, b5⟩
        have E5 := Lib.hid (E4.out.below b5)
        have O5 := Lib.hid (ownsRow_below O4.out b5)
        have V5 := Lib.hid (blk_keep b5 V4.out)
        clear b5 E4 O4 V4 S4
        refine hK9.out _ _ (.inr ⟨E5.out.q.cell 4, V5.out.cell 0, V5.out.cell 2⟩) ?_
        refine untlStep (i := 15) (by kernel_rfl) rfl (fun K17 hK17 => ?_)
        go_simp
        refine (HSP.out _ _ _).mono ?_
        rintro e W6 ⟨rfl, b6⟩
        have E6 := Lib.hid (E5.out.below b6)
        have O6 := Lib.hid (ownsRow_below O5.out b6)
        have V6 := Lib.hid (blk_keep b6 V5.out)
        clear b6 E5 O5 V5
        have S6 : SG g gv 0 2 (.slice A' k c') (.int .i64 ll) (.int .i64 fl) W6 := ⟨E6.out.q.cell 4, V6.out.cell 0, V6.out.cell 2⟩
        refine hK17.out _ _ (.inr S6) ?_
        refine untlTake (i := 16) 49 (v := ?v68) rfl (by kernel_rfl) (by kernel_rfl) (by kernel_rfl) (by kernel_rfl) (by kernel_rfl) (by kernel_rfl) (fun _ _ _ h => h) (Or.inl ⟨by rfl, ?y68⟩) (by assumption) ?r68
        case y68 => (intro w hSw; obtain ⟨g0, g1, g2⟩ := hSw; go_simp; try with_reducible rfl)
        refine untlStep (i := 17) (by kernel_rfl) rfl (fun K19 hK19 => ?_)
        go_simp
        have E7 := Lib.hid (E6.out.alloc (.cells #[.int .i64 ll, .int .i64 ll, .int .i64 fl, .int .i64 fl] 42))
        have O7 := Lib.hid (ownsRow_below O6.out (below_self _ (.cells #[.int .i64 ll, .int .i64 ll, .int .i64 fl, .int .i64 fl] 42)))
        have V7 := Lib.hid (V6.out.alloc (.cells #[.int .i64 ll, .int .i64 ll, .int .i64 fl, .int .i64 fl] 42))
        refine hK19.out _ _ (.inr ⟨E7.out.q.cell 4, V7.out.cell 0, V7.out.cell 2⟩) ?_
        refine untlStep (i := 18) (by kernel_rfl) rfl (fun K20 hK20 => ?_)
        refine step_append_any rfl (.tmp 34) (.tmp 50) 24 rfl w.heap.size 42 i0 _ 4 32 Try.underlying24 hi hz0 hz1 hz2 rfl (by decide) (.slice A' k c') k (flatG (tg k)) (by rfl) O7.out (some ⟨W6.heap.size, 0, none⟩) 1 1 (by rfl) (Gap.cells ⟨ll, ll, fl, fl⟩) (rep_new W6 ⟨ll, ll, fl, fl⟩ _) (cells_one _) (by unfold maxLen; omega) (by omega) (by have := E6.out.bel.size; simp at this ⊢; omega) ?_
        intro v8 W8 hown hgrow
        rw [flatG_snoc] at hown
        obtain ⟨A3, c3, rfl⟩ := own_slice hown
        have E8 := Lib.hid (E7.out.grown O7.out (by decide) (Nat.le_refl _) hgrow)
        have V8 := Lib.hid (V7.out.grown hgrow HNE.out)
        have O8 := Lib.hid hown
        have s8 : W8.cell? ⟨g, 4, none⟩ = some (.slice A' k c') := E8.out.q.cell 4
        clear hown hgrow E6 O6 V6 S6
        have S8 : SG g gv 0 2 (.slice A' k c') (.int .i64 ll) (.int .i64 fl) W8 := ⟨E8.out.q.cell 4, V8.out.cell 0, V8.out.cell 2⟩
        refine hK20.out _ _ (.inr S8) ?_
        refine untlTake (i := 19) 52 (v := ?v69) rfl (by kernel_rfl) (by kernel_rfl) (by kernel_rfl) (by kernel_rfl) (by kernel_rfl) (by kernel_rfl) (fun _ _ _ h => h) (Or.inl ⟨by rfl, ?y69⟩) (by assumption) ?r69
        case y69 => (intro w hSw; obtain ⟨g0, g1, g2⟩ := hSw; go_simp; try with_reducible rfl)
        refine untlStep (i := 20) (by kernel_rfl) rfl (fun K22 hK22 => ?_)
        have f8 := E8.out.q.frozen 4
        go_simp
        have O9 := Lib.hid (own_setCell (i := 4) O8.out E8.out.q (by decide) (.slice A3 (k + 1) c3))
        have E9 := Lib.hid (E8.out.setQ 4 (.slice A3 (k + 1) c3))
        clear s8 f8 S8 E8 O8 E7 O7 V7 V8 HNE
        refine hK22.out _ _ (.inl (by decide)) ?_
        refine untlDone (by kernel_rfl) ?_ _
        go_wp2_with fail
        go_roundw
        case rel => exact ⟨k + 1, A3, c3, by omega, by go_num, by rw [ht1.out, htg.out]; exact O9.out, E9.out⟩
        case measure => simp [intOf]; omega
      · obtain rfl : k = n := by omega
        have O9 := Lib.hid (own_set5 OW.out EK.out.r (by decide) (.int .i64 fb) (.int .i64 fb) (.int .i64 fd) (.int .i64 fd) (.slice A' k c'))
        have q9 := fan5_get EK.out.q
        have r9 := fan5_get EK.out.r
        have f9 := EK.out.r.frozen
        go_wp2_with fail
        exact bodyPost_ret (results_c rfl _ _ _ (w.heap.size + 1) _ _ _ rfl (((((EK.out.r.set_ 0 _).set_ 1 _).set_ 2 _).set_ 3 _).set_ 4 _) Try.underlying26 (by kernel_rfl)) rfl (HE.out _ _ _ O9.out (((((EK.out.bel.setCell (p := ⟨w.heap.size + 1, 0, none⟩) (by simp) _).setCell (p := ⟨w.heap.size + 1, 1, none⟩) (by simp) _).setCell (p := ⟨w.heap.size + 1, 2, none⟩) (by simp) _).setCell (p := ⟨w.heap.size + 1, 3, none⟩) (by simp) _).setCell (p := ⟨w.heap.size + 1, 4, none⟩) (by simp) _))

set_option maxRecDepth 100000 in
set_option maxHeartbeats 8000000 in
theorem most_any (f : Fan) (A : Option Addr) (n c : Nat) (w : World) (hf : FanB f) (h : Gaps w A n f.gs) :
    Calls Try.prog 55 #[.agg (fanA f A n c)] w (OwnRes w f.most n) := by
  obtain ⟨i0, hi, hz0, hz1, hz2⟩ := info_parts Try.infoGap
  have hl := h.len
  have hn : n ≤ 41 := by have := hf.n; omega
  have HSP := Lib.hid (fun a b W => lawSpan_any a b W)
  have C0 := Lib.hid (CL.start w (fanA f A n c))
  have HG := Lib.hid h
  have HT0 : Hid (gapsTo highGap f.gs 0 = []) := rfl
  have HT1 := Lib.hid (fun k => show gapsTo highGap f.gs (k + 1) = gapsTo highGap f.gs k ++ [highGap (f.gs.getD k Gap.zero)] from rfl)
  have HTG := Lib.hid (fun g => show highGap g = ⟨g.lh, g.lh, g.fh, g.fh⟩ from rfl)
  have HE := Lib.hid (fun W a1 a2 (ho : W.ownsRow w.heap.size 42 4 (.slice a1 n a2) n (flatG (gapsTo highGap f.gs n))) (hb : Below w.heap.size w W) => show OwnRes w f.most n (.returned (.agg #[.int .i64 f.a, .int .i64 f.a, .int .i64 f.c, .int .i64 f.c, .slice a1 n a2])) W from by
    obtain ⟨a3, a4, e, ho2⟩ := ownG_of ho
    simp only [Value.slice.injEq, true_and] at e
    obtain ⟨rfl, rfl⟩ := e
    exact ⟨a1, a2, rfl, by show OwnG _ _ _ _ (gapsTo highGap f.gs f.gs.length); rw [hl]; exact ho2, hb⟩)
  generalize OwnRes w f.most n = RR at *
  generalize gapsTo highGap f.gs = tg at *
  generalize highGap = gap at *
  clear h hf hl
  obtain ⟨fa, fb, fc, fd, gs⟩ := f
  simp only [fanA] at *
  go_enter Try.func55, Try.ntmps55
  go_wp2_with fail
  go_cut [3] from 3 to 20 (fun s3 W => ∃ g : Nat, s3 = .pointer (some ⟨g, 0, none⟩) ∧ EL w W #[.int .i64 fa, .int .i64 fb, .int .i64 fc, .int .i64 fd, .slice A n c] g #[.int .i64 fa, .int .i64 fa, .int .i64 fc, .int .i64 fc, .slice none 0 0])
  case first =>
    have S0 : SFan w (.int .i64 fa) (.int .i64 fb) (.int .i64 fc) (.int .i64 fd) (.slice A n c) _ := fan5_get C0.out.p
    refine wp_region_untl (S := SFan w (.int .i64 fa) (.int .i64 fb) (.int .i64 fc) (.int .i64 fd) (.slice A n c)) [] (by kernel_rfl) S0 (fun _ => ?_)
    generalize (((w.alloc (.cells #[.int .i64 fa, .int .i64 fb, .int .i64 fc, .int .i64 fd, .slice A n c] 26)).alloc (.cells #[.int .i64 0, .int .i64 0, .int .i64 0, .int .i64 0, .slice none 0 0] 26)).drew) = wd at *
    refine untlTake (i := 0) 6 (v := ?v70) rfl (by kernel_rfl) (by kernel_rfl) (by kernel_rfl) (by kernel_rfl) (by kernel_rfl) (by kernel_rfl) (fun _ _ _ h => h) (Or.inl ⟨by rfl, ?y70⟩) (by assumption) ?r70
    case y70 => (intro w hSw; obtain ⟨g0, g1, g2, g3, g4⟩ := hSw; go_simp; try with_reducible rfl)
    refine untlTake (i := 1) 7 (v := ?v71) rfl (by kernel_rfl) (by kernel_rfl) (by kernel_rfl) (by kernel_rfl) (by kernel_rfl) (by kernel_rfl) (fun _ _ _ h => h) (Or.inl ⟨by rfl, ?y71⟩) (by assumption) ?r71
    case y71 => (intro w hSw; obtain ⟨g0, g1, g2, g3, g4⟩ := hSw; go_simp; try with_reducible rfl)
    refine untlTake (i := 2) 8 (v := ?v72) rfl (by kernel_rfl) (by kernel_rfl) (by kernel_rfl) (by kernel_rfl) (by kernel_rfl) (by kernel_rfl) (fun _ _ _ h => h) (Or.inl ⟨by rfl, ?y72⟩) (by assumption) ?r72
    case y72 => (intro w hSw; obtain ⟨g0, g1, g2, g3, g4⟩ := hSw; go_simp; try with_reducible rfl)
    refine untlTake (i := 3) 9 (v := ?v73) rfl (by kernel_rfl) (by kernel_rfl) (by kernel_rfl) (by kernel_rfl) (by kernel_rfl) (by kernel_rfl) (fun _ _ _ h => h) (Or.inl ⟨by rfl, ?y73⟩) (by assumption) ?r73
    case y73 => (intro w hSw; obtain ⟨g0, g1, g2, g3, g4⟩ := hSw; go_simp; try with_reducible rfl)
    refine untlTake (i := 4) 10 (v := ?v74) rfl (by kernel_rfl) (by kernel_rfl) (by kernel_rfl) (by kernel_rfl) (by kernel_rfl) (by kernel_rfl) (fun _ _ _ h => h) (Or.inl ⟨by rfl, ?y74⟩) (by assumption) ?r74
    case y74 => (intro w hSw; obtain ⟨g0, g1, g2, g3, g4⟩ := hSw; go_simp; try with_reducible rfl)
    refine untlTake (i := 5) 11 (v := ?v75) rfl (by kernel_rfl) (by kernel_rfl) (by kernel_rfl) (by kernel_rfl) (by kernel_rfl) (by kernel_rfl) (fun _ _ _ h => h) (Or.inl ⟨by rfl, ?y75⟩) (by assumption) ?r75
    case y75 => (intro w hSw; obtain ⟨g0, g1, g2, g3, g4⟩ := hSw; go_simp; try with_reducible rfl)
    refine untlTake (i := 7) 13 (v := ?v76) rfl (by kernel_rfl) (by kernel_rfl) (by kernel_rfl) (by kernel_rfl) (by kernel_rfl) (by kernel_rfl) (fun _ _ _ h => h) (Or.inl ⟨by rfl, ?y76⟩) (by assumption) ?r76
    case y76 => (intro w hSw; obtain ⟨g0, g1, g2, g3, g4⟩ := hSw; go_simp; try with_reducible rfl)
    refine untlTake (i := 8) 14 (v := ?v77) rfl (by kernel_rfl) (by kernel_rfl) (by kernel_rfl) (by kernel_rfl) (by kernel_rfl) (by kernel_rfl) (fun _ _ _ h => h) (Or.inl ⟨by rfl, ?y77⟩) (by assumption) ?r77
    case y77 => (intro w hSw; obtain ⟨g0, g1, g2, g3, g4⟩ := hSw; go_simp; try with_reducible rfl)
    refine untlTake (i := 9) 15 (v := ?v78) rfl (by kernel_rfl) (by kernel_rfl) (by kernel_rfl) (by kernel_rfl) (by kernel_rfl) (by kernel_rfl) (fun _ _ _ h => h) (Or.inl ⟨by rfl, ?y78⟩) (by assumption) ?r78
    case y78 => (intro w hSw; obtain ⟨g0, g1, g2, g3, g4⟩ := hSw; go_simp; try with_reducible rfl)
    refine untlTake (i := 10) 16 (v := ?v79) rfl (by kernel_rfl) (by kernel_rfl) (by kernel_rfl) (by kernel_rfl) (by kernel_rfl) (by kernel_rfl) (fun _ _ _ h => h) (Or.inl ⟨by rfl, ?y79⟩) (by assumption) ?r79
    case y79 => (intro w hSw; obtain ⟨g0, g1, g2, g3, g4⟩ := hSw; go_simp; try with_reducible rfl)
    refine untlTake (i := 11) 17 (v := ?v80) rfl (by kernel_rfl) (by kernel_rfl) (by kernel_rfl) (by kernel_rfl) (by kernel_rfl) (by kernel_rfl) (fun _ _ _ h => h) (Or.inl ⟨by rfl, ?y80⟩) (by assumption) ?r80
    case y80 => (intro w hSw; obtain ⟨g0, g1, g2, g3, g4⟩ := hSw; go_simp; try with_reducible rfl)
    refine untlTake (i := 12) 18 (v := ?v81) rfl (by kernel_rfl) (by kernel_rfl) (by kernel_rfl) (by kernel_rfl) (by kernel_rfl) (by kernel_rfl) (fun _ _ _ h => h) (Or.inl ⟨by rfl, ?y81⟩) (by assumption) ?r81
    case y81 => (intro w hSw; obtain ⟨g0, g1, g2, g3, g4⟩ := hSw; go_simp; try with_reducible rfl)
    simp only [Act.put, List.setIfInBounds_toArray, List.set_cons_zero, List.set_cons_succ]
    refine untlReady (rs := [6, 15]) (by kernel_rfl) (by simp) ?_
    refine UReady.cons rfl (fun K82 hK82 => ?_) ?_
    · skip
      go_simp
      refine (HSP.out _ _ _).mono ?_
      rintro e V84 ⟨rfl, b0⟩
      have C83 := Lib.hid (C0.out.below b0)
      clear b0
      have s85 : SFan w (.int .i64 fa) (.int .i64 fb) (.int .i64 fc) (.int .i64 fd) (.slice A n c) V84 := fan5_get C83.out.p
      refine hK82.out _ _ (.inr s85) ?_
      refine untlReady (rs := [13, 15]) (by kernel_rfl) (by simp) ?_
      refine UReady.cons rfl (fun K86 hK86 => ?_) ?_
      · skip
        go_simp
        refine (HSP.out _ _ _).mono ?_
        rintro e V88 ⟨rfl, b0⟩
        have C87 := Lib.hid (C83.out.below b0)
        clear b0
        have s89 : SFan w (.int .i64 fa) (.int .i64 fb) (.int .i64 fc) (.int .i64 fd) (.slice A n c) V88 := fan5_get C87.out.p
        refine hK86.out _ _ (.inr s89) ?_
        refine untlTake (i := 14) 20 (v := ?v90) rfl (by kernel_rfl) (by kernel_rfl) (by kernel_rfl) (by kernel_rfl) (by kernel_rfl) (by kernel_rfl) (fun _ _ _ h => h) (Or.inl ⟨by rfl, ?y90⟩) (by assumption) ?r90
        case y90 => (intro w hSw; obtain ⟨g0, g1, g2, g3, g4⟩ := hSw; go_simp; try with_reducible rfl)
        refine untlReady (rs := [15]) (by kernel_rfl) (by simp) ?_
        refine UReady.cons rfl (fun K91 hK91 => ?_) UReady.nil
        go_simp
        have C92 := Lib.hid C87.out.new5
        refine hK91.out _ _ (.inr (fan5_get C92.out.p)) ?_
        obtain ⟨V93, hW⟩ : ∃ V, V = V88.alloc (.cells #[.int .i64 0, .int .i64 0, .int .i64 0, .int .i64 0, .slice none 0 0] 26) := ⟨_, rfl⟩
        rw [← hW] at C92 ⊢
        clear hW
        have s94 : SFan w (.int .i64 fa) (.int .i64 fb) (.int .i64 fc) (.int .i64 fd) (.slice A n c) V93 := fan5_get C92.out.p
        refine untlStep (i := 16) (by kernel_rfl) rfl (fun K95 hK95 => ?_)
        rw [if_pos (by rfl)]
        refine wp_store_rowN rfl _ _ _ rfl _ _ rfl rfl _ _ (C92.out.h5 _ rfl).1 (by kernel_rfl) rfl (ones5v _ _ _ _ _ _ _) ?_
        have E96 := Lib.hid (C92.out.put #[.int .i64 fa, .int .i64 fa, .int .i64 fc, .int .i64 fc, .slice none 0 0])
        refine hK95.out _ _ (.inr (fan5_get E96.out.p)) ?_
        refine untlDone (by kernel_rfl) ?_ _
        go_wp2_with fail
        go_meet
        exact ⟨_, rfl, E96.out⟩
      refine UReady.cons rfl (fun K97 hK97 => ?_) UReady.nil
      go_simp
      have C98 := Lib.hid C83.out.new5
      refine hK97.out _ _ (.inr (fan5_get C98.out.p)) ?_
      obtain ⟨V99, hW⟩ : ∃ V, V = V84.alloc (.cells #[.int .i64 0, .int .i64 0, .int .i64 0, .int .i64 0, .slice none 0 0] 26) := ⟨_, rfl⟩
      rw [← hW] at C98 ⊢
      clear hW
      have s100 : SFan w (.int .i64 fa) (.int .i64 fb) (.int .i64 fc) (.int .i64 fd) (.slice A n c) V99 := fan5_get C98.out.p
      refine untlReady (rs := [13]) (by kernel_rfl) (by simp) ?_
      refine UReady.cons rfl (fun K101 hK101 => ?_) UReady.nil
      go_simp
      refine (HSP.out _ _ _).mono ?_
      rintro e V103 ⟨rfl, b0⟩
      have C102 := Lib.hid (C98.out.below b0)
      clear b0
      have s104 : SFan w (.int .i64 fa) (.int .i64 fb) (.int .i64 fc) (.int .i64 fd) (.slice A n c) V103 := fan5_get C102.out.p
      refine hK101.out _ _ (.inr s104) ?_
      refine untlTake (i := 14) 20 (v := ?v105) rfl (by kernel_rfl) (by kernel_rfl) (by kernel_rfl) (by kernel_rfl) (by kernel_rfl) (by kernel_rfl) (fun _ _ _ h => h) (Or.inl ⟨by rfl, ?y105⟩) (by assumption) ?r105
      case y105 => (intro w hSw; obtain ⟨g0, g1, g2, g3, g4⟩ := hSw; go_simp; try with_reducible rfl)
      refine untlStep (i := 16) (by kernel_rfl) rfl (fun K106 hK106 => ?_)
      rw [if_pos (by rfl)]
      refine wp_store_rowN rfl _ _ _ rfl _ _ rfl rfl _ _ (C102.out.h5 _ rfl).1 (by kernel_rfl) rfl (ones5v _ _ _ _ _ _ _) ?_
      have E107 := Lib.hid (C102.out.put #[.int .i64 fa, .int .i64 fa, .int .i64 fc, .int .i64 fc, .slice none 0 0])
      refine hK106.out _ _ (.inr (fan5_get E107.out.p)) ?_
      refine untlDone (by kernel_rfl) ?_ _
      go_wp2_with fail
      go_meet
      exact ⟨_, rfl, E107.out⟩
    refine UReady.cons rfl (fun K108 hK108 => ?_) UReady.nil
    go_simp
    have C109 := Lib.hid C0.out.new5
    refine hK108.out _ _ (.inr (fan5_get C109.out.p)) ?_
    obtain ⟨V110, hW⟩ : ∃ V, V = wd.alloc (.cells #[.int .i64 0, .int .i64 0, .int .i64 0, .int .i64 0, .slice none 0 0] 26) := ⟨_, rfl⟩
    rw [← hW] at C109 ⊢
    clear hW
    have s111 : SFan w (.int .i64 fa) (.int .i64 fb) (.int .i64 fc) (.int .i64 fd) (.slice A n c) V110 := fan5_get C109.out.p
    refine untlReady (rs := [6]) (by kernel_rfl) (by simp) ?_
    refine UReady.cons rfl (fun K112 hK112 => ?_) UReady.nil
    go_simp
    refine (HSP.out _ _ _).mono ?_
    rintro e V114 ⟨rfl, b0⟩
    have C113 := Lib.hid (C109.out.below b0)
    clear b0
    have s115 : SFan w (.int .i64 fa) (.int .i64 fb) (.int .i64 fc) (.int .i64 fd) (.slice A n c) V114 := fan5_get C113.out.p
    refine hK112.out _ _ (.inr s115) ?_
    refine untlReady (rs := [13]) (by kernel_rfl) (by simp) ?_
    refine UReady.cons rfl (fun K116 hK116 => ?_) UReady.nil
    go_simp
    refine (HSP.out _ _ _).mono ?_
    rintro e V118 ⟨rfl, b0⟩
    have C117 := Lib.hid (C113.out.below b0)
    clear b0
    have s119 : SFan w (.int .i64 fa) (.int .i64 fb) (.int .i64 fc) (.int .i64 fd) (.slice A n c) V118 := fan5_get C117.out.p
    refine hK116.out _ _ (.inr s119) ?_
    refine untlTake (i := 14) 20 (v := ?v120) rfl (by kernel_rfl) (by kernel_rfl) (by kernel_rfl) (by kernel_rfl) (by kernel_rfl) (by kernel_rfl) (fun _ _ _ h => h) (Or.inl ⟨by rfl, ?y120⟩) (by assumption) ?r120
    case y120 => (intro w hSw; obtain ⟨g0, g1, g2, g3, g4⟩ := hSw; go_simp; try with_reducible rfl)
    refine untlStep (i := 16) (by kernel_rfl) rfl (fun K121 hK121 => ?_)
    rw [if_pos (by rfl)]
    refine wp_store_rowN rfl _ _ _ rfl _ _ rfl rfl _ _ (C117.out.h5 _ rfl).1 (by kernel_rfl) rfl (ones5v _ _ _ _ _ _ _) ?_
    have E122 := Lib.hid (C117.out.put #[.int .i64 fa, .int .i64 fa, .int .i64 fc, .int .i64 fc, .slice none 0 0])
    refine hK121.out _ _ (.inr (fan5_get E122.out.p)) ?_
    refine untlDone (by kernel_rfl) ?_ _
    go_wp2_with fail
    go_meet
    exact ⟨_, rfl, E122.out⟩
  case rest =>
    obtain ⟨g, rfl, hE⟩ := hcut
    have E1 := Lib.hid hE
    have p1 := fan5_get hE.p
    clear hE C0
    go_wp2_with fail
    clear p1
    go_loopw [4] (fun s4 wr => ∃ (k : Nat) (A' : Option Addr) (c' : Nat), k ≤ n ∧ s4 = .int .i64 k ∧ wr.ownsRow w.heap.size 42 4 (.slice A' k c') k (flatG (tg k)) ∧ EL w wr #[.int .i64 fa, .int .i64 fb, .int .i64 fc, .int .i64 fd, .slice A n c] g #[.int .i64 fa, .int .i64 fa, .int .i64 fc, .int .i64 fc, .slice A' k c']) (fun s4 _ => n - (intOf s4).toNat)
    case atStart => exact ⟨0, none, 0, Nat.zero_le _, rfl, by rw [HT0.out]; exact World.ownsRow_nil _ _ _ _, E1.out⟩
    case round =>
      obtain ⟨k, A', c', hk, rfl, hown, hE⟩ := hrel
      have OW := Lib.hid hown
      have EK := Lib.hid hE
      have p2 := fan5_get hE.p
      clear hown hE E1
      by_cases hlt : k < n
      · obtain ⟨b, off, hA, _, _, _, _, _⟩ := HG.out.at_ hlt
        obtain ⟨y0, y1, y2, y3⟩ := gap_cells (HG.out.below EK.out.bel) hA hlt
        subst hA
        have ht1 := Lib.hid (HT1.out k)
        have htg := Lib.hid (HTG.out (gs.getD k Gap.zero))
        generalize hy : gs.getD k Gap.zero = y at *
        obtain ⟨ll, lh, fl, fh⟩ := y
        simp only at y0 y1 y2 y3 htg
        clear hy
        have V4 := Lib.hid (show Blk ((wr.alloc (.cells #[.int .i64 ll, .int .i64 lh, .int .i64 fl, .int .i64 fh] 42)).drew) wr.heap.size 42 #[.int .i64 ll, .int .i64 lh, .int .i64 fl, .int .i64 fh] from Blk.new wr 42 #[.int .i64 ll, .int .i64 lh, .int .i64 fl, .int .i64 fh] (g := wr.heap.size) rfl)
        have E4 := Lib.hid (EK.out.alloc (.cells #[.int .i64 ll, .int .i64 lh, .int .i64 fl, .int .i64 fh] 42)).drewd
        have O4 : Hid (((wr.alloc (.cells #[.int .i64 ll, .int .i64 lh, .int .i64 fl, .int .i64 fh] 42)).drew).ownsRow w.heap.size 42 4 (.slice A' k c') k (flatG (tg k))) := ownsRow_below OW.out (below_self wr (.cells #[.int .i64 ll, .int .i64 lh, .int .i64 fl, .int .i64 fh] 42)).drew
        have HNE : Hid ((Value.slice A' k c').ownBlock ≠ some wr.heap.size) := fun e => by
          have := (OW.out.lt _ e).2
          omega
        go_wp2_with fail
        clear p2 EK OW y0 y1 y2 y3
        generalize hgv : wr.heap.size = gv at *
        clear hgv
        have S4 : SG g gv 1 3 (.slice A' k c') (.int .i64 lh) (.int .i64 fh) ((wr.alloc (.cells #[.int .i64 ll, .int .i64 lh, .int .i64 fl, .int .i64 fh] 42)).drew) := ⟨E4.out.q.cell 4, V4.out.cell 1, V4.out.cell 3⟩
        refine wp_region_untl (S := SG g gv 1 3 (.slice A' k c') (.int .i64 lh) (.int .i64 fh)) [20] (by kernel_rfl) S4 (fun _ => ?_)
        generalize ((wr.alloc (.cells #[.int .i64 ll, .int .i64 lh, .int .i64 fl, .int .i64 fh] 42)).drew) = wd2 at *
        refine untlTake (i := 0) 33 (v := ?v123) rfl (by kernel_rfl) (by kernel_rfl) (by kernel_rfl) (by kernel_rfl) (by kernel_rfl) (by kernel_rfl) (fun _ _ _ h => h) (Or.inl ⟨by rfl, ?y123⟩) (by assumption) ?r123
        case y123 => (intro w hSw; obtain ⟨g0, g1, g2⟩ := hSw; go_simp; try with_reducible rfl)
        refine untlTake (i := 1) 34 (v := ?v124) rfl (by kernel_rfl) (by kernel_rfl) (by kernel_rfl) (by kernel_rfl) (by kernel_rfl) (by kernel_rfl) (fun _ _ _ h => h) (Or.inl ⟨by rfl, ?y124⟩) (by assumption) ?r124
        case y124 => (intro w hSw; obtain ⟨g0, g1, g2⟩ := hSw; go_simp; try with_reducible rfl)
        refine untlTake (i := 2) 35 (v := ?v125) rfl (by kernel_rfl) (by kernel_rfl) (by kernel_rfl) (by kernel_rfl) (by kernel_rfl) (by kernel_rfl) (fun _ _ _ h => h) (Or.inl ⟨by rfl, ?y125⟩) (by assumption) ?r125
        case y125 => (intro w hSw; obtain ⟨g0, g1, g2⟩ := hSw; go_simp; try with_reducible rfl)
        refine untlTake (i := 3) 36 (v := ?v126) rfl (by kernel_rfl) (by kernel_rfl) (by kernel_rfl) (by kernel_rfl) (by kernel_rfl) (by kernel_rfl) (fun _ _ _ h => h) (Or.inl ⟨by rfl, ?y126⟩) (by assumption) ?r126
        case y126 => (intro w hSw; obtain ⟨g0, g1, g2⟩ := hSw; go_simp; try with_reducible rfl)
        refine untlTake (i := 4) 37 (v := ?v127) rfl (by kernel_rfl) (by kernel_rfl) (by kernel_rfl) (by kernel_rfl) (by kernel_rfl) (by kernel_rfl) (fun _ _ _ h => h) (Or.inl ⟨by rfl, ?y127⟩) (by assumption) ?r127
        case y127 => (intro w hSw; obtain ⟨g0, g1, g2⟩ := hSw; go_simp; try with_reducible rfl)
        refine untlTake (i := 5) 38 (v := ?v128) rfl (by kernel_rfl) (by kernel_rfl) (by kernel_rfl) (by kernel_rfl) (by kernel_rfl) (by kernel_rfl) (fun _ _ _ h => h) (Or.inl ⟨by rfl, ?y128⟩) (by assumption) ?r128
        case y128 => (intro w hSw; obtain ⟨g0, g1, g2⟩ := hSw; go_simp; try with_reducible rfl)
        refine untlTake (i := 6) 39 (v := ?v129) rfl (by kernel_rfl) (by kernel_rfl) (by kernel_rfl) (by kernel_rfl) (by kernel_rfl) (by kernel_rfl) (fun _ _ _ h => h) (Or.inl ⟨by rfl, ?y129⟩) (by assumption) ?r129
        case y129 => (intro w hSw; obtain ⟨g0, g1, g2⟩ := hSw; go_simp; try with_reducible rfl)
        refine untlTake (i := 7) 40 (v := ?v130) rfl (by kernel_rfl) (by kernel_rfl) (by kernel_rfl) (by kernel_rfl) (by kernel_rfl) (by kernel_rfl) (fun _ _ _ h => h) (Or.inl ⟨by rfl, ?y130⟩) (by assumption) ?r130
        case y130 => (intro w hSw; obtain ⟨g0, g1, g2⟩ := hSw; go_simp; try with_reducible rfl)
        refine untlTake (i := 9) 42 (v := ?v131) rfl (by kernel_rfl) (by kernel_rfl) (by kernel_rfl) (by kernel_rfl) (by kernel_rfl) (by kernel_rfl) (fun _ _ _ h => h) (Or.inl ⟨by rfl, ?y131⟩) (by assumption) ?r131
        case y131 => (intro w hSw; obtain ⟨g0, g1, g2⟩ := hSw; go_simp; try with_reducible rfl)
        refine untlTake (i := 10) 43 (v := ?v132) rfl (by kernel_rfl) (by kernel_rfl) (by kernel_rfl) (by kernel_rfl) (by kernel_rfl) (by kernel_rfl) (fun _ _ _ h => h) (Or.inl ⟨by rfl, ?y132⟩) (by assumption) ?r132
        case y132 => (intro w hSw; obtain ⟨g0, g1, g2⟩ := hSw; go_simp; try with_reducible rfl)
        refine untlTake (i := 11) 44 (v := ?v133) rfl (by kernel_rfl) (by kernel_rfl) (by kernel_rfl) (by kernel_rfl) (by kernel_rfl) (by kernel_rfl) (fun _ _ _ h => h) (Or.inl ⟨by rfl, ?y133⟩) (by assumption) ?r133
        case y133 => (intro w hSw; obtain ⟨g0, g1, g2⟩ := hSw; go_simp; try with_reducible rfl)
        refine untlTake (i := 12) 45 (v := ?v134) rfl (by kernel_rfl) (by kernel_rfl) (by kernel_rfl) (by kernel_rfl) (by kernel_rfl) (by kernel_rfl) (fun _ _ _ h => h) (Or.inl ⟨by rfl, ?y134⟩) (by assumption) ?r134
        case y134 => (intro w hSw; obtain ⟨g0, g1, g2⟩ := hSw; go_simp; try with_reducible rfl)
        refine untlTake (i := 13) 46 (v := ?v135) rfl (by kernel_rfl) (by kernel_rfl) (by kernel_rfl) (by kernel_rfl) (by kernel_rfl) (by kernel_rfl) (fun _ _ _ h => h) (Or.inl ⟨by rfl, ?y135⟩) (by assumption) ?r135
        case y135 => (intro w hSw; obtain ⟨g0, g1, g2⟩ := hSw; go_simp; try with_reducible rfl)
        refine untlTake (i := 14) 47 (v := ?v136) rfl (by kernel_rfl) (by kernel_rfl) (by kernel_rfl) (by kernel_rfl) (by kernel_rfl) (by kernel_rfl) (fun _ _ _ h => h) (Or.inl ⟨by rfl, ?y136⟩) (by assumption) ?r136
        case y136 => (intro w hSw; obtain ⟨g0, g1, g2⟩ := hSw; go_simp; try with_reducible rfl)
        simp only [Act.put, List.setIfInBounds_toArray, List.set_cons_zero, List.set_cons_succ]
        refine untlStep (i := 8) (by kernel_rfl) rfl (fun K9 hK9 => ?_)
        go_simp
        refine (HSP.out _ _ _).mono ?_
        rintro e W5 ⟨rfl, b5⟩
        have E5 := Lib.hid (E4.out.below b5)
        have O5 := Lib.hid (ownsRow_below O4.out b5)
        have V5 := Lib.hid (blk_keep b5 V4.out)
        clear b5 E4 O4 V4 S4
        refine hK9.out _ _ (.inr ⟨E5.out.q.cell 4, V5.out.cell 1, V5.out.cell 3⟩) ?_
        refine untlStep (i := 15) (by kernel_rfl) rfl (fun K17 hK17 => ?_)
        go_simp
        refine (HSP.out _ _ _).mono ?_
        rintro e W6 ⟨rfl, b6⟩
        have E6 := Lib.hid (E5.out.below b6)
        have O6 := Lib.hid (ownsRow_below O5.out b6)
        have V6 := Lib.hid (blk_keep b6 V5.out)
        clear b6 E5 O5 V5
        have S6 : SG g gv 1 3 (.slice A' k c') (.int .i64 lh) (.int .i64 fh) W6 := ⟨E6.out.q.cell 4, V6.out.cell 1, V6.out.cell 3⟩
        refine hK17.out _ _ (.inr S6) ?_
        refine untlTake (i := 16) 49 (v := ?v137) rfl (by kernel_rfl) (by kernel_rfl) (by kernel_rfl) (by kernel_rfl) (by kernel_rfl) (by kernel_rfl) (fun _ _ _ h => h) (Or.inl ⟨by rfl, ?y137⟩) (by assumption) ?r137
        case y137 => (intro w hSw; obtain ⟨g0, g1, g2⟩ := hSw; go_simp; try with_reducible rfl)
        refine untlStep (i := 17) (by kernel_rfl) rfl (fun K19 hK19 => ?_)
        go_simp
        have E7 := Lib.hid (E6.out.alloc (.cells #[.int .i64 lh, .int .i64 lh, .int .i64 fh, .int .i64 fh] 42))
        have O7 := Lib.hid (ownsRow_below O6.out (below_self _ (.cells #[.int .i64 lh, .int .i64 lh, .int .i64 fh, .int .i64 fh] 42)))
        have V7 := Lib.hid (V6.out.alloc (.cells #[.int .i64 lh, .int .i64 lh, .int .i64 fh, .int .i64 fh] 42))
        refine hK19.out _ _ (.inr ⟨E7.out.q.cell 4, V7.out.cell 1, V7.out.cell 3⟩) ?_
        refine untlStep (i := 18) (by kernel_rfl) rfl (fun K20 hK20 => ?_)
        refine step_append_any rfl (.tmp 34) (.tmp 50) 24 rfl w.heap.size 42 i0 _ 4 32 Try.underlying24 hi hz0 hz1 hz2 rfl (by decide) (.slice A' k c') k (flatG (tg k)) (by rfl) O7.out (some ⟨W6.heap.size, 0, none⟩) 1 1 (by rfl) (Gap.cells ⟨lh, lh, fh, fh⟩) (rep_new W6 ⟨lh, lh, fh, fh⟩ _) (cells_one _) (by unfold maxLen; omega) (by omega) (by have := E6.out.bel.size; simp at this ⊢; omega) ?_
        intro v8 W8 hown hgrow
        rw [flatG_snoc] at hown
        obtain ⟨A3, c3, rfl⟩ := own_slice hown
        have E8 := Lib.hid (E7.out.grown O7.out (by decide) (Nat.le_refl _) hgrow)
        have V8 := Lib.hid (V7.out.grown hgrow HNE.out)
        have O8 := Lib.hid hown
        have s8 : W8.cell? ⟨g, 4, none⟩ = some (.slice A' k c') := E8.out.q.cell 4
        clear hown hgrow E6 O6 V6 S6
        have S8 : SG g gv 1 3 (.slice A' k c') (.int .i64 lh) (.int .i64 fh) W8 := ⟨E8.out.q.cell 4, V8.out.cell 1, V8.out.cell 3⟩
        refine hK20.out _ _ (.inr S8) ?_
        refine untlTake (i := 19) 52 (v := ?v138) rfl (by kernel_rfl) (by kernel_rfl) (by kernel_rfl) (by kernel_rfl) (by kernel_rfl) (by kernel_rfl) (fun _ _ _ h => h) (Or.inl ⟨by rfl, ?y138⟩) (by assumption) ?r138
        case y138 => (intro w hSw; obtain ⟨g0, g1, g2⟩ := hSw; go_simp; try with_reducible rfl)
        refine untlStep (i := 20) (by kernel_rfl) rfl (fun K22 hK22 => ?_)
        have f8 := E8.out.q.frozen 4
        go_simp
        have O9 := Lib.hid (own_setCell (i := 4) O8.out E8.out.q (by decide) (.slice A3 (k + 1) c3))
        have E9 := Lib.hid (E8.out.setQ 4 (.slice A3 (k + 1) c3))
        clear s8 f8 S8 E8 O8 E7 O7 V7 V8 HNE
        refine hK22.out _ _ (.inl (by decide)) ?_
        refine untlDone (by kernel_rfl) ?_ _
        go_wp2_with fail
        go_roundw
        case rel => exact ⟨k + 1, A3, c3, by omega, by go_num, by rw [ht1.out, htg.out]; exact O9.out, E9.out⟩
        case measure => simp [intOf]; omega
      · obtain rfl : k = n := by omega
        have O9 := Lib.hid (own_set5 OW.out EK.out.r (by decide) (.int .i64 fa) (.int .i64 fa) (.int .i64 fc) (.int .i64 fc) (.slice A' k c'))
        have q9 := fan5_get EK.out.q
        have r9 := fan5_get EK.out.r
        have f9 := EK.out.r.frozen
        go_wp2_with fail
        exact bodyPost_ret (results_c rfl _ _ _ (w.heap.size + 1) _ _ _ rfl (((((EK.out.r.set_ 0 _).set_ 1 _).set_ 2 _).set_ 3 _).set_ 4 _) Try.underlying26 (by kernel_rfl)) rfl (HE.out _ _ _ O9.out (((((EK.out.bel.setCell (p := ⟨w.heap.size + 1, 0, none⟩) (by simp) _).setCell (p := ⟨w.heap.size + 1, 1, none⟩) (by simp) _).setCell (p := ⟨w.heap.size + 1, 2, none⟩) (by simp) _).setCell (p := ⟨w.heap.size + 1, 3, none⟩) (by simp) _).setCell (p := ⟨w.heap.size + 1, 4, none⟩) (by simp) _))
end Go.Proofs.Ytdekickmplkdiaa
