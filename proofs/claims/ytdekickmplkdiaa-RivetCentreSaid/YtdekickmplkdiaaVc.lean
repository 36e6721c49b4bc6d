/- Walks: a fan in bytes. -/
import Derived.Test.YtdekickmplkdiaaKk
import Derived.Deep.CutRange
namespace Go.Proofs.Ytdekickmplkdiaa
open Go.RowKit

/-- A fan in bytes. -/
structure Fo where
  fa : Int
  fb : Int
  na : Int
  nb : Int
  A : Option Addr
  n : Nat
  c : Nat
  gaps : List Int
def Fo.cells (x : Fo) : Array Value := #[.int .u8 x.fa, .int .u8 x.fb, .int .u8 x.na, .int .u8 x.nb, .slice x.A x.n x.c]
structure Fo.At (x : Fo) (w : World) : Prop where
  hg : Reads w 4 x.A x.n (x.gaps.map (Value.int .u8))
  bg : ∀ v ∈ x.gaps, Byte v
  b0 : Byte x.fa
  b1 : Byte x.fb
  b2 : Byte x.na
  b3 : Byte x.nb
  n1 : x.n ≤ maxLen
theorem Fo.At.below {x : Fo} {w W : World} (h : x.At w) (hb : Below w.heap.size w W) : x.At W := ⟨h.hg.below hb, h.bg, h.b0, h.b1, h.b2, h.b3, h.n1⟩
def Fo.by (x : Fo) (k j : Nat) : Int := x.gaps.getD (k * 4 + j) 0
theorem Fo.At.by_bd {x : Fo} {w : World} (h : x.At w) (k j : Nat) : 0 ≤ x.by k j ∧ x.by k j ≤ 255 := byte_getD h.bg _
theorem Fo.At.cell {x : Fo} {w : World} (h : x.At w) {k : Nat} (hk : k < x.n) : ∃ b off, x.A = some ⟨b, off, none⟩ ∧ b < w.heap.size ∧ ∀ j, j < 4 → w.cell? ⟨b, off + k * 4 + j, none⟩ = some (.int .u8 (x.by k j)) := by
  obtain ⟨b, off, e, hb, hc⟩ := h.hg.2 (by omega)
  refine ⟨b, off, e, hb, fun j hj => ?_⟩
  have hl : x.gaps.length = x.n * 4 := by have := h.hg.1; rwa [List.length_map] at this
  have hjl : k * 4 + j < x.gaps.length := by omega
  have := hc (k * 4 + j) (.int .u8 (x.by k j)) (by simp [Fo.by, List.getD, hjl])
  rw [Nat.add_assoc, this]
def Fo.gap (x : Fo) (k : Nat) : Gap := ⟨2 * x.by k 0, 2 * x.by k 0 + x.by k 1 % 30, x.by k 2 / 4, x.by k 2 / 4 + x.by k 3 % 6⟩
def Fo.gsTo (x : Fo) : Nat → List Gap
  | 0 => []
  | k + 1 => x.gsTo k ++ [x.gap k]
def Fo.m (x : Fo) : Nat := min x.n 12
def Fo.fan (x : Fo) : Fan := ⟨300 + 8 * x.fa, 300 + 8 * x.fa + x.fb, 20 + x.na, 20 + x.na + x.nb % 20, x.gsTo x.m⟩
theorem Fo.gsTo_len (x : Fo) (k : Nat) : (x.gsTo k).length = k := by
  induction k with
  | zero => rfl
  | succ k ih => rw [Fo.gsTo, List.length_append, ih]; rfl
theorem Fo.gsTo_mem (x : Fo) (k : Nat) : ∀ g ∈ x.gsTo k, ∃ i, g = x.gap i := by
  induction k with
  | zero => simp [Fo.gsTo]
  | succ k ih =>
    intro g hg
    rcases List.mem_append.1 hg with h | h
    · exact ih g h
    · exact ⟨k, List.mem_singleton.1 h⟩
theorem Fo.At.err {x : Fo} {w : World} (h : x.At w) : fanErr x.fan = 0 := by
  have h0 := h.b0; have h1 := h.b1; have h2 := h.b2; have h3 := h.b3
  unfold Byte at h0 h1 h2 h3
  have hm : 0 ≤ x.nb % 20 ∧ x.nb % 20 ≤ 19 := by omega
  rw [fanErr_eq]
  have hl : x.fan.gs.length = min x.n 12 := x.gsTo_len _
  have hg : x.fan.gs.any (fun g => !gapB g) = false := by
    rw [List.any_eq_false]
    intro g hg
    obtain ⟨i, rfl⟩ := x.gsTo_mem _ g hg
    have q0 := h.by_bd i 0
    have q1 := h.by_bd i 1
    have q2 := h.by_bd i 2
    have q3 := h.by_bd i 3
    have hq : gapB (x.gap i) = true := by
      simp only [gapB, spanB, inB, Fo.gap, Bool.and_eq_true]
      exact ⟨⟨⟨decide_eq_true (by omega), decide_eq_true (by omega)⟩, decide_eq_true (by omega)⟩, ⟨decide_eq_true (by omega), decide_eq_true (by omega)⟩, decide_eq_true (by omega)⟩
    rw [hq]; decide
  have hh : (spanB (x.fan.a, x.fan.b) 1 5000 && (spanB (x.fan.c, x.fan.d) 1 5000 && decide (x.fan.d < x.fan.a))) = true := by
    simp only [spanB, inB, Fo.fan, Bool.and_eq_true]
    exact ⟨⟨⟨decide_eq_true (by omega), decide_eq_true (by omega)⟩, decide_eq_true (by omega)⟩, ⟨⟨decide_eq_true (by omega), decide_eq_true (by omega)⟩, decide_eq_true (by omega)⟩, decide_eq_true (by omega)⟩
  rw [hg, hh, if_neg (by decide), if_neg (by omega)]
  rfl
/-- What fan's own boxes hold, ahead of its fan's. -/
structure CF (w W : World) (fo : Array Value) (g5 : Option Nat) : Prop where
  p : Blk W w.heap.size 86 fo
  r : Blk W (w.heap.size + 1) 26 #[.int .i64 0, .int .i64 0, .int .i64 0, .int .i64 0, .slice none 0 0]
  bel : Below w.heap.size w W
  h5 : ∀ g, g5 = some g → Blk W g 26 #[.int .i64 0, .int .i64 0, .int .i64 0, .int .i64 0, .slice none 0 0] ∧ w.heap.size + 1 < g
theorem CF.below {w W W' : World} {fo : Array Value} {g5 : Option Nat} (h : CF w W fo g5) (hb : Below W.heap.size W W') : CF w W' fo g5 := ⟨blk_keep hb h.p, blk_keep hb h.r, below_then h.bel hb, fun g e => ⟨blk_keep hb (h.h5 g e).1, (h.h5 g e).2⟩⟩
theorem CF.new5 {w W : World} {fo : Array Value} (h : CF w W fo none) : CF w (W.alloc (.cells #[.int .i64 0, .int .i64 0, .int .i64 0, .int .i64 0, .slice none 0 0] 26)) fo (some W.heap.size) :=
  have k := h.below (below_self W (.cells #[.int .i64 0, .int .i64 0, .int .i64 0, .int .i64 0, .slice none 0 0] 26))
  ⟨k.p, k.r, k.bel, fun g e => (by cases e; exact ⟨Blk.new W _ _ rfl, h.r.lt⟩)⟩
theorem CF.start (w : World) (fo : Array Value) : CF w (((w.alloc (.cells fo 86)).alloc (.cells #[.int .i64 0, .int .i64 0, .int .i64 0, .int .i64 0, .slice none 0 0] 26)).drew) fo none :=
  ⟨(Blk.new w _ _ rfl).alloc _, Blk.new _ _ _ (by simp), (below_alloc' (below_self w _) _).drew, fun g e => (by cases e)⟩
/-- And with it. -/
structure EF (w W : World) (fo : Array Value) (g : Nat) (out : Array Value) : Prop where
  p : Blk W w.heap.size 86 fo
  r : Blk W (w.heap.size + 1) 26 #[.int .i64 0, .int .i64 0, .int .i64 0, .int .i64 0, .slice none 0 0]
  q : Blk W g 26 out
  bel : Below w.heap.size w W
  lt : w.heap.size + 1 < g
section
variable {w W W' : World} {fo out : Array Value} {g : Nat}
theorem EF.below (h : EF w W fo g out) (hb : Below W.heap.size W W') : EF w W' fo g out := ⟨blk_keep hb h.p, blk_keep hb h.r, blk_keep hb h.q, below_then h.bel hb, h.lt⟩
theorem EF.alloc (h : EF w W fo g out) (o : Obj) : EF w (W.alloc o) fo g out := h.below (below_self W o)
theorem EF.drewd (h : EF w W fo g out) : EF w W.drew fo g out := ⟨h.p, h.r, h.q, h.bel.drew, h.lt⟩
theorem EF.drewdN (h : EF w W fo g out) (k : Nat) : EF w (W.drewN k) fo g out := ⟨h.p, h.r, h.q, below_drewN h.bel k, h.lt⟩
theorem EF.grown (h : EF w W fo g out) {base n size : Nat} {e : TypeId} {v : Value} {xs : List Value} (ho : W.ownsRow base e size v n xs) (h0 : e ≠ 86) (h1 : e ≠ 26) (hb : w.heap.size ≤ base) (hg : W.grownBy W' v.ownBlock) : EF w W' fo g out :=
  ⟨h.p.grown hg (own_blk_ne ho h.p h0), h.r.grown hg (own_blk_ne ho h.r h1), h.q.grown hg (own_blk_ne ho h.q h1), h.bel.grown hg h.bel.size (fun k e => Nat.le_trans hb (ho.lt k e.symm.symm).1), h.lt⟩
theorem EF.setQ (h : EF w W fo g out) (i : Nat) (u : Value) : EF w (W.setCell ⟨g, i, none⟩ u) fo g (out.setIfInBounds i u) :=
  have hl := h.lt
  ⟨h.p.far (p := ⟨g, i, none⟩) (by show w.heap.size ≠ g; omega) u, h.r.far (p := ⟨g, i, none⟩) (by show w.heap.size + 1 ≠ g; omega) u, h.q.set_ i u, h.bel.setCell (p := ⟨g, i, none⟩) (by show w.heap.size ≤ g; omega) u, h.lt⟩
theorem CF.put (h : CF w W fo (some g)) (cs : Array Value) : EF w (W.setRow g cs) fo g cs :=
  have h5 := h.h5 g rfl
  ⟨h.p.setRow_far (by omega) cs, h.r.setRow_far (by omega) cs, h5.1.setRow cs, below_setR h.bel (by omega) cs, h5.2⟩
end
theorem fan5_get {W : World} {g : Nat} {t : TypeId} {x0 x1 x2 x3 x4 : Value} (h : Blk W g t #[x0, x1, x2, x3, x4]) : W.cell? ⟨g, 0, none⟩ = some x0 ∧ W.cell? ⟨g, 1, none⟩ = some x1 ∧ W.cell? ⟨g, 2, none⟩ = some x2 ∧ W.cell? ⟨g, 3, none⟩ = some x3 ∧ W.cell? ⟨g, 4, none⟩ = some x4 := ⟨h.cell 0, h.cell 1, h.cell 2, h.cell 3, h.cell 4⟩
def SV (g gv : Nat) (x y z : Value) (W : World) : Prop := W.cell? ⟨g, 4, none⟩ = some x ∧ W.cell? ⟨gv, 1, none⟩ = some y ∧ W.cell? ⟨gv, 3, none⟩ = some z

set_option maxRecDepth 100000 in
set_option maxHeartbeats 8000000 in
theorem fan_any (x : Fo) (w : World) (h : x.At w) :
    Calls Try.prog 48 #[.agg x.cells] w (OwnRes w x.fan x.m) := by
  obtain ⟨i0, hi, hz0, hz1, hz2⟩ := info_parts Try.infoGap
  have HSP := Lib.hid (fun a b W => lawSpan_any a b W)
  have C0 := Lib.hid (CF.start w x.cells)
  have HCL := Lib.hid (fun k (hk : k < x.n) => h.cell hk)
  have HBY := Lib.hid (fun k j => h.by_bd k j)
  have q0 := h.b0
  have q1 := h.b1
  have q2 := h.b2
  have q3 := h.b3
  unfold Byte at q0 q1 q2 q3
  have hnm := h.n1
  unfold maxLen at hnm
  have HG0 : Hid (x.gsTo 0 = []) := rfl
  have HG1 := Lib.hid (fun k => show x.gsTo (k + 1) = x.gsTo k ++ [x.gap k] from rfl)
  have HGG := Lib.hid (fun k => show x.gap k = ⟨2 * x.by k 0, 2 * x.by k 0 + x.by k 1 % 30, x.by k 2 / 4, x.by k 2 / 4 + x.by k 3 % 6⟩ from rfl)
  have HE := Lib.hid (fun W a1 a2 (ho : W.ownsRow w.heap.size 42 4 (.slice a1 x.m a2) x.m (flatG (x.gsTo x.m))) (hb : Below w.heap.size w W) => show OwnRes w x.fan x.m (.returned (.agg #[.int .i64 (300 + 8 * x.fa), .int .i64 (300 + 8 * x.fa + x.fb), .int .i64 (20 + x.na), .int .i64 (20 + x.na + x.nb % 20), .slice a1 x.m a2])) W from by
    obtain ⟨a3, a4, e, ho2⟩ := ownG_of ho
    simp only [Value.slice.injEq, true_and] at e
    obtain ⟨rfl, rfl⟩ := e
    exact ⟨a1, a2, rfl, ho2, hb⟩)
  generalize OwnRes w x.fan x.m = RR at *
  have HMM : Hid (x.m = min x.n 12) := rfl
  generalize x.m = m at *
  generalize x.gap = gap at *
  generalize x.gsTo = gsTo at *
  generalize x.by = by_ at *
  clear h
  obtain ⟨fa, fb, na, nb, A, n, c, gaps⟩ := x
  simp only [Fo.cells] at *
  have m1 : nb.tmod 20 = nb % 20 := Int.tmod_eq_emod_of_nonneg (by omega)
  have j1 : IntKind.i64.wrap (300 + 8 * fa + fb) = 300 + 8 * fa + fb := IntWalk.i64_in _ (by omega)
  have j2 : IntKind.i64.wrap (20 + na + nb % 20) = 20 + na + nb % 20 := IntWalk.i64_in _ (by omega)
  have j3 : IntKind.i64.wrap (nb % 20) = nb % 20 := IntWalk.i64_in _ (by omega)
  have j4 : IntKind.i64.wrap fb = fb := IntWalk.i64_in _ (by omega)
  have j5 : IntKind.i64.wrap nb = nb := IntWalk.i64_in _ (by omega)
  go_enter Try.func48, Try.ntmps48
  go_wp2_with fail
  go_cut [5] from 5 to 38 (fun s5 W => ∃ g : Nat, s5 = .pointer (some ⟨g, 0, none⟩) ∧ EF w W #[.int .u8 fa, .int .u8 fb, .int .u8 na, .int .u8 nb, .slice A n c] g #[.int .i64 (300 + 8 * fa), .int .i64 (300 + 8 * fa + fb), .int .i64 (20 + na), .int .i64 (20 + na + nb % 20), .slice none 0 0])
  case first =>
    have S0 : SFan w (.int .u8 fa) (.int .u8 fb) (.int .u8 na) (.int .u8 nb) (.slice A n c) _ := fan5_get C0.out.p
    refine wp_region_untl (S := SFan w (.int .u8 fa) (.int .u8 fb) (.int .u8 na) (.int .u8 nb) (.slice A n c)) [] (by kernel_rfl) S0 (fun _ => ?_)
    generalize (((w.alloc (.cells #[.int .u8 fa, .int .u8 fb, .int .u8 na, .int .u8 nb, .slice A n c] 86)).alloc (.cells #[.int .i64 0, .int .i64 0, .int .i64 0, .int .i64 0, .slice none 0 0] 26)).drew) = wd at *
    refine untlTake (i := 0) 21 (v := ?v1) rfl (by kernel_rfl) (by kernel_rfl) (by kernel_rfl) (by kernel_rfl) (by kernel_rfl) (by kernel_rfl) (fun _ _ _ h => h) (Or.inl ⟨by rfl, ?y1⟩) (by assumption) ?r1
    case y1 => (intro w hSw; obtain ⟨g0, g1, g2, g3, g4⟩ := hSw; go_simp; try with_reducible rfl)
    refine untlTake (i := 1) 22 (v := ?v2) rfl (by kernel_rfl) (by kernel_rfl) (by kernel_rfl) (by kernel_rfl) (by kernel_rfl) (by kernel_rfl) (fun _ _ _ h => h) (Or.inl ⟨by rfl, ?y2⟩) (by assumption) ?r2
    case y2 => (intro w hSw; obtain ⟨g0, g1, g2, g3, g4⟩ := hSw; go_simp; try with_reducible rfl)
    refine untlTake (i := 2) 23 (v := ?v3) rfl (by kernel_rfl) (by kernel_rfl) (by kernel_rfl) (by kernel_rfl) (by kernel_rfl) (by kernel_rfl) (fun _ _ _ h => h) (Or.inl ⟨by rfl, ?y3⟩) (by assumption) ?r3
    case y3 => (intro w hSw; obtain ⟨g0, g1, g2, g3, g4⟩ := hSw; go_simp; try with_reducible rfl)
    refine untlTake (i := 3) 24 (v := ?v4) rfl (by kernel_rfl) (by kernel_rfl) (by kernel_rfl) (by kernel_rfl) (by kernel_rfl) (by kernel_rfl) (fun _ _ _ h => h) (Or.inl ⟨by rfl, ?y4⟩) (by assumption) ?r4
    case y4 => (intro w hSw; obtain ⟨g0, g1, g2, g3, g4⟩ := hSw; go_simp; try with_reducible rfl)
    refine untlTake (i := 4) 25 (v := ?v5) rfl (by kernel_rfl) (by kernel_rfl) (by kernel_rfl) (by kernel_rfl) (by kernel_rfl) (by kernel_rfl) (fun _ _ _ h => h) (Or.inl ⟨by rfl, ?y5⟩) (by assumption) ?r5
    case y5 => (intro w hSw; obtain ⟨g0, g1, g2, g3, g4⟩ := hSw; go_simp; try with_reducible rfl)
    refine untlTake (i := 5) 26 (v := ?v6) rfl (by kernel_rfl) (by kernel_rfl) (by kernel_rfl) (by kernel_rfl) (by kernel_rfl) (by kernel_rfl) (fun _ _ _ h => h) (Or.inl ⟨by rfl, ?y6⟩) (by assumption) ?r6
    case y6 => (intro w hSw; obtain ⟨g0, g1, g2, g3, g4⟩ := hSw; go_simp; try with_reducible rfl)
    refine untlTake (i := 6) 27 (v := ?v7) rfl (by kernel_rfl) (by kernel_rfl) (by kernel_rfl) (by kernel_rfl) (by kernel_rfl) (by kernel_rfl) (fun _ _ _ h => h) (Or.inl ⟨by rfl, ?y7⟩) (by assumption) ?r7
    case y7 => (intro w hSw; obtain ⟨g0, g1, g2, g3, g4⟩ := hSw; go_simp; try with_reducible rfl)
    refine untlTake (i := 8) 29 (v := ?v8) rfl (by kernel_rfl) (by kernel_rfl) (by kernel_rfl) (by kernel_rfl) (by kernel_rfl) (by kernel_rfl) (fun _ _ _ h => h) (Or.inl ⟨by rfl, ?y8⟩) (by assumption) ?r8
    case y8 => (intro w hSw; obtain ⟨g0, g1, g2, g3, g4⟩ := hSw; go_simp; try with_reducible rfl)
    refine untlTake (i := 9) 30 (v := ?v9) rfl (by kernel_rfl) (by kernel_rfl) (by kernel_rfl) (by kernel_rfl) (by kernel_rfl) (by kernel_rfl) (fun _ _ _ h => h) (Or.inl ⟨by rfl, ?y9⟩) (by assumption) ?r9
    case y9 => (intro w hSw; obtain ⟨g0, g1, g2, g3, g4⟩ := hSw; go_simp; try with_reducible rfl)
    refine untlTake (i := 10) 31 (v := ?v10) rfl (by kernel_rfl) (by kernel_rfl) (by kernel_rfl) (by kernel_rfl) (by kernel_rfl) (by kernel_rfl) (fun _ _ _ h => h) (Or.inl ⟨by rfl, ?y10⟩) (by assumption) ?r10
    case y10 => (intro w hSw; obtain ⟨g0, g1, g2, g3, g4⟩ := hSw; go_simp; try with_reducible rfl)
    refine untlTake (i := 11) 32 (v := ?v11) rfl (by kernel_rfl) (by kernel_rfl) (by kernel_rfl) (by kernel_rfl) (by kernel_rfl) (by kernel_rfl) (fun _ _ _ h => h) (Or.inl ⟨by rfl, ?y11⟩) (by assumption) ?r11
    case y11 => (intro w hSw; obtain ⟨g0, g1, g2, g3, g4⟩ := hSw; go_simp; try with_reducible rfl)
    refine untlTake (i := 12) 33 (v := ?v12) rfl (by kernel_rfl) (by kernel_rfl) (by kernel_rfl) (by kernel_rfl) (by kernel_rfl) (by kernel_rfl) (fun _ _ _ h => h) (Or.inl ⟨by rfl, ?y12⟩) (by assumption) ?r12
    case y12 => (intro w hSw; obtain ⟨g0, g1, g2, g3, g4⟩ := hSw; go_simp; try with_reducible rfl)
    refine untlTake (i := 13) 34 (v := ?v13) rfl (by kernel_rfl) (by kernel_rfl) (by kernel_rfl) (by kernel_rfl) (by kernel_rfl) (by kernel_rfl) (fun _ _ _ h => h) (Or.inl ⟨by rfl, ?y13⟩) (by assumption) ?r13
    case y13 => (intro w hSw; obtain ⟨g0, g1, g2, g3, g4⟩ := hSw; go_simp; try with_reducible rfl)
    refine untlTake (i := 14) 35 (v := ?v14) rfl (by kernel_rfl) (by kernel_rfl) (by kernel_rfl) (by kernel_rfl) (by kernel_rfl) (by kernel_rfl) (fun _ _ _ h => h) (Or.inl ⟨by rfl, ?y14⟩) (by assumption) ?r14
    case y14 => (intro w hSw; obtain ⟨g0, g1, g2, g3, g4⟩ := hSw; go_simp; try with_reducible rfl)
    refine untlTake (i := 15) 36 (v := ?v15) rfl (by kernel_rfl) (by kernel_rfl) (by kernel_rfl) (by kernel_rfl) (by kernel_rfl) (by kernel_rfl) (fun _ _ _ h => h) (Or.inl ⟨by rfl, ?y15⟩) (by assumption) ?r15
    case y15 => (intro w hSw; obtain ⟨g0, g1, g2, g3, g4⟩ := hSw; go_simp; try with_reducible rfl)
    simp only [Act.put, List.setIfInBounds_toArray, List.set_cons_zero, List.set_cons_succ]
    refine untlReady (rs := [7, 18]) (by kernel_rfl) (by simp) ?_
    refine UReady.cons rfl (fun K16 hK16 => ?_) ?_
    · skip
      go_simp
      refine (HSP.out _ _ _).mono ?_
      rintro e V18 ⟨rfl, b0⟩
      have C17 := Lib.hid (C0.out.below b0)
      clear b0
      have s19 : SFan w (.int .u8 fa) (.int .u8 fb) (.int .u8 na) (.int .u8 nb) (.slice A n c) V18 := fan5_get C17.out.p
      refine hK16.out _ _ (.inr s19) ?_
      refine untlReady (rs := [16, 18]) (by kernel_rfl) (by simp) ?_
      refine UReady.cons rfl (fun K20 hK20 => ?_) ?_
      · skip
        go_simp
        refine (HSP.out _ _ _).mono ?_
        rintro e V22 ⟨rfl, b0⟩
        have C21 := Lib.hid (C17.out.below b0)
        clear b0
        have s23 : SFan w (.int .u8 fa) (.int .u8 fb) (.int .u8 na) (.int .u8 nb) (.slice A n c) V22 := fan5_get C21.out.p
        refine hK20.out _ _ (.inr s23) ?_
        refine untlTake (i := 17) 38 (v := ?v24) rfl (by kernel_rfl) (by kernel_rfl) (by kernel_rfl) (by kernel_rfl) (by kernel_rfl) (by kernel_rfl) (fun _ _ _ h => h) (Or.inl ⟨by rfl, ?y24⟩) (by assumption) ?r24
        case y24 => (intro w hSw; obtain ⟨g0, g1, g2, g3, g4⟩ := hSw; go_simp; try with_reducible rfl)
        refine untlReady (rs := [18]) (by kernel_rfl) (by simp) ?_
        refine UReady.cons rfl (fun K25 hK25 => ?_) UReady.nil
        go_simp
        have C26 := Lib.hid C21.out.new5
        refine hK25.out _ _ (.inr (fan5_get C26.out.p)) ?_
        obtain ⟨V27, hW⟩ : ∃ V, V = V22.alloc (.cells #[.int .i64 0, .int .i64 0, .int .i64 0, .int .i64 0, .slice none 0 0] 26) := ⟨_, rfl⟩
        rw [← hW] at C26 ⊢
        clear hW
        have s28 : SFan w (.int .u8 fa) (.int .u8 fb) (.int .u8 na) (.int .u8 nb) (.slice A n c) V27 := fan5_get C26.out.p
        refine untlStep (i := 19) (by kernel_rfl) rfl (fun K29 hK29 => ?_)
        rw [if_pos (by rfl)]
        refine wp_store_rowN rfl _ _ _ rfl _ _ rfl rfl _ _ (C26.out.h5 _ rfl).1 (by kernel_rfl) rfl (ones5v _ _ _ _ _ _ _) ?_
        have E30 := Lib.hid (C26.out.put #[.int .i64 (300 + 8 * fa), .int .i64 (300 + 8 * fa + fb), .int .i64 (20 + na), .int .i64 (20 + na + nb % 20), .slice none 0 0])
        refine hK29.out _ _ (.inr (fan5_get E30.out.p)) ?_
        refine untlDone (by kernel_rfl) ?_ _
        go_wp2_with fail
        go_meet
        exact ⟨_, rfl, E30.out⟩
      refine UReady.cons rfl (fun K31 hK31 => ?_) UReady.nil
      go_simp
      have C32 := Lib.hid C17.out.new5
      refine hK31.out _ _ (.inr (fan5_get C32.out.p)) ?_
      obtain ⟨V33, hW⟩ : ∃ V, V = V18.alloc (.cells #[.int .i64 0, .int .i64 0, .int .i64 0, .int .i64 0, .slice none 0 0] 26) := ⟨_, rfl⟩
      rw [← hW] at C32 ⊢
      clear hW
      have s34 : SFan w (.int .u8 fa) (.int .u8 fb) (.int .u8 na) (.int .u8 nb) (.slice A n c) V33 := fan5_get C32.out.p
      refine untlReady (rs := [16]) (by kernel_rfl) (by simp) ?_
      refine UReady.cons rfl (fun K35 hK35 => ?_) UReady.nil
      go_simp
      refine (HSP.out _ _ _).mono ?_
      rintro e V37 ⟨rfl, b0⟩
      have C36 := Lib.hid (C32.out.below b0)
      clear b0
      have s38 : SFan w (.int .u8 fa) (.int .u8 fb) (.int .u8 na) (.int .u8 nb) (.slice A n c) V37 := fan5_get C36.out.p
      refine hK35.out _ _ (.inr s38) ?_
      refine untlTake (i := 17) 38 (v := ?v39) rfl (by kernel_rfl) (by kernel_rfl) (by kernel_rfl) (by kernel_rfl) (by kernel_rfl) (by kernel_rfl) (fun _ _ _ h => h) (Or.inl ⟨by rfl, ?y39⟩) (by assumption) ?r39
      case y39 => (intro w hSw; obtain ⟨g0, g1, g2, g3, g4⟩ := hSw; go_simp; try with_reducible rfl)
      refine untlStep (i := 19) (by kernel_rfl) rfl (fun K40 hK40 => ?_)
      rw [if_pos (by rfl)]
      refine wp_store_rowN rfl _ _ _ rfl _ _ rfl rfl _ _ (C36.out.h5 _ rfl).1 (by kernel_rfl) rfl (ones5v _ _ _ _ _ _ _) ?_
      have E41 := Lib.hid (C36.out.put #[.int .i64 (300 + 8 * fa), .int .i64 (300 + 8 * fa + fb), .int .i64 (20 + na), .int .i64 (20 + na + nb % 20), .slice none 0 0])
      refine hK40.out _ _ (.inr (fan5_get E41.out.p)) ?_
      refine untlDone (by kernel_rfl) ?_ _
      go_wp2_with fail
      go_meet
      exact ⟨_, rfl, E41.out⟩
    refine UReady.cons rfl (fun K42 hK42 => ?_) UReady.nil
    go_simp
    have C43 := Lib.hid C0.out.new5
    refine hK42.out _ _ (.inr (fan5_get C43.out.p)) ?_
    obtain ⟨V44, hW⟩ : ∃ V, V = wd.alloc (.cells #[.int .i64 0, .int .i64 0, .int .i64 0, .int .i64 0, .slice none 0 0] 26) := ⟨_, rfl⟩
    rw [← hW] at C43 ⊢
    clear hW
    have s45 : SFan w (.int .u8 fa) (.int .u8 fb) (.int .u8 na) (.int .u8 nb) (.slice A n c) V44 := fan5_get C43.out.p
    refine untlReady (rs := [7]) (by kernel_rfl) (by simp) ?_
    refine UReady.cons rfl (fun K46 hK46 => ?_) UReady.nil
    go_simp
    refine (HSP.out _ _ _).mono ?_
    rintro e V48 ⟨rfl, b0⟩
    have C47 := Lib.hid (C43.out.below b0)
    clear b0
    have s49 : SFan w (.int .u8 fa) (.int .u8 fb) (.int .u8 na) (.int .u8 nb) (.slice A n c) V48 := fan5_get C47.out.p
    refine hK46.out _ _ (.inr s49) ?_
    refine untlReady (rs := [16]) (by kernel_rfl) (by simp) ?_
    refine UReady.cons rfl (fun K50 hK50 => ?_) UReady.nil
    go_simp
    refine (HSP.out _ _ _).mono ?_
    rintro e V52 ⟨rfl, b0⟩
    have C51 := Lib.hid (C47.out.below b0)
    clear b0
    have s53 : SFan w (.int .u8 fa) (.int .u8 fb) (.int .u8 na) (.int .u8 nb) (.slice A n c) V52 := fan5_get C51.out.p
    refine hK50.out _ _ (.inr s53) ?_
    refine untlTake (i := 17) 38 (v := ?v54) rfl (by kernel_rfl) (by kernel_rfl) (by kernel_rfl) (by kernel_rfl) (by kernel_rfl) (by kernel_rfl) (fun _ _ _ h => h) (Or.inl ⟨by rfl, ?y54⟩) (by assumption) ?r54
    case y54 => (intro w hSw; obtain ⟨g0, g1, g2, g3, g4⟩ := hSw; go_simp; try with_reducible rfl)
    refine untlStep (i := 19) (by kernel_rfl) rfl (fun K55 hK55 => ?_)
    rw [if_pos (by rfl)]
    refine wp_store_rowN rfl _ _ _ rfl _ _ rfl rfl _ _ (C51.out.h5 _ rfl).1 (by kernel_rfl) rfl (ones5v _ _ _ _ _ _ _) ?_
    have E56 := Lib.hid (C51.out.put #[.int .i64 (300 + 8 * fa), .int .i64 (300 + 8 * fa + fb), .int .i64 (20 + na), .int .i64 (20 + na + nb % 20), .slice none 0 0])
    refine hK55.out _ _ (.inr (fan5_get E56.out.p)) ?_
    refine untlDone (by kernel_rfl) ?_ _
    go_wp2_with fail
    go_meet
    exact ⟨_, rfl, E56.out⟩
  case rest =>
    obtain ⟨g, rfl, hE⟩ := hcut
    have E1 := Lib.hid hE
    clear hE C0 j1 j2 j3 j4 j5 m1
    go_wp2_with fail
    go_loopw [6] (fun s6 wr => ∃ (k : Nat) (A' : Option Addr) (c' : Nat), k ≤ m ∧ s6 = .int .i64 k ∧ wr.ownsRow w.heap.size 42 4 (.slice A' k c') k (flatG (gsTo k)) ∧ EF w wr #[.int .u8 fa, .int .u8 fb, .int .u8 na, .int .u8 nb, .slice A n c] g #[.int .i64 (300 + 8 * fa), .int .i64 (300 + 8 * fa + fb), .int .i64 (20 + na), .int .i64 (20 + na + nb % 20), .slice A' k c']) (fun s6 _ => m - (intOf s6).toNat)
    case atStart => exact ⟨0, none, 0, Nat.zero_le _, rfl, by rw [HG0.out]; exact World.ownsRow_nil _ _ _ _, E1.out⟩
    case round =>
      obtain ⟨k, A', c', hk, rfl, hown, hE⟩ := hrel
      have OW := Lib.hid hown
      have EK := Lib.hid hE
      have p2 := fan5_get hE.p
      clear hown hE E1
      have hmm := HMM.out
      by_cases hlt : k < m
      · have hkn : k < n := by omega
        have hk12 : (k : Int) < 12 := by omega
        obtain ⟨b, off, hA, _, hcell⟩ := HCL.out k hkn
        subst hA
        have y0 : wr.cell? ⟨b, off + k * 4, none⟩ = some (.int .u8 (by_ k 0)) := (EK.out.bel.cell (lt_of_cell (hcell 0 (by omega)))).trans (hcell 0 (by omega))
        have y1 : wr.cell? ⟨b, off + k * 4 + 1, none⟩ = some (.int .u8 (by_ k 1)) := (EK.out.bel.cell (lt_of_cell (hcell 1 (by omega)))).trans (hcell 1 (by omega))
        have y2 : wr.cell? ⟨b, off + k * 4 + 2, none⟩ = some (.int .u8 (by_ k 2)) := (EK.out.bel.cell (lt_of_cell (hcell 2 (by omega)))).trans (hcell 2 (by omega))
        have y3 : wr.cell? ⟨b, off + k * 4 + 3, none⟩ = some (.int .u8 (by_ k 3)) := (EK.out.bel.cell (lt_of_cell (hcell 3 (by omega)))).trans (hcell 3 (by omega))
        have z0 := HBY.out k 0
        have z1 := HBY.out k 1
        have z2 := HBY.out k 2
        have z3 := HBY.out k 3
        have hg1 := Lib.hid (HG1.out k)
        have hgg := Lib.hid (HGG.out k)
        clear hcell hmm
        generalize by_ k 0 = v0 at *
        generalize by_ k 1 = v1 at *
        generalize by_ k 2 = v2 at *
        generalize by_ k 3 = v3 at *
        have V1 := Lib.hid (Blk.new wr 94 #[.int .u8 v0, .int .u8 v1, .int .u8 v2, .int .u8 v3] (g := wr.heap.size) rfl)
        have E2 := Lib.hid (EK.out.alloc (.cells #[.int .u8 v0, .int .u8 v1, .int .u8 v2, .int .u8 v3] 94))
        have O2 := Lib.hid (ownsRow_below OW.out (below_self wr (.cells #[.int .u8 v0, .int .u8 v1, .int .u8 v2, .int .u8 v3] 94)))
        have x1 := V1.out.cell
        have a1 : v2.tdiv 4 = v2 / 4 := Int.tdiv_eq_ediv_of_nonneg (by omega)
        have a2 : IntKind.i64.wrap (2 * v0) = 2 * v0 := IntWalk.i64_in _ (by omega)
        have a3 : IntKind.i64.wrap (v2 / 4) = v2 / 4 := IntWalk.i64_in _ (by omega)
        have a4 : IntKind.i64.wrap v0 = v0 := IntWalk.i64_in _ (by omega)
        have a5 : IntKind.i64.wrap v2 = v2 := IntWalk.i64_in _ (by omega)
        go_wp2_with fail
        go_quiet (fail)
        clear a1 a2 a3 a4 a5 x1 y0 y1 y2 y3
        generalize hWN : World.drewN _ _ = wn
        have E3 : EF w wn #[.int .u8 fa, .int .u8 fb, .int .u8 na, .int .u8 nb, .slice (some ⟨b, off, none⟩) n c] g #[.int .i64 (300 + 8 * fa), .int .i64 (300 + 8 * fa + fb), .int .i64 (20 + na), .int .i64 (20 + na + nb % 20), .slice A' k c'] := by rw [← hWN]; exact E2.out.drewdN _
        have O3 : wn.ownsRow w.heap.size 42 4 (.slice A' k c') k (flatG (gsTo k)) := by rw [← hWN]; exact O2.out
        have V3 : Blk wn wr.heap.size 94 #[.int .u8 v0, .int .u8 v1, .int .u8 v2, .int .u8 v3] := by rw [← hWN]; exact V1.out
        have E4 := Lib.hid E3.drewd
        have O4 : Hid (wn.drew.ownsRow w.heap.size 42 4 (.slice A' k c') k (flatG (gsTo k))) := O3
        have V4 : Hid (Blk wn.drew wr.heap.size 94 #[.int .u8 v0, .int .u8 v1, .int .u8 v2, .int .u8 v3]) := V3
        clear hWN E3 O3 V3 E2 O2 V1 EK OW p2
        generalize wr.heap.size = gv at *
        have t1 : v1.tmod 30 = v1 % 30 := Int.tmod_eq_emod_of_nonneg (by omega)
        have t3 : v3.tmod 6 = v3 % 6 := Int.tmod_eq_emod_of_nonneg (by omega)
        have a1 : IntKind.i64.wrap v1 = v1 := IntWalk.i64_in _ (by omega)
        have a2 : IntKind.i64.wrap v3 = v3 := IntWalk.i64_in _ (by omega)
        have a3 : IntKind.i64.wrap (v1 % 30) = v1 % 30 := IntWalk.i64_in _ (by omega)
        have a4 : IntKind.i64.wrap (v3 % 6) = v3 % 6 := IntWalk.i64_in _ (by omega)
        have a5 : IntKind.i64.wrap (2 * v0 + v1 % 30) = 2 * v0 + v1 % 30 := IntWalk.i64_in _ (by omega)
        have a6 : IntKind.i64.wrap (v2 / 4 + v3 % 6) = v2 / 4 + v3 % 6 := IntWalk.i64_in _ (by omega)
        go_wp2_with fail
        have S4 : SV g gv (.slice A' k c') (.int .u8 v1) (.int .u8 v3) wn.drew := ⟨E4.out.q.cell 4, V4.out.cell 1, V4.out.cell 3⟩
        refine wp_region_untl (S := SV g gv (.slice A' k c') (.int .u8 v1) (.int .u8 v3)) [22] (by kernel_rfl) S4 (fun _ => ?_)
        generalize wn.drew = wd2 at *
        refine untlTake (i := 0) 63 (v := ?v57) rfl (by kernel_rfl) (by kernel_rfl) (by kernel_rfl) (by kernel_rfl) (by kernel_rfl) (by kernel_rfl) (fun _ _ _ h => h) (Or.inl ⟨by rfl, ?y57⟩) (by assumption) ?r57
        case y57 => (intro w hSw; obtain ⟨g0, g1, g2⟩ := hSw; go_simp; try with_reducible rfl)
        refine untlTake (i := 1) 64 (v := ?v58) rfl (by kernel_rfl) (by kernel_rfl) (by kernel_rfl) (by kernel_rfl) (by kernel_rfl) (by kernel_rfl) (fun _ _ _ h => h) (Or.inl ⟨by rfl, ?y58⟩) (by assumption) ?r58
        case y58 => (intro w hSw; obtain ⟨g0, g1, g2⟩ := hSw; go_simp; try with_reducible rfl)
        refine untlTake (i := 2) 65 (v := ?v59) rfl (by kernel_rfl) (by kernel_rfl) (by kernel_rfl) (by kernel_rfl) (by kernel_rfl) (by kernel_rfl) (fun _ _ _ h => h) (Or.inl ⟨by rfl, ?y59⟩) (by assumption) ?r59
        case y59 => (intro w hSw; obtain ⟨g0, g1, g2⟩ := hSw; go_simp; try with_reducible rfl)
        refine untlTake (i := 3) 66 (v := ?v60) rfl (by kernel_rfl) (by kernel_rfl) (by kernel_rfl) (by kernel_rfl) (by kernel_rfl) (by kernel_rfl) (fun _ _ _ h => h) (Or.inl ⟨by rfl, ?y60⟩) (by assumption) ?r60
        case y60 => (intro w hSw; obtain ⟨g0, g1, g2⟩ := hSw; go_simp; try with_reducible rfl)
        refine untlTake (i := 4) 67 (v := ?v61) rfl (by kernel_rfl) (by kernel_rfl) (by kernel_rfl) (by kernel_rfl) (by kernel_rfl) (by kernel_rfl) (fun _ _ _ h => h) (Or.inl ⟨by rfl, ?y61⟩) (by assumption) ?r61
        case y61 => (intro w hSw; obtain ⟨g0, g1, g2⟩ := hSw; go_simp; try with_reducible rfl)
        refine untlTake (i := 5) 68 (v := ?v62) rfl (by kernel_rfl) (by kernel_rfl) (by kernel_rfl) (by kernel_rfl) (by kernel_rfl) (by kernel_rfl) (fun _ _ _ h => h) (Or.inl ⟨by rfl, ?y62⟩) (by assumption) ?r62
        case y62 => (intro w hSw; obtain ⟨g0, g1, g2⟩ := hSw; go_simp; try with_reducible rfl)
        refine untlTake (i := 6) 69 (v := ?v63) rfl (by kernel_rfl) (by kernel_rfl) (by kernel_rfl) (by kernel_rfl) (by kernel_rfl) (by kernel_rfl) (fun _ _ _ h => h) (Or.inl ⟨by rfl, ?y63⟩) (by assumption) ?r63
        case y63 => (intro w hSw; obtain ⟨g0, g1, g2⟩ := hSw; go_simp; try with_reducible rfl)
        refine untlTake (i := 7) 70 (v := ?v64) rfl (by kernel_rfl) (by kernel_rfl) (by kernel_rfl) (by kernel_rfl) (by kernel_rfl) (by kernel_rfl) (fun _ _ _ h => h) (Or.inl ⟨by rfl, ?y64⟩) (by assumption) ?r64
        case y64 => (intro w hSw; obtain ⟨g0, g1, g2⟩ := hSw; go_simp; try with_reducible rfl)
        refine untlTake (i := 8) 71 (v := ?v65) rfl (by kernel_rfl) (by kernel_rfl) (by kernel_rfl) (by kernel_rfl) (by kernel_rfl) (by kernel_rfl) (fun _ _ _ h => h) (Or.inl ⟨by rfl, ?y65⟩) (by assumption) ?r65
        case y65 => (intro w hSw; obtain ⟨g0, g1, g2⟩ := hSw; go_simp; try with_reducible rfl)
        refine untlTake (i := 10) 73 (v := ?v66) rfl (by kernel_rfl) (by kernel_rfl) (by kernel_rfl) (by kernel_rfl) (by kernel_rfl) (by kernel_rfl) (fun _ _ _ h => h) (Or.inl ⟨by rfl, ?y66⟩) (by assumption) ?r66
        case y66 => (intro w hSw; obtain ⟨g0, g1, g2⟩ := hSw; go_simp; try with_reducible rfl)
        refine untlTake (i := 11) 74 (v := ?v67) rfl (by kernel_rfl) (by kernel_rfl) (by kernel_rfl) (by kernel_rfl) (by kernel_rfl) (by kernel_rfl) (fun _ _ _ h => h) (Or.inl ⟨by rfl, ?y67⟩) (by assumption) ?r67
        case y67 => (intro w hSw; obtain ⟨g0, g1, g2⟩ := hSw; go_simp; try with_reducible rfl)
        refine untlTake (i := 12) 75 (v := ?v68) rfl (by kernel_rfl) (by kernel_rfl) (by kernel_rfl) (by kernel_rfl) (by kernel_rfl) (by kernel_rfl) (fun _ _ _ h => h) (Or.inl ⟨by rfl, ?y68⟩) (by assumption) ?r68
        case y68 => (intro w hSw; obtain ⟨g0, g1, g2⟩ := hSw; go_simp; try with_reducible rfl)
        refine untlTake (i := 13) 76 (v := ?v69) rfl (by kernel_rfl) (by kernel_rfl) (by kernel_rfl) (by kernel_rfl) (by kernel_rfl) (by kernel_rfl) (fun _ _ _ h => h) (Or.inl ⟨by rfl, ?y69⟩) (by assumption) ?r69
        case y69 => (intro w hSw; obtain ⟨g0, g1, g2⟩ := hSw; go_simp; try with_reducible rfl)
        refine untlTake (i := 14) 77 (v := ?v70) rfl (by kernel_rfl) (by kernel_rfl) (by kernel_rfl) (by kernel_rfl) (by kernel_rfl) (by kernel_rfl) (fun _ _ _ h => h) (Or.inl ⟨by rfl, ?y70⟩) (by assumption) ?r70
        case y70 => (intro w hSw; obtain ⟨g0, g1, g2⟩ := hSw; go_simp; try with_reducible rfl)
        refine untlTake (i := 15) 78 (v := ?v71) rfl (by kernel_rfl) (by kernel_rfl) (by kernel_rfl) (by kernel_rfl) (by kernel_rfl) (by kernel_rfl) (fun _ _ _ h => h) (Or.inl ⟨by rfl, ?y71⟩) (by assumption) ?r71
        case y71 => (intro w hSw; obtain ⟨g0, g1, g2⟩ := hSw; go_simp; try with_reducible rfl)
        refine untlTake (i := 16) 79 (v := ?v72) rfl (by kernel_rfl) (by kernel_rfl) (by kernel_rfl) (by kernel_rfl) (by kernel_rfl) (by kernel_rfl) (fun _ _ _ h => h) (Or.inl ⟨by rfl, ?y72⟩) (by assumption) ?r72
        case y72 => (intro w hSw; obtain ⟨g0, g1, g2⟩ := hSw; go_simp; try with_reducible rfl)
        simp only [Act.put, List.setIfInBounds_toArray, List.set_cons_zero, List.set_cons_succ]
        refine untlStep (i := 9) (by kernel_rfl) rfl (fun K9 hK9 => ?_)
        go_simp
        refine (HSP.out _ _ _).mono ?_
        rintro e W5 ⟨rfl, b5⟩
        have E5 := Lib.hid (E4.out.below b5)
        have O5 := Lib.hid (ownsRow_below O4.out b5)
        have V5 := Lib.hid (blk_keep b5 V4.out)
        clear b5 E4 O4 V4 S4
        refine hK9.out _ _ (.inr ⟨E5.out.q.cell 4, V5.out.cell 1, V5.out.cell 3⟩) ?_
        refine untlStep (i := 17) (by kernel_rfl) rfl (fun K17 hK17 => ?_)
        go_simp
        refine (HSP.out _ _ _).mono ?_
        rintro e W6 ⟨rfl, b6⟩
        have E6 := Lib.hid (E5.out.below b6)
        have O6 := Lib.hid (ownsRow_below O5.out b6)
        have V6 := Lib.hid (blk_keep b6 V5.out)
        clear b6 E5 O5 V5
        have S6 : SV g gv (.slice A' k c') (.int .u8 v1) (.int .u8 v3) W6 := ⟨E6.out.q.cell 4, V6.out.cell 1, V6.out.cell 3⟩
        refine hK17.out _ _ (.inr S6) ?_
        refine untlTake (i := 18) 81 (v := ?v73) rfl (by kernel_rfl) (by kernel_rfl) (by kernel_rfl) (by kernel_rfl) (by kernel_rfl) (by kernel_rfl) (fun _ _ _ h => h) (Or.inl ⟨by rfl, ?y73⟩) (by assumption) ?r73
        case y73 => (intro w hSw; obtain ⟨g0, g1, g2⟩ := hSw; go_simp; try with_reducible rfl)
        refine untlStep (i := 19) (by kernel_rfl) rfl (fun K19 hK19 => ?_)
        go_simp
        have E7 := Lib.hid (E6.out.alloc (.cells #[.int .i64 (2 * v0), .int .i64 (2 * v0 + v1 % 30), .int .i64 (v2 / 4), .int .i64 (v2 / 4 + v3 % 6)] 42))
        have O7 := Lib.hid (ownsRow_below O6.out (below_self _ (.cells #[.int .i64 (2 * v0), .int .i64 (2 * v0 + v1 % 30), .int .i64 (v2 / 4), .int .i64 (v2 / 4 + v3 % 6)] 42)))
        have V7 := Lib.hid (V6.out.alloc (.cells #[.int .i64 (2 * v0), .int .i64 (2 * v0 + v1 % 30), .int .i64 (v2 / 4), .int .i64 (v2 / 4 + v3 % 6)] 42))
        refine hK19.out _ _ (.inr ⟨E7.out.q.cell 4, V7.out.cell 1, V7.out.cell 3⟩) ?_
        refine untlStep (i := 20) (by kernel_rfl) rfl (fun K20 hK20 => ?_)
        refine step_append_any rfl (.tmp 64) (.tmp 82) 24 rfl w.heap.size 42 i0 _ 4 32 Try.underlying24 hi hz0 hz1 hz2 rfl (by decide) (.slice A' k c') k (flatG (gsTo k)) (by rfl) O7.out (some ⟨W6.heap.size, 0, none⟩) 1 1 (by rfl) (Gap.cells ⟨2 * v0, 2 * v0 + v1 % 30, v2 / 4, v2 / 4 + v3 % 6⟩) (rep_new W6 ⟨2 * v0, 2 * v0 + v1 % 30, v2 / 4, v2 / 4 + v3 % 6⟩ _) (cells_one _) (by unfold maxLen; omega) (by omega) (by have := E6.out.bel.size; simp at this ⊢; omega) ?_
        intro v8 W8 hown hgrow
        rw [flatG_snoc] at hown
        obtain ⟨A3, c3, rfl⟩ := own_slice hown
        have E8 := Lib.hid (E7.out.grown O7.out (by decide) (by decide) (Nat.le_refl _) hgrow)
        have V8 := Lib.hid (V7.out.grown hgrow (own_blk_ne O7.out V7.out (by decide)))
        have O8 := Lib.hid hown
        have s8 : W8.cell? ⟨g, 4, none⟩ = some (.slice A' k c') := E8.out.q.cell 4
        clear hown hgrow E6 O6 V6 S6
        have S8 : SV g gv (.slice A' k c') (.int .u8 v1) (.int .u8 v3) W8 := ⟨E8.out.q.cell 4, V8.out.cell 1, V8.out.cell 3⟩
        refine hK20.out _ _ (.inr S8) ?_
        refine untlTake (i := 21) 84 (v := ?v74) rfl (by kernel_rfl) (by kernel_rfl) (by kernel_rfl) (by kernel_rfl) (by kernel_rfl) (by kernel_rfl) (fun _ _ _ h => h) (Or.inl ⟨by rfl, ?y74⟩) (by assumption) ?r74
        case y74 => (intro w hSw; obtain ⟨g0, g1, g2⟩ := hSw; go_simp; try with_reducible rfl)
        refine untlStep (i := 22) (by kernel_rfl) rfl (fun K22 hK22 => ?_)
        have f8 := E8.out.q.frozen 4
        go_simp
        have O9 := Lib.hid (own_setCell (i := 4) O8.out E8.out.q (by decide) (.slice A3 (k + 1) c3))
        have E9 := Lib.hid (E8.out.setQ 4 (.slice A3 (k + 1) c3))
        clear s8 f8 S8 E8 O8 E7 O7 V7 V8
        refine hK22.out _ _ (.inl (by decide)) ?_
        refine untlDone (by kernel_rfl) ?_ _
        clear t1 t3 a1 a2 a3 a4 a5 a6
        go_wp2_with fail
        go_roundw
        case rel => exact ⟨k + 1, A3, c3, by omega, by go_num, by rw [hg1.out, hgg.out]; exact O9.out, E9.out⟩
        case measure => simp [intOf]; omega
      · obtain rfl : k = m := by omega
        have HX : (k < n → (k : Int) < 12 → False) := fun h1 h2 => by omega
        have O9 := Lib.hid (own_set5 OW.out EK.out.r (by decide) (.int .i64 (300 + 8 * fa)) (.int .i64 (300 + 8 * fa + fb)) (.int .i64 (20 + na)) (.int .i64 (20 + na + nb % 20)) (.slice A' k c'))
        have q9 := fan5_get EK.out.q
        have r9 := fan5_get EK.out.r
        have f9 := EK.out.r.frozen
        by_cases hkn : k < n
        · have hk12 : ¬ (k : Int) < 12 := fun h => HX hkn h
          clear HX hmm
          go_wp2_with fail
          exact bodyPost_ret (results_c rfl _ _ _ (w.heap.size + 1) _ _ _ rfl (((((EK.out.r.set_ 0 _).set_ 1 _).set_ 2 _).set_ 3 _).set_ 4 _) Try.underlying26 (by kernel_rfl)) rfl (HE.out _ _ _ O9.out (((((EK.out.bel.setCell (p := ⟨w.heap.size + 1, 0, none⟩) (by simp) _).setCell (p := ⟨w.heap.size + 1, 1, none⟩) (by simp) _).setCell (p := ⟨w.heap.size + 1, 2, none⟩) (by simp) _).setCell (p := ⟨w.heap.size + 1, 3, none⟩) (by simp) _).setCell (p := ⟨w.heap.size + 1, 4, none⟩) (by simp) _))
        · clear HX hmm
          go_wp2_with fail
          exact bodyPost_ret (results_c rfl _ _ _ (w.heap.size + 1) _ _ _ rfl (((((EK.out.r.set_ 0 _).set_ 1 _).set_ 2 _).set_ 3 _).set_ 4 _) Try.underlying26 (by kernel_rfl)) rfl (HE.out _ _ _ O9.out (((((EK.out.bel.setCell (p := ⟨w.heap.size + 1, 0, none⟩) (by simp) _).setCell (p := ⟨w.heap.size + 1, 1, none⟩) (by simp) _).setCell (p := ⟨w.heap.size + 1, 2, none⟩) (by simp) _).setCell (p := ⟨w.heap.size + 1, 3, none⟩) (by simp) _).setCell (p := ⟨w.heap.size + 1, 4, none⟩) (by simp) _))
end Go.Proofs.Ytdekickmplkdiaa
