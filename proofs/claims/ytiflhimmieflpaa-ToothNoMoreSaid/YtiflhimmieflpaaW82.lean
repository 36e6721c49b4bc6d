/- Walks: a crack of a tusk. -/
import Derived.Test.YtiflhimmieflpaaW81
import Derived.Test.YtiflhimmieflpaaHeld
namespace Go.Proofs.Ytiflhimmieflpaa
open Go.RowKit Go.Maps

theorem results_cc {fn : Func} {p q : Tmp} {ty tz : TypeId} (h : fn.results = #[.cell p ty, .cell q tz]) (tmps : Array Value) (P : Program) (w : World) (g g' : Nat) (v u : Value)
    (hp : tmps.getD p undef = .pointer (some ⟨g, 0, none⟩)) (hg : (loadVar ty ⟨g, 0, none⟩).run P w = .ok v w) (hq : tmps.getD q undef = .pointer (some ⟨g', 0, none⟩)) (hg' : (loadVar tz ⟨g', 0, none⟩).run P w = .ok u w) :
    (results fn tmps).run P w = .ok (.tuple #[v, u]) w := by
  have hp' : tmps[p]?.getD undef = .pointer (some ⟨g, 0, none⟩) := by simpa using hp
  have hq' : tmps[q]?.getD undef = .pointer (some ⟨g', 0, none⟩) := by simpa using hq
  simp [results, h, hp', hq', asAddr, hg, hg']
theorem Tk.At.crack {T : Tk} {w : World} {i : Nat} (h : T.At w) (hi : i < T.m) : ∃ b off, T.K = some ⟨b, off, none⟩ ∧ b < w.heap.size ∧ ∀ j, j < 6 → w.cell? ⟨b, off + i * 6 + j, none⟩ = some (.int .u8 (T.crk.getD (i * 6 + j) 0)) := by
  obtain ⟨b, off, e, hb, hc⟩ := h.hk.2 (by omega)
  refine ⟨b, off, e, hb, fun j hj => ?_⟩
  have hl : T.crk.length = T.m * 6 := by have := h.hk.1; rwa [List.length_map] at this
  have hjl : i * 6 + j < T.crk.length := by omega
  have := hc (i * 6 + j) (.int .u8 (T.crk.getD (i * 6 + j) 0)) (by simp [List.getD, hjl])
  rw [Nat.add_assoc, this]
def Tk.cb (T : Tk) (i j : Nat) : Int := T.crk.getD (i * 6 + j) 0
/-- A crack of a tusk, of so many columns. -/
def Tk.crackL (T : Tk) (i : Nat) (cols : Int) : Crack :=
  ⟨T.cb i 0 % cols, min (cols - 1) (T.cb i 0 % cols + T.cb i 2 % 4), T.cb i 1 % 140, T.cb i 1 % 140 + T.cb i 3 % 20, T.cb i 1 % 140 + T.cb i 3 % 20 + T.cb i 4 % 40, T.cb i 1 % 140 + T.cb i 3 % 20 + T.cb i 4 % 40 + T.cb i 5 % 20⟩
/-- What it truly is. -/
def Tk.realL (T : Tk) (i : Nat) (cols : Int) : Int × Int × Int :=
  ((T.crackL i cols).cl + T.cb i 5 % ((T.crackL i cols).ch - (T.crackL i cols).cl + 1), (T.crackL i cols).fl + T.cb i 4 % ((T.crackL i cols).fh - (T.crackL i cols).fl + 1), (T.crackL i cols).tl + T.cb i 1 % ((T.crackL i cols).th - (T.crackL i cols).tl + 1))

theorem Blk.newd (w : World) (t : TypeId) (cs : Array Value) {g : Nat} (hg : g = w.heap.size) : Blk (w.alloc (.cells cs t)).drew g t cs := Blk.new w t cs hg
theorem z6_get {W : World} {g : Nat} (h : Blk W g 111 #[.int .i64 0, .int .i64 0, .int .i64 0, .int .i64 0, .int .i64 0, .int .i64 0]) : (W.cell? ⟨g, 0, none⟩ = some (.int .i64 0) ∧ W.cell? ⟨g, 1, none⟩ = some (.int .i64 0) ∧ W.cell? ⟨g, 2, none⟩ = some (.int .i64 0) ∧ W.cell? ⟨g, 3, none⟩ = some (.int .i64 0) ∧ W.cell? ⟨g, 4, none⟩ = some (.int .i64 0) ∧ W.cell? ⟨g, 5, none⟩ = some (.int .i64 0)) ∧
    W.frozen? ⟨g, 0, none⟩ = false ∧ W.frozen? ⟨g, 1, none⟩ = false ∧ W.frozen? ⟨g, 2, none⟩ = false ∧ W.frozen? ⟨g, 3, none⟩ = false ∧ W.frozen? ⟨g, 4, none⟩ = false ∧ W.frozen? ⟨g, 5, none⟩ = false :=
  ⟨⟨h.cell 0, h.cell 1, h.cell 2, h.cell 3, h.cell 4, h.cell 5⟩, h.frozen 0, h.frozen 1, h.frozen 2, h.frozen 3, h.frozen 4, h.frozen 5⟩
/-- What crack's own variables hold. -/
structure KI (w : World) (T : Tk) (v0 v1 v2 v3 v4 v5 : Int) (W : World) : Prop where
  box : Blk W w.heap.size 83 #[.slice T.A T.n T.c, .int .u8 T.bend, .slice T.K T.m T.d, .int .u8 T.s0, .int .u8 T.s1, .int .u8 T.s2, .int .u8 T.s3]
  r1 : Blk W (w.heap.size + 1) 111 #[.int .i64 0, .int .i64 0, .int .i64 0, .int .i64 0, .int .i64 0, .int .i64 0]
  r2 : Blk W (w.heap.size + 1 + 1) 150 #[.int .i64 0, .int .i64 0, .int .i64 0]
  vb : Blk W (w.heap.size + 1 + 1 + 1) 172 #[.int .u8 v0, .int .u8 v1, .int .u8 v2, .int .u8 v3, .int .u8 v4, .int .u8 v5]
  bel : Below w.heap.size w W
theorem KI.below {w W W' : World} {T : Tk} {v0 v1 v2 v3 v4 v5 : Int} (h : KI w T v0 v1 v2 v3 v4 v5 W) (hb : Below W.heap.size W W') : KI w T v0 v1 v2 v3 v4 v5 W' := ⟨blk_keep hb h.box, blk_keep hb h.r1, blk_keep hb h.r2, blk_keep hb h.vb, below_then h.bel hb⟩
theorem KI.cells {w W : World} {T : Tk} {v0 v1 v2 v3 v4 v5 : Int} (h : KI w T v0 v1 v2 v3 v4 v5 W) : W.cell? ⟨w.heap.size + 1 + 1 + 1, 0, none⟩ = some (.int .u8 v0) ∧ W.cell? ⟨w.heap.size + 1 + 1 + 1, 1, none⟩ = some (.int .u8 v1) ∧ W.cell? ⟨w.heap.size + 1 + 1 + 1, 2, none⟩ = some (.int .u8 v2) ∧ W.cell? ⟨w.heap.size + 1 + 1 + 1, 3, none⟩ = some (.int .u8 v3) ∧ W.cell? ⟨w.heap.size + 1 + 1 + 1, 4, none⟩ = some (.int .u8 v4) ∧ W.cell? ⟨w.heap.size + 1 + 1 + 1, 5, none⟩ = some (.int .u8 v5) :=
  ⟨h.vb.cell 0, h.vb.cell 1, h.vb.cell 2, h.vb.cell 3, h.vb.cell 4, h.vb.cell 5⟩

theorem KI.set {w W : World} {T : Tk} {v0 v1 v2 v3 v4 v5 : Int} (h : KI w T v0 v1 v2 v3 v4 v5 W) {g : Nat} (hg : w.heap.size + 1 + 1 + 1 < g) (i : Nat) (u : Value) : KI w T v0 v1 v2 v3 v4 v5 (W.setCell ⟨g, i, none⟩ u) :=
  ⟨h.box.far (p := ⟨g, i, none⟩) (by simp; omega) _, h.r1.far (p := ⟨g, i, none⟩) (by simp; omega) _, h.r2.far (p := ⟨g, i, none⟩) (by simp; omega) _, h.vb.far (p := ⟨g, i, none⟩) (by simp; omega) _, h.bel.setCell (p := ⟨g, i, none⟩) (by simp; omega) _⟩
def CVB (g : Nat) (v0 v1 v2 v3 v4 v5 : Int) (W : World) : Prop := W.cell? ⟨g, 0, none⟩ = some (.int .u8 v0) ∧ W.cell? ⟨g, 1, none⟩ = some (.int .u8 v1) ∧ W.cell? ⟨g, 2, none⟩ = some (.int .u8 v2) ∧ W.cell? ⟨g, 3, none⟩ = some (.int .u8 v3) ∧ W.cell? ⟨g, 4, none⟩ = some (.int .u8 v4) ∧ W.cell? ⟨g, 5, none⟩ = some (.int .u8 v5)
def HV6 (gv : Nat) (v0 v1 v2 v3 v4 v5 : Int) (g : Nat) (x0 x1 x2 x3 x4 x5 : Int) (W : World) : Prop := CVB gv v0 v1 v2 v3 v4 v5 W ∧ W.cell? ⟨g, 0, none⟩ = some (.int .i64 x0) ∧ W.cell? ⟨g, 1, none⟩ = some (.int .i64 x1) ∧ W.cell? ⟨g, 2, none⟩ = some (.int .i64 x2) ∧ W.cell? ⟨g, 3, none⟩ = some (.int .i64 x3) ∧ W.cell? ⟨g, 4, none⟩ = some (.int .i64 x4) ∧ W.cell? ⟨g, 5, none⟩ = some (.int .i64 x5)
theorem KI.setRow6 {w W : World} {T : Tk} {v0 v1 v2 v3 v4 v5 : Int} (h : KI w T v0 v1 v2 v3 v4 v5 W) {g : Nat} {t : TypeId} {cs : Array Value} (_ : Blk W g t cs) (hg : w.heap.size + 1 + 1 + 1 < g) (cs' : Array Value) : KI w T v0 v1 v2 v3 v4 v5 (W.setRow g cs') :=
  ⟨h.box.setRow_far (by omega) _, h.r1.setRow_far (by omega) _, h.r2.setRow_far (by omega) _, h.vb.setRow_far (by omega) _, below_setR h.bel (by omega) _⟩
theorem KI.alloc {w W : World} {T : Tk} {v0 v1 v2 v3 v4 v5 : Int} (h : KI w T v0 v1 v2 v3 v4 v5 W) (o : Obj) : KI w T v0 v1 v2 v3 v4 v5 (W.alloc o) := h.below (below_self W o)
theorem KI.drewd {w W : World} {T : Tk} {v0 v1 v2 v3 v4 v5 : Int} (h : KI w T v0 v1 v2 v3 v4 v5 W) : KI w T v0 v1 v2 v3 v4 v5 W.drew := h.below (Below.refl _ _).drew
set_option maxRecDepth 100000 in
set_option maxHeartbeats 8000000 in
theorem crack_any (T : Tk) (i : Nat) (cols : Int) (w : World) (h : T.At w) (hi : i < T.m) (h3 : 3 ≤ cols) (h10 : cols ≤ 10) : Calls Try.prog 92 #[T.val, .int .i64 i, .int .i64 cols] w fun e w' =>
    e = .returned (.tuple #[.agg #[.int .i64 (T.crackL i cols).cl, .int .i64 (T.crackL i cols).ch, .int .i64 (T.crackL i cols).fl, .int .i64 (T.crackL i cols).fh, .int .i64 (T.crackL i cols).tl, .int .i64 (T.crackL i cols).th], .agg #[.int .i64 (T.realL i cols).1, .int .i64 (T.realL i cols).2.1, .int .i64 (T.realL i cols).2.2]]) ∧ Below w.heap.size w w' := by
  have HCR : Hid (T.crackL i cols = ⟨T.cb i 0 % cols, min (cols - 1) (T.cb i 0 % cols + T.cb i 2 % 4), T.cb i 1 % 140, T.cb i 1 % 140 + T.cb i 3 % 20, T.cb i 1 % 140 + T.cb i 3 % 20 + T.cb i 4 % 40, T.cb i 1 % 140 + T.cb i 3 % 20 + T.cb i 4 % 40 + T.cb i 5 % 20⟩) := rfl
  have HRE : Hid (T.realL i cols = ((T.crackL i cols).cl + T.cb i 5 % ((T.crackL i cols).ch - (T.crackL i cols).cl + 1), (T.crackL i cols).fl + T.cb i 4 % ((T.crackL i cols).fh - (T.crackL i cols).fl + 1), (T.crackL i cols).tl + T.cb i 1 % ((T.crackL i cols).th - (T.crackL i cols).tl + 1))) := rfl
  rw [HCR.out] at HRE
  dsimp only at HRE
  have HK1 : Hid (KI w T (T.cb i 0) (T.cb i 1) (T.cb i 2) (T.cb i 3) (T.cb i 4) (T.cb i 5) ((((w.alloc (.cells #[.slice T.A T.n T.c, .int .u8 T.bend, .slice T.K T.m T.d, .int .u8 T.s0, .int .u8 T.s1, .int .u8 T.s2, .int .u8 T.s3] 83)).alloc (.cells #[.int .i64 0, .int .i64 0, .int .i64 0, .int .i64 0, .int .i64 0, .int .i64 0] 111)).alloc (.cells #[.int .i64 0, .int .i64 0, .int .i64 0] 150)).alloc (.cells #[.int .u8 (T.cb i 0), .int .u8 (T.cb i 1), .int .u8 (T.cb i 2), .int .u8 (T.cb i 3), .int .u8 (T.cb i 4), .int .u8 (T.cb i 5)] 172))) :=
    ⟨(((Blk.new w _ _ rfl).alloc _).alloc _).alloc _, ((Blk.new (w.alloc (.cells #[.slice T.A T.n T.c, .int .u8 T.bend, .slice T.K T.m T.d, .int .u8 T.s0, .int .u8 T.s1, .int .u8 T.s2, .int .u8 T.s3] 83)) _ _ (by simp)).alloc _).alloc _, (Blk.new _ _ _ (by simp)).alloc _, Blk.new _ _ _ (by simp), below_alloc' (below_alloc' (below_alloc' (below_self _ _) _) _) _⟩
  obtain ⟨kb, ko, hK, hkb, hq⟩ := (h.below (below_alloc' (below_alloc' (below_self w (.cells #[.slice T.A T.n T.c, .int .u8 T.bend, .slice T.K T.m T.d, .int .u8 T.s0, .int .u8 T.s1, .int .u8 T.s2, .int .u8 T.s3] 83)) (.cells #[.int .i64 0, .int .i64 0, .int .i64 0, .int .i64 0, .int .i64 0, .int .i64 0] 111)) (.cells #[.int .i64 0, .int .i64 0, .int .i64 0] 150))).crack hi
  have q0 := hq 0 (by omega)
  have q1 := hq 1 (by omega)
  have q2 := hq 2 (by omega)
  have q3 := hq 3 (by omega)
  have q4 := hq 4 (by omega)
  have q5 := hq 5 (by omega)
  rw [Nat.add_zero] at q0
  have bq : (((w.alloc (.cells #[.slice T.A T.n T.c, .int .u8 T.bend, .slice T.K T.m T.d, .int .u8 T.s0, .int .u8 T.s1, .int .u8 T.s2, .int .u8 T.s3] 83)).alloc (.cells #[.int .i64 0, .int .i64 0, .int .i64 0, .int .i64 0, .int .i64 0, .int .i64 0] 111)).alloc (.cells #[.int .i64 0, .int .i64 0, .int .i64 0] 150)).cell? ⟨w.heap.size, 2, none⟩ = some (.slice (some ⟨kb, ko, none⟩) T.m T.d) := by
    rw [← hK]; exact (((Blk.new w 83 #[.slice T.A T.n T.c, .int .u8 T.bend, .slice T.K T.m T.d, .int .u8 T.s0, .int .u8 T.s1, .int .u8 T.s2, .int .u8 T.s3] rfl).alloc _).alloc _).cell 2
  have y0 : Byte (T.cb i 0) := byte_getD h.bk _
  have y1 : Byte (T.cb i 1) := byte_getD h.bk _
  have y2 : Byte (T.cb i 2) := byte_getD h.bk _
  have y3 : Byte (T.cb i 3) := byte_getD h.bk _
  have y4 : Byte (T.cb i 4) := byte_getD h.bk _
  have y5 : Byte (T.cb i 5) := byte_getD h.bk _
  have hiz : (i : Int) < (T.m : Int) := by omega
  change _ = some (Value.int .u8 (T.cb i 0)) at q0
  change _ = some (Value.int .u8 (T.cb i 1)) at q1
  change _ = some (Value.int .u8 (T.cb i 2)) at q2
  change _ = some (Value.int .u8 (T.cb i 3)) at q3
  change _ = some (Value.int .u8 (T.cb i 4)) at q4
  change _ = some (Value.int .u8 (T.cb i 5)) at q5
  clear hK hq hkb h hi
  generalize T.cb i 0 = v0 at *
  generalize T.cb i 1 = v1 at *
  generalize T.cb i 2 = v2 at *
  generalize T.cb i 3 = v3 at *
  generalize T.cb i 4 = v4 at *
  generalize T.cb i 5 = v5 at *
  unfold Byte at y0 y1 y2 y3 y4 y5
  unfold Tk.val
  go_enter Try.func92, Try.ntmps92
  go_upto_region 2 with (fail)
  generalize ((((w.alloc (.cells #[.slice T.A T.n T.c, .int .u8 T.bend, .slice T.K T.m T.d, .int .u8 T.s0, .int .u8 T.s1, .int .u8 T.s2, .int .u8 T.s3] 83)).alloc (.cells #[.int .i64 0, .int .i64 0, .int .i64 0, .int .i64 0, .int .i64 0, .int .i64 0] 111)).alloc (.cells #[.int .i64 0, .int .i64 0, .int .i64 0] 150)).alloc (.cells #[.int .u8 v0, .int .u8 v1, .int .u8 v2, .int .u8 v3, .int .u8 v4, .int .u8 v5] 172)) = W1 at *
  clear q0 q1 q2 q3 q4 q5 bq hiz
  have c0 : IntKind.i64.wrap v0 = v0 := IntWalk.i64_in _ (by omega)
  have c1 : IntKind.i64.wrap v1 = v1 := IntWalk.i64_in _ (by omega)
  have c2 : IntKind.i64.wrap v2 = v2 := IntWalk.i64_in _ (by omega)
  have c3 : IntKind.i64.wrap v3 = v3 := IntWalk.i64_in _ (by omega)
  have c4 : IntKind.i64.wrap v4 = v4 := IntWalk.i64_in _ (by omega)
  have c5 : IntKind.i64.wrap v5 = v5 := IntWalk.i64_in _ (by omega)
  have m0 : v0.tmod cols = v0 % cols := Int.tmod_eq_emod_of_nonneg (by omega)
  have m1 : v1.tmod 140 = v1 % 140 := Int.tmod_eq_emod_of_nonneg (by omega)
  have m2 : v2.tmod 4 = v2 % 4 := Int.tmod_eq_emod_of_nonneg (by omega)
  have m3 : v3.tmod 20 = v3 % 20 := Int.tmod_eq_emod_of_nonneg (by omega)
  have m4 : v4.tmod 40 = v4 % 40 := Int.tmod_eq_emod_of_nonneg (by omega)
  have m5 : v5.tmod 20 = v5 % 20 := Int.tmod_eq_emod_of_nonneg (by omega)
  have d0 : 0 ≤ v0 % cols ∧ v0 % cols < cols := ⟨Int.emod_nonneg _ (by omega), Int.emod_lt_of_pos _ (by omega)⟩
  have d1 : 0 ≤ v1 % 140 ∧ v1 % 140 ≤ 139 := by omega
  have d2 : 0 ≤ v2 % 4 ∧ v2 % 4 ≤ 3 := by omega
  have d3 : 0 ≤ v3 % 20 ∧ v3 % 20 ≤ 19 := by omega
  have d4 : 0 ≤ v4 % 40 ∧ v4 % 40 ≤ 39 := by omega
  have d5 : 0 ≤ v5 % 20 ∧ v5 % 20 ≤ 19 := by omega
  generalize v0 % cols = lo at *
  generalize v1 % 140 = fr at *
  generalize v2 % 4 = a2 at *
  generalize v3 % 20 = a3 at *
  generalize v4 % 40 = a4 at *
  generalize v5 % 20 = a5 at *
  have hcz : (cols == 0) = false := by simp; omega
  have w0 : IntKind.i64.wrap lo = lo := IntWalk.i64_in _ (by omega)
  have w1 : IntKind.i64.wrap fr = fr := IntWalk.i64_in _ (by omega)
  have k1 := HK1.out.cells
  go_quiet (fail)
  have HK2 := Lib.hid (HK1.out.below (below_drewN (Below.refl _ _) nq))
  generalize W1.drewN nq = W2 at *
  clear k1 HK1 m0 m1 hcz w0 w1
  have w2 : IntKind.i64.wrap a2 = a2 := IntWalk.i64_in _ (by omega)
  have w3 : IntKind.i64.wrap a3 = a3 := IntWalk.i64_in _ (by omega)
  have w4 : IntKind.i64.wrap a4 = a4 := IntWalk.i64_in _ (by omega)
  have w5 : IntKind.i64.wrap a5 = a5 := IntWalk.i64_in _ (by omega)
  have HHI : Hid (∃ hi, hi = min (cols - 1) (lo + a2)) := ⟨_, rfl⟩
  obtain ⟨hi, hhi⟩ := HHI.out
  rw [← hhi] at HCR HRE
  clear HHI
  go_upto_region 3 with (fail)
  go_cut [11] (fun s W => ∃ g, s = .pointer (some ⟨g, 0, none⟩) ∧ KI w T v0 v1 v2 v3 v4 v5 W ∧ Blk W g 111 #[.int .i64 lo, .int .i64 hi, .int .i64 fr, .int .i64 (fr + a3), .int .i64 0, .int .i64 0] ∧ w.heap.size + 1 + 1 + 1 < g)
  case first =>
    have HX := Lib.hid (HK2.out.below (Below.refl _ _).drew)
    have KX := Lib.hid HX.out.cells
    have HSP := Lib.hid (fun a b W => lawSpan_any a b W)
    have e1 : IntKind.i64.wrap (cols - 1) = cols - 1 := IntWalk.i64_in _ (by omega)
    have e2 : IntKind.i64.wrap (lo + a2) = lo + a2 := IntWalk.i64_in _ (by omega)
    have e3 : IntKind.i64.wrap (fr + a3) = fr + a3 := IntWalk.i64_in _ (by omega)
    clear HCR HRE
    have V1 : (if lo + a2 < cols - 1 then lo + a2 else cols - 1) = hi := by rw [hhi]; split <;> omega
    clear hhi
    have HX0 := HX
    have S0 : CVB (w.heap.size + 1 + 1 + 1) v0 v1 v2 v3 v4 v5 W2.drew := HX0.out.cells
    clear HX KX
    refine wp_region_held_drew (S := CVB (w.heap.size + 1 + 1 + 1) v0 v1 v2 v3 v4 v5) (by kernel_rfl) S0 (fun _ => ?_)
    refine heldTake (i := 0) 27 (v := ?v1) rfl (by kernel_rfl) (by kernel_rfl) (by kernel_rfl) (by kernel_rfl) (fun _ _ _ h => h) (Or.inl ⟨by rfl, ?y1⟩) (by assumption) ?r1
    case y1 => (intro w hSw; obtain ⟨g0, g1, g2, g3, g4, g5⟩ := hSw; go_simp; try with_reducible rfl)
    refine heldTake (i := 1) 28 (v := ?v2) rfl (by kernel_rfl) (by kernel_rfl) (by kernel_rfl) (by kernel_rfl) (fun _ _ _ h => h) (Or.inl ⟨by rfl, ?y2⟩) (by assumption) ?r2
    case y2 => (intro w hSw; obtain ⟨g0, g1, g2, g3, g4, g5⟩ := hSw; go_simp; try with_reducible rfl)
    refine heldTake (i := 2) 29 (v := ?v3) rfl (by kernel_rfl) (by kernel_rfl) (by kernel_rfl) (by kernel_rfl) (fun _ _ _ h => h) (Or.inl ⟨by rfl, ?y3⟩) (by assumption) ?r3
    case y3 => (intro w hSw; obtain ⟨g0, g1, g2, g3, g4, g5⟩ := hSw; go_simp; try with_reducible rfl)
    refine heldTake (i := 3) 30 (v := ?v4) rfl (by kernel_rfl) (by kernel_rfl) (by kernel_rfl) (by kernel_rfl) (fun _ _ _ h => h) (Or.inl ⟨by rfl, ?y4⟩) (by assumption) ?r4
    case y4 => (intro w hSw; obtain ⟨g0, g1, g2, g3, g4, g5⟩ := hSw; go_simp; try with_reducible rfl)
    refine heldTake (i := 4) 31 (v := ?v5) rfl (by kernel_rfl) (by kernel_rfl) (by kernel_rfl) (by kernel_rfl) (fun _ _ _ h => h) (Or.inl ⟨by rfl, ?y5⟩) (by assumption) ?r5
    case y5 => (intro w hSw; obtain ⟨g0, g1, g2, g3, g4, g5⟩ := hSw; go_simp; try with_reducible rfl)
    refine heldTake (i := 5) 32 (v := ?v6) rfl (by kernel_rfl) (by kernel_rfl) (by kernel_rfl) (by kernel_rfl) (fun _ _ _ h => h) (Or.inl ⟨by rfl, ?y6⟩) (by assumption) ?r6
    case y6 => (intro w hSw; obtain ⟨g0, g1, g2, g3, g4, g5⟩ := hSw; go_simp; try with_reducible rfl)
    refine heldTake (i := 6) 33 (v := ?v7) rfl (by kernel_rfl) (by kernel_rfl) (by kernel_rfl) (by kernel_rfl) (fun _ _ _ h => h) (Or.inl ⟨by rfl, ?y7⟩) (by assumption) ?r7
    case y7 => (intro w hSw; obtain ⟨g0, g1, g2, g3, g4, g5⟩ := hSw; go_simp; try with_reducible rfl)
    refine heldTake (i := 7) 34 (v := ?v8) rfl (by kernel_rfl) (by kernel_rfl) (by kernel_rfl) (by kernel_rfl) (fun _ _ _ h => h) (Or.inl ⟨by rfl, ?y8⟩) (by assumption) ?r8
    case y8 => (intro w hSw; obtain ⟨g0, g1, g2, g3, g4, g5⟩ := hSw; go_simp; try with_reducible rfl)
    refine heldTake (i := 8) 35 (v := ?v9) rfl (by kernel_rfl) (by kernel_rfl) (by kernel_rfl) (by kernel_rfl) (fun _ _ _ h => h) (Or.inl ⟨by rfl, ?y9⟩) (by assumption) ?r9
    case y9 => (intro w hSw; obtain ⟨g0, g1, g2, g3, g4, g5⟩ := hSw; go_simp; try with_reducible rfl)
    refine heldTake (i := 11) 38 (v := ?v10) rfl (by kernel_rfl) (by kernel_rfl) (by kernel_rfl) (by kernel_rfl) (fun _ _ _ h => h) (Or.inl ⟨by rfl, ?y10⟩) (by assumption) ?r10
    case y10 => (intro w hSw; obtain ⟨g0, g1, g2, g3, g4, g5⟩ := hSw; go_simp; try with_reducible rfl)
    refine heldTake (i := 12) 39 (v := ?v11) rfl (by kernel_rfl) (by kernel_rfl) (by kernel_rfl) (by kernel_rfl) (fun _ _ _ h => h) (Or.inl ⟨by rfl, ?y11⟩) (by assumption) ?r11
    case y11 => (intro w hSw; obtain ⟨g0, g1, g2, g3, g4, g5⟩ := hSw; go_simp; try with_reducible rfl)
    refine heldTake (i := 13) 40 (v := ?v12) rfl (by kernel_rfl) (by kernel_rfl) (by kernel_rfl) (by kernel_rfl) (fun _ _ _ h => h) (Or.inl ⟨by rfl, ?y12⟩) (by assumption) ?r12
    case y12 => (intro w hSw; obtain ⟨g0, g1, g2, g3, g4, g5⟩ := hSw; go_simp; try with_reducible rfl)
    refine heldTake (i := 14) 41 (v := ?v13) rfl (by kernel_rfl) (by kernel_rfl) (by kernel_rfl) (by kernel_rfl) (fun _ _ _ h => h) (Or.inl ⟨by rfl, ?y13⟩) (by assumption) ?r13
    case y13 => (intro w hSw; obtain ⟨g0, g1, g2, g3, g4, g5⟩ := hSw; go_simp; try with_reducible rfl)
    refine heldTake (i := 15) 42 (v := ?v14) rfl (by kernel_rfl) (by kernel_rfl) (by kernel_rfl) (by kernel_rfl) (fun _ _ _ h => h) (Or.inl ⟨by rfl, ?y14⟩) (by assumption) ?r14
    case y14 => (intro w hSw; obtain ⟨g0, g1, g2, g3, g4, g5⟩ := hSw; go_simp; try with_reducible rfl)
    refine heldTake (i := 16) 43 (v := ?v15) rfl (by kernel_rfl) (by kernel_rfl) (by kernel_rfl) (by kernel_rfl) (fun _ _ _ h => h) (Or.inl ⟨by rfl, ?y15⟩) (by assumption) ?r15
    case y15 => (intro w hSw; obtain ⟨g0, g1, g2, g3, g4, g5⟩ := hSw; go_simp; try with_reducible rfl)
    refine heldTake (i := 17) 44 (v := ?v16) rfl (by kernel_rfl) (by kernel_rfl) (by kernel_rfl) (by kernel_rfl) (fun _ _ _ h => h) (Or.inl ⟨by rfl, ?y16⟩) (by assumption) ?r16
    case y16 => (intro w hSw; obtain ⟨g0, g1, g2, g3, g4, g5⟩ := hSw; go_simp; try with_reducible rfl)
    simp only [Act.put, List.setIfInBounds_toArray, List.set_cons_zero, List.set_cons_succ]
    refine wpAnyH_ready (rs := [9, 20]) (by kernel_rfl) (by simp) ?_
    refine AllReadyH.cons rfl (fun K17 hK17 => ?_) ?_
    · go_simp
      refine hK17.out _ _ (by assumption) (fun _ => ?_)
      refine wpAnyH_ready (rs := [10, 20]) (by kernel_rfl) (by simp) ?_
      refine AllReadyH.cons rfl (fun K19 hK19 => ?_) ?_
      · go_simp
        refine (HSP.out _ _ _).mono ?_
        rintro e W20 ⟨rfl, b20⟩
        have HX20 := Lib.hid (HX0.out.below b20)
        have S20 : CVB (w.heap.size + 1 + 1 + 1) v0 v1 v2 v3 v4 v5 W20 := HX20.out.cells
        clear b20 S0
        refine hK19.out _ _ S20 (fun _ => ?_)
        refine wpAnyH_ready (rs := [18, 20]) (by kernel_rfl) (by simp) ?_
        refine AllReadyH.cons rfl (fun K21 hK21 => ?_) ?_
        · go_simp
          refine (HSP.out _ _ _).mono ?_
          rintro e W22 ⟨rfl, b22⟩
          have HX22 := Lib.hid (HX20.out.below b22)
          have S22 : CVB (w.heap.size + 1 + 1 + 1) v0 v1 v2 v3 v4 v5 W22 := HX22.out.cells
          clear b22 S20
          refine hK21.out _ _ S22 (fun _ => ?_)
          refine heldTake (i := 19) 46 (v := ?v23) rfl (by kernel_rfl) (by kernel_rfl) (by kernel_rfl) (by kernel_rfl) (fun _ _ _ h => h) (Or.inl ⟨by rfl, ?y23⟩) (by assumption) ?r23
          case y23 => (intro w hSw; obtain ⟨g0, g1, g2, g3, g4, g5⟩ := hSw; go_simp; try with_reducible rfl)
          simp only [Act.put, List.setIfInBounds_toArray, List.set_cons_zero, List.set_cons_succ]
          refine wpAnyH_ready (rs := [20]) (by kernel_rfl) (by simp) ?_
          refine AllReadyH.cons rfl (fun K24 hK24 => ?_) AllReadyH.nil
          go_simp
          have HX25 := Lib.hid (HX22.out.alloc (.cells #[.int .i64 0, .int .i64 0, .int .i64 0, .int .i64 0, .int .i64 0, .int .i64 0] 111))
          have GX25 := Lib.hid (Blk.new W22 111 #[.int .i64 0, .int .i64 0, .int .i64 0, .int .i64 0, .int .i64 0, .int .i64 0] rfl)
          have HG25 := Lib.hid HX22.out.vb.lt
          refine hK24.out _ _ (show CVB (w.heap.size + 1 + 1 + 1) v0 v1 v2 v3 v4 v5 _ from HX25.out.cells) (fun hs25 => ?_)
          refine wpAnyH_ready (rs := [21]) (by kernel_rfl) (by simp) ?_
          refine AllReadyH.cons rfl (fun K26 hK26 => ?_) AllReadyH.nil
          rw [if_pos (by rfl)]
          refine wp_store_rowN rfl _ _ _ rfl _ _ rfl rfl _ _ GX25.out (by kernel_rfl) rfl (ones6 _ _ _ _ _ _) ?_
          have HX27 := Lib.hid (HX25.out.setRow6 GX25.out HG25.out #[.int .i64 lo, .int .i64 hi, .int .i64 fr, .int .i64 (fr + a3), .int .i64 0, .int .i64 0])
          refine hK26.out _ _ (show CVB (w.heap.size + 1 + 1 + 1) v0 v1 v2 v3 v4 v5 _ from HX27.out.cells) (fun _ => ?_)
          refine wpAnyH_done (by kernel_rfl) ?_ _
          go_wp2_with fail
          go_meet
          exact ⟨_, rfl, HX27.out, GX25.out.setRow _, HG25.out⟩
        refine AllReadyH.cons rfl (fun K21x hK21 => ?_) AllReadyH.nil
        go_simp
        have HX28 := Lib.hid (HX20.out.alloc (.cells #[.int .i64 0, .int .i64 0, .int .i64 0, .int .i64 0, .int .i64 0, .int .i64 0] 111))
        have GX28 := Lib.hid (Blk.new W20 111 #[.int .i64 0, .int .i64 0, .int .i64 0, .int .i64 0, .int .i64 0, .int .i64 0] rfl)
        have HG28 := Lib.hid HX20.out.vb.lt
        refine hK21.out _ _ (show CVB (w.heap.size + 1 + 1 + 1) v0 v1 v2 v3 v4 v5 _ from HX28.out.cells) (fun hs28 => ?_)
        refine wpAnyH_ready (rs := [18]) (by kernel_rfl) (by simp) ?_
        refine AllReadyH.cons rfl (fun K29 hK29 => ?_) AllReadyH.nil
        go_simp
        refine (HSP.out _ _ _).mono ?_
        rintro e W30 ⟨rfl, b30⟩
        have HX30 := Lib.hid (HX28.out.below b30)
        have GX30 := Lib.hid (blk_keep b30 GX28.out)
        have S30 : CVB (w.heap.size + 1 + 1 + 1) v0 v1 v2 v3 v4 v5 W30 := HX30.out.cells
        clear b30 hs28
        refine hK29.out _ _ S30 (fun _ => ?_)
        refine heldTake (i := 19) 46 (v := ?v31) rfl (by kernel_rfl) (by kernel_rfl) (by kernel_rfl) (by kernel_rfl) (fun _ _ _ h => h) (Or.inl ⟨by rfl, ?y31⟩) (by assumption) ?r31
        case y31 => (intro w hSw; obtain ⟨g0, g1, g2, g3, g4, g5⟩ := hSw; go_simp; try with_reducible rfl)
        simp only [Act.put, List.setIfInBounds_toArray, List.set_cons_zero, List.set_cons_succ]
        refine wpAnyH_ready (rs := [21]) (by kernel_rfl) (by simp) ?_
        refine AllReadyH.cons rfl (fun K32 hK32 => ?_) AllReadyH.nil
        rw [if_pos (by rfl)]
        refine wp_store_rowN rfl _ _ _ rfl _ _ rfl rfl _ _ GX30.out (by kernel_rfl) rfl (ones6 _ _ _ _ _ _) ?_
        have HX33 := Lib.hid (HX30.out.setRow6 GX30.out HG28.out #[.int .i64 lo, .int .i64 hi, .int .i64 fr, .int .i64 (fr + a3), .int .i64 0, .int .i64 0])
        refine hK32.out _ _ (show CVB (w.heap.size + 1 + 1 + 1) v0 v1 v2 v3 v4 v5 _ from HX33.out.cells) (fun _ => ?_)
        refine wpAnyH_done (by kernel_rfl) ?_ _
        go_wp2_with fail
        go_meet
        exact ⟨_, rfl, HX33.out, GX30.out.setRow _, HG28.out⟩
      refine AllReadyH.cons rfl (fun K19x hK19 => ?_) AllReadyH.nil
      go_simp
      have HX34 : Hid (KI w T v0 v1 v2 v3 v4 v5 (W2.alloc (.cells #[.int .i64 0, .int .i64 0, .int .i64 0, .int .i64 0, .int .i64 0, .int .i64 0] 111)).drew) := (HK2.out.alloc _).drewd
      have GX34 : Hid (Blk (W2.alloc (.cells #[.int .i64 0, .int .i64 0, .int .i64 0, .int .i64 0, .int .i64 0, .int .i64 0] 111)).drew W2.heap.size 111 #[.int .i64 0, .int .i64 0, .int .i64 0, .int .i64 0, .int .i64 0, .int .i64 0]) := Blk.newd _ _ _ rfl
      have HG34 := Lib.hid HK2.out.vb.lt
      refine hK19.out _ _ (show CVB (w.heap.size + 1 + 1 + 1) v0 v1 v2 v3 v4 v5 _ from HX34.out.cells) (fun hs34 => ?_)
      refine wpAnyH_ready (rs := [10]) (by kernel_rfl) (by simp) ?_
      refine AllReadyH.cons rfl (fun K35 hK35 => ?_) AllReadyH.nil
      go_simp
      refine (HSP.out _ _ _).mono ?_
      rintro e W36 ⟨rfl, b36⟩
      have HX36 := Lib.hid (HX34.out.below b36)
      have GX36 := Lib.hid (blk_keep b36 GX34.out)
      have S36 : CVB (w.heap.size + 1 + 1 + 1) v0 v1 v2 v3 v4 v5 W36 := HX36.out.cells
      clear b36 hs34
      refine hK35.out _ _ S36 (fun _ => ?_)
      refine wpAnyH_ready (rs := [18]) (by kernel_rfl) (by simp) ?_
      refine AllReadyH.cons rfl (fun K37 hK37 => ?_) AllReadyH.nil
      go_simp
      refine (HSP.out _ _ _).mono ?_
      rintro e W38 ⟨rfl, b38⟩
      have HX38 := Lib.hid (HX36.out.below b38)
      have GX38 := Lib.hid (blk_keep b38 GX36.out)
      have S38 : CVB (w.heap.size + 1 + 1 + 1) v0 v1 v2 v3 v4 v5 W38 := HX38.out.cells
      clear b38 S36
      refine hK37.out _ _ S38 (fun _ => ?_)
      refine heldTake (i := 19) 46 (v := ?v39) rfl (by kernel_rfl) (by kernel_rfl) (by kernel_rfl) (by kernel_rfl) (fun _ _ _ h => h) (Or.inl ⟨by rfl, ?y39⟩) (by assumption) ?r39
      case y39 => (intro w hSw; obtain ⟨g0, g1, g2, g3, g4, g5⟩ := hSw; go_simp; try with_reducible rfl)
      simp only [Act.put, List.setIfInBounds_toArray, List.set_cons_zero, List.set_cons_succ]
      refine wpAnyH_ready (rs := [21]) (by kernel_rfl) (by simp) ?_
      refine AllReadyH.cons rfl (fun K40 hK40 => ?_) AllReadyH.nil
      rw [if_pos (by rfl)]
      refine wp_store_rowN rfl _ _ _ rfl _ _ rfl rfl _ _ GX38.out (by kernel_rfl) rfl (ones6 _ _ _ _ _ _) ?_
      have HX41 := Lib.hid (HX38.out.setRow6 GX38.out HG34.out #[.int .i64 lo, .int .i64 hi, .int .i64 fr, .int .i64 (fr + a3), .int .i64 0, .int .i64 0])
      refine hK40.out _ _ (show CVB (w.heap.size + 1 + 1 + 1) v0 v1 v2 v3 v4 v5 _ from HX41.out.cells) (fun _ => ?_)
      refine wpAnyH_done (by kernel_rfl) ?_ _
      go_wp2_with fail
      go_meet
      exact ⟨_, rfl, HX41.out, GX38.out.setRow _, HG34.out⟩
    refine AllReadyH.cons rfl (fun K17x hK17 => ?_) AllReadyH.nil
    go_simp
    have HX42 : Hid (KI w T v0 v1 v2 v3 v4 v5 (W2.alloc (.cells #[.int .i64 0, .int .i64 0, .int .i64 0, .int .i64 0, .int .i64 0, .int .i64 0] 111)).drew) := (HK2.out.alloc _).drewd
    have GX42 : Hid (Blk (W2.alloc (.cells #[.int .i64 0, .int .i64 0, .int .i64 0, .int .i64 0, .int .i64 0, .int .i64 0] 111)).drew W2.heap.size 111 #[.int .i64 0, .int .i64 0, .int .i64 0, .int .i64 0, .int .i64 0, .int .i64 0]) := Blk.newd _ _ _ rfl
    have HG42 := Lib.hid HK2.out.vb.lt
    refine hK17.out _ _ (show CVB (w.heap.size + 1 + 1 + 1) v0 v1 v2 v3 v4 v5 _ from HX42.out.cells) (fun hs42 => ?_)
    refine wpAnyH_ready (rs := [9]) (by kernel_rfl) (by simp) ?_
    refine AllReadyH.cons rfl (fun K43 hK43 => ?_) AllReadyH.nil
    go_simp
    refine hK43.out _ _ (by assumption) (fun _ => ?_)
    refine wpAnyH_ready (rs := [10]) (by kernel_rfl) (by simp) ?_
    refine AllReadyH.cons rfl (fun K45 hK45 => ?_) AllReadyH.nil
    go_simp
    refine (HSP.out _ _ _).mono ?_
    rintro e W46 ⟨rfl, b46⟩
    have HX46 := Lib.hid (HX42.out.below b46)
    have GX46 := Lib.hid (blk_keep b46 GX42.out)
    have S46 : CVB (w.heap.size + 1 + 1 + 1) v0 v1 v2 v3 v4 v5 W46 := HX46.out.cells
    clear b46 hs42
    refine hK45.out _ _ S46 (fun _ => ?_)
    refine wpAnyH_ready (rs := [18]) (by kernel_rfl) (by simp) ?_
    refine AllReadyH.cons rfl (fun K47 hK47 => ?_) AllReadyH.nil
    go_simp
    refine (HSP.out _ _ _).mono ?_
    rintro e W48 ⟨rfl, b48⟩
    have HX48 := Lib.hid (HX46.out.below b48)
    have GX48 := Lib.hid (blk_keep b48 GX46.out)
    have S48 : CVB (w.heap.size + 1 + 1 + 1) v0 v1 v2 v3 v4 v5 W48 := HX48.out.cells
    clear b48 S46
    refine hK47.out _ _ S48 (fun _ => ?_)
    refine heldTake (i := 19) 46 (v := ?v49) rfl (by kernel_rfl) (by kernel_rfl) (by kernel_rfl) (by kernel_rfl) (fun _ _ _ h => h) (Or.inl ⟨by rfl, ?y49⟩) (by assumption) ?r49
    case y49 => (intro w hSw; obtain ⟨g0, g1, g2, g3, g4, g5⟩ := hSw; go_simp; try with_reducible rfl)
    simp only [Act.put, List.setIfInBounds_toArray, List.set_cons_zero, List.set_cons_succ]
    refine wpAnyH_ready (rs := [21]) (by kernel_rfl) (by simp) ?_
    refine AllReadyH.cons rfl (fun K50 hK50 => ?_) AllReadyH.nil
    rw [if_pos (by rfl)]
    refine wp_store_rowN rfl _ _ _ rfl _ _ rfl rfl _ _ GX48.out (by kernel_rfl) rfl (ones6 _ _ _ _ _ _) ?_
    have HX51 := Lib.hid (HX48.out.setRow6 GX48.out HG42.out #[.int .i64 lo, .int .i64 hi, .int .i64 fr, .int .i64 (fr + a3), .int .i64 0, .int .i64 0])
    refine hK50.out _ _ (show CVB (w.heap.size + 1 + 1 + 1) v0 v1 v2 v3 v4 v5 _ from HX51.out.cells) (fun _ => ?_)
    refine wpAnyH_done (by kernel_rfl) ?_ _
    go_wp2_with fail
    go_meet
    exact ⟨_, rfl, HX51.out, GX48.out.setRow _, HG42.out⟩
  case rest =>
    obtain ⟨g, rfl, hki, hgb, hgl⟩ := hcut
    have HK3 := Lib.hid hki
    have HG3 := Lib.hid hgb
    have HGL := Lib.hid hgl
    clear hki hgb hgl HK2
    have hb : lo ≤ hi ∧ hi ≤ 9 := by omega
    have hbf : fr ≤ fr + a3 ∧ fr + a3 ≤ 158 := by omega
    clear hhi
    generalize fr + a3 = fh at *
    have hbt : fh ≤ fh + a4 ∧ fh + a4 ≤ 197 := by omega
    obtain ⟨tl, htl⟩ : ∃ t, t = fh + a4 := ⟨_, rfl⟩
    have n4 : IntKind.i64.wrap (fh + a4) = tl := by rw [htl]; exact IntWalk.i64_in _ (by omega)
    rw [← htl] at HCR HRE hbt
    clear htl
    have hbh : tl ≤ tl + a5 ∧ tl + a5 ≤ 216 := by omega
    obtain ⟨th, hth⟩ : ∃ t, t = tl + a5 := ⟨_, rfl⟩
    have n5 : IntKind.i64.wrap (tl + a5) = th := by rw [hth]; exact IntWalk.i64_in _ (by omega)
    rw [← hth] at HCR HRE hbh
    clear hth
    have k3 := HK3.out.cells
    have x3 := HG3.out.cell
    have y4 := HG3.out.frozen 4
    have y5' := HG3.out.frozen 5
    have HSP := Lib.hid (fun a b W => lawSpan_any a b W)
    have HG4 := HG3
    go_wp2_with fail
    refine (HSP.out _ _ _).mono ?_
    rintro e W6 ⟨rfl, b6⟩
    have HK4 := Lib.hid (HK3.out.below b6)
    have HG5 := Lib.hid (blk_keep b6 HG3.out)
    clear b6 k3 x3 y4 y5' HK3 HG3 HG4 HSP
    have x4 := HG5.out.cell
    have y4 := HG5.out.frozen 4
    have y5' := HG5.out.frozen 5
    have HK5 := Lib.hid ((HK4.out.set HGL.out 4 (.int .i64 tl)).set HGL.out 5 (.int .i64 th))
    have HG6 : Hid (Blk ((W6.setCell ⟨g, 4, none⟩ (.int .i64 tl)).setCell ⟨g, 5, none⟩ (.int .i64 th)) g 111 #[.int .i64 lo, .int .i64 hi, .int .i64 fr, .int .i64 fh, .int .i64 tl, .int .i64 th]) := (HG5.out.set_ 4 _).set_ 5 _
    go_upto_region 6 with (fail)
    generalize (W6.setCell ⟨g, 4, none⟩ (.int .i64 tl)).setCell ⟨g, 5, none⟩ (.int .i64 th) = W7 at *
    clear x4 y4 y5' HK4 HG5 n4 n5 c2 c3 m2 m3 m4 m5 w2 w3 w4 w5
    obtain ⟨e4, qe4⟩ : ∃ t, t = hi - lo := ⟨_, rfl⟩
    have p1 : IntKind.i64.wrap (hi - lo) = e4 := by rw [qe4]; exact IntWalk.i64_in _ (by omega)
    rw [← qe4] at HRE
    have be4 : 0 ≤ e4 ∧ e4 ≤ 900 := by omega
    obtain ⟨e1, qe1⟩ : ∃ t, t = e4 + 1 := ⟨_, rfl⟩
    have pp1 : IntKind.i64.wrap (e4 + 1) = e1 := by rw [qe1]; exact IntWalk.i64_in _ (by omega)
    rw [← qe1] at HRE
    have z1 : (e1 == 0) = false := by simp; omega
    have zz1 : (e1 = 0) = False := by simp; omega
    obtain ⟨f1, qf1⟩ : ∃ t, t = v5 % e1 := ⟨_, rfl⟩
    have t1 : v5.tmod e1 = f1 := by rw [qf1]; exact Int.tmod_eq_emod_of_nonneg (by omega)
    rw [← qf1] at HRE
    have l1 : 0 ≤ f1 ∧ f1 < e1 := by rw [qf1]; exact ⟨Int.emod_nonneg _ (by omega), Int.emod_lt_of_pos _ (by omega)⟩
    have o1 : IntKind.i64.wrap f1 = f1 := IntWalk.i64_in _ (by omega)
    obtain ⟨r1, qr1⟩ : ∃ t, t = lo + f1 := ⟨_, rfl⟩
    have s1 : IntKind.i64.wrap (lo + f1) = r1 := by rw [qr1]; exact IntWalk.i64_in _ (by omega)
    rw [← qr1] at HRE
    obtain ⟨e5, qe5⟩ : ∃ t, t = fh - fr := ⟨_, rfl⟩
    have p2 : IntKind.i64.wrap (fh - fr) = e5 := by rw [qe5]; exact IntWalk.i64_in _ (by omega)
    rw [← qe5] at HRE
    have be5 : 0 ≤ e5 ∧ e5 ≤ 900 := by omega
    obtain ⟨e2, qe2⟩ : ∃ t, t = e5 + 1 := ⟨_, rfl⟩
    have pp2 : IntKind.i64.wrap (e5 + 1) = e2 := by rw [qe2]; exact IntWalk.i64_in _ (by omega)
    rw [← qe2] at HRE
    have z2 : (e2 == 0) = false := by simp; omega
    have zz2 : (e2 = 0) = False := by simp; omega
    obtain ⟨f2, qf2⟩ : ∃ t, t = v4 % e2 := ⟨_, rfl⟩
    have t2 : v4.tmod e2 = f2 := by rw [qf2]; exact Int.tmod_eq_emod_of_nonneg (by omega)
    rw [← qf2] at HRE
    have l2 : 0 ≤ f2 ∧ f2 < e2 := by rw [qf2]; exact ⟨Int.emod_nonneg _ (by omega), Int.emod_lt_of_pos _ (by omega)⟩
    have o2 : IntKind.i64.wrap f2 = f2 := IntWalk.i64_in _ (by omega)
    obtain ⟨r2, qr2⟩ : ∃ t, t = fr + f2 := ⟨_, rfl⟩
    have s2 : IntKind.i64.wrap (fr + f2) = r2 := by rw [qr2]; exact IntWalk.i64_in _ (by omega)
    rw [← qr2] at HRE
    obtain ⟨e6, qe6⟩ : ∃ t, t = th - tl := ⟨_, rfl⟩
    have p3 : IntKind.i64.wrap (th - tl) = e6 := by rw [qe6]; exact IntWalk.i64_in _ (by omega)
    rw [← qe6] at HRE
    have be6 : 0 ≤ e6 ∧ e6 ≤ 900 := by omega
    obtain ⟨e3, qe3⟩ : ∃ t, t = e6 + 1 := ⟨_, rfl⟩
    have pp3 : IntKind.i64.wrap (e6 + 1) = e3 := by rw [qe3]; exact IntWalk.i64_in _ (by omega)
    rw [← qe3] at HRE
    have z3 : (e3 == 0) = false := by simp; omega
    have zz3 : (e3 = 0) = False := by simp; omega
    obtain ⟨f3, qf3⟩ : ∃ t, t = v1 % e3 := ⟨_, rfl⟩
    have t3 : v1.tmod e3 = f3 := by rw [qf3]; exact Int.tmod_eq_emod_of_nonneg (by omega)
    rw [← qf3] at HRE
    have l3 : 0 ≤ f3 ∧ f3 < e3 := by rw [qf3]; exact ⟨Int.emod_nonneg _ (by omega), Int.emod_lt_of_pos _ (by omega)⟩
    have o3 : IntKind.i64.wrap f3 = f3 := IntWalk.i64_in _ (by omega)
    obtain ⟨r3, qr3⟩ : ∃ t, t = tl + f3 := ⟨_, rfl⟩
    have s3 : IntKind.i64.wrap (tl + f3) = r3 := by rw [qr3]; exact IntWalk.i64_in _ (by omega)
    rw [← qr3] at HRE
    clear qe1 qe2 qe3 qe4 qe5 qe6 qf1 qf2 qf3 qr1 qr2 qr3 l1 l2 l3 be4 be5 be6 hb hbf hbt hbh d0 d1 d2 d3 d4 d5 y0 y1 y2 y3
    have HX6 := Lib.hid (HK5.out.below (Below.refl _ _).drew)
    have GX6 := Lib.hid (blk_keep (Below.refl _ _).drew HG6.out)
    have S6 : HV6 (w.heap.size + 1 + 1 + 1) v0 v1 v2 v3 v4 v5 g lo hi fr fh tl th W7.drew := ⟨HX6.out.cells, GX6.out.cell 0, GX6.out.cell 1, GX6.out.cell 2, GX6.out.cell 3, GX6.out.cell 4, GX6.out.cell 5⟩
    clear HK5 HG6
    refine wp_region_held_drew (S := HV6 (w.heap.size + 1 + 1 + 1) v0 v1 v2 v3 v4 v5 g lo hi fr fh tl th) (by kernel_rfl) S6 (fun _ => ?_)
    refine heldTake (i := 0) 64 (v := ?v1001) rfl (by kernel_rfl) (by kernel_rfl) (by kernel_rfl) (by kernel_rfl) (fun _ _ _ h => h) (Or.inl ⟨by rfl, ?y1001⟩) (by assumption) ?r1001
    case y1001 => (intro w hSw; obtain ⟨⟨g0, g1, g2, g3, g4, g5⟩, g6, g7, g8, g9, ga, gb⟩ := hSw; go_simp; try with_reducible rfl)
    refine heldTake (i := 1) 65 (v := ?v1002) rfl (by kernel_rfl) (by kernel_rfl) (by kernel_rfl) (by kernel_rfl) (fun _ _ _ h => h) (Or.inl ⟨by rfl, ?y1002⟩) (by assumption) ?r1002
    case y1002 => (intro w hSw; obtain ⟨⟨g0, g1, g2, g3, g4, g5⟩, g6, g7, g8, g9, ga, gb⟩ := hSw; go_simp; try with_reducible rfl)
    refine heldTake (i := 2) 66 (v := ?v1003) rfl (by kernel_rfl) (by kernel_rfl) (by kernel_rfl) (by kernel_rfl) (fun _ _ _ h => h) (Or.inl ⟨by rfl, ?y1003⟩) (by assumption) ?r1003
    case y1003 => (intro w hSw; obtain ⟨⟨g0, g1, g2, g3, g4, g5⟩, g6, g7, g8, g9, ga, gb⟩ := hSw; go_simp; try with_reducible rfl)
    refine heldTake (i := 3) 67 (v := ?v1004) rfl (by kernel_rfl) (by kernel_rfl) (by kernel_rfl) (by kernel_rfl) (fun _ _ _ h => h) (Or.inl ⟨by rfl, ?y1004⟩) (by assumption) ?r1004
    case y1004 => (intro w hSw; obtain ⟨⟨g0, g1, g2, g3, g4, g5⟩, g6, g7, g8, g9, ga, gb⟩ := hSw; go_simp; try with_reducible rfl)
    refine heldTake (i := 4) 68 (v := ?v1005) rfl (by kernel_rfl) (by kernel_rfl) (by kernel_rfl) (by kernel_rfl) (fun _ _ _ h => h) (Or.inl ⟨by rfl, ?y1005⟩) (by assumption) ?r1005
    case y1005 => (intro w hSw; obtain ⟨⟨g0, g1, g2, g3, g4, g5⟩, g6, g7, g8, g9, ga, gb⟩ := hSw; go_simp; try with_reducible rfl)
    refine heldTake (i := 5) 69 (v := ?v1006) rfl (by kernel_rfl) (by kernel_rfl) (by kernel_rfl) (by kernel_rfl) (fun _ _ _ h => h) (Or.inl ⟨by rfl, ?y1006⟩) (by assumption) ?r1006
    case y1006 => (intro w hSw; obtain ⟨⟨g0, g1, g2, g3, g4, g5⟩, g6, g7, g8, g9, ga, gb⟩ := hSw; go_simp; try with_reducible rfl)
    refine heldTake (i := 6) 70 (v := ?v1007) rfl (by kernel_rfl) (by kernel_rfl) (by kernel_rfl) (by kernel_rfl) (fun _ _ _ h => h) (Or.inl ⟨by rfl, ?y1007⟩) (by assumption) ?r1007
    case y1007 => (intro w hSw; obtain ⟨⟨g0, g1, g2, g3, g4, g5⟩, g6, g7, g8, g9, ga, gb⟩ := hSw; go_simp; try with_reducible rfl)
    refine heldTake (i := 7) 71 (v := ?v1008) rfl (by kernel_rfl) (by kernel_rfl) (by kernel_rfl) (by kernel_rfl) (fun _ _ _ h => h) (Or.inl ⟨by rfl, ?y1008⟩) (by assumption) ?r1008
    case y1008 => (intro w hSw; obtain ⟨⟨g0, g1, g2, g3, g4, g5⟩, g6, g7, g8, g9, ga, gb⟩ := hSw; go_simp; try with_reducible rfl)
    refine heldTake (i := 8) 72 (v := ?v1009) rfl (by kernel_rfl) (by kernel_rfl) (by kernel_rfl) (by kernel_rfl) (fun _ _ _ h => h) (Or.inl ⟨by rfl, ?y1009⟩) (by assumption) ?r1009
    case y1009 => (intro w hSw; obtain ⟨⟨g0, g1, g2, g3, g4, g5⟩, g6, g7, g8, g9, ga, gb⟩ := hSw; go_simp; try with_reducible rfl)
    refine heldTake (i := 9) 73 (v := ?v1010) rfl (by kernel_rfl) (by kernel_rfl) (by kernel_rfl) (by kernel_rfl) (fun _ _ _ h => h) (Or.inl ⟨by rfl, ?y1010⟩) (by assumption) ?r1010
    case y1010 => (intro w hSw; obtain ⟨⟨g0, g1, g2, g3, g4, g5⟩, g6, g7, g8, g9, ga, gb⟩ := hSw; go_simp; try with_reducible rfl)
    refine heldTake (i := 10) 74 (v := ?v1011) rfl (by kernel_rfl) (by kernel_rfl) (by kernel_rfl) (by kernel_rfl) (fun _ _ _ h => h) (Or.inl ⟨by rfl, ?y1011⟩) (by assumption) ?r1011
    case y1011 => (intro w hSw; obtain ⟨⟨g0, g1, g2, g3, g4, g5⟩, g6, g7, g8, g9, ga, gb⟩ := hSw; go_simp; try with_reducible rfl)
    refine heldTake (i := 11) 75 (v := ?v1012) rfl (by kernel_rfl) (by kernel_rfl) (by kernel_rfl) (by kernel_rfl) (fun _ _ _ h => h) (Or.inl ⟨by rfl, ?y1012⟩) (by assumption) ?r1012
    case y1012 => (intro w hSw; obtain ⟨⟨g0, g1, g2, g3, g4, g5⟩, g6, g7, g8, g9, ga, gb⟩ := hSw; go_simp; try with_reducible rfl)
    refine heldTake (i := 12) 76 (v := ?v1013) rfl (by kernel_rfl) (by kernel_rfl) (by kernel_rfl) (by kernel_rfl) (fun _ _ _ h => h) (Or.inl ⟨by rfl, ?y1013⟩) (by assumption) ?r1013
    case y1013 => (intro w hSw; obtain ⟨⟨g0, g1, g2, g3, g4, g5⟩, g6, g7, g8, g9, ga, gb⟩ := hSw; go_simp; try with_reducible rfl)
    refine heldTake (i := 13) 77 (v := ?v1014) rfl (by kernel_rfl) (by kernel_rfl) (by kernel_rfl) (by kernel_rfl) (fun _ _ _ h => h) (Or.inl ⟨by rfl, ?y1014⟩) (by assumption) ?r1014
    case y1014 => (intro w hSw; obtain ⟨⟨g0, g1, g2, g3, g4, g5⟩, g6, g7, g8, g9, ga, gb⟩ := hSw; go_simp; try with_reducible rfl)
    refine heldTake (i := 14) 78 (v := ?v1015) rfl (by kernel_rfl) (by kernel_rfl) (by kernel_rfl) (by kernel_rfl) (fun _ _ _ h => h) (Or.inl ⟨by rfl, ?y1015⟩) (by assumption) ?r1015
    case y1015 => (intro w hSw; obtain ⟨⟨g0, g1, g2, g3, g4, g5⟩, g6, g7, g8, g9, ga, gb⟩ := hSw; go_simp; try with_reducible rfl)
    refine heldTake (i := 15) 79 (v := ?v1016) rfl (by kernel_rfl) (by kernel_rfl) (by kernel_rfl) (by kernel_rfl) (fun _ _ _ h => h) (Or.inl ⟨by rfl, ?y1016⟩) (by assumption) ?r1016
    case y1016 => (intro w hSw; obtain ⟨⟨g0, g1, g2, g3, g4, g5⟩, g6, g7, g8, g9, ga, gb⟩ := hSw; go_simp; try with_reducible rfl)
    refine heldTake (i := 16) 80 (v := ?v1017) rfl (by kernel_rfl) (by kernel_rfl) (by kernel_rfl) (by kernel_rfl) (fun _ _ _ h => h) (Or.inl ⟨by rfl, ?y1017⟩) (by assumption) ?r1017
    case y1017 => (intro w hSw; obtain ⟨⟨g0, g1, g2, g3, g4, g5⟩, g6, g7, g8, g9, ga, gb⟩ := hSw; go_simp; try with_reducible rfl)
    refine heldTake (i := 17) 81 (v := ?v1018) rfl (by kernel_rfl) (by kernel_rfl) (by kernel_rfl) (by kernel_rfl) (fun _ _ _ h => h) (Or.inl ⟨by rfl, ?y1018⟩) (by assumption) ?r1018
    case y1018 => (intro w hSw; obtain ⟨⟨g0, g1, g2, g3, g4, g5⟩, g6, g7, g8, g9, ga, gb⟩ := hSw; go_simp; try with_reducible rfl)
    refine heldTake (i := 18) 82 (v := ?v1019) rfl (by kernel_rfl) (by kernel_rfl) (by kernel_rfl) (by kernel_rfl) (fun _ _ _ h => h) (Or.inl ⟨by rfl, ?y1019⟩) (by assumption) ?r1019
    case y1019 => (intro w hSw; obtain ⟨⟨g0, g1, g2, g3, g4, g5⟩, g6, g7, g8, g9, ga, gb⟩ := hSw; go_simp; try with_reducible rfl)
    refine heldTake (i := 19) 83 (v := ?v1020) rfl (by kernel_rfl) (by kernel_rfl) (by kernel_rfl) (by kernel_rfl) (fun _ _ _ h => h) (Or.inl ⟨by rfl, ?y1020⟩) (by assumption) ?r1020
    case y1020 => (intro w hSw; obtain ⟨⟨g0, g1, g2, g3, g4, g5⟩, g6, g7, g8, g9, ga, gb⟩ := hSw; go_simp; try with_reducible rfl)
    refine heldTake (i := 20) 84 (v := ?v1021) rfl (by kernel_rfl) (by kernel_rfl) (by kernel_rfl) (by kernel_rfl) (fun _ _ _ h => h) (Or.inl ⟨by rfl, ?y1021⟩) (by assumption) ?r1021
    case y1021 => (intro w hSw; obtain ⟨⟨g0, g1, g2, g3, g4, g5⟩, g6, g7, g8, g9, ga, gb⟩ := hSw; go_simp; try with_reducible rfl)
    refine heldTake (i := 21) 85 (v := ?v1022) rfl (by kernel_rfl) (by kernel_rfl) (by kernel_rfl) (by kernel_rfl) (fun _ _ _ h => h) (Or.inl ⟨by rfl, ?y1022⟩) (by assumption) ?r1022
    case y1022 => (intro w hSw; obtain ⟨⟨g0, g1, g2, g3, g4, g5⟩, g6, g7, g8, g9, ga, gb⟩ := hSw; go_simp; try with_reducible rfl)
    refine heldTake (i := 22) 86 (v := ?v1023) rfl (by kernel_rfl) (by kernel_rfl) (by kernel_rfl) (by kernel_rfl) (fun _ _ _ h => h) (Or.inl ⟨by rfl, ?y1023⟩) (by assumption) ?r1023
    case y1023 => (intro w hSw; obtain ⟨⟨g0, g1, g2, g3, g4, g5⟩, g6, g7, g8, g9, ga, gb⟩ := hSw; go_simp; try with_reducible rfl)
    refine heldTake (i := 23) 87 (v := ?v1024) rfl (by kernel_rfl) (by kernel_rfl) (by kernel_rfl) (by kernel_rfl) (fun _ _ _ h => h) (Or.inl ⟨by rfl, ?y1024⟩) (by assumption) ?r1024
    case y1024 => (intro w hSw; obtain ⟨⟨g0, g1, g2, g3, g4, g5⟩, g6, g7, g8, g9, ga, gb⟩ := hSw; go_simp; try with_reducible rfl)
    refine heldTake (i := 24) 88 (v := ?v1025) rfl (by kernel_rfl) (by kernel_rfl) (by kernel_rfl) (by kernel_rfl) (fun _ _ _ h => h) (Or.inl ⟨by rfl, ?y1025⟩) (by assumption) ?r1025
    case y1025 => (intro w hSw; obtain ⟨⟨g0, g1, g2, g3, g4, g5⟩, g6, g7, g8, g9, ga, gb⟩ := hSw; go_simp; try with_reducible rfl)
    refine heldTake (i := 25) 89 (v := ?v1026) rfl (by kernel_rfl) (by kernel_rfl) (by kernel_rfl) (by kernel_rfl) (fun _ _ _ h => h) (Or.inl ⟨by rfl, ?y1026⟩) (by assumption) ?r1026
    case y1026 => (intro w hSw; obtain ⟨⟨g0, g1, g2, g3, g4, g5⟩, g6, g7, g8, g9, ga, gb⟩ := hSw; go_simp; try with_reducible rfl)
    refine heldTake (i := 26) 90 (v := ?v1027) rfl (by kernel_rfl) (by kernel_rfl) (by kernel_rfl) (by kernel_rfl) (fun _ _ _ h => h) (Or.inl ⟨by rfl, ?y1027⟩) (by assumption) ?r1027
    case y1027 => (intro w hSw; obtain ⟨⟨g0, g1, g2, g3, g4, g5⟩, g6, g7, g8, g9, ga, gb⟩ := hSw; go_simp; try with_reducible rfl)
    refine heldTake (i := 27) 91 (v := ?v1028) rfl (by kernel_rfl) (by kernel_rfl) (by kernel_rfl) (by kernel_rfl) (fun _ _ _ h => h) (Or.inl ⟨by rfl, ?y1028⟩) (by assumption) ?r1028
    case y1028 => (intro w hSw; obtain ⟨⟨g0, g1, g2, g3, g4, g5⟩, g6, g7, g8, g9, ga, gb⟩ := hSw; go_simp; try with_reducible rfl)
    refine heldTake (i := 28) 92 (v := ?v1029) rfl (by kernel_rfl) (by kernel_rfl) (by kernel_rfl) (by kernel_rfl) (fun _ _ _ h => h) (Or.inl ⟨by rfl, ?y1029⟩) (by assumption) ?r1029
    case y1029 => (intro w hSw; obtain ⟨⟨g0, g1, g2, g3, g4, g5⟩, g6, g7, g8, g9, ga, gb⟩ := hSw; go_simp; try with_reducible rfl)
    refine heldTake (i := 29) 93 (v := ?v1030) rfl (by kernel_rfl) (by kernel_rfl) (by kernel_rfl) (by kernel_rfl) (fun _ _ _ h => h) (Or.inl ⟨by rfl, ?y1030⟩) (by assumption) ?r1030
    case y1030 => (intro w hSw; obtain ⟨⟨g0, g1, g2, g3, g4, g5⟩, g6, g7, g8, g9, ga, gb⟩ := hSw; go_simp; try with_reducible rfl)
    refine heldTake (i := 30) 94 (v := ?v1031) rfl (by kernel_rfl) (by kernel_rfl) (by kernel_rfl) (by kernel_rfl) (fun _ _ _ h => h) (Or.inl ⟨by rfl, ?y1031⟩) (by assumption) ?r1031
    case y1031 => (intro w hSw; obtain ⟨⟨g0, g1, g2, g3, g4, g5⟩, g6, g7, g8, g9, ga, gb⟩ := hSw; go_simp; try with_reducible rfl)
    refine heldTake (i := 31) 95 (v := ?v1032) rfl (by kernel_rfl) (by kernel_rfl) (by kernel_rfl) (by kernel_rfl) (fun _ _ _ h => h) (Or.inl ⟨by rfl, ?y1032⟩) (by assumption) ?r1032
    case y1032 => (intro w hSw; obtain ⟨⟨g0, g1, g2, g3, g4, g5⟩, g6, g7, g8, g9, ga, gb⟩ := hSw; go_simp; try with_reducible rfl)
    refine heldTake (i := 32) 96 (v := ?v1033) rfl (by kernel_rfl) (by kernel_rfl) (by kernel_rfl) (by kernel_rfl) (fun _ _ _ h => h) (Or.inl ⟨by rfl, ?y1033⟩) (by assumption) ?r1033
    case y1033 => (intro w hSw; obtain ⟨⟨g0, g1, g2, g3, g4, g5⟩, g6, g7, g8, g9, ga, gb⟩ := hSw; go_simp; try with_reducible rfl)
    refine heldTake (i := 33) 97 (v := ?v1034) rfl (by kernel_rfl) (by kernel_rfl) (by kernel_rfl) (by kernel_rfl) (fun _ _ _ h => h) (Or.inl ⟨by rfl, ?y1034⟩) (by assumption) ?r1034
    case y1034 => (intro w hSw; obtain ⟨⟨g0, g1, g2, g3, g4, g5⟩, g6, g7, g8, g9, ga, gb⟩ := hSw; go_simp; try with_reducible rfl)
    refine heldTake (i := 34) 98 (v := ?v1035) rfl (by kernel_rfl) (by kernel_rfl) (by kernel_rfl) (by kernel_rfl) (fun _ _ _ h => h) (Or.inl ⟨by rfl, ?y1035⟩) (by assumption) ?r1035
    case y1035 => (intro w hSw; obtain ⟨⟨g0, g1, g2, g3, g4, g5⟩, g6, g7, g8, g9, ga, gb⟩ := hSw; go_simp; try with_reducible rfl)
    refine heldTake (i := 35) 99 (v := ?v1036) rfl (by kernel_rfl) (by kernel_rfl) (by kernel_rfl) (by kernel_rfl) (fun _ _ _ h => h) (Or.inl ⟨by rfl, ?y1036⟩) (by assumption) ?r1036
    case y1036 => (intro w hSw; obtain ⟨⟨g0, g1, g2, g3, g4, g5⟩, g6, g7, g8, g9, ga, gb⟩ := hSw; go_simp; try with_reducible rfl)
    refine heldTake (i := 36) 100 (v := ?v1037) rfl (by kernel_rfl) (by kernel_rfl) (by kernel_rfl) (by kernel_rfl) (fun _ _ _ h => h) (Or.inl ⟨by rfl, ?y1037⟩) (by assumption) ?r1037
    case y1037 => (intro w hSw; obtain ⟨⟨g0, g1, g2, g3, g4, g5⟩, g6, g7, g8, g9, ga, gb⟩ := hSw; go_simp; try with_reducible rfl)
    refine heldTake (i := 37) 101 (v := ?v1038) rfl (by kernel_rfl) (by kernel_rfl) (by kernel_rfl) (by kernel_rfl) (fun _ _ _ h => h) (Or.inl ⟨by rfl, ?y1038⟩) (by assumption) ?r1038
    case y1038 => (intro w hSw; obtain ⟨⟨g0, g1, g2, g3, g4, g5⟩, g6, g7, g8, g9, ga, gb⟩ := hSw; go_simp; try with_reducible rfl)
    refine heldTake (i := 38) 102 (v := ?v1039) rfl (by kernel_rfl) (by kernel_rfl) (by kernel_rfl) (by kernel_rfl) (fun _ _ _ h => h) (Or.inl ⟨by rfl, ?y1039⟩) (by assumption) ?r1039
    case y1039 => (intro w hSw; obtain ⟨⟨g0, g1, g2, g3, g4, g5⟩, g6, g7, g8, g9, ga, gb⟩ := hSw; go_simp; try with_reducible rfl)
    refine heldTake (i := 39) 103 (v := ?v1040) rfl (by kernel_rfl) (by kernel_rfl) (by kernel_rfl) (by kernel_rfl) (fun _ _ _ h => h) (Or.inl ⟨by rfl, ?y1040⟩) (by assumption) ?r1040
    case y1040 => (intro w hSw; obtain ⟨⟨g0, g1, g2, g3, g4, g5⟩, g6, g7, g8, g9, ga, gb⟩ := hSw; go_simp; try with_reducible rfl)
    refine heldTake (i := 40) 104 (v := ?v1041) rfl (by kernel_rfl) (by kernel_rfl) (by kernel_rfl) (by kernel_rfl) (fun _ _ _ h => h) (Or.inl ⟨by rfl, ?y1041⟩) (by assumption) ?r1041
    case y1041 => (intro w hSw; obtain ⟨⟨g0, g1, g2, g3, g4, g5⟩, g6, g7, g8, g9, ga, gb⟩ := hSw; go_simp; try with_reducible rfl)
    refine heldTake (i := 41) 105 (v := ?v1042) rfl (by kernel_rfl) (by kernel_rfl) (by kernel_rfl) (by kernel_rfl) (fun _ _ _ h => h) (Or.inl ⟨by rfl, ?y1042⟩) (by assumption) ?r1042
    case y1042 => (intro w hSw; obtain ⟨⟨g0, g1, g2, g3, g4, g5⟩, g6, g7, g8, g9, ga, gb⟩ := hSw; go_simp; try with_reducible rfl)
    refine heldTake (i := 42) 106 (v := ?v1043) rfl (by kernel_rfl) (by kernel_rfl) (by kernel_rfl) (by kernel_rfl) (fun _ _ _ h => h) (Or.inl ⟨by rfl, ?y1043⟩) (by assumption) ?r1043
    case y1043 => (intro w hSw; obtain ⟨⟨g0, g1, g2, g3, g4, g5⟩, g6, g7, g8, g9, ga, gb⟩ := hSw; go_simp; try with_reducible rfl)
    refine heldTake (i := 43) 107 (v := ?v1044) rfl (by kernel_rfl) (by kernel_rfl) (by kernel_rfl) (by kernel_rfl) (fun _ _ _ h => h) (Or.inl ⟨by rfl, ?y1044⟩) (by assumption) ?r1044
    case y1044 => (intro w hSw; obtain ⟨⟨g0, g1, g2, g3, g4, g5⟩, g6, g7, g8, g9, ga, gb⟩ := hSw; go_simp; try with_reducible rfl)
    refine heldTake (i := 44) 108 (v := ?v1045) rfl (by kernel_rfl) (by kernel_rfl) (by kernel_rfl) (by kernel_rfl) (fun _ _ _ h => h) (Or.inl ⟨by rfl, ?y1045⟩) (by assumption) ?r1045
    case y1045 => (intro w hSw; obtain ⟨⟨g0, g1, g2, g3, g4, g5⟩, g6, g7, g8, g9, ga, gb⟩ := hSw; go_simp; try with_reducible rfl)
    refine heldTake (i := 45) 109 (v := ?v1046) rfl (by kernel_rfl) (by kernel_rfl) (by kernel_rfl) (by kernel_rfl) (fun _ _ _ h => h) (Or.inl ⟨by rfl, ?y1046⟩) (by assumption) ?r1046
    case y1046 => (intro w hSw; obtain ⟨⟨g0, g1, g2, g3, g4, g5⟩, g6, g7, g8, g9, ga, gb⟩ := hSw; go_simp; try with_reducible rfl)
    refine heldTake (i := 46) 110 (v := ?v1047) rfl (by kernel_rfl) (by kernel_rfl) (by kernel_rfl) (by kernel_rfl) (fun _ _ _ h => h) (Or.inl ⟨by rfl, ?y1047⟩) (by assumption) ?r1047
    case y1047 => (intro w hSw; obtain ⟨⟨g0, g1, g2, g3, g4, g5⟩, g6, g7, g8, g9, ga, gb⟩ := hSw; go_simp; try with_reducible rfl)
    refine heldTake (i := 47) 111 (v := ?v1048) rfl (by kernel_rfl) (by kernel_rfl) (by kernel_rfl) (by kernel_rfl) (fun _ _ _ h => h) (Or.inl ⟨by rfl, ?y1048⟩) (by assumption) ?r1048
    case y1048 => (intro w hSw; obtain ⟨⟨g0, g1, g2, g3, g4, g5⟩, g6, g7, g8, g9, ga, gb⟩ := hSw; go_simp; try with_reducible rfl)
    refine heldTake (i := 48) 112 (v := ?v1049) rfl (by kernel_rfl) (by kernel_rfl) (by kernel_rfl) (by kernel_rfl) (fun _ _ _ h => h) (Or.inl ⟨by rfl, ?y1049⟩) (by assumption) ?r1049
    case y1049 => (intro w hSw; obtain ⟨⟨g0, g1, g2, g3, g4, g5⟩, g6, g7, g8, g9, ga, gb⟩ := hSw; go_simp; try with_reducible rfl)
    refine heldTake (i := 49) 113 (v := ?v1050) rfl (by kernel_rfl) (by kernel_rfl) (by kernel_rfl) (by kernel_rfl) (fun _ _ _ h => h) (Or.inl ⟨by rfl, ?y1050⟩) (by assumption) ?r1050
    case y1050 => (intro w hSw; obtain ⟨⟨g0, g1, g2, g3, g4, g5⟩, g6, g7, g8, g9, ga, gb⟩ := hSw; go_simp; try with_reducible rfl)
    simp only [Act.put, List.setIfInBounds_toArray, List.set_cons_zero, List.set_cons_succ]
    refine wpAnyH_ready (rs := [50]) (by kernel_rfl) (by simp) ?_
    refine AllReadyH.cons rfl (fun K hK => ?_) AllReadyH.nil
    rw [if_pos (by rfl)]
    have U1 := Lib.hid (HX6.out.r1.setRow #[.int .i64 lo, .int .i64 hi, .int .i64 fr, .int .i64 fh, .int .i64 tl, .int .i64 th])
    have U2 := Lib.hid (HX6.out.r2.setRow_far (g' := w.heap.size + 1) (by omega) #[.int .i64 lo, .int .i64 hi, .int .i64 fr, .int .i64 fh, .int .i64 tl, .int .i64 th])
    have UV := Lib.hid (HX6.out.vb.setRow_far (g' := w.heap.size + 1) (by omega) #[.int .i64 lo, .int .i64 hi, .int .i64 fr, .int .i64 fh, .int .i64 tl, .int .i64 th])
    have UG := Lib.hid (GX6.out.setRow_far (g' := w.heap.size + 1) (by have := HGL.out; omega) #[.int .i64 lo, .int .i64 hi, .int .i64 fr, .int .i64 fh, .int .i64 tl, .int .i64 th])
    have UB := Lib.hid (below_setR HX6.out.bel (g := w.heap.size + 1) (by omega) #[.int .i64 lo, .int .i64 hi, .int .i64 fr, .int .i64 fh, .int .i64 tl, .int .i64 th])
    have HX6r := Lib.hid HX6.out.r1
    clear HX6 GX6
    refine wp_store_rowN rfl _ _ _ rfl _ _ rfl rfl _ _ HX6r.out (by kernel_rfl) rfl (ones6 _ _ _ _ _ _) ?_
    refine hK.out _ _ (show HV6 (w.heap.size + 1 + 1 + 1) v0 v1 v2 v3 v4 v5 g lo hi fr fh tl th _ from ⟨⟨UV.out.cell 0, UV.out.cell 1, UV.out.cell 2, UV.out.cell 3, UV.out.cell 4, UV.out.cell 5⟩, UG.out.cell 0, UG.out.cell 1, UG.out.cell 2, UG.out.cell 3, UG.out.cell 4, UG.out.cell 5⟩) (fun _ => ?_)
    refine wpAnyH_ready (rs := [51]) (by kernel_rfl) (by simp) ?_
    refine AllReadyH.cons rfl (fun K2 hK2 => ?_) AllReadyH.nil
    rw [if_pos (by rfl)]
    refine wp_store_rowN rfl _ _ _ rfl _ _ rfl rfl _ _ U2.out (by kernel_rfl) rfl (ones3 _ _ _) ?_
    have V1' := Lib.hid (U1.out.setRow_far (g' := w.heap.size + 1 + 1) (by omega) #[.int .i64 r1, .int .i64 r2, .int .i64 r3])
    have V2' := Lib.hid (U2.out.setRow #[.int .i64 r1, .int .i64 r2, .int .i64 r3])
    have VV := Lib.hid (UV.out.setRow_far (g' := w.heap.size + 1 + 1) (by omega) #[.int .i64 r1, .int .i64 r2, .int .i64 r3])
    have VG := Lib.hid (UG.out.setRow_far (g' := w.heap.size + 1 + 1) (by have := HGL.out; omega) #[.int .i64 r1, .int .i64 r2, .int .i64 r3])
    have VBl := Lib.hid (below_setR UB.out (g := w.heap.size + 1 + 1) (by omega) #[.int .i64 r1, .int .i64 r2, .int .i64 r3])
    refine hK2.out _ _ (show HV6 (w.heap.size + 1 + 1 + 1) v0 v1 v2 v3 v4 v5 g lo hi fr fh tl th _ from ⟨⟨VV.out.cell 0, VV.out.cell 1, VV.out.cell 2, VV.out.cell 3, VV.out.cell 4, VV.out.cell 5⟩, VG.out.cell 0, VG.out.cell 1, VG.out.cell 2, VG.out.cell 3, VG.out.cell 4, VG.out.cell 5⟩) (fun _ => ?_)
    refine wpAnyH_done (by kernel_rfl) ?_ _
    go_wp2_with fail
    exact bodyPost_ret (results_cc rfl _ _ _ _ _ _ _ rfl (run_loadVar_row _ _ _ _ _ (0, 0) _ V1'.out Try.underlying111 rfl (by kernel_rfl)) rfl (run_loadVar_row _ _ _ _ _ (0, 0) _ V2'.out Try.underlying150 rfl (by kernel_rfl))) rfl ⟨by rw [HCR.out, HRE.out], VBl.out⟩
end Go.Proofs.Ytiflhimmieflpaa
