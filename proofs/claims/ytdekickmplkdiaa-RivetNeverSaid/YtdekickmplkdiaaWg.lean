/- Walks: the law of what never opens less, or more. -/
import Derived.Test.YtdekickmplkdiaaWd
import Derived.Test.YtdekickmplkdiaaWr
import Derived.Test.YtdekickmplkdiaaKh
import Derived.Deep.CutRange
import Derived.Deep.CutBlock
namespace Go.Proofs.Ytdekickmplkdiaa
open Go.RowKit

/-- A proof under a structure, so that a walk can be parted. -/
structure Lj (p : Prop) : Prop where
  out : p
/-- What is made of a fan, and what is known of it. -/
structure TK (v W : World) (t : Nat) (f : Fan) (A : Option Addr) (n c : Nat) : Prop where
  bel : Below v.heap.size v W
  bx : Blk W t 26 (fanA f A n c)
  gp : Gaps W A n f.gs
  n13 : n ≤ 13
/-- What the law needs to know of it. -/
def NVk (f g : Fan) (k : Nat) : Prop := (fanErr g = 0 ∧ NVr (degL false f) (degL true f) (degL false g) (degL true g) (moreL g f) k) ∨ (k = 4 ∧ fanErr g = 3 ∧ g.a ≤ g.d)
theorem four_get {W : World} {s : Nat} {ty : TypeId} {x y z u : Value} (h : Blk W s ty #[x, y, z, u]) : W.cell? ⟨s, 0, none⟩ = some x ∧ W.cell? ⟨s, 1, none⟩ = some y ∧ W.cell? ⟨s, 2, none⟩ = some z ∧ W.cell? ⟨s, 3, none⟩ = some u := ⟨h.cell 0, h.cell 1, h.cell 2, h.cell 3⟩
/-- Which round it is, each comparison as it is decided. -/
def Six (k j : Nat) : Prop := k = j ∧ (((k : Int) == 0) = decide (j = 0)) ∧ (((k : Int) == 1) = decide (j = 1)) ∧ (((k : Int) == 2) = decide (j = 2)) ∧ (((k : Int) == 3) = decide (j = 3)) ∧ (((k : Int) == 4) = decide (j = 4)) ∧ (((k : Int) == 5) = decide (j = 5)) ∧ (decide ((k : Int) < 3) = decide (j < 3))
theorem six (k : Nat) (h : k < 6) : Six k k := by
  refine ⟨rfl, ?_, ?_, ?_, ?_, ?_, ?_, ?_⟩
  all_goals (first | (rw [Bool.eq_iff_iff]; simp; omega) | (rw [Bool.eq_iff_iff]; simp))
theorem Fo.At.room3 {x : Fo} {w : World} (h : x.At w) {k : Nat} (hk : k < x.fan.gs.length) : (x.fan.gs.getD k Gap.zero).lh ≤ 539 ∧ (x.fan.gs.getD k Gap.zero).fh ≤ 68 := by
  obtain ⟨i, e⟩ := x.gsTo_mem _ _ (gap_getD_mem (gs := x.fan.gs) hk)
  rw [e]
  have q0 := h.by_bd i 0
  have q1 := h.by_bd i 1
  have q2 := h.by_bd i 2
  have q3 := h.by_bd i 3
  simp only [Fo.gap]
  omega
theorem Fo.At.head {x : Fo} {w : World} (h : x.At w) : x.fan.b ≤ 2595 ∧ x.fan.d ≤ 294 := by
  have h0 := h.b0; have h1 := h.b1; have h2 := h.b2; have h3 := h.b3
  unfold Byte at h0 h1 h2 h3
  simp only [Fo.fan]
  omega
theorem NVk.mk {f g : Fan} {k : Nat} (hg : fanErr g = 0) (h : NVr (degL false f) (degL true f) (degL false g) (degL true g) (moreL g f) k) : NVk f g k := Or.inl ⟨hg, h⟩
theorem flatG_set2 (xs : List Gap) (k : Nat) (hk : k < xs.length) (a : Int) : (flatG xs).set (k * 4 + 2) (.int .i64 a) = flatG (xs.set k ⟨(xs.getD k Gap.zero).ll, (xs.getD k Gap.zero).lh, a, (xs.getD k Gap.zero).fh⟩) := by
  unfold flatG
  induction xs generalizing k with
  | nil => simp at hk
  | cons y r ih =>
    cases k with
    | zero => simp [Gap.cells]
    | succ m =>
      have := ih m (by simpa using hk)
      rw [List.flatMap_cons, List.set_append_right _ _ (by simp [Gap.cells]; omega), show (m + 1) * 4 + 2 - y.cells.length = m * 4 + 2 from by simp [Gap.cells]; omega, this]
      simp
theorem flatG_foot (xs : List Gap) (k : Nat) (hk : k < xs.length) (a b : Int) : ((flatG xs).set (k * 4 + 2) (.int .i64 a)).set (k * 4 + 2 + 1) (.int .i64 b) = flatG (xs.set k ⟨(xs.getD k Gap.zero).ll, (xs.getD k Gap.zero).lh, a, b⟩) := by
  rw [flatG_set2 xs k hk a, flatG_set3 _ k (by simpa using hk) b]
  simp [List.getD, hk]
/-- What is looked at while a gap is appended, out of bytes. -/
def S13 (t gy : Nat) (x y z : Value) (W : World) : Prop := W.cell? ⟨t, 4, none⟩ = some x ∧ W.cell? ⟨gy, 2, none⟩ = some y ∧ W.cell? ⟨gy, 3, none⟩ = some z
def S50 (t r i : Nat) (x y z : Value) (W : World) : Prop := W.cell? ⟨t, 4, none⟩ = some x ∧ W.cell? ⟨r, i + 2, none⟩ = some y ∧ W.cell? ⟨r, i + 3, none⟩ = some z
theorem fan5f_get {W : World} {g : Nat} {t : TypeId} {x0 x1 x2 x3 x4 : Value} (h : Blk W g t #[x0, x1, x2, x3, x4]) : (W.cell? ⟨g, 0, none⟩ = some x0 ∧ W.cell? ⟨g, 1, none⟩ = some x1 ∧ W.cell? ⟨g, 2, none⟩ = some x2 ∧ W.cell? ⟨g, 3, none⟩ = some x3 ∧ W.cell? ⟨g, 4, none⟩ = some x4) ∧ W.frozen? ⟨g, 0, none⟩ = false ∧ W.frozen? ⟨g, 1, none⟩ = false ∧ W.frozen? ⟨g, 2, none⟩ = false ∧ W.frozen? ⟨g, 3, none⟩ = false ∧ W.frozen? ⟨g, 4, none⟩ = false := ⟨⟨h.cell 0, h.cell 1, h.cell 2, h.cell 3, h.cell 4⟩, h.frozen 0, h.frozen 1, h.frozen 2, h.frozen 3, h.frozen 4⟩
theorem add_err {f : Fan} (h : fanErr f = 0) (hn : f.gs.length ≤ 12) {y : Gap} (hy : gapB y = true) : fanErr (f.add y) = 0 :=
  err_like h _ (by simp; omega) fun g hg => by
    rcases List.mem_append.1 hg with h1 | h1
    · exact gap_ok h g h1
    · rw [List.mem_singleton.1 h1]; exact hy
theorem foot_err {f : Fan} (h : fanErr f = 0) {more : Int} (h0 : 0 ≤ more) (k : Nat) (hk : k < f.gs.length) (hr : (f.gs.getD k Gap.zero).fh + more ≤ 500) : fanErr (f.foot k more) = 0 := by
  obtain ⟨hf, hg, hl⟩ := fanB_of h
  refine err_like h _ (by simpa using hl) fun g hq => ?_
  have m := gap_getD_mem hk
  rcases List.mem_or_eq_of_mem_set hq with h2 | rfl
  · exact gap_ok h g h2
  · have := hf.g _ m
    have := hg _ m
    exact gapB_mk (by omega) (by omega) (by omega) (by omega) (by omega) hr
theorem head_lt {f : Fan} (h : fanErr f = 0) : f.d < f.a := by
  rw [fanErr_eq] at h
  split at h
  · omega
  rename_i hh
  simp only [spanB, inB, Bool.not_eq_false, Bool.and_eq_true, decide_eq_true_eq] at hh
  omega
theorem nv_add {f : Fan} (h : fanErr f = 0) (hn : f.gs.length ≤ 12) {y : Gap} (hy : gapB y = true) : NVk f (f.add y) 0 :=
  have e := add_err h hn hy
  NVk.mk e (NVr.of h e 0 (fun _ => ⟨add_le (fanB_of e).1 _, add_le (fanB_of e).1 _⟩) (fun h => by omega) (fun h => by omega))
theorem nv_wide {f : Fan} (h : fanErr f = 0) {n : Int} (h0 : 0 ≤ n) {k : Nat} (hk : k < f.gs.length) (hr : (f.gs.getD k Gap.zero).lh + n ≤ 1000) : NVk f (f.wide k n) 1 :=
  have e := wide_err h h0 k hk hr
  NVk.mk e (NVr.of h e 1 (fun _ => ⟨wide_le (fanB_of h).1 h0 _, wide_le (fanB_of h).1 h0 _⟩) (fun h => by omega) (fun h => by omega))
theorem nv_foot {f : Fan} (h : fanErr f = 0) {n : Int} (h0 : 0 ≤ n) {k : Nat} (hk : k < f.gs.length) (hr : (f.gs.getD k Gap.zero).fh + n ≤ 500) : NVk f (f.foot k n) 2 :=
  have e := foot_err h h0 k hk hr
  NVk.mk e (NVr.of h e 2 (fun _ => ⟨foot_le (fanB_of h).1 h0 _, foot_le (fanB_of h).1 h0 _⟩) (fun h => by omega) (fun h => by omega))
theorem nv_far {f : Fan} (h : fanErr f = 0) {n : Int} (h0 : 0 ≤ n) (hr : f.b + n ≤ 5000) : NVk f (f.far n) 3 :=
  have b := (fanB_of h).1
  have q := head_lt h
  have e : fanErr (f.far n) = 0 := err_head h (spanB_mk (by have := b.a1; omega) (by have := b.ab; omega) hr) (spanB_mk b.c1 b.cd b.d5) (by omega)
  NVk.mk e (NVr.of h e 3 (fun h => by omega) (fun _ => ⟨far_le b h0 _, far_le b h0 _⟩) (fun h => by omega))
theorem nv_near {f : Fan} (h : fanErr f = 0) {n : Int} (h0 : 0 ≤ n) (hr : f.d + n ≤ 5000) : NVk f (f.near n) 4 := by
  have b := (fanB_of h).1
  by_cases hl : f.d + n < f.a
  · have e : fanErr (f.near n) = 0 := err_head h (spanB_mk b.a1 b.ab b.b5) (spanB_mk (by have := b.c1; omega) (by have := b.cd; omega) hr) hl
    exact NVk.mk e (NVr.of h e 4 (fun h => by omega) (fun _ => ⟨near_le b h0 _, near_le b h0 _⟩) (fun h => by omega))
  · exact Or.inr ⟨rfl, near_err3 (by omega), by show f.a ≤ f.d + n; omega⟩
theorem nv_true {f : Fan} (h : fanErr f = 0) {xs : List Int} (hx : ∀ x ∈ xs, Byte x) : NVk f (f.true xs) 5 := by
  have b := (fanB_of h).1
  have e := true_err hx h
  have d := true_deg hx b (fanB_of e).1
  have p := true_pointed f xs
  have g := true_gt hx b
  exact NVk.mk e (NVr.of h e 5 (fun h => by omega) (fun h => by omega) (fun _ => ⟨by rw [p.deg false]; exact d.1, by rw [p.deg true]; exact d.2, g.1, g.2⟩))
def S27 (t g : Nat) (x0 x1 x2 x3 x4 y0 y1 y2 y3 y4 : Value) (W : World) : Prop := (W.cell? ⟨t, 0, none⟩ = some x0 ∧ W.cell? ⟨t, 1, none⟩ = some x1 ∧ W.cell? ⟨t, 2, none⟩ = some x2 ∧ W.cell? ⟨t, 3, none⟩ = some x3 ∧ W.cell? ⟨t, 4, none⟩ = some x4) ∧ (W.cell? ⟨g, 0, none⟩ = some y0 ∧ W.cell? ⟨g, 1, none⟩ = some y1 ∧ W.cell? ⟨g, 2, none⟩ = some y2 ∧ W.cell? ⟨g, 3, none⟩ = some y3 ∧ W.cell? ⟨g, 4, none⟩ = some y4)
/-- What a round holds behind its change. -/
structure TB (v W : World) (t g s : Nat) (x y z : Array Value) (A : Option Addr) (n : Nat) (xs : List Gap) (B : Option Addr) (m : Nat) (ys : List Gap) : Prop where
  bel : Below v.heap.size v W
  bx : Blk W t 26 x
  by_ : Blk W g 26 y
  bz : Blk W s 23 z
  ga : Gaps W A n xs
  gb : Gaps W B m ys
theorem TB.below {v W W' : World} {t g s : Nat} {x y z : Array Value} {A B : Option Addr} {n m : Nat} {xs ys : List Gap} (h : TB v W t g s x y z A n xs B m ys) (hb : Below W.heap.size W W') : TB v W' t g s x y z A n xs B m ys := ⟨below_then h.bel hb, blk_keep hb h.bx, blk_keep hb h.by_, blk_keep hb h.bz, h.ga.below hb, h.gb.below hb⟩
set_option maxRecDepth 100000 in
set_option maxHeartbeats 8000000 in
noncomputable def never_1 (x : Fo) (xs : List Int) (B : Option Addr) (m dc : Nat) (b0 b1 b2 b3 : Int) (w : World) (h0 : Hid (x.At w)) (hB0 : Hid (Bytes w B m xs)) (hm0 : Hid (m ≤ maxLen)) (hc0 : Hid (Byte b0)) (hc1 : Hid (Byte b1)) (hc2 : Hid (Byte b2)) (hc3 : Hid (Byte b3)) : PSigma fun G : Prop => Lj G → Calls Try.prog 13 #[.agg x.cells, .slice B m dc, .agg #[.int .u8 b0, .int .u8 b1, .int .u8 b2, .int .u8 b3]] w fun e w' => e = .returned (.bool true) ∧ Below w.heap.size w w' := by
  apply PSigma.mk
  case snd =>
    intro kG
    have h := h0.out
    have hB := hB0.out
    have hm := hm0.out
    have hb0 := hc0.out
    have hb1 := hc1.out
    have hb2 := hc2.out
    have hb3 := hc3.out
    obtain ⟨i0, hi, hz0, hz1, hz2⟩ := info_parts Try.infoGap
    have HK := Lib.hid (fun W => known_any W)
    unfold KnownRes at HK
    have HFAN := Lib.hid (fun W (hb : Below w.heap.size w W) => fan_any x W (h.below hb))
    have HRM := Lib.hid (fun k hk => h.room3 (k := k) hk)
    have HHD := Lib.hid h.head
    have herr := h.err
    have hlf : x.fan.gs.length = x.m := x.gsTo_len _
    have hn12 : x.m ≤ 12 := Nat.min_le_right _ _
    have P0 := fan5_get ((Blk.new w 86 x.cells rfl).alloc (.cells #[.int .u8 b0, .int .u8 b1, .int .u8 b2, .int .u8 b3] 94))
    have B0 := Lib.hid (below_alloc' (below_self w (.cells x.cells 86)) (.cells #[.int .u8 b0, .int .u8 b1, .int .u8 b2, .int .u8 b3] 94))
    have Y0 : Hid (Blk ((w.alloc (.cells x.cells 86)).alloc (.cells #[.int .u8 b0, .int .u8 b1, .int .u8 b2, .int .u8 b3] 94)) (w.heap.size + 1) 94 #[.int .u8 b0, .int .u8 b1, .int .u8 b2, .int .u8 b3]) := Lib.hid (Blk.new _ _ _ (by simp))
    clear h
    simp only [Fo.cells] at *
    generalize x.m = n at *
    generalize x.fan = f at *
    unfold Byte at hb0 hb1 hb2 hb3
    have HCF := Lib.hid (fun A c W (hG : Gaps W A n f.gs) => copied_row f A n c W hG (by omega))
    have HOF := Lib.hid (fun A c W (hG : Gaps W A n f.gs) => by
      have q := Opens_any f A n c W hG (by unfold maxLen; omega)
      rw [opens_val herr, herr] at q
      exact q)
    have HE := Lib.hid herr
    have HSP := Lib.hid (fun a b W => lawSpan_any a b W)
    have HLF := Lib.hid hlf
    unfold RowRes at HCF
    unfold OwnRes at HFAN
    have HFF : Hid (∀ A' m' c', fanA f A' m' c' = #[.int .i64 f.a, .int .i64 f.b, .int .i64 f.c, .int .i64 f.d, .slice A' m' c']) := fun _ _ _ => rfl
    simp only [HFF.out] at HCF HOF HFAN
    obtain ⟨s1, hs1⟩ : ∃ z, degL false f = z := ⟨_, rfl⟩
    obtain ⟨s2, hs2⟩ : ∃ z, degL true f = z := ⟨_, rfl⟩
    rw [hs1, hs2] at HOF
    have HS1 := Lib.hid hs1
    have HS2 := Lib.hid hs2
    clear hs1 hs2 hB hm hlf herr HFF
    obtain ⟨fa, hfa⟩ : ∃ z, f.a = z := ⟨_, rfl⟩
    obtain ⟨fb, hfb⟩ : ∃ z, f.b = z := ⟨_, rfl⟩
    obtain ⟨fc, hfc⟩ : ∃ z, f.c = z := ⟨_, rfl⟩
    obtain ⟨fd, hfd⟩ : ∃ z, f.d = z := ⟨_, rfl⟩
    rw [hfa, hfb, hfc, hfd] at HCF HOF HFAN
    have HA := Lib.hid (And.intro hfa (And.intro hfb (And.intro hfc hfd)))
    clear hfa hfb hfc hfd
    have wb0 : IntKind.i64.wrap b0 = b0 := IntWalk.i64_in _ (by omega)
    have wb1 : IntKind.i64.wrap b1 = b1 := IntWalk.i64_in _ (by omega)
    have wb2 : IntKind.i64.wrap b2 = b2 := IntWalk.i64_in _ (by omega)
    have wb3 : IntKind.i64.wrap b3 = b3 := IntWalk.i64_in _ (by omega)
    go_enter Try.func13, Try.ntmps13
    go_wp2_with fail
    refine (HFAN.out _ B0.out).mono ?_
    rintro e w1 ⟨A, c, rfl, hO, b1⟩
    have FB : Hid (Blk (w1.alloc (.cells #[.int .i64 fa, .int .i64 fb, .int .i64 fc, .int .i64 fd, .slice A n c] 26)) w1.heap.size 26 #[.int .i64 fa, .int .i64 fb, .int .i64 fc, .int .i64 fd, .slice A n c]) := Lib.hid (Blk.new _ _ _ rfl)
    have FG := Lib.hid (hO.1.below (below_self w1 (.cells #[.int .i64 fa, .int .i64 fb, .int .i64 fc, .int .i64 fd, .slice A n c] 26)))
    have FY := Lib.hid (blk_keep (below_self w1 (.cells #[.int .i64 fa, .int .i64 fb, .int .i64 fc, .int .i64 fd, .slice A n c] 26)) (blk_keep b1 Y0.out))
    have FW := Lib.hid (below_then (below_then B0.out b1) (below_self w1 (.cells #[.int .i64 fa, .int .i64 fb, .int .i64 fc, .int .i64 fd, .slice A n c] 26)))
    clear hO b1 B0 P0 Y0 HFAN
    go_wp2_with fail
    generalize w1.alloc (.cells #[.int .i64 fa, .int .i64 fb, .int .i64 fc, .int .i64 fd, .slice A n c] 26) = v0 at *
    generalize w1.heap.size = g at *
    have p2 := fan5_get FB.out
    go_wp2_with fail
    refine (HCF.out _ _ _ FG.out).mono ?_
    rintro e w2 ⟨A2, c2, rfl, hO, b2⟩
    have G2 := Lib.hid (own_gaps hO).1
    have B2 := Lib.hid b2
    clear hO b2 p2
    go_wp2_with fail
    refine (HOF.out _ _ _ G2.out).mono ?_
    rintro e w3 ⟨rfl, b3⟩
    have B3 := Lib.hid (below_then (below_then B2.out b3) (below_self w3 (.cells #[.int .i64 s1, .int .i64 s2] 23)))
    have FS : Hid (Blk (w3.alloc (.cells #[.int .i64 s1, .int .i64 s2] 23)) w3.heap.size 23 #[.int .i64 s1, .int .i64 s2]) := Lib.hid (Blk.new _ _ _ rfl)
    clear b3 G2 HOF
    go_wp2_with fail
    generalize w3.alloc (.cells #[.int .i64 s1, .int .i64 s2] 23) = v at *
    generalize w3.heap.size = gs at *
    have FB := Lib.hid (blk_keep B3.out FB.out)
    have FG := Lib.hid (FG.out.below B3.out)
    have FY := Lib.hid (blk_keep B3.out FY.out)
    have FW := Lib.hid (below_then FW.out B3.out)
    clear B3 B2
    go_loopw [10] (fun i wr => ∃ k : Nat, k ≤ 6 ∧ i = .int .i64 k ∧ Below v.heap.size v wr) (fun i _ => 6 - (intOf i).toNat)
    case atStart => exact ⟨0, Nat.zero_le _, rfl, Below.refl _ _⟩
    case round =>
      obtain ⟨k, hk, rfl, hBk⟩ := hrel
      have Bk := Lib.hid hBk
      clear hBk
      by_cases hlt : k < 6
      · have p8 := fan5_get (blk_keep Bk.out FB.out)
        have y8 := four_get (blk_keep Bk.out FY.out)
        have hmod : b1.tmod 20 = b1 % 20 := Int.tmod_eq_emod_of_nonneg (by omega)
        have wmod : IntKind.i64.wrap (b1 % 20) = b1 % 20 := IntWalk.i64_in _ (by omega)
        have wnn : IntKind.i64.wrap (1 + b1 % 20) = 1 + b1 % 20 := IntWalk.i64_in _ (by omega)
        rename_i za0 za1 za2 za3 za4 za5 za6
        revert hb0 hb1 hb2 hb3 i0 hi hz0 hz1 hz2 HK n hn12 f HRM HHD HE HSP HLF s1 s2 HS1 HS2 fa fb fc fd HCF HA wb0 wb1 wb2 wb3 za0 w1 A c v0 za1 za2 za3 g za4 w2 A2 c2 w3 za5 za6 v gs FS FB FG FY FW wr u6 u11 u12 u13 u14 u15 u16 u17 u18 u29 u30 u31 u32 u33 u34 u35 u36 u37 u38 u39 u40 u41 u42 u43 u44 u45 u46 u47 u48 u49 u50 u51 u52 u53 u54 u55 u56 u57 u58 u59 u60 u61 u62 u63 u64 u65 u66 u67 u68 u69 u70 u71 u72 u73 u74 u75 u76 u77 u78 u79 u80 u81 u82 u83 u84 u85 u86 u87 u88 u89 u90 u91 u92 u93 u94 u95 u96 u97 u98 u99 u100 u101 u102 u103 u104 u105 u106 u107 u108 u109 u110 u111 u112 u113 u114 u115 u116 u117 u118 u119 u120 u121 u122 u123 u124 u125 u126 u127 u128 u129 u130 u131 u132 u133 u134 u135 u136 u137 u138 u139 u140 u141 u142 u143 u144 u145 u146 u147 u148 u149 u150 u151 u152 u153 u154 u155 u156 u157 u158 u159 u160 u161 u162 u163 u164 u165 u166 u167 u168 u169 u170 u171 u172 u173 u174 u175 u176 u177 u178 u179 u180 u181 u182 u183 u184 u185 u186 u187 u188 u189 u190 u191 u192 u193 u194 u195 u196 u197 u198 u199 u200 u201 u202 u203 u204 u205 u206 u207 u208 u209 u210 u211 u212 u213 u214 u215 u216 u217 u218 u219 u220 u221 u222 u223 u224 u225 u226 u227 u228 u229 u230 u231 u232 u233 u234 u235 u236 u237 u238 u239 u240 u241 u242 u243 u244 u245 u246 u247 u248 u249 u250 u251 u252 u253 u254 u255 u256 u257 u258 u259 u260 u261 u262 u263 u264 u265 u266 u267 u268 u269 u270 u271 u272 u273 u274 u275 u276 u277 u278 u279 u280 u281 u282 u283 u284 u285 u286 u287 u288 u289 u290 u291 u292 u293 u294 u295 u296 u297 u298 u299 u300 u301 u302 u303 u304 u305 u306 u307 u308 u309 u310 u311 u312 u313 u314 u315 u316 u317 u318 u319 u320 u321 u322 u323 k hk Bk hlt p8 y8 hmod wmod wnn
        exact kG.out
      · obtain rfl : k = 6 := by omega
        go_wp2_with fail
        refine (HK.out _).mono ?_
        rintro e w99 ⟨rfl, b99⟩
        go_wp2
        go_ret
        exact ⟨rfl, below_then (below_then FW.out Bk.out) b99⟩
end Go.Proofs.Ytdekickmplkdiaa
