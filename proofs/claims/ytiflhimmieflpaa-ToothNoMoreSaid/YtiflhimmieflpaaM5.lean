/- Merged: W31, W32, Hull, Rcur, W33, W34, W35, W36. -/
import Derived.Test.YtiflhimmieflpaaM4
import Derived.Deep.RegionHeld3
import Derived.Deep.DrawnRows
import Derived.Test.YtiflhimmieflpaaM1
import Derived.ArgAppend

/- Closed facts: what the document's example comes to. -/
namespace Go.Proofs.Ytiflhimmieflpaa
open Go.RowKit Go.Maps

structure Bl.Ex (B : Bl) : Prop where
  n : B.n = 6
  n' : B.n' = 6
  m : B.m = 1
  bend : B.bend = 10
  bot : B.bot = botX
  top : B.top = topX
  cr : B.cr = crX
def sawX : Sw := ⟨2, 6, 1, 0⟩
theorem ex_curve {B : Bl} (h : B.Ex) : curveErr B.n B.n' B.m B.bend B.bot B.top B.cr = 0 := by
  rw [h.n, h.n', h.m, h.bend, h.bot, h.top, h.cr]; kernel_rfl
theorem ex_err {B : Bl} (h : B.Ex) : B.err sawX = 0 := by
  unfold Bl.err; rw [h.n, h.n', h.m, h.bend, h.bot, h.top, h.cr]; kernel_rfl
theorem ex_worst {B : Bl} (h : B.Ex) (s : Sw) : B.worst s = worstL s.long s.wide s.kerf s.across (bentL botX 10) (bentL topX 10) crX := by
  unfold Bl.worst; rw [h.bend, h.bot, h.top, h.cr]
theorem ex_bot {B : Bl} (h : B.Ex) : (bentL B.bot B.bend).getD 2 (0, 0) = (1, 4) := by rw [h.bend, h.bot]; kernel_rfl
theorem ex_top {B : Bl} (h : B.Ex) : (bentL B.top B.bend).getD 2 (0, 0) = (20, 22) := by rw [h.bend, h.top]; kernel_rfl
theorem ex_block0 {B : Bl} (h : B.Ex) : blockL (B.worst sawX) 0 = [2, 9, 16, 23] := by rw [ex_worst h]; kernel_rfl
theorem ex_block4 {B : Bl} (h : B.Ex) : blockL (B.worst sawX) 4 = [3, 14, 21] := by rw [ex_worst h]; kernel_rfl
theorem ex_most {B : Bl} (h : B.Ex) : (layoutL (B.worst sawX) B.n).length = 9 := by rw [ex_worst h, h.n]; kernel_rfl
theorem ex_bound {B : Bl} (h : B.Ex) : boundL B sawX = 9 := by unfold boundL; rw [ex_worst h, h.n]; kernel_rfl
theorem ex_class {B : Bl} (h : B.Ex) : classL B sawX = 0 := by unfold classL; rw [ex_bound h, ex_worst h, h.n]; kernel_rfl
theorem ex_costs {B : Bl} (h : B.Ex) : costsL B sawX = [1] := by unfold costsL costAt Bl.worstX Bl.worst; rw [h.n, h.m, h.bend, h.bot, h.top, h.cr]; kernel_rfl
theorem ex_widest {B : Bl} (h : B.Ex) : widestL B sawX 9 = 6 := by unfold widestL fewP Bl.worst; rw [h.n, h.bend, h.bot, h.top, h.cr]; kernel_rfl
theorem ex_holds {B : Bl} (h : B.Ex) : holdsB B.n sawX.long [((0 : Int), (0 : Int))] = true ∧ holdsB B.n sawX.long [((4 : Int), (0 : Int))] = true := by rw [h.n]; exact ⟨by kernel_rfl, by kernel_rfl⟩
end Go.Proofs.Ytiflhimmieflpaa

/- Walks: known: the law's look at the document's examples. -/
namespace Go.Proofs.Ytiflhimmieflpaa
open Go.RowKit Go.Maps

theorem blade_ex (w : World) : Calls Try.prog 58 #[] w fun e w' => ∃ B : Bl, B.Ex ∧ e = .returned B.val ∧ B.At w' ∧ Below w.heap.size w w' :=
  (blade_any w).mono fun _ _ ⟨B, he, hat, h1, h2, h3, h4, h5, h6, h7, hb⟩ => ⟨B, ⟨h1, h2, h3, h4, h5, h6, h7⟩, he, hat, hb⟩
theorem saw_ex (w : World) : Calls Try.prog 59 #[.int .i64 6] w fun e w' => e = .returned sawX.val ∧ Below w.heap.size w w' := lawSaw_any 6 w
/-- The cells of two spans. -/
structure K1 (w : World) (g g' : Nat) : Prop where
  b4 : w.cell? ⟨g, 4, none⟩ = some (.int .i64 1)
  b5 : w.cell? ⟨g, 5, none⟩ = some (.int .i64 4)
  t4 : w.cell? ⟨g', 4, none⟩ = some (.int .i64 20)
  t5 : w.cell? ⟨g', 5, none⟩ = some (.int .i64 22)
theorem K1.below {w w' : World} {g g' : Nat} (h : K1 w g g') (hb : Below w.heap.size w w') : K1 w' g g' :=
  ⟨(hb.cell (p := ⟨g, 4, none⟩) (lt_of_cell h.b4)).trans h.b4, (hb.cell (p := ⟨g, 5, none⟩) (lt_of_cell h.b5)).trans h.b5, (hb.cell (p := ⟨g', 4, none⟩) (lt_of_cell h.t4)).trans h.t4, (hb.cell (p := ⟨g', 5, none⟩) (lt_of_cell h.t5)).trans h.t5⟩
theorem curve_ex {B : Bl} (hx : B.Ex) (w : World) (h : B.At w) : Calls Try.prog 21 #[B.val] w fun e w' => ∃ g cap g' cap', e = .returned (.tuple #[.slice (some ⟨g, 0, none⟩) 6 cap, .slice (some ⟨g', 0, none⟩) 6 cap', .int .i64 0]) ∧ K1 w' g g' ∧ Below w.heap.size w w' := by
  refine (Curve_any B.A B.A' B.K B.n B.c B.n' B.c' B.m B.d B.bend B.bot B.top B.cr w h.hb h.ht h.hk h.n1 h.n2 h.n3).mono ?_
  rintro e w' ⟨hb, ⟨herr, _⟩ | ⟨_, g, cap, g', cap', rfl, P, P'⟩⟩
  · exact absurd (ex_curve hx) herr
  · rw [hx.n] at P P' ⊢
    obtain ⟨b, o, hA, _, c1, c2⟩ := P.at_ (k := 2) (by omega)
    obtain ⟨b', o', hA', _, c1', c2'⟩ := P'.at_ (k := 2) (by omega)
    simp only [Option.some.injEq, Addr.mk.injEq, and_true] at hA hA'
    obtain ⟨rfl, rfl⟩ := hA
    obtain ⟨rfl, rfl⟩ := hA'
    rw [ex_bot hx] at c1 c2
    rw [ex_top hx] at c1' c2'
    exact ⟨g, cap, g', cap', rfl, ⟨c1, c2, c1', c2'⟩, hb⟩
/-- A list of ints of the call's own. -/
def IntsRes (w : World) (xs : List Int) (e : Ending) (w' : World) : Prop := ∃ g cap, e = .returned (.tuple #[.slice (some ⟨g, 0, none⟩) xs.length cap, .int .i64 0]) ∧ Ints w' (some ⟨g, 0, none⟩) xs.length xs ∧ Below w.heap.size w w'
theorem block_ex {B : Bl} (hx : B.Ex) (x : Int) (xs : List Int) (hh : holdsB B.n sawX.long [(x, 0)] = true) (hxs : blockL (B.worst sawX) x.toNat = xs) (h0 : 0 < xs.length) (w : World) (h : B.At w) : Calls Try.prog 31 #[B.val, sawX.val, .int .i64 x] w (IntsRes w xs) := by
  refine (Block_any B sawX x w h).mono ?_
  rintro e w' ⟨hb, ⟨he, _⟩ | ⟨_, hn, _⟩ | ⟨_, _, v, rfl, hown⟩⟩
  · exact absurd (ex_err hx) he
  · rw [hh] at hn; cases hn
  · rw [hxs] at hown
    obtain ⟨g, cap, rfl⟩ := own_form hown h0
    exact ⟨g, cap, rfl, ints_of_own hown, hb⟩
theorem most_ex {B : Bl} (hx : B.Ex) (w : World) (h : B.At w) : Calls Try.prog 34 #[B.val, sawX.val] w fun e w' => ∃ g cap, e = .returned (.tuple #[.slice (some ⟨g, 0, none⟩) 9 cap, .int .i64 0]) ∧ Below w.heap.size w w' := by
  refine (Most_any B sawX w h).mono ?_
  rintro e w' ⟨hb, ⟨he, _⟩ | ⟨_, v, rfl, hown⟩⟩
  · exact absurd (ex_err hx) he
  · rw [ex_most hx] at hown
    obtain ⟨g, cap, rfl⟩ := own_form hown (by omega)
    exact ⟨g, cap, rfl, hb⟩
theorem bound_ex {B : Bl} (hx : B.Ex) (w : World) (h : B.At w) : Calls Try.prog 40 #[B.val, sawX.val] w fun e w' => e = .returned (.tuple #[.int .i64 9, .int .i64 0, .int .i64 0]) ∧ Below w.heap.size w w' := by
  refine (Bound_any B sawX w h).mono ?_
  rintro e w' ⟨hb, ⟨he, _⟩ | ⟨_, rfl⟩⟩
  · exact absurd (ex_err hx) he
  · rw [ex_bound hx, ex_class hx]; exact ⟨rfl, hb⟩
theorem costs_ex {B : Bl} (hx : B.Ex) (w : World) (h : B.At w) : Calls Try.prog 44 #[B.val, sawX.val] w (IntsRes w [1]) := by
  refine (Costs_any B sawX w h).mono ?_
  rintro e w' ⟨hb, ⟨he, _⟩ | ⟨_, v, rfl, hown⟩⟩
  · exact absurd (ex_err hx) he
  · rw [ex_costs hx, hx.m] at hown
    obtain ⟨g, cap, rfl⟩ := own_form hown (by omega)
    exact ⟨g, cap, rfl, ints_of_own hown, hb⟩
theorem widest_ex {B : Bl} (hx : B.Ex) (w : World) (h : B.At w) : Calls Try.prog 48 #[B.val, sawX.val, .int .i64 9] w fun e w' => e = .returned (.tuple #[.int .i64 6, .int .i64 0]) ∧ Below w.heap.size w w' := by
  refine (Widest_any B sawX 9 w h).mono ?_
  rintro e w' ⟨hb, ⟨he, _⟩ | ⟨_, hn, _⟩ | ⟨_, _, h0, _⟩ | ⟨_, _, _, rfl⟩⟩
  · exact absurd (ex_err hx) he
  · cases hn
  · rw [ex_widest hx] at h0; cases h0
  · rw [ex_widest hx]; exact ⟨rfl, hb⟩

/-- What known has found ahead of its last statement. -/
structure KS (w : World) (g g' z f c : Nat) : Prop where
  k : K1 w g g'
  hz : Ints w (some ⟨z, 0, none⟩) 4 [2, 9, 16, 23]
  hf : Ints w (some ⟨f, 0, none⟩) 3 [3, 14, 21]
  hc : Ints w (some ⟨c, 0, none⟩) 1 [1]
theorem KS.below {w w' : World} {g g' z f c : Nat} (h : KS w g g' z f c) (hb : Below w.heap.size w w') : KS w' g g' z f c := ⟨h.k.below hb, h.hz.below hb, h.hf.below hb, h.hc.below hb⟩
theorem KS.alloc {w : World} {g g' z f c : Nat} (h : KS w g g' z f c) (o : Obj) : KS (w.alloc o) g g' z f c := h.below (below_self w o)
theorem ints_new4 (w : World) (a b c d : Int) (t : TypeId) : Ints (w.alloc (.cells #[.int .i64 a, .int .i64 b, .int .i64 c, .int .i64 d] t)) (some ⟨w.heap.size, 0, none⟩) 4 [a, b, c, d] := reads_of_blk (Blk.new w _ _ rfl) rfl rfl
theorem ints_new3 (w : World) (a b c : Int) (t : TypeId) : Ints (w.alloc (.cells #[.int .i64 a, .int .i64 b, .int .i64 c] t)) (some ⟨w.heap.size, 0, none⟩) 3 [a, b, c] := reads_of_blk (Blk.new w _ _ rfl) rfl rfl
theorem RefInts_eq (A A' : Option Addr) (n c c' : Nat) (xs : List Int) (w : World) (h : Ints w A n xs) (h' : Ints w A' n xs) (hn : n ≤ maxLen) :
    Calls Try.prog 32 #[.slice A n c, .slice A' n c'] w fun e w' => e = .returned (.bool true) ∧ Below w.heap.size w w' :=
  (RefInts_any A A' n n c c' xs xs w h h' hn).mono fun _ _ ⟨he, hb⟩ => ⟨by rw [he]; simp [intsB, eqTo], hb⟩
def KnownRes (w : World) (e : Ending) (w' : World) : Prop := e = .returned (.bool true) ∧ Below w.heap.size w w'

attribute [local go_sem ↓] Go.wp_at_zero Go.wp_at_succ
set_option maxRecDepth 100000 in
set_option maxHeartbeats 8000000 in
theorem known_any (w : World) : Calls Try.prog 18 #[] w (KnownRes w) := by
  have HB := Lib.hid (fun W => blade_ex W)
  have HS := Lib.hid (fun W => saw_ex W)
  have HP := Lib.hid (fun a b W => lawSpan_any a b W)
  go_enter Try.func18, Try.ntmps18
  go_wp2_with fail
  refine (HB.out _).mono ?_
  rintro e w1 ⟨B1, hx, rfl, hat, b1⟩
  have D1 := Lib.hid b1
  have C1 := Lib.hid (curve_ex hx _ hat)
  clear hx hat b1
  go_wp2_with fail
  refine C1.out.mono ?_
  rintro e w2 ⟨g, cap, g', cap', rfl, k2, b2⟩
  have D2 := Lib.hid (below_then D1.out b2)
  have K2 := Lib.hid k2
  clear C1 D1 k2 b2
  go_wp2_with fail
  refine (HB.out _).mono ?_
  rintro e w3 ⟨B2, hx, rfl, hat, b3⟩
  have D3 := Lib.hid (below_then D2.out b3)
  have K3 := Lib.hid (K2.out.below b3)
  have X3 := Lib.hid hx
  have A3 := Lib.hid hat
  clear hx hat b3 K2 D2
  go_wp2_with fail
  refine (HS.out _).mono ?_
  rintro e w4 ⟨rfl, b4⟩
  have D4 := Lib.hid (below_then D3.out b4)
  have K4 := Lib.hid (K3.out.below b4)
  have C4 := Lib.hid (block_ex X3.out 0 [2, 9, 16, 23] (ex_holds X3.out).1 (ex_block0 X3.out) (by decide) _ (A3.out.below b4))
  clear b4 K3 D3 X3 A3
  go_wp2_with fail
  refine C4.out.mono ?_
  rintro e w5 ⟨z, zc, rfl, hz, b5⟩
  have D5 := Lib.hid (below_then D4.out b5)
  have K5 := Lib.hid (K4.out.below b5)
  have Z5 := Lib.hid hz
  clear b5 K4 D4 hz C4
  go_wp2_with fail
  refine (HB.out _).mono ?_
  rintro e w6 ⟨B3, hx, rfl, hat, b6⟩
  have D6 := Lib.hid (below_then D5.out b6)
  have K6 := Lib.hid (K5.out.below b6)
  have Z6 := Lib.hid (Z5.out.below b6)
  have X6 := Lib.hid hx
  have A6 := Lib.hid hat
  clear hx hat b6 K5 D5 Z5
  go_wp2_with fail
  refine (HS.out _).mono ?_
  rintro e w7 ⟨rfl, b7⟩
  have D7 := Lib.hid (below_then D6.out b7)
  have K7 := Lib.hid (K6.out.below b7)
  have Z7 := Lib.hid (Z6.out.below b7)
  have C7 := Lib.hid (block_ex X6.out 4 [3, 14, 21] (ex_holds X6.out).2 (ex_block4 X6.out) (by decide) _ (A6.out.below b7))
  clear b7 K6 D6 X6 A6 Z6
  go_wp2_with fail
  refine C7.out.mono ?_
  rintro e w8 ⟨f, fc, rfl, hf, b8⟩
  have D8 := Lib.hid (below_then D7.out b8)
  have K8 := Lib.hid (K7.out.below b8)
  have Z8 := Lib.hid (Z7.out.below b8)
  have F8 := Lib.hid hf
  clear b8 K7 D7 hf C7 Z7
  go_wp2_with fail
  refine (HB.out _).mono ?_
  rintro e w9 ⟨B4, hx, rfl, hat, b9⟩
  have D9 := Lib.hid (below_then D8.out b9)
  have K9 := Lib.hid (K8.out.below b9)
  have Z9 := Lib.hid (Z8.out.below b9)
  have F9 := Lib.hid (F8.out.below b9)
  have X9 := Lib.hid hx
  have A9 := Lib.hid hat
  clear hx hat b9 K8 D8 Z8 F8
  go_wp2_with fail
  refine (HS.out _).mono ?_
  rintro e wa ⟨rfl, ba⟩
  have Da := Lib.hid (below_then D9.out ba)
  have Ka := Lib.hid (K9.out.below ba)
  have Za := Lib.hid (Z9.out.below ba)
  have Fa := Lib.hid (F9.out.below ba)
  have Ca := Lib.hid (most_ex X9.out _ (A9.out.below ba))
  clear ba K9 D9 X9 A9 Z9 F9
  go_wp2_with fail
  refine Ca.out.mono ?_
  rintro e wb ⟨l, lc, rfl, bb⟩
  have Db := Lib.hid (below_then Da.out bb)
  have Kb := Lib.hid (Ka.out.below bb)
  have Zb := Lib.hid (Za.out.below bb)
  have Fb := Lib.hid (Fa.out.below bb)
  clear bb Ka Da Ca Za Fa
  go_wp2_with fail
  refine (HB.out _).mono ?_
  rintro e wc ⟨B5, hx, rfl, hat, bc⟩
  have Dc := Lib.hid (below_then Db.out bc)
  have Kc := Lib.hid (Kb.out.below bc)
  have Zc := Lib.hid (Zb.out.below bc)
  have Fc := Lib.hid (Fb.out.below bc)
  have Xc := Lib.hid hx
  have Ac := Lib.hid hat
  clear hx hat bc Kb Db Zb Fb
  go_wp2_with fail
  refine (HS.out _).mono ?_
  rintro e wd ⟨rfl, bd⟩
  have Dd := Lib.hid (below_then Dc.out bd)
  have Kd := Lib.hid (Kc.out.below bd)
  have Zd := Lib.hid (Zc.out.below bd)
  have Fd := Lib.hid (Fc.out.below bd)
  have Cd := Lib.hid (bound_ex Xc.out _ (Ac.out.below bd))
  clear bd Kc Dc Xc Ac Zc Fc
  go_wp2_with fail
  refine Cd.out.mono ?_
  rintro e we ⟨rfl, be⟩
  have De := Lib.hid (below_then Dd.out be)
  have Ke := Lib.hid (Kd.out.below be)
  have Ze := Lib.hid (Zd.out.below be)
  have Fe := Lib.hid (Fd.out.below be)
  clear be Kd Dd Cd Zd Fd
  go_wp2_with fail
  refine (HB.out _).mono ?_
  rintro e wf ⟨B6, hx, rfl, hat, bf⟩
  have Df := Lib.hid (below_then De.out bf)
  have Kf := Lib.hid (Ke.out.below bf)
  have Zf := Lib.hid (Ze.out.below bf)
  have Ff := Lib.hid (Fe.out.below bf)
  have Xf := Lib.hid hx
  have Af := Lib.hid hat
  clear hx hat bf Ke De Ze Fe
  go_wp2_with fail
  refine (HS.out _).mono ?_
  rintro e wg ⟨rfl, bg⟩
  have Dg := Lib.hid (below_then Df.out bg)
  have Kg := Lib.hid (Kf.out.below bg)
  have Zg := Lib.hid (Zf.out.below bg)
  have Fg := Lib.hid (Ff.out.below bg)
  have Cg := Lib.hid (costs_ex Xf.out _ (Af.out.below bg))
  clear bg Kf Df Xf Af Zf Ff
  go_wp2_with fail
  refine Cg.out.mono ?_
  rintro e wh ⟨c, cc, rfl, hc, bh⟩
  have Dh := Lib.hid (below_then Dg.out bh)
  have Hh : Hid (KS wh g g' z f c) := ⟨Kg.out.below bh, Zg.out.below bh, Fg.out.below bh, hc⟩
  clear bh Kg Dg Cg Zg Fg hc
  go_wp2_with fail
  refine (HB.out _).mono ?_
  rintro e wi ⟨B7, hx, rfl, hat, bi⟩
  have Di := Lib.hid (below_then Dh.out bi)
  have Hi := Lib.hid (Hh.out.below bi)
  have Xi := Lib.hid hx
  have Ai := Lib.hid hat
  clear hx hat bi Dh Hh
  go_wp2_with fail
  refine (HS.out _).mono ?_
  rintro e wj ⟨rfl, bj⟩
  have Dj := Lib.hid (below_then Di.out bj)
  have Hj := Lib.hid (Hi.out.below bj)
  have Cj := Lib.hid (widest_ex Xi.out _ (Ai.out.below bj))
  clear bj Di Hi Xi Ai
  go_wp2_with fail
  refine Cj.out.mono ?_
  rintro e wk ⟨rfl, bk⟩
  have Dk := Lib.hid (below_then Dj.out bk).drew
  have Hk : Hid (KS wk.drew g g' z f c) := Hj.out.below bk.drew
  clear bk Dj Hj Cj HB HS
  have b4 := Hk.out.k.b4
  have b5 := Hk.out.k.b5
  have t4 := Hk.out.k.t4
  have t5 := Hk.out.k.t5
  go_wp2_with fail
  go_region_held3 (fun w' => w'.cell? ⟨g, 4, none⟩ = some (.int .i64 1) ∧ w'.cell? ⟨g, 5, none⟩ = some (.int .i64 4) ∧ w'.cell? ⟨g', 4, none⟩ = some (.int .i64 20) ∧ w'.cell? ⟨g', 5, none⟩ = some (.int .i64 22)) (first | exact ⟨b4, b5, t4, t5⟩ | exact ⟨(Hk.out.alloc _).k.b4, (Hk.out.alloc _).k.b5, (Hk.out.alloc _).k.t4, (Hk.out.alloc _).k.t5⟩)
    (first
    | (go_at_call 57; refine (HP.out _ _ _).mono ?_; rintro e x1 ⟨rfl, h1⟩; have E1 := Lib.hid (below_then Dk.out h1); have G1 := Lib.hid (Hk.out.below h1); clear Dk Hk b4 b5 t4 t5 h1; have Dk := E1; have Hk := G1; clear E1 G1; have b4 := Hk.out.k.b4; have b5 := Hk.out.k.b5; have t4 := Hk.out.k.t4; have t5 := Hk.out.k.t5)
    | (go_at_call 32; with_reducible refine (RefInts_eq _ _ 4 _ _ _ _ (Hk.out.alloc _).hz (ints_new4 _ _ _ _ _ _) (by decide)).mono ?_; rintro e x1 ⟨rfl, h1⟩; have E1 := Lib.hid (below_then (below_alloc' Dk.out _) h1); have G1 := Lib.hid ((Hk.out.alloc _).below h1); clear Dk Hk b4 b5 t4 t5 h1; have Dk := E1; have Hk := G1; clear E1 G1; have b4 := Hk.out.k.b4; have b5 := Hk.out.k.b5; have t4 := Hk.out.k.t4; have t5 := Hk.out.k.t5)
    | (go_at_call 32; with_reducible refine (RefInts_eq _ _ 3 _ _ _ _ (Hk.out.alloc _).hf (ints_new3 _ _ _ _ _) (by decide)).mono ?_; rintro e x1 ⟨rfl, h1⟩; have E1 := Lib.hid (below_then (below_alloc' Dk.out _) h1); have G1 := Lib.hid ((Hk.out.alloc _).below h1); clear Dk Hk b4 b5 t4 t5 h1; have Dk := E1; have Hk := G1; clear E1 G1; have b4 := Hk.out.k.b4; have b5 := Hk.out.k.b5; have t4 := Hk.out.k.t4; have t5 := Hk.out.k.t5)
    | (go_at_call 32; with_reducible refine (RefInts_eq _ _ 1 _ _ _ _ (Hk.out.alloc _).hc (ints_new1 _ _ _ rfl) (by decide)).mono ?_; rintro e x1 ⟨rfl, h1⟩; have E1 := Lib.hid (below_then (below_alloc' Dk.out _) h1); have G1 := Lib.hid ((Hk.out.alloc _).below h1); clear Dk Hk b4 b5 t4 t5 h1; have Dk := E1; have Hk := G1; clear E1 G1; have b4 := Hk.out.k.b4; have b5 := Hk.out.k.b5; have t4 := Hk.out.k.t4; have t5 := Hk.out.k.t5))
  all_goals
    go_wp2
    go_ret
    exact ⟨rfl, Dk.out⟩
end Go.Proofs.Ytiflhimmieflpaa

/- Plain functions: what bent comes to is the hull of all truths; it is the meeting of what is reached from the left and from the right. -/
namespace Go.Proofs.Ytiflhimmieflpaa

/-- Heights of an edge that are true: each in its span, neighbours at most bend apart. -/
structure Truth (xs : List (Int × Int)) (bend : Int) (t : Nat → Int) : Prop where
  lo : ∀ i, i < xs.length → (xs.getD i (0, 0)).1 ≤ t i
  hi : ∀ i, i < xs.length → t i ≤ (xs.getD i (0, 0)).2
  up : ∀ i, i + 1 < xs.length → t (i + 1) ≤ t i + bend
  dn : ∀ i, i + 1 < xs.length → t i ≤ t (i + 1) + bend

theorem truth_fw {xs : List (Int × Int)} {bend : Int} {t : Nat → Int} (h : Truth xs bend t) (i : Nat) (hi : i < xs.length) : (fw xs bend i).1 ≤ t i ∧ t i ≤ (fw xs bend i).2 := by
  induction i with
  | zero => exact ⟨h.lo 0 hi, h.hi 0 hi⟩
  | succ i ih =>
    have h1 := ih (by omega)
    have h2 := h.lo (i + 1) hi
    have h3 := h.hi (i + 1) hi
    have h4 := h.up i hi
    have h5 := h.dn i hi
    simp only [fw]
    omega
theorem truth_bw {xs : List (Int × Int)} {bend : Int} {t : Nat → Int} (h : Truth xs bend t) (j : Nat) (hj : j < xs.length) : (bw xs bend xs.length j).1 ≤ t (xs.length - 1 - j) ∧ t (xs.length - 1 - j) ≤ (bw xs bend xs.length j).2 := by
  induction j with
  | zero => exact truth_fw h _ (by omega)
  | succ j ih =>
    have h1 := ih (by omega)
    have h2 := truth_fw h (xs.length - 1 - (j + 1)) (by omega)
    have e : xs.length - 1 - j = xs.length - 1 - (j + 1) + 1 := by omega
    have h4 := h.up (xs.length - 1 - (j + 1)) (by omega)
    have h5 := h.dn (xs.length - 1 - (j + 1)) (by omega)
    rw [← e] at h4 h5
    simp only [bw]
    omega
theorem truth_bent {xs : List (Int × Int)} {bend : Int} {t : Nat → Int} (h : Truth xs bend t) (i : Nat) (hi : i < xs.length) : ((bentL xs bend).getD i (0, 0)).1 ≤ t i ∧ t i ≤ ((bentL xs bend).getD i (0, 0)).2 := by
  rw [bentL_getD _ _ _ hi]
  have := truth_bw h (xs.length - 1 - i) (by omega)
  rwa [show xs.length - 1 - (xs.length - 1 - i) = i from by omega] at this
theorem fwOk_iff {xs : List (Int × Int)} {bend : Int} {n : Nat} : fwOk xs bend n = true ↔ ∀ k, k < n → (fw xs bend k).1 ≤ (fw xs bend k).2 := by
  simp [fwOk, List.all_eq_true]
theorem truth_ok {xs : List (Int × Int)} {bend : Int} {t : Nat → Int} (h : Truth xs bend t) : bentOk xs bend = true := by
  unfold bentOk
  rw [fwOk_iff]
  intro k hk
  have := truth_fw h k hk
  omega
theorem fw_sub (xs : List (Int × Int)) (bend : Int) (k : Nat) : (xs.getD k (0, 0)).1 ≤ (fw xs bend k).1 ∧ (fw xs bend k).2 ≤ (xs.getD k (0, 0)).2 := by
  cases k with
  | zero => simp [fw]
  | succ k => simp only [fw]; omega
theorem bw_sub (xs : List (Int × Int)) (bend : Int) (n j : Nat) : (fw xs bend (n - 1 - j)).1 ≤ (bw xs bend n j).1 ∧ (bw xs bend n j).2 ≤ (fw xs bend (n - 1 - j)).2 := by
  cases j with
  | zero => simp [bw]
  | succ j => simp only [bw]; omega
theorem bw_full {xs : List (Int × Int)} {bend : Int} (hb : 0 ≤ bend) (h : bentOk xs bend = true) (j : Nat) (hj : j < xs.length) : (bw xs bend xs.length j).1 ≤ (bw xs bend xs.length j).2 := by
  unfold bentOk at h
  rw [fwOk_iff] at h
  induction j with
  | zero => exact h _ (by omega)
  | succ j ih =>
    have h1 := ih (by omega)
    have h2 := h (xs.length - 1 - (j + 1)) (by omega)
    have h3 := bw_sub xs bend xs.length j
    have e : xs.length - 1 - j = xs.length - 1 - (j + 1) + 1 := by omega
    rw [e, fw_succ] at h3
    simp only at h3
    simp only [bw]
    omega
theorem bent_full {xs : List (Int × Int)} {bend : Int} (hb : 0 ≤ bend) (h : bentOk xs bend = true) (i : Nat) (hi : i < xs.length) : ((bentL xs bend).getD i (0, 0)).1 ≤ ((bentL xs bend).getD i (0, 0)).2 := by
  rw [bentL_getD _ _ _ hi]
  exact bw_full hb h _ (by omega)
theorem bent_sub (xs : List (Int × Int)) (bend : Int) (i : Nat) (hi : i < xs.length) : (xs.getD i (0, 0)).1 ≤ ((bentL xs bend).getD i (0, 0)).1 ∧ ((bentL xs bend).getD i (0, 0)).2 ≤ (xs.getD i (0, 0)).2 := by
  rw [bentL_getD _ _ _ hi]
  have h1 := bw_sub xs bend xs.length (xs.length - 1 - i)
  have h2 := fw_sub xs bend (xs.length - 1 - (xs.length - 1 - i))
  rw [show xs.length - 1 - (xs.length - 1 - i) = i from by omega] at h1 h2
  omega
theorem bent_step {xs : List (Int × Int)} {bend : Int} (hb : 0 ≤ bend) (i : Nat) (hi : i + 1 < xs.length) :
    ((bentL xs bend).getD (i + 1) (0, 0)).1 ≤ ((bentL xs bend).getD i (0, 0)).1 + bend ∧ ((bentL xs bend).getD i (0, 0)).1 ≤ ((bentL xs bend).getD (i + 1) (0, 0)).1 + bend ∧
    ((bentL xs bend).getD (i + 1) (0, 0)).2 ≤ ((bentL xs bend).getD i (0, 0)).2 + bend ∧ ((bentL xs bend).getD i (0, 0)).2 ≤ ((bentL xs bend).getD (i + 1) (0, 0)).2 + bend := by
  rw [bentL_getD _ _ _ hi, bentL_getD _ _ _ (by omega : i < xs.length)]
  have e : xs.length - 1 - i = xs.length - 1 - (i + 1) + 1 := by omega
  have h1 := bw_sub xs bend xs.length (xs.length - 1 - (i + 1))
  rw [show xs.length - 1 - (xs.length - 1 - (i + 1)) = i + 1 from by omega, fw_succ] at h1
  rw [e, bw_succ, show xs.length - 1 - (xs.length - 1 - (i + 1) + 1) = i from by omega]
  simp only at h1 ⊢
  omega
theorem truth_lows {xs : List (Int × Int)} {bend : Int} (hb : 0 ≤ bend) (h : bentOk xs bend = true) : Truth xs bend (fun i => ((bentL xs bend).getD i (0, 0)).1) :=
  ⟨fun i hi => (bent_sub xs bend i hi).1, fun i hi => by
    have h1 := bent_sub xs bend i hi
    have h2 := bent_full hb h i hi
    show ((bentL xs bend).getD i (0, 0)).1 ≤ _
    omega, fun i hi => (bent_step hb i hi).1, fun i hi => (bent_step hb i hi).2.1⟩
theorem truth_highs {xs : List (Int × Int)} {bend : Int} (hb : 0 ≤ bend) (h : bentOk xs bend = true) : Truth xs bend (fun i => ((bentL xs bend).getD i (0, 0)).2) :=
  ⟨fun i hi => by
    have h1 := bent_sub xs bend i hi
    have h2 := bent_full hb h i hi
    show _ ≤ ((bentL xs bend).getD i (0, 0)).2
    omega, fun i hi => (bent_sub xs bend i hi).2, fun i hi => (bent_step hb i hi).2.2.1, fun i hi => (bent_step hb i hi).2.2.2⟩
theorem ext_getD {xs ys : List (Int × Int)} (hl : xs.length = ys.length) (h : ∀ i, i < xs.length → xs.getD i (0, 0) = ys.getD i (0, 0)) : xs = ys := by
  apply List.ext_getElem hl
  intro i h1 h2
  have := h i h1
  simpa [List.getD, h1, h2] using this
/-- The hull is determined by the truths. -/
theorem bent_unique {xs ys : List (Int × Int)} {bend : Int} (hb : 0 ≤ bend) (hl : xs.length = ys.length) (hx : bentOk xs bend = true) (h : ∀ t, Truth xs bend t ↔ Truth ys bend t) : bentL xs bend = bentL ys bend := by
  have hy : bentOk ys bend = true := truth_ok ((h _).1 (truth_lows hb hx))
  apply ext_getD (by rw [bentL_length, bentL_length, hl])
  rw [bentL_length]
  intro i hi
  have hi' : i < ys.length := by omega
  have a1 := truth_bent ((h _).1 (truth_lows hb hx)) i hi'
  have a2 := truth_bent ((h _).2 (truth_lows hb hy)) i hi
  have a3 := truth_bent ((h _).1 (truth_highs hb hx)) i hi'
  have a4 := truth_bent ((h _).2 (truth_highs hb hy)) i hi
  apply Prod.ext
  · exact Int.le_antisymm a2.1 a1.1
  · exact Int.le_antisymm a3.2 a4.2
theorem truth_of_bent {xs : List (Int × Int)} {bend : Int} {t : Nat → Int} (h : Truth (bentL xs bend) bend t) : Truth xs bend t := by
  have hl := bentL_length xs bend
  refine ⟨fun i hi => ?_, fun i hi => ?_, fun i hi => h.up i (by omega), fun i hi => h.dn i (by omega)⟩
  · have := h.lo i (by omega); have := bent_sub xs bend i hi; omega
  · have := h.hi i (by omega); have := bent_sub xs bend i hi; omega
theorem bent_of_truth {xs : List (Int × Int)} {bend : Int} {t : Nat → Int} (h : Truth xs bend t) : Truth (bentL xs bend) bend t := by
  have hl := bentL_length xs bend
  exact ⟨fun i hi => (truth_bent h i (by omega)).1, fun i hi => (truth_bent h i (by omega)).2, fun i hi => h.up i (by omega), fun i hi => h.dn i (by omega)⟩
theorem bent_twice {xs : List (Int × Int)} {bend : Int} (hb : 0 ≤ bend) (h : bentOk xs bend = true) : bentOk (bentL xs bend) bend = true ∧ bentL (bentL xs bend) bend = bentL xs bend := by
  have h1 := truth_ok (bent_of_truth (truth_lows hb h))
  exact ⟨h1, bent_unique hb (bentL_length _ _) h1 fun t => ⟨truth_of_bent, bent_of_truth⟩⟩

/-- One column is set to one height. -/
theorem getD_set (xs : List (Int × Int)) (x i : Nat) (v : Int × Int) (hi : i < xs.length) : (xs.set x v).getD i (0, 0) = if i = x then v else xs.getD i (0, 0) := by
  by_cases e : i = x
  · subst e; simp [List.getD, hi]
  · have e' : ¬ x = i := fun h => e h.symm
    simp [List.getD, e, e']
theorem truth_set {xs : List (Int × Int)} {bend : Int} {t : Nat → Int} {x : Nat} {v : Int} (hx : x < xs.length) (hv : (xs.getD x (0, 0)).1 ≤ v ∧ v ≤ (xs.getD x (0, 0)).2) : Truth (xs.set x (v, v)) bend t ↔ Truth xs bend t ∧ t x = v := by
  constructor
  · intro h
    have hl : (xs.set x (v, v)).length = xs.length := by simp
    have hxv : t x = v := by
      have h1 := h.lo x (by omega); have h2 := h.hi x (by omega)
      rw [getD_set _ _ _ _ hx, if_pos rfl] at h1 h2
      simp only at h1 h2
      omega
    refine ⟨⟨fun i hi => ?_, fun i hi => ?_, fun i hi => h.up i (by omega), fun i hi => h.dn i (by omega)⟩, hxv⟩
    · have h1 := h.lo i (by omega)
      rw [getD_set _ _ _ _ hi] at h1
      split at h1
      · rename_i e; subst e; simp only at h1; omega
      · exact h1
    · have h1 := h.hi i (by omega)
      rw [getD_set _ _ _ _ hi] at h1
      split at h1
      · rename_i e; subst e; simp only at h1; omega
      · exact h1
  · rintro ⟨h, hxv⟩
    have hl : (xs.set x (v, v)).length = xs.length := by simp
    refine ⟨fun i hi => ?_, fun i hi => ?_, fun i hi => h.up i (by omega), fun i hi => h.dn i (by omega)⟩
    · rw [getD_set _ _ _ _ (by omega)]
      split
      · rename_i e; subst e; simp only; omega
      · exact h.lo i (by omega)
    · rw [getD_set _ _ _ _ (by omega)]
      split
      · rename_i e; subst e; simp only; omega
      · exact h.hi i (by omega)

/-- From the left and from the right. -/
theorem getD_reverse (xs : List (Int × Int)) (i : Nat) (hi : i < xs.length) : xs.reverse.getD i (0, 0) = xs.getD (xs.length - 1 - i) (0, 0) := by
  simp [List.getD, List.getElem?_reverse hi]
theorem bw_meet {xs : List (Int × Int)} {bend : Int} (hb : 0 ≤ bend) (j : Nat) (hj : j < xs.length) :
    bw xs bend xs.length j = (max (fw xs bend (xs.length - 1 - j)).1 (fw xs.reverse bend j).1, min (fw xs bend (xs.length - 1 - j)).2 (fw xs.reverse bend j).2) := by
  have hz : ∀ k, k < xs.length → xs.reverse.getD k (0, 0) = xs.getD (xs.length - 1 - k) (0, 0) := fun k hk => getD_reverse xs k hk
  induction j with
  | zero =>
    have h1 := fw_sub xs bend (xs.length - 1)
    rw [bw_zero, fw_zero xs.reverse, hz 0 hj]
    simp only [Nat.sub_zero]
    apply Prod.ext
    · show (fw xs bend (xs.length - 1)).1 = max _ _; omega
    · show (fw xs bend (xs.length - 1)).2 = min _ _; omega
  | succ j ih =>
    have ih := ih (by omega)
    have e : xs.length - 1 - j = xs.length - 1 - (j + 1) + 1 := by omega
    have h1 := fw_sub xs bend (xs.length - 1 - (j + 1))
    have h2 := fw_sub xs.reverse bend j
    rw [hz j (by omega), e] at h2
    rw [bw_succ, ih, e, fw_succ xs bend, fw_succ xs.reverse, hz (j + 1) hj]
    simp only
    apply Prod.ext
    · simp only; omega
    · simp only; omega
theorem bent_meet {xs : List (Int × Int)} {bend : Int} (hb : 0 ≤ bend) (i : Nat) (hi : i < xs.length) :
    (bentL xs bend).getD i (0, 0) = (max (fw xs bend i).1 (fw xs.reverse bend (xs.length - 1 - i)).1, min (fw xs bend i).2 (fw xs.reverse bend (xs.length - 1 - i)).2) := by
  rw [bentL_getD _ _ _ hi, bw_meet hb _ (by omega), show xs.length - 1 - (xs.length - 1 - i) = i from by omega]
end Go.Proofs.Ytiflhimmieflpaa

/- Plain functions: the reference's Reach and Curve come to what bent comes to. -/
namespace Go.Proofs.Ytiflhimmieflpaa

def inS (s : Int × Int) (h : Nat) : Bool := decide (s.1 ≤ h) && decide ((h : Int) ≤ s.2)
/-- Whether height k is one from which h is reached. -/
def nearB (bend : Int) (h k : Nat) : Bool := decide ((h : Int) - bend ≤ k) && decide ((k : Int) ≤ h + bend)
def reachB (xs : List (Int × Int)) (bend : Int) : Nat → Nat → Bool
  | 0, h => inS (xs.getD 0 (0, 0)) h
  | i + 1, h => inS (xs.getD (i + 1) (0, 0)) h && (List.range 301).any fun k => nearB bend h k && reachB xs bend i k
theorem reach_iff {xs : List (Int × Int)} {bend : Int} (hx : ∀ s ∈ xs, InR s) (hb : 0 ≤ bend) (i : Nat) (hi : i < xs.length) (h : Nat) (hh : h ≤ 300) :
    reachB xs bend i h = true ↔ fwOk xs bend i = true ∧ (fw xs bend i).1 ≤ h ∧ (h : Int) ≤ (fw xs bend i).2 := by
  induction i generalizing h with
  | zero => simp [reachB, inS, fwOk, fw]
  | succ i ih =>
    have hin := fw_in hx hb i (by omega)
    simp only [reachB, Bool.and_eq_true, List.any_eq_true, List.mem_range]
    rw [fwOk_succ, Bool.and_eq_true, decide_eq_true_eq]
    constructor
    · rintro ⟨h1, k, hk, h2, h3⟩
      rw [ih (by omega) k (by omega)] at h3
      simp only [inS, nearB, Bool.and_eq_true, decide_eq_true_eq] at h1 h2
      refine ⟨⟨h3.1, by omega⟩, ?_⟩
      rw [fw_succ]
      simp only
      omega
    · rintro ⟨⟨h1, h2⟩, h3, h4⟩
      rw [fw_succ] at h3 h4
      simp only at h3 h4
      unfold InR at hin
      refine ⟨by simp only [inS, Bool.and_eq_true, decide_eq_true_eq]; omega, (max (fw xs bend i).1 (h - bend)).toNat, by omega, ?_, ?_⟩
      · simp only [nearB, Bool.and_eq_true, decide_eq_true_eq]; omega
      · rw [ih (by omega) _ (by omega)]
        exact ⟨h1, by omega, by omega⟩
/-- The least and the greatest height of a column that is reached from both sides, of the first H. -/
def bothB (xs : List (Int × Int)) (bend : Int) (i h : Nat) : Bool := reachB xs bend i h && reachB xs.reverse bend (xs.length - 1 - i) h
def scanB (p : Nat → Bool) : Nat → Bool × Int × Int
  | 0 => (false, 0, 0)
  | h + 1 => if p h = true then (true, if (scanB p h).1 = true then (scanB p h).2.1 else h, h) else scanB p h
theorem scan_none {p : Nat → Bool} : ∀ H : Nat, (∀ h, h < H → p h = false) → scanB p H = (false, 0, 0)
  | 0, _ => rfl
  | H + 1, h => by
    rw [scanB, if_neg (by rw [h H (by omega)]; decide), scan_none H fun k hk => h k (by omega)]
theorem scan_span {p : Nat → Bool} {lo hi : Int} (hl : 0 ≤ lo) (hlh : lo ≤ hi) : ∀ H : Nat, (∀ h : Nat, h < H → (p h = true ↔ lo ≤ h ∧ (h : Int) ≤ hi)) → scanB p H = if (H : Int) ≤ lo then (false, 0, 0) else (true, lo, min hi ((H : Int) - 1))
  | 0, _ => by rw [scanB, if_pos (by omega)]
  | H + 1, h => by
    have ih := scan_span hl hlh H fun k hk => h k (by omega)
    have hH := h H (by omega)
    by_cases e : p H = true
    · have := hH.1 e
      rw [if_neg (by omega : ¬ (((H + 1 : Nat) : Int) ≤ lo))]
      by_cases e2 : (H : Int) ≤ lo
      · have ih' : scanB p H = (false, 0, 0) := by rw [ih, if_pos e2]
        rw [scanB, if_pos e, ih', if_neg (by decide)]
        refine Prod.ext rfl (Prod.ext ?_ ?_) <;> simp only <;> omega
      · have ih' : scanB p H = (true, lo, min hi ((H : Int) - 1)) := by rw [ih, if_neg e2]
        rw [scanB, if_pos e, ih', if_pos rfl]
        refine Prod.ext rfl (Prod.ext rfl ?_)
        simp only
        omega
    · have hn : ¬ (lo ≤ (H : Int) ∧ (H : Int) ≤ hi) := fun c => e (hH.2 c)
      rw [scanB, if_neg e, ih]
      by_cases e2 : (H : Int) ≤ lo
      · rw [if_pos e2, if_pos (by omega)]
      · rw [if_neg e2, if_neg (by omega)]
        refine Prod.ext rfl (Prod.ext rfl ?_)
        simp only
        omega
def curB (xs : List (Int × Int)) (bend : Int) (i : Nat) : Bool × Int × Int := scanB (bothB xs bend i) 301
def refCurveL (xs : List (Int × Int)) (bend : Int) : List (Int × Int) := if ((List.range xs.length).all fun i => (curB xs bend i).1) = true then (List.range xs.length).map fun i => (curB xs bend i).2 else []
theorem reverse_truth {xs : List (Int × Int)} {bend : Int} {t : Nat → Int} (h : Truth xs bend t) : Truth xs.reverse bend (fun i => t (xs.length - 1 - i)) := by
  refine ⟨fun i hi => ?_, fun i hi => ?_, fun i hi => ?_, fun i hi => ?_⟩
  · simp only [List.length_reverse] at hi
    rw [getD_reverse xs i hi]
    exact h.lo _ (by omega)
  · simp only [List.length_reverse] at hi
    rw [getD_reverse xs i hi]
    exact h.hi _ (by omega)
  · simp only [List.length_reverse] at hi
    have := h.dn (xs.length - 1 - (i + 1)) (by omega)
    rw [show xs.length - 1 - (i + 1) + 1 = xs.length - 1 - i from by omega] at this
    exact this
  · simp only [List.length_reverse] at hi
    have := h.up (xs.length - 1 - (i + 1)) (by omega)
    rw [show xs.length - 1 - (i + 1) + 1 = xs.length - 1 - i from by omega] at this
    exact this
theorem reverse_ok {xs : List (Int × Int)} {bend : Int} (hb : 0 ≤ bend) (h : bentOk xs bend = true) : bentOk xs.reverse bend = true := truth_ok (reverse_truth (truth_lows hb h))
theorem fwOk_mono {xs : List (Int × Int)} {bend : Int} {n k : Nat} (h : fwOk xs bend n = true) (hk : k ≤ n) : fwOk xs bend k = true := by
  rw [fwOk_iff] at h ⊢
  intro j hj
  exact h j (by omega)
theorem curB_ok {xs : List (Int × Int)} {bend : Int} (hx : ∀ s ∈ xs, InR s) (hb : 0 ≤ bend) (h : bentOk xs bend = true) (i : Nat) (hi : i < xs.length) : curB xs bend i = (true, (bentL xs bend).getD i (0, 0)) := by
  have hr := reverse_ok hb h
  have hxr : ∀ s ∈ xs.reverse, InR s := fun s hs => hx s (List.mem_reverse.1 hs)
  have hm := bent_meet hb i hi
  have hf := bent_full hb h i hi
  have hin := fw_in hx hb i hi
  have hin' := fw_in hxr hb (xs.length - 1 - i) (by simp; omega)
  unfold InR at hin hin'
  rw [hm] at hf
  simp only at hf
  unfold curB
  rw [scan_span (lo := max (fw xs bend i).1 (fw xs.reverse bend (xs.length - 1 - i)).1) (hi := min (fw xs bend i).2 (fw xs.reverse bend (xs.length - 1 - i)).2) (by omega) hf 301, if_neg (by omega), hm]
  · congr 2
    omega
  · intro k hk
    unfold bothB
    rw [Bool.and_eq_true, reach_iff hx hb i hi k (by omega), reach_iff hxr hb _ (by simp; omega) k (by omega)]
    have e1 : fwOk xs bend i = true := fwOk_mono h (by omega)
    have e2 : fwOk xs.reverse bend (xs.length - 1 - i) = true := fwOk_mono hr (by simp; omega)
    constructor
    · rintro ⟨⟨_, a, b⟩, _, c, d⟩; omega
    · intro c; exact ⟨⟨e1, by omega, by omega⟩, e2, by omega, by omega⟩
theorem refCurve_ok {xs : List (Int × Int)} {bend : Int} (hx : ∀ s ∈ xs, InR s) (hb : 0 ≤ bend) (h : bentOk xs bend = true) : refCurveL xs bend = bentL xs bend := by
  unfold refCurveL
  rw [if_pos (by rw [List.all_eq_true]; intro i hi; rw [curB_ok hx hb h i (List.mem_range.1 hi)])]
  apply ext_getD (by simp [bentL_length])
  intro i hi
  have hi' : i < xs.length := by simpa using hi
  rw [← (curB_ok hx hb h i hi' ▸ rfl : (curB xs bend i).2 = (bentL xs bend).getD i (0, 0))]
  simp [List.getD, hi']
theorem refCurve_no {xs : List (Int × Int)} {bend : Int} (hx : ∀ s ∈ xs, InR s) (hb : 0 ≤ bend) (h : bentOk xs bend = false) : refCurveL xs bend = [] := by
  unfold refCurveL
  rw [if_neg]
  intro hall
  rw [List.all_eq_true] at hall
  have : ¬ ∀ k, k < xs.length → (fw xs bend k).1 ≤ (fw xs bend k).2 := fun c => by
    have := fwOk_iff.2 c
    unfold bentOk at h
    rw [h] at this
    cases this
  apply this
  intro k hk
  have hc := hall k (List.mem_range.2 hk)
  apply Decidable.byContradiction
  intro hn
  have : curB xs bend k = (false, 0, 0) := scan_none 301 fun j hj => by
    unfold bothB
    cases hr : reachB xs bend k j with
    | false => rfl
    | true =>
      rw [reach_iff hx hb k hk j (by omega)] at hr
      omega
  rw [this] at hc
  cases hc
theorem refCurve_empty {xs : List (Int × Int)} {bend : Int} (hx : ∀ s ∈ xs, InR s) (hb : 0 ≤ bend) (h0 : 0 < xs.length) : (refCurveL xs bend).length = 0 ↔ bentOk xs bend = false := by
  cases h : bentOk xs bend with
  | true => rw [refCurve_ok hx hb h, bentL_length]; constructor <;> intro c <;> (first | omega | cases c)
  | false => rw [refCurve_no hx hb h]; simp

/-- The heights below k from which h is reached, column i. -/
def anyTo (xs : List (Int × Int)) (bend : Int) (i h k : Nat) : Bool := (List.range k).any fun q => nearB bend h q && reachB xs bend i q
theorem anyTo_succ (xs : List (Int × Int)) (bend : Int) (i h k : Nat) : anyTo xs bend i h (k + 1) = (anyTo xs bend i h k || (nearB bend h k && reachB xs bend i k)) := by
  simp [anyTo, List.range_succ, List.any_append]
theorem reach_succ (xs : List (Int × Int)) (bend : Int) (i h : Nat) : reachB xs bend (i + 1) h = (inS (xs.getD (i + 1) (0, 0)) h && anyTo xs bend i h 301) := rfl
theorem anyTo_start {xs : List (Int × Int)} {bend : Int} {i h k : Nat} (hk : (k : Int) = max 0 ((h : Int) - bend)) : anyTo xs bend i h k = false := by
  unfold anyTo
  rw [List.any_eq_false]
  intro q hq
  have := List.mem_range.1 hq
  have hn : nearB bend h q = false := by simp only [nearB, Bool.and_eq_false_iff, decide_eq_false_iff_not]; left; omega
  simp [hn]
theorem anyTo_end {xs : List (Int × Int)} {bend : Int} {i h k : Nat} (hk : k ≤ 301) (he : ¬ ((k : Int) ≤ min 300 ((h : Int) + bend))) : anyTo xs bend i h k = anyTo xs bend i h 301 := by
  have key : ∀ d, k + d ≤ 301 → anyTo xs bend i h (k + d) = anyTo xs bend i h k := by
    intro d
    induction d with
    | zero => intro _; rfl
    | succ d ih =>
      intro hd
      have hn : nearB bend h (k + d) = false := by simp only [nearB, Bool.and_eq_false_iff, decide_eq_false_iff_not]; right; omega
      rw [← Nat.add_assoc, anyTo_succ, ih (by omega), hn]
      simp
  have := key (301 - k) (by omega)
  rw [show k + (301 - k) = 301 from by omega] at this
  exact this.symm
theorem near_in {bend : Int} {h k : Nat} (h1 : (h : Int) - bend ≤ k) (h2 : (k : Int) ≤ h + bend) : nearB bend h k = true := by simp [nearB, h1, h2]
/-- A row, the heights below H looked at. -/
def rowTo (xs : List (Int × Int)) (bend : Int) (i H h : Nat) : Bool := decide (h < H) && reachB xs bend i h
theorem reach_out {xs : List (Int × Int)} {bend : Int} {i h : Nat} (ho : inS (xs.getD i (0, 0)) h = false) : reachB xs bend i h = false := by
  cases i with
  | zero => exact ho
  | succ i => rw [reach_succ, ho]; rfl
theorem rowTo_start {xs : List (Int × Int)} {bend : Int} {i H h : Nat} (hH : (H : Int) = (xs.getD i (0, 0)).1) : rowTo xs bend i H h = false := by
  unfold rowTo
  by_cases hlt : h < H
  · rw [reach_out (by simp only [inS, Bool.and_eq_false_iff, decide_eq_false_iff_not]; left; omega)]; simp
  · simp [hlt]
theorem rowTo_end {xs : List (Int × Int)} {bend : Int} {i H h : Nat} (hH : (xs.getD i (0, 0)).2 < (H : Int)) : rowTo xs bend i H h = reachB xs bend i h := by
  unfold rowTo
  by_cases hlt : h < H
  · simp [hlt]
  · rw [reach_out (by simp only [inS, Bool.and_eq_false_iff, decide_eq_false_iff_not]; right; omega)]; simp
theorem rowTo_succ {xs : List (Int × Int)} {bend : Int} {i H j : Nat} : rowTo xs bend i (H + 1) j = if j = H then reachB xs bend i H else rowTo xs bend i H j := by
  unfold rowTo
  by_cases e : j = H
  · subst e; simp
  · rw [if_neg e]
    congr 1
    exact decide_eq_decide.2 (by omega)
end Go.Proofs.Ytiflhimmieflpaa

/- Walks: the reference's In, Span, Spans (of equal lists), Same (of equal blades). -/
namespace Go.Proofs.Ytiflhimmieflpaa
open Go.RowKit Go.Maps

def inB (n a b : Int) : Bool := decide (a ≤ n) && decide (n ≤ b)
theorem RefIn_any (n a b : Int) (w : World) : Calls Try.prog 49 #[.int .i64 n, .int .i64 a, .int .i64 b] w fun e w' => e = .returned (.bool (inB n a b)) ∧ w = w' := by
  have HD : Hid (inB n a b = (decide (a ≤ n) && decide (n ≤ b))) := rfl
  by_cases h1 : a ≤ n
  · by_cases h2 : n ≤ b
    · have HT : Hid (inB n a b = true) := by unfold Hid; rw [HD.out]; simp [h1, h2]
      go_enter Try.func49, Try.ntmps49
      go_wp2
      go_ret
      exact ⟨ret_bool HT.out.symm, rfl⟩
    · have HT : Hid (inB n a b = false) := by unfold Hid; rw [HD.out]; simp [h2]
      go_enter Try.func49, Try.ntmps49
      go_wp2
      go_ret
      exact ⟨ret_bool HT.out.symm, rfl⟩
  · have HT : Hid (inB n a b = false) := by unfold Hid; rw [HD.out]; simp [h1]
    go_enter Try.func49, Try.ntmps49
    go_wp2
    go_ret
    exact ⟨ret_bool HT.out.symm, rfl⟩
def spanB (s : Int × Int) (a b : Int) : Bool := inB s.1 a s.2 && decide (s.2 ≤ b)
theorem RefSpan_any (lo hi a b : Int) (w : World) : Calls Try.prog 61 #[.agg #[.int .i64 lo, .int .i64 hi], .int .i64 a, .int .i64 b] w fun e w' => e = .returned (.bool (spanB (lo, hi) a b)) ∧ Below w.heap.size w w' := by
  have HD : Hid (spanB (lo, hi) a b = (inB lo a hi && decide (hi ≤ b))) := rfl
  have HB := Lib.hid (below_self w (.cells #[.int .i64 lo, .int .i64 hi] 98))
  have HI := Lib.hid (fun W => RefIn_any lo a hi W)
  cases q : inB lo a hi
  · have HF : Hid (spanB (lo, hi) a b = false) := by unfold Hid; rw [HD.out, q]; rfl
    rw [q] at HI
    clear HD q
    go_enter Try.func61, Try.ntmps61
    go_wp2_with fail
    refine (HI.out _).mono ?_
    rintro e w' ⟨rfl, rfl⟩
    go_wp2
    go_ret
    exact ⟨ret_bool HF.out.symm, HB.out⟩
  · have HF : Hid (spanB (lo, hi) a b = decide (hi ≤ b)) := by unfold Hid; rw [HD.out, q]; simp
    rw [q] at HI
    clear HD q
    go_enter Try.func61, Try.ntmps61
    go_wp2_with fail
    refine (HI.out _).mono ?_
    rintro e w' ⟨rfl, rfl⟩
    go_wp2
    all_goals
      go_ret
      exact ⟨ret_bool (by rw [HF.out]), HB.out⟩

set_option maxRecDepth 100000 in
theorem RefSpans_eq (A A' : Option Addr) (n c c' : Nat) (xs : List (Int × Int)) (w : World) (h : Pairs w A n xs) (h' : Pairs w A' n xs) (hn : n ≤ maxLen) :
    Calls Try.prog 24 #[.slice A n c, .slice A' n c'] w fun e w' => e = .returned (.bool true) ∧ Below w.heap.size w w' := by
  unfold maxLen at hn
  have H := Lib.hid h
  have H' := Lib.hid h'
  have hd2 : ((n : Int) != (n : Int)) = false := by simp
  have hd : ((n : Int) == (n : Int)) = true := by simp
  clear h h'
  go_enter Try.func24, Try.ntmps24
  go_wp2
  go_loopw [5] (fun i wr => ∃ k : Nat, k ≤ n ∧ i = .int .i64 k ∧ Below w.heap.size w wr) (fun i _ => n - (intOf i).toNat)
  case atStart => exact ⟨0, Nat.zero_le _, rfl, Below.refl _ _⟩
  case round =>
    obtain ⟨k, hk, rfl, hbel⟩ := hrel
    have Hbel := Lib.hid hbel
    by_cases hlt : k < n
    · obtain ⟨b, off, hA, hb, q0, q1⟩ := (H.out.below hbel).at_ hlt
      obtain ⟨b', off', hA', hb', p0, p1⟩ := (H'.out.below hbel).at_ hlt
      subst hA hA'
      clear hbel
      generalize (xs.getD k (0, 0)).1 = x at *
      generalize (xs.getD k (0, 0)).2 = y at *
      go_wp2_with fail
      go_quiet (fail)
      go_wp2
      go_roundw
      case rel => exact ⟨k + 1, by omega, by go_num, below_drewN Hbel.out _⟩
      case measure => simp [intOf]; omega
    · obtain rfl : k = n := by omega
      go_wp2
      go_ret
      exact ⟨rfl, Hbel.out⟩
end Go.Proofs.Ytiflhimmieflpaa

/- Walks: the reference's Same, of equal blades. -/
namespace Go.Proofs.Ytiflhimmieflpaa
open Go.RowKit Go.Maps

set_option maxRecDepth 100000 in
set_option maxHeartbeats 1000000 in
theorem RefSame_core (A A' K E E' F : Option Addr) (n c n' c' m d e1 e2 e3 : Nat) (bend : Int) (bot top : List (Int × Int)) (cr : List Crack) (w : World) (h1 : Pairs w A n bot) (h2 : Pairs w A' n' top) (h3 : Cracks w K m cr) (g1 : Pairs w E n bot) (g2 : Pairs w E' n' top) (g3 : Cracks w F m cr) (hn : n ≤ maxLen) (hn' : n' ≤ maxLen) (hm : m ≤ maxLen) :
    Calls Try.prog 23 #[.agg #[.slice A n c, .slice A' n' c', .int .i64 bend, .slice K m d], .agg #[.slice E n e1, .slice E' n' e2, .int .i64 bend, .slice F m e3]] w fun e w' => e = .returned (.bool true) ∧ Below w.heap.size w w' := by
  have E0 : Hid (Below w.heap.size w ((w.alloc (.cells #[.slice A n c, .slice A' n' c', .int .i64 bend, .slice K m d] 25)).alloc (.cells #[.slice E n e1, .slice E' n' e2, .int .i64 bend, .slice F m e3] 25))) := below_alloc' (below_self _ _) _
  have S1 := Lib.hid ((Blk.new w 25 #[.slice A n c, .slice A' n' c', .int .i64 bend, .slice K m d] rfl).alloc (.cells #[.slice E n e1, .slice E' n' e2, .int .i64 bend, .slice F m e3] 25))
  have S2 := Lib.hid (Blk.new (w.alloc (.cells #[.slice A n c, .slice A' n' c', .int .i64 bend, .slice K m d] 25)) 25 #[.slice E n e1, .slice E' n' e2, .int .i64 bend, .slice F m e3] (g := w.heap.size + 1) (by simp))
  have HC1 := Lib.hid (fun W (hb : Below w.heap.size w W) => RefSpans_eq A E n c e1 bot W (h1.below hb) (g1.below hb) hn)
  have HC2 := Lib.hid (fun W (hb : Below w.heap.size w W) => RefSpans_eq A' E' n' c' e2 top W (h2.below hb) (g2.below hb) hn')
  have K1 := Lib.hid h3
  have K2 := Lib.hid g3
  have hd2 : ((m : Int) != (m : Int)) = false := by simp
  have hb2 : (bend != bend) = false := by simp
  unfold maxLen at hm
  clear h1 h2 h3 g1 g2 g3 hn hn'
  go_enter Try.func23, Try.ntmps23
  go_wp2_with fail
  refine (HC1.out _ E0.out).mono ?_
  rintro e w1 ⟨rfl, b1⟩
  have D1 := Lib.hid (below_then E0.out b1)
  have T1 := Lib.hid (blk_keep b1 S1.out)
  have T2 := Lib.hid (blk_keep b1 S2.out)
  have t1 := T1.out.cell
  have t2 := T2.out.cell
  clear b1 HC1 S1 S2
  go_wp2_with fail
  refine (HC2.out _ D1.out).mono ?_
  rintro e w2 ⟨rfl, b2⟩
  have D2 := Lib.hid (below_then D1.out b2)
  have U1 := Lib.hid (blk_keep b2 T1.out)
  have U2 := Lib.hid (blk_keep b2 T2.out)
  have u1 := U1.out.cell
  have u2 := U2.out.cell
  clear b2 HC2 T1 T2 t1 t2 D1 E0
  go_wp2_with fail
  clear u1 u2
  go_loopw [5] (fun i wr => ∃ k : Nat, k ≤ m ∧ i = .int .i64 k ∧ Below w2.heap.size w2 wr) (fun i _ => m - (intOf i).toNat)
  case atStart => exact ⟨0, Nat.zero_le _, rfl, Below.refl _ _⟩
  case round =>
    obtain ⟨k, hk, rfl, hbel⟩ := hrel
    have Hbel := Lib.hid hbel
    have v1 := (blk_keep hbel U1.out).cell
    have v2 := (blk_keep hbel U2.out).cell
    by_cases hlt : k < m
    · obtain ⟨b, off, hA, hb, q0, q1, q2, q3, q4, q5⟩ := (K1.out.below (below_then D2.out hbel)).at_ hlt
      obtain ⟨b', off', hA', hb', p0, p1, p2, p3, p4, p5⟩ := (K2.out.below (below_then D2.out hbel)).at_ hlt
      subst hA hA'
      clear hbel
      generalize cr.getD k Crack.zero = x at *
      obtain ⟨x0, x1, x2, x3, x4, x5⟩ := x
      go_wp2_with fail
      go_quiet (fail)
      go_wp2
      go_roundw
      case rel => exact ⟨k + 1, by omega, by go_num, below_drewN Hbel.out _⟩
      case measure => simp [intOf]; omega
    · obtain rfl : k = m := by omega
      go_wp2
      go_ret
      exact ⟨rfl, below_then D2.out Hbel.out⟩
/-- Two blades that read alike. -/
structure Bl.Like (B B' : Bl) : Prop where
  n : B'.n = B.n
  n' : B'.n' = B.n'
  m : B'.m = B.m
  bend : B'.bend = B.bend
  bot : B'.bot = B.bot
  top : B'.top = B.top
  cr : B'.cr = B.cr
theorem RefSame_any (B B' : Bl) (w : World) (h : B.At w) (h' : B'.At w) (hl : B.Like B') : Calls Try.prog 23 #[B'.val, B.val] w fun e w' => e = .returned (.bool true) ∧ Below w.heap.size w w' := by
  obtain ⟨A, A', K, n, c, n', c', m, d, bend, bot, top, cr⟩ := B
  obtain ⟨E, E', F, k1, c2, k2, c3, k3, d2, bd, b2, t2, r2⟩ := B'
  obtain ⟨g1, g2, g3, g4, g5, g6, g7⟩ := hl
  dsimp only at g1 g2 g3 g4 g5 g6 g7
  subst g1 g2 g3 g4 g5 g6 g7
  exact RefSame_core E E' F A A' K k1 c2 k2 c3 k3 d2 c c' d bd b2 t2 r2 w h'.hb h'.ht h'.hk h.hb h.ht h.hk h.n1 h.n2 h.n3
end Go.Proofs.Ytiflhimmieflpaa

/- Memory: an append of a list onto an empty one; what is read lies in new blocks. -/
namespace Go.Proofs.Ytiflhimmieflpaa
open Go.RowKit Go.Maps

/-- The slice reads as xs, in a block from base on. -/
structure NR (base : Nat) (w : World) (size : Nat) (A : Option Addr) (n : Nat) (xs : List Value) : Prop where
  r : Reads w size A n xs
  far : 0 < n → ∀ b o, A = some ⟨b, o, none⟩ → base ≤ b
theorem NR.below {base : Nat} {w w' : World} {size n : Nat} {A : Option Addr} {xs : List Value} (h : NR base w size A n xs) (hb : Below w.heap.size w w') : NR base w' size A n xs := ⟨h.r.below hb, h.far⟩
theorem NR.alloc {base : Nat} {w : World} {size n : Nat} {A : Option Addr} {xs : List Value} (h : NR base w size A n xs) (o : Obj) : NR base (w.alloc o) size A n xs := h.below (below_self w o)
theorem NR.setCell {base : Nat} {w : World} {size n : Nat} {A : Option Addr} {xs : List Value} (h : NR base w size A n xs) {p : Addr} (hp : p.block < base) (u : Value) : NR base (w.setCell p u) size A n xs := by
  refine ⟨⟨h.r.1, fun hn => ?_⟩, h.far⟩
  obtain ⟨b, o, e, hb, hc⟩ := h.r.2 hn
  have hbb := h.far hn b o e
  exact ⟨b, o, e, by simpa using hb, fun j v hv => (World.cell?_setCell_other _ _ _ _ (fun e => by subst e; simp at hp; omega)).trans (hc j v hv)⟩
theorem reads_of_own {w : World} {base : Nat} {e : TypeId} {size n cap : Nat} {A : Option Addr} {xs : List Value} (h : w.ownsRow base e size (.slice A n cap) n xs) : NR base w size A n xs := by
  refine ⟨⟨h.1, fun hn => ?_⟩, fun hn b o hA => ?_⟩
  · obtain ⟨g, cap', hv⟩ := own_form h hn
    simp only [Value.slice.injEq, true_and] at hv
    obtain ⟨rfl, _⟩ := hv
    obtain ⟨cs, hB, h1, h2, h3, h4, h5⟩ := own_blk h
    refine ⟨g, 0, rfl, hB.lt, fun j u hu => ?_⟩
    have hj : j < xs.length := by
      rcases Nat.lt_or_ge j xs.length with hl | hl
      · exact hl
      · rw [List.getElem?_eq_none hl] at hu; cases hu
    rw [Nat.zero_add, hB.cell j, cs_at h3 j hj, hu]
  · obtain ⟨g, cap', hv⟩ := own_form h hn
    simp only [Value.slice.injEq, true_and] at hv
    obtain ⟨rfl, _⟩ := hv
    obtain ⟨cs, hB, h1, h2, h3, h4, h5⟩ := own_blk h
    simp only [Option.some.injEq, Addr.mk.injEq, and_true] at hA
    omega
theorem grown_none {w w' : World} (h : w.grownBy w' none) : Below w.heap.size w w' := ⟨h.os, h.tape, h.output, h.size, fun k hk => h.block k hk (by simp)⟩
theorem run_append_copy {P : Program} (w : World) (t ty e : TypeId) (i : TypeInfo) (z : Value) (size bytes : Nat) (ht : P.underlying t = some (.slice e)) (hi : P.info? e = some i) (hz : i.zero = some z) (hs : i.size = size) (hby : i.bytes = bytes) (hzs : z.cells.size = size) (h0 : 0 < size)
    (g : Nat) (A : Option Addr) (n c : Nat) (xs : List Value) (hr : Reads w size A n xs) (hn : n ≤ maxLen) (hb : n * bytes ≤ 140737488355328) :
    ∃ A' c' w', (Builtin.append_ #[t, t] ty #[.slice (some ⟨g, 0, none⟩) 0 0, .slice A n c]).run P w = .ok (.slice A' n c') w' ∧ NR w.heap.size w' size A' n xs ∧ Below w.heap.size w w' := by
  rcases Nat.eq_zero_or_pos n with rfl | hpos
  · have hx : xs = [] := List.eq_nil_of_length_eq_zero (by have := hr.1; omega)
    subst hx
    refine ⟨some ⟨g, 0, none⟩, 0, w, ?_, ⟨⟨by simp, fun h => absurd h (by omega)⟩, fun h => absurd h (by omega)⟩, Below.refl _ _⟩
    cases A with
    | none => simp [Builtin.append_, run_underlying ht, sizeOf, typeInfo, hi, Builtin.lenOf, Builtin.firstCells, storeCells]
    | some ad => simp [Builtin.append_, run_underlying ht, sizeOf, typeInfo, hi, Builtin.lenOf, Builtin.firstCells, storeCells, loadCells, loadCellsFrom]
  · obtain ⟨b, o, rfl, hlt, hc⟩ := hr.2 hpos
    obtain ⟨v', w', hrun, hown, hgr⟩ := run_append_arg_grows (P := P) w t ty e i z size bytes ht hi hz hs hby hzs h0 ⟨g, 0, none⟩ 0 0 [] (by simp) (by simp) ⟨b, o, none⟩ n c xs hr.1 (fun j u hu => by rw [addr_add]; exact hc j u hu) (by omega) (by omega) (by rw [Nat.zero_add]; exact hb)
    simp only [Nat.zero_add, List.nil_append] at hown
    obtain ⟨g', cap', rfl⟩ := own_form hown hpos
    exact ⟨_, _, w', hrun, reads_of_own hown, grown_none hgr⟩
/-- The same as one step of a region that draws. -/
theorem step_append_copy {P : Program} {ops : Array Oper} {o : Oper} {a : Act} {w : World} {K : Act → World → Prop} {Q : Exit → Act → World → Prop} {E : Prop}
    (hg : o.guard = none) (s x : Operand) (t : TypeId) (hop : o.op = Op.call { callee := Callee.builtin Builtin.append, args := #[s, x], argTypes := #[t, t] })
    (e : TypeId) (i : TypeInfo) (z : Value) (size bytes : Nat) (ht : P.underlying t = some (.slice e)) (hi : P.info? e = some i) (hz : i.zero = some z) (hsz : i.size = size) (hby : i.bytes = bytes) (hzs : z.cells.size = size) (h0 : 0 < size)
    (g : Nat) (hs : a.eval s = .slice (some ⟨g, 0, none⟩) 0 0) (A : Option Addr) (n c : Nat) (hx : a.eval x = .slice A n c) (xs : List Value) (hr : Reads w size A n xs) (hn : n ≤ maxLen) (hb : n * bytes ≤ 140737488355328)
    (hK : ∀ A' c' w', NR w.heap.size w' size A' n xs → Below w.heap.size w w' → K (a.put o.dst (.slice A' n c')) w') :
    if Region.wanted o (yielded ops a.tmps) = true then Oper.wp P o a w K Q else E := by
  have hw : Region.wanted o (yielded ops a.tmps) = true := by simp [Region.wanted, hg]
  rw [if_pos hw]
  obtain ⟨A', c', w', hrun, h1, h2⟩ := run_append_copy (P := P) w t o.type e i z size bytes ht hi hz hsz hby hzs h0 g A n c xs hr hn hb
  unfold Oper.wp
  simp [execOp, hop, resolve, invoke, builtin, hs, hx, hrun, Result.andThen]
  exact hK A' c' w' h1 h2
end Go.Proofs.Ytiflhimmieflpaa

/- Walks: the reference's Copy. -/
namespace Go.Proofs.Ytiflhimmieflpaa
open Go.RowKit Go.Maps

/-- What Copy's own variables hold. -/
structure CW (w : World) (B : Bl) (W : World) : Prop where
  b : Blk W w.heap.size 25 #[.slice B.A B.n B.c, .slice B.A' B.n' B.c', .int .i64 B.bend, .slice B.K B.m B.d]
  z : Blk W (w.heap.size + 1) 25 #[.slice none 0 0, .slice none 0 0, .int .i64 0, .slice none 0 0]
  bel : Below w.heap.size w W
theorem CW.below {w W W' : World} {B : Bl} (h : CW w B W) (hb : Below W.heap.size W W') : CW w B W' := ⟨blk_keep hb h.b, blk_keep hb h.z, below_then h.bel hb⟩
theorem CW.alloc {w W : World} {B : Bl} (h : CW w B W) (o : Obj) : CW w B (W.alloc o) := h.below (below_self W o)
theorem CW.s {w W : World} {B : Bl} (h : CW w B W) : W.cell? ⟨w.heap.size, 0, none⟩ = some (.slice B.A B.n B.c) ∧ W.cell? ⟨w.heap.size, 1, none⟩ = some (.slice B.A' B.n' B.c') ∧ W.cell? ⟨w.heap.size, 2, none⟩ = some (.int .i64 B.bend) ∧ W.cell? ⟨w.heap.size, 3, none⟩ = some (.slice B.K B.m B.d) := ⟨h.b.cell 0, h.b.cell 1, h.b.cell 2, h.b.cell 3⟩
theorem CW.drew {w W : World} {B : Bl} (h : CW w B W) : CW w B W.drew := ⟨h.b, h.z, h.bel.drew⟩
theorem CW.s4 {w W : World} {B : Bl} (h : CW w B W) (u0 u1 u2 u3 : Value) : ((((W.setCell ⟨w.heap.size + 1, 0, none⟩ u0).setCell ⟨w.heap.size + 1, 1, none⟩ u1).setCell ⟨w.heap.size + 1, 2, none⟩ u2).setCell ⟨w.heap.size + 1, 3, none⟩ u3).cell? ⟨w.heap.size, 0, none⟩ = some (.slice B.A B.n B.c) ∧ ((((W.setCell ⟨w.heap.size + 1, 0, none⟩ u0).setCell ⟨w.heap.size + 1, 1, none⟩ u1).setCell ⟨w.heap.size + 1, 2, none⟩ u2).setCell ⟨w.heap.size + 1, 3, none⟩ u3).cell? ⟨w.heap.size, 1, none⟩ = some (.slice B.A' B.n' B.c') ∧ ((((W.setCell ⟨w.heap.size + 1, 0, none⟩ u0).setCell ⟨w.heap.size + 1, 1, none⟩ u1).setCell ⟨w.heap.size + 1, 2, none⟩ u2).setCell ⟨w.heap.size + 1, 3, none⟩ u3).cell? ⟨w.heap.size, 2, none⟩ = some (.int .i64 B.bend) ∧ ((((W.setCell ⟨w.heap.size + 1, 0, none⟩ u0).setCell ⟨w.heap.size + 1, 1, none⟩ u1).setCell ⟨w.heap.size + 1, 2, none⟩ u2).setCell ⟨w.heap.size + 1, 3, none⟩ u3).cell? ⟨w.heap.size, 3, none⟩ = some (.slice B.K B.m B.d) := by
  have hb := (((h.b.far (p := ⟨w.heap.size + 1, 0, none⟩) (by simp) u0).far (p := ⟨w.heap.size + 1, 1, none⟩) (by simp) u1).far (p := ⟨w.heap.size + 1, 2, none⟩) (by simp) u2).far (p := ⟨w.heap.size + 1, 3, none⟩) (by simp) u3
  exact ⟨hb.cell 0, hb.cell 1, hb.cell 2, hb.cell 3⟩
theorem CW.zs {w W : World} {B : Bl} (h : CW w B W) : (W.cell? ⟨w.heap.size + 1, 0, none⟩ = some (.slice none 0 0) ∧ W.cell? ⟨w.heap.size + 1, 1, none⟩ = some (.slice none 0 0) ∧ W.cell? ⟨w.heap.size + 1, 2, none⟩ = some (.int .i64 0) ∧ W.cell? ⟨w.heap.size + 1, 3, none⟩ = some (.slice none 0 0)) ∧
    W.frozen? ⟨w.heap.size + 1, 0, none⟩ = false ∧ W.frozen? ⟨w.heap.size + 1, 1, none⟩ = false ∧ W.frozen? ⟨w.heap.size + 1, 2, none⟩ = false ∧ W.frozen? ⟨w.heap.size + 1, 3, none⟩ = false :=
  ⟨⟨h.z.cell 0, h.z.cell 1, h.z.cell 2, h.z.cell 3⟩, h.z.frozen 0, h.z.frozen 1, h.z.frozen 2, h.z.frozen 3⟩
theorem NR.more {b b' : Nat} {w : World} {size n : Nat} {A : Option Addr} {xs : List Value} (h : NR b w size A n xs) (hb : b' < b) : NR (b' + 1) w size A n xs := ⟨h.r, fun hn g o e => Nat.le_trans hb (h.far hn g o e)⟩
def CopyRes (w : World) (B : Bl) (e : Ending) (w' : World) : Prop := ∃ B' : Bl, e = .returned B'.val ∧ B.Like B' ∧ B'.At w' ∧ Below w.heap.size w w'

theorem NR.set4 {g b : Nat} {W : World} {size n : Nat} {A : Option Addr} {xs : List Value} (h : NR b W size A n xs) (hb : g < b) (u0 u1 u2 u3 : Value) : Reads ((((W.setCell ⟨g, 0, none⟩ u0).setCell ⟨g, 1, none⟩ u1).setCell ⟨g, 2, none⟩ u2).setCell ⟨g, 3, none⟩ u3) size A n xs :=
  ((((h.setCell (p := ⟨g, 0, none⟩) hb u0).setCell (p := ⟨g, 1, none⟩) hb u1).setCell (p := ⟨g, 2, none⟩) hb u2).setCell (p := ⟨g, 3, none⟩) hb u3).r
theorem copy_end {w W : World} {B : Bl} {a1 b1 c1 : Option Addr} {a2 b2 c2 : Nat} (h : CW w B W) (ha : B.At w) (qa : NR (w.heap.size + 1 + 1) W 2 a1 B.n (flat2 B.bot)) (qb : NR (w.heap.size + 1 + 1) W 2 b1 B.n' (flat2 B.top)) (qc : NR (w.heap.size + 1 + 1) W 6 c1 B.m (flat6 B.cr)) :
    CopyRes w B (.returned (.agg #[.slice a1 B.n a2, .slice b1 B.n' b2, .int .i64 B.bend, .slice c1 B.m c2])) ((((W.setCell ⟨w.heap.size + 1, 0, none⟩ (.slice a1 B.n a2)).setCell ⟨w.heap.size + 1, 1, none⟩ (.slice b1 B.n' b2)).setCell ⟨w.heap.size + 1, 2, none⟩ (.int .i64 B.bend)).setCell ⟨w.heap.size + 1, 3, none⟩ (.slice c1 B.m c2)) :=
  ⟨⟨a1, b1, c1, B.n, a2, B.n', b2, B.m, c2, B.bend, B.bot, B.top, B.cr⟩, rfl, ⟨rfl, rfl, rfl, rfl, rfl, rfl, rfl⟩,
    ⟨qa.set4 (Nat.lt_succ_self _) _ _ _ _, qb.set4 (Nat.lt_succ_self _) _ _ _ _, qc.set4 (Nat.lt_succ_self _) _ _ _ _, ha.n1, ha.n2, ha.n3⟩,
    (((h.bel.setCell (p := ⟨w.heap.size + 1, 0, none⟩) (by simp) _).setCell (p := ⟨w.heap.size + 1, 1, none⟩) (by simp) _).setCell (p := ⟨w.heap.size + 1, 2, none⟩) (by simp) _).setCell (p := ⟨w.heap.size + 1, 3, none⟩) (by simp) _⟩
attribute [local go_sem ↓] Go.wp_at_zero Go.wp_at_succ
set_option maxRecDepth 100000 in
set_option maxHeartbeats 8000000 in
theorem RefCopy_any (B : Bl) (w : World) (h : B.At w) (hn : B.n ≤ 1000) (hn' : B.n' ≤ 1000) (hm : B.m ≤ 1000) : Calls Try.prog 19 #[B.val] w (CopyRes w B) := by
  obtain ⟨i0, hi, hz0, hz1, hz2⟩ := info_parts Try.infoSpan
  obtain ⟨j0, hj, hy0, hy1, hy2⟩ := info_parts Try.infoCrack
  have HW : Hid (CW w B ((w.alloc (.cells #[.slice B.A B.n B.c, .slice B.A' B.n' B.c', .int .i64 B.bend, .slice B.K B.m B.d] 25)).alloc (.cells #[.slice none 0 0, .slice none 0 0, .int .i64 0, .slice none 0 0] 25)).drew) :=
    ⟨(Blk.new w _ _ rfl).alloc _, Blk.new _ _ _ (by simp), (below_alloc' (below_self _ _) _).drew⟩
  have HA := Lib.hid h
  clear h
  unfold Bl.val
  go_enter Try.func19, Try.ntmps19
  go_wp2_with fail
  obtain ⟨s0, s1, s2, s3⟩ := HW.out.s
  go_region_held3 (fun w' => w'.cell? ⟨w.heap.size, 0, none⟩ = some (.slice B.A B.n B.c) ∧ w'.cell? ⟨w.heap.size, 1, none⟩ = some (.slice B.A' B.n' B.c') ∧ w'.cell? ⟨w.heap.size, 2, none⟩ = some (.int .i64 B.bend) ∧ w'.cell? ⟨w.heap.size, 3, none⟩ = some (.slice B.K B.m B.d)) (first | with_reducible exact HW.out.s4 _ _ _ _ | exact HW.out.s | exact (HW.out.alloc _).s | exact ((HW.out.alloc _).alloc _).s | exact (((HW.out.alloc _).alloc _).alloc _).s)
    (first
    | (refine step_append_copy rfl (.tmp 3) (.tmp 5) 22 rfl 98 i0 _ 2 16 Try.underlying22 hi hz0 hz1 hz2 rfl (by decide) _ (by rfl) B.A B.n B.c (by rfl) _ (by first | exact HA.out.hb.below HW.out.bel | exact HA.out.hb.below (HW.out.alloc _).bel | exact HA.out.hb.below ((HW.out.alloc _).alloc _).bel | exact HA.out.hb.below (((HW.out.alloc _).alloc _).alloc _).bel) (by have := hn; unfold maxLen; omega) (by have := hn; omega) ?_; intro a1 a2 x1 h1 h2; have E1 := Lib.hid (CW.below (by first | exact HW.out | exact (HW.out.alloc _) | exact ((HW.out.alloc _).alloc _) | exact (((HW.out.alloc _).alloc _).alloc _)) h2); have Qa := Lib.hid (NR.more h1 (by first | exact HW.out.z.lt | exact (HW.out.alloc _).z.lt | exact ((HW.out.alloc _).alloc _).z.lt | exact (((HW.out.alloc _).alloc _).alloc _).z.lt)); clear HW h1 h2 s0 s1 s2 s3; have HW := E1; clear E1; obtain ⟨s0, s1, s2, s3⟩ := HW.out.s; obtain ⟨⟨z0, z1, z2, z3⟩, f0, f1, f2, f3⟩ := HW.out.zs)
    | (refine step_append_copy rfl (.tmp 7) (.tmp 9) 22 rfl 98 i0 _ 2 16 Try.underlying22 hi hz0 hz1 hz2 rfl (by decide) _ (by rfl) B.A' B.n' B.c' (by rfl) _ (by first | exact HA.out.ht.below HW.out.bel | exact HA.out.ht.below (HW.out.alloc _).bel | exact HA.out.ht.below ((HW.out.alloc _).alloc _).bel | exact HA.out.ht.below (((HW.out.alloc _).alloc _).alloc _).bel) (by have := hn'; unfold maxLen; omega) (by have := hn'; omega) ?_; intro b1 b2 x1 h1 h2; have E1 := Lib.hid (CW.below (by first | exact HW.out | exact (HW.out.alloc _) | exact ((HW.out.alloc _).alloc _) | exact (((HW.out.alloc _).alloc _).alloc _)) h2); have Qb := Lib.hid (NR.more h1 (by first | exact HW.out.z.lt | exact (HW.out.alloc _).z.lt | exact ((HW.out.alloc _).alloc _).z.lt | exact (((HW.out.alloc _).alloc _).alloc _).z.lt)); have Za := Lib.hid (NR.below (by first | exact Qa.out | exact Qa.out.alloc _ | exact (Qa.out.alloc _).alloc _ | exact ((Qa.out.alloc _).alloc _).alloc _) h2); clear Qa; have Qa := Za; clear Za; clear z0 z1 z2 z3 f0 f1 f2 f3 HW h1 h2 s0 s1 s2 s3; have HW := E1; clear E1; obtain ⟨s0, s1, s2, s3⟩ := HW.out.s; obtain ⟨⟨z0, z1, z2, z3⟩, f0, f1, f2, f3⟩ := HW.out.zs)
    | (refine step_append_copy rfl (.tmp 13) (.tmp 15) 23 rfl 111 j0 _ 6 48 Try.underlying23 hj hy0 hy1 hy2 rfl (by decide) _ (by rfl) B.K B.m B.d (by rfl) _ (by first | exact HA.out.hk.below HW.out.bel | exact HA.out.hk.below (HW.out.alloc _).bel | exact HA.out.hk.below ((HW.out.alloc _).alloc _).bel | exact HA.out.hk.below (((HW.out.alloc _).alloc _).alloc _).bel) (by have := hm; unfold maxLen; omega) (by have := hm; omega) ?_; intro c1 c2 x1 h1 h2; have E1 := Lib.hid (CW.below (by first | exact HW.out | exact (HW.out.alloc _) | exact ((HW.out.alloc _).alloc _) | exact (((HW.out.alloc _).alloc _).alloc _)) h2); have Qc := Lib.hid (NR.more h1 (by first | exact HW.out.z.lt | exact (HW.out.alloc _).z.lt | exact ((HW.out.alloc _).alloc _).z.lt | exact (((HW.out.alloc _).alloc _).alloc _).z.lt)); have Za := Lib.hid (NR.below (by first | exact Qa.out | exact Qa.out.alloc _ | exact (Qa.out.alloc _).alloc _ | exact ((Qa.out.alloc _).alloc _).alloc _) h2); clear Qa; have Qa := Za; clear Za; have Zb := Lib.hid (NR.below (by first | exact Qb.out | exact Qb.out.alloc _ | exact (Qb.out.alloc _).alloc _ | exact ((Qb.out.alloc _).alloc _).alloc _) h2); clear Qb; have Qb := Zb; clear Zb; clear z0 z1 z2 z3 f0 f1 f2 f3 HW h1 h2 s0 s1 s2 s3; have HW := E1; clear E1; obtain ⟨s0, s1, s2, s3⟩ := HW.out.s; obtain ⟨⟨z0, z1, z2, z3⟩, f0, f1, f2, f3⟩ := HW.out.zs))
  all_goals
    clear z0 z1 z2 z3 f0 f1 f2 f3 s0 s1 s2 s3
    go_wp2
    exact bodyPost_ret (results_c rfl _ _ _ _ _ _ _ rfl ((((HW.out.z.set_ 0 _).set_ 1 _).set_ 2 _).set_ 3 _) Try.underlying25 (by kernel_rfl)) rfl (copy_end HW.out HA.out Qa.out Qb.out Qc.out)
end Go.Proofs.Ytiflhimmieflpaa
