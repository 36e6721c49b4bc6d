/- Walks: known: the law's look at the document's examples. -/
import Derived.Test.YtiflhimmieflpaaW31
import Derived.Deep.RegionHeld3
import Derived.Deep.DrawnRows
namespace Go.Proofs.Ytiflhimmieflpaa
open Go.RowKit Go.Maps

theorem blade_ex (w : World) : Calls Try.prog 58 #[] w fun e w' => ∃ B : Bl, B.Ex ∧ e = .returned B.val ∧ B.At w' ∧ Below w.heap.size w w' :=
  (blade_any w).mono fun _ _ ⟨B, he, hat, h1, h2, h3, h4, h5, h6, h7, hb⟩ => ⟨B, ⟨h1, h2, h3, h4, h5, h6, h7⟩, he, hat, hb⟩
theorem saw_ex (w : World) : Calls Try.prog 59 #[.int .i64 6] w fun e w' => e = .returned sawX.val ∧ Below w.heap.size w w' := lawSaw_any 6 w
/-- The cells of two spans. -/
structure K1 (w : World) (g g' : Nat) : Prop where
  b4 : w.cell? ⟨g, 4, none⟩ = some (.int .i64 1)
  b5 : w.cell? ⟨g, 5, none⟩ = some (.int .i64 4)
  t4 : w.cell? ⟨g', 4, none⟩ = some (.int .i64 20)
  t5 : w.cell? ⟨g', 5, none⟩ = some (.int .i64 22)
theorem K1.below {w w' : World} {g g' : Nat} (h : K1 w g g') (hb : Below w.heap.size w w') : K1 w' g g' :=
  ⟨(hb.cell (p := ⟨g, 4, none⟩) (lt_of_cell h.b4)).trans h.b4, (hb.cell (p := ⟨g, 5, none⟩) (lt_of_cell h.b5)).trans h.b5, (hb.cell (p := ⟨g', 4, none⟩) (lt_of_cell h.t4)).trans h.t4, (hb.cell (p := ⟨g', 5, none⟩) (lt_of_cell h.t5)).trans h.t5⟩
theorem curve_ex {B : Bl} (hx : B.Ex) (w : World) (h : B.At w) : Calls Try.prog 21 #[B.val] w fun e w' => ∃ g cap g' cap', e = .returned (.tuple #[.slice (some ⟨g, 0, none⟩) 6 cap, .slice (some ⟨g', 0, none⟩) 6 cap', .int .i64 0]) ∧ K1 w' g g' ∧ Below w.heap.size w w' := by
  refine (Curve_any B.A B.A' B.K B.n B.c B.n' B.c' B.m B.d B.bend B.bot B.top B.cr w h.hb h.ht h.hk h.n1 h.n2 h.n3).mono ?_
  rintro e w' ⟨hb, ⟨herr, _⟩ | ⟨_, g, cap, g', cap', rfl, P, P'⟩⟩
  · exact absurd (ex_curve hx) herr
  · rw [hx.n] at P P' ⊢
    obtain ⟨b, o, hA, _, c1, c2⟩ := P.at_ (k := 2) (by omega)
    obtain ⟨b', o', hA', _, c1', c2'⟩ := P'.at_ (k := 2) (by omega)
    simp only [Option.some.injEq, Addr.mk.injEq, and_true] at hA hA'
    obtain ⟨rfl, rfl⟩ := hA
    obtain ⟨rfl, rfl⟩ := hA'
    rw [ex_bot hx] at c1 c2
    rw [ex_top hx] at c1' c2'
    exact ⟨g, cap, g', cap', rfl, ⟨c1, c2, c1', c2'⟩, hb⟩
/-- A list of ints of the call's own. -/
def IntsRes (w : World) (xs : List Int) (e : Ending) (w' : World) : Prop := ∃ g cap, e = .returned (.tuple #[.slice (some ⟨g, 0, none⟩) xs.length cap, .int .i64 0]) ∧ Ints w' (some ⟨g, 0, none⟩) xs.length xs ∧ Below w.heap.size w w'
theorem block_ex {B : Bl} (hx : B.Ex) (x : Int) (xs : List Int) (hh : holdsB B.n sawX.long [(x, 0)] = true) (hxs : blockL (B.worst sawX) x.toNat = xs) (h0 : 0 < xs.length) (w : World) (h : B.At w) : Calls Try.prog 31 #[B.val, sawX.val, .int .i64 x] w (IntsRes w xs) := by
  refine (Block_any B sawX x w h).mono ?_
  rintro e w' ⟨hb, ⟨he, _⟩ | ⟨_, hn, _⟩ | ⟨_, _, v, rfl, hown⟩⟩
  · exact absurd (ex_err hx) he
  · rw [hh] at hn; cases hn
  · rw [hxs] at hown
    obtain ⟨g, cap, rfl⟩ := own_form hown h0
    exact ⟨g, cap, rfl, ints_of_own hown, hb⟩
theorem most_ex {B : Bl} (hx : B.Ex) (w : World) (h : B.At w) : Calls Try.prog 34 #[B.val, sawX.val] w fun e w' => ∃ g cap, e = .returned (.tuple #[.slice (some ⟨g, 0, none⟩) 9 cap, .int .i64 0]) ∧ Below w.heap.size w w' := by
  refine (Most_any B sawX w h).mono ?_
  rintro e w' ⟨hb, ⟨he, _⟩ | ⟨_, v, rfl, hown⟩⟩
  · exact absurd (ex_err hx) he
  · rw [ex_most hx] at hown
    obtain ⟨g, cap, rfl⟩ := own_form hown (by omega)
    exact ⟨g, cap, rfl, hb⟩
theorem bound_ex {B : Bl} (hx : B.Ex) (w : World) (h : B.At w) : Calls Try.prog 40 #[B.val, sawX.val] w fun e w' => e = .returned (.tuple #[.int .i64 9, .int .i64 0, .int .i64 0]) ∧ Below w.heap.size w w' := by
  refine (Bound_any B sawX w h).mono ?_
  rintro e w' ⟨hb, ⟨he, _⟩ | ⟨_, rfl⟩⟩
  · exact absurd (ex_err hx) he
  · rw [ex_bound hx, ex_class hx]; exact ⟨rfl, hb⟩
theorem costs_ex {B : Bl} (hx : B.Ex) (w : World) (h : B.At w) : Calls Try.prog 44 #[B.val, sawX.val] w (IntsRes w [1]) := by
  refine (Costs_any B sawX w h).mono ?_
  rintro e w' ⟨hb, ⟨he, _⟩ | ⟨_, v, rfl, hown⟩⟩
  · exact absurd (ex_err hx) he
  · rw [ex_costs hx, hx.m] at hown
    obtain ⟨g, cap, rfl⟩ := own_form hown (by omega)
    exact ⟨g, cap, rfl, ints_of_own hown, hb⟩
theorem widest_ex {B : Bl} (hx : B.Ex) (w : World) (h : B.At w) : Calls Try.prog 48 #[B.val, sawX.val, .int .i64 9] w fun e w' => e = .returned (.tuple #[.int .i64 6, .int .i64 0]) ∧ Below w.heap.size w w' := by
  refine (Widest_any B sawX 9 w h).mono ?_
  rintro e w' ⟨hb, ⟨he, _⟩ | ⟨_, hn, _⟩ | ⟨_, _, h0, _⟩ | ⟨_, _, _, rfl⟩⟩
  · exact absurd (ex_err hx) he
  · cases hn
  · rw [ex_widest hx] at h0; cases h0
  · rw [ex_widest hx]; exact ⟨rfl, hb⟩

/-- What known has found ahead of its last statement. -/
structure KS (w : World) (g g' z f c : Nat) : Prop where
  k : K1 w g g'
  hz : Ints w (some ⟨z, 0, none⟩) 4 [2, 9, 16, 23]
  hf : Ints w (some ⟨f, 0, none⟩) 3 [3, 14, 21]
  hc : Ints w (some ⟨c, 0, none⟩) 1 [1]
theorem KS.below {w w' : World} {g g' z f c : Nat} (h : KS w g g' z f c) (hb : Below w.heap.size w w') : KS w' g g' z f c := ⟨h.k.below hb, h.hz.below hb, h.hf.below hb, h.hc.below hb⟩
theorem KS.alloc {w : World} {g g' z f c : Nat} (h : KS w g g' z f c) (o : Obj) : KS (w.alloc o) g g' z f c := h.below (below_self w o)
theorem ints_new4 (w : World) (a b c d : Int) (t : TypeId) : Ints (w.alloc (.cells #[.int .i64 a, .int .i64 b, .int .i64 c, .int .i64 d] t)) (some ⟨w.heap.size, 0, none⟩) 4 [a, b, c, d] := reads_of_blk (Blk.new w _ _ rfl) rfl rfl
theorem ints_new3 (w : World) (a b c : Int) (t : TypeId) : Ints (w.alloc (.cells #[.int .i64 a, .int .i64 b, .int .i64 c] t)) (some ⟨w.heap.size, 0, none⟩) 3 [a, b, c] := reads_of_blk (Blk.new w _ _ rfl) rfl rfl
theorem RefInts_eq (A A' : Option Addr) (n c c' : Nat) (xs : List Int) (w : World) (h : Ints w A n xs) (h' : Ints w A' n xs) (hn : n ≤ maxLen) :
    Calls Try.prog 32 #[.slice A n c, .slice A' n c'] w fun e w' => e = .returned (.bool true) ∧ Below w.heap.size w w' :=
  (RefInts_any A A' n n c c' xs xs w h h' hn).mono fun _ _ ⟨he, hb⟩ => ⟨by rw [he]; simp [intsB, eqTo], hb⟩
def KnownRes (w : World) (e : Ending) (w' : World) : Prop := e = .returned (.bool true) ∧ Below w.heap.size w w'

attribute [local go_sem ↓] Go.wp_at_zero Go.wp_at_succ
set_option maxRecDepth 100000 in
set_option maxHeartbeats 8000000 in
theorem known_any (w : World) : Calls Try.prog 18 #[] w (KnownRes w) := by
  have HB := Lib.hid (fun W => blade_ex W)
  have HS := Lib.hid (fun W => saw_ex W)
  have HP := Lib.hid (fun a b W => lawSpan_any a b W)
  go_enter Try.func18, Try.ntmps18
  go_wp2_with fail
  refine (HB.out _).mono ?_
  rintro e w1 ⟨B1, hx, rfl, hat, b1⟩
  have D1 := Lib.hid b1
  have C1 := Lib.hid (curve_ex hx _ hat)
  clear hx hat b1
  go_wp2_with fail
  refine C1.out.mono ?_
  rintro e w2 ⟨g, cap, g', cap', rfl, k2, b2⟩
  have D2 := Lib.hid (below_then D1.out b2)
  have K2 := Lib.hid k2
  clear C1 D1 k2 b2
  go_wp2_with fail
  refine (HB.out _).mono ?_
  rintro e w3 ⟨B2, hx, rfl, hat, b3⟩
  have D3 := Lib.hid (below_then D2.out b3)
  have K3 := Lib.hid (K2.out.below b3)
  have X3 := Lib.hid hx
  have A3 := Lib.hid hat
  clear hx hat b3 K2 D2
  go_wp2_with fail
  refine (HS.out _).mono ?_
  rintro e w4 ⟨rfl, b4⟩
  have D4 := Lib.hid (below_then D3.out b4)
  have K4 := Lib.hid (K3.out.below b4)
  have C4 := Lib.hid (block_ex X3.out 0 [2, 9, 16, 23] (ex_holds X3.out).1 (ex_block0 X3.out) (by decide) _ (A3.out.below b4))
  clear b4 K3 D3 X3 A3
  go_wp2_with fail
  refine C4.out.mono ?_
  rintro e w5 ⟨z, zc, rfl, hz, b5⟩
  have D5 := Lib.hid (below_then D4.out b5)
  have K5 := Lib.hid (K4.out.below b5)
  have Z5 := Lib.hid hz
  clear b5 K4 D4 hz C4
  go_wp2_with fail
  refine (HB.out _).mono ?_
  rintro e w6 ⟨B3, hx, rfl, hat, b6⟩
  have D6 := Lib.hid (below_then D5.out b6)
  have K6 := Lib.hid (K5.out.below b6)
  have Z6 := Lib.hid (Z5.out.below b6)
  have X6 := Lib.hid hx
  have A6 := Lib.hid hat
  clear hx hat b6 K5 D5 Z5
  go_wp2_with fail
  refine (HS.out _).mono ?_
  rintro e w7 ⟨rfl, b7⟩
  have D7 := Lib.hid (below_then D6.out b7)
  have K7 := Lib.hid (K6.out.below b7)
  have Z7 := Lib.hid (Z6.out.below b7)
  have C7 := Lib.hid (block_ex X6.out 4 [3, 14, 21] (ex_holds X6.out).2 (ex_block4 X6.out) (by decide) _ (A6.out.below b7))
  clear b7 K6 D6 X6 A6 Z6
  go_wp2_with fail
  refine C7.out.mono ?_
  rintro e w8 ⟨f, fc, rfl, hf, b8⟩
  have D8 := Lib.hid (below_then D7.out b8)
  have K8 := Lib.hid (K7.out.below b8)
  have Z8 := Lib.hid (Z7.out.below b8)
  have F8 := Lib.hid hf
  clear b8 K7 D7 hf C7 Z7
  go_wp2_with fail
  refine (HB.out _).mono ?_
  rintro e w9 ⟨B4, hx, rfl, hat, b9⟩
  have D9 := Lib.hid (below_then D8.out b9)
  have K9 := Lib.hid (K8.out.below b9)
  have Z9 := Lib.hid (Z8.out.below b9)
  have F9 := Lib.hid (F8.out.below b9)
  have X9 := Lib.hid hx
  have A9 := Lib.hid hat
  clear hx hat b9 K8 D8 Z8 F8
  go_wp2_with fail
  refine (HS.out _).mono ?_
  rintro e wa ⟨rfl, ba⟩
  have Da := Lib.hid (below_then D9.out ba)
  have Ka := Lib.hid (K9.out.below ba)
  have Za := Lib.hid (Z9.out.below ba)
  have Fa := Lib.hid (F9.out.below ba)
  have Ca := Lib.hid (most_ex X9.out _ (A9.out.below ba))
  clear ba K9 D9 X9 A9 Z9 F9
  go_wp2_with fail
  refine Ca.out.mono ?_
  rintro e wb ⟨l, lc, rfl, bb⟩
  have Db := Lib.hid (below_then Da.out bb)
  have Kb := Lib.hid (Ka.out.below bb)
  have Zb := Lib.hid (Za.out.below bb)
  have Fb := Lib.hid (Fa.out.below bb)
  clear bb Ka Da Ca Za Fa
  go_wp2_with fail
  refine (HB.out _).mono ?_
  rintro e wc ⟨B5, hx, rfl, hat, bc⟩
  have Dc := Lib.hid (below_then Db.out bc)
  have Kc := Lib.hid (Kb.out.below bc)
  have Zc := Lib.hid (Zb.out.below bc)
  have Fc := Lib.hid (Fb.out.below bc)
  have Xc := Lib.hid hx
  have Ac := Lib.hid hat
  clear hx hat bc Kb Db Zb Fb
  go_wp2_with fail
  refine (HS.out _).mono ?_
  rintro e wd ⟨rfl, bd⟩
  have Dd := Lib.hid (below_then Dc.out bd)
  have Kd := Lib.hid (Kc.out.below bd)
  have Zd := Lib.hid (Zc.out.below bd)
  have Fd := Lib.hid (Fc.out.below bd)
  have Cd := Lib.hid (bound_ex Xc.out _ (Ac.out.below bd))
  clear bd Kc Dc Xc Ac Zc Fc
  go_wp2_with fail
  refine Cd.out.mono ?_
  rintro e we ⟨rfl, be⟩
  have De := Lib.hid (below_then Dd.out be)
  have Ke := Lib.hid (Kd.out.below be)
  have Ze := Lib.hid (Zd.out.below be)
  have Fe := Lib.hid (Fd.out.below be)
  clear be Kd Dd Cd Zd Fd
  go_wp2_with fail
  refine (HB.out _).mono ?_
  rintro e wf ⟨B6, hx, rfl, hat, bf⟩
  have Df := Lib.hid (below_then De.out bf)
  have Kf := Lib.hid (Ke.out.below bf)
  have Zf := Lib.hid (Ze.out.below bf)
  have Ff := Lib.hid (Fe.out.below bf)
  have Xf := Lib.hid hx
  have Af := Lib.hid hat
  clear hx hat bf Ke De Ze Fe
  go_wp2_with fail
  refine (HS.out _).mono ?_
  rintro e wg ⟨rfl, bg⟩
  have Dg := Lib.hid (below_then Df.out bg)
  have Kg := Lib.hid (Kf.out.below bg)
  have Zg := Lib.hid (Zf.out.below bg)
  have Fg := Lib.hid (Ff.out.below bg)
  have Cg := Lib.hid (costs_ex Xf.out _ (Af.out.below bg))
  clear bg Kf Df Xf Af Zf Ff
  go_wp2_with fail
  refine Cg.out.mono ?_
  rintro e wh ⟨c, cc, rfl, hc, bh⟩
  have Dh := Lib.hid (below_then Dg.out bh)
  have Hh : Hid (KS wh g g' z f c) := ⟨Kg.out.below bh, Zg.out.below bh, Fg.out.below bh, hc⟩
  clear bh Kg Dg Cg Zg Fg hc
  go_wp2_with fail
  refine (HB.out _).mono ?_
  rintro e wi ⟨B7, hx, rfl, hat, bi⟩
  have Di := Lib.hid (below_then Dh.out bi)
  have Hi := Lib.hid (Hh.out.below bi)
  have Xi := Lib.hid hx
  have Ai := Lib.hid hat
  clear hx hat bi Dh Hh
  go_wp2_with fail
  refine (HS.out _).mono ?_
  rintro e wj ⟨rfl, bj⟩
  have Dj := Lib.hid (below_then Di.out bj)
  have Hj := Lib.hid (Hi.out.below bj)
  have Cj := Lib.hid (widest_ex Xi.out _ (Ai.out.below bj))
  clear bj Di Hi Xi Ai
  go_wp2_with fail
  refine Cj.out.mono ?_
  rintro e wk ⟨rfl, bk⟩
  have Dk := Lib.hid (below_then Dj.out bk).drew
  have Hk : Hid (KS wk.drew g g' z f c) := Hj.out.below bk.drew
  clear bk Dj Hj Cj HB HS
  have b4 := Hk.out.k.b4
  have b5 := Hk.out.k.b5
  have t4 := Hk.out.k.t4
  have t5 := Hk.out.k.t5
  go_wp2_with fail
  go_region_held3 (fun w' => w'.cell? ⟨g, 4, none⟩ = some (.int .i64 1) ∧ w'.cell? ⟨g, 5, none⟩ = some (.int .i64 4) ∧ w'.cell? ⟨g', 4, none⟩ = some (.int .i64 20) ∧ w'.cell? ⟨g', 5, none⟩ = some (.int .i64 22)) (first | exact ⟨b4, b5, t4, t5⟩ | exact ⟨(Hk.out.alloc _).k.b4, (Hk.out.alloc _).k.b5, (Hk.out.alloc _).k.t4, (Hk.out.alloc _).k.t5⟩)
    (first
    | (go_at_call 57; refine (HP.out _ _ _).mono ?_; rintro e x1 ⟨rfl, h1⟩; have E1 := Lib.hid (below_then Dk.out h1); have G1 := Lib.hid (Hk.out.below h1); clear Dk Hk b4 b5 t4 t5 h1; have Dk := E1; have Hk := G1; clear E1 G1; have b4 := Hk.out.k.b4; have b5 := Hk.out.k.b5; have t4 := Hk.out.k.t4; have t5 := Hk.out.k.t5)
    | (go_at_call 32; with_reducible refine (RefInts_eq _ _ 4 _ _ _ _ (Hk.out.alloc _).hz (ints_new4 _ _ _ _ _ _) (by decide)).mono ?_; rintro e x1 ⟨rfl, h1⟩; have E1 := Lib.hid (below_then (below_alloc' Dk.out _) h1); have G1 := Lib.hid ((Hk.out.alloc _).below h1); clear Dk Hk b4 b5 t4 t5 h1; have Dk := E1; have Hk := G1; clear E1 G1; have b4 := Hk.out.k.b4; have b5 := Hk.out.k.b5; have t4 := Hk.out.k.t4; have t5 := Hk.out.k.t5)
    | (go_at_call 32; with_reducible refine (RefInts_eq _ _ 3 _ _ _ _ (Hk.out.alloc _).hf (ints_new3 _ _ _ _ _) (by decide)).mono ?_; rintro e x1 ⟨rfl, h1⟩; have E1 := Lib.hid (below_then (below_alloc' Dk.out _) h1); have G1 := Lib.hid ((Hk.out.alloc _).below h1); clear Dk Hk b4 b5 t4 t5 h1; have Dk := E1; have Hk := G1; clear E1 G1; have b4 := Hk.out.k.b4; have b5 := Hk.out.k.b5; have t4 := Hk.out.k.t4; have t5 := Hk.out.k.t5)
    | (go_at_call 32; with_reducible refine (RefInts_eq _ _ 1 _ _ _ _ (Hk.out.alloc _).hc (ints_new1 _ _ _ rfl) (by decide)).mono ?_; rintro e x1 ⟨rfl, h1⟩; have E1 := Lib.hid (below_then (below_alloc' Dk.out _) h1); have G1 := Lib.hid ((Hk.out.alloc _).below h1); clear Dk Hk b4 b5 t4 t5 h1; have Dk := E1; have Hk := G1; clear E1 G1; have b4 := Hk.out.k.b4; have b5 := Hk.out.k.b5; have t4 := Hk.out.k.t4; have t5 := Hk.out.k.t5))
  all_goals
    go_wp2
    go_ret
    exact ⟨rfl, Dk.out⟩
end Go.Proofs.Ytiflhimmieflpaa
