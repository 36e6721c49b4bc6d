/- Walks: the law of what a fan truly opens to. -/
import Derived.Test.YtpbepipnfpgoiaaVp
import Derived.Test.YtpbepipnfpgoiaaSf
namespace Go.Proofs.Ytpbepipnfpgoiaa
open Go.RowKit

/-- What the law holds: its fan; both ends; the stops; the fan in the truth; what that opens to. -/
structure T1 (w W : World) (f : Fan) (A : Option Addr) (n c g : Nat) : Prop where
  b : Blk W g 26 (fanA f A n c)
  r : Gaps W A n f.gs
  bel : Below w.heap.size w W
structure T2 (w W : World) (f : Fan) (A : Option Addr) (n c g g6 : Nat) (s1 s2 : Int) : Prop where
  a : T1 w W f A n c g
  s : Blk W g6 23 #[.int .i64 s1, .int .i64 s2]
structure T3 (w W : World) (f : Fan) (A : Option Addr) (n c g g6 : Nat) (s1 s2 : Int) (L : Option Addr) (l : List Int) : Prop where
  a : T2 w W f A n c g g6 s1 s2
  i : Ints W L n l
structure T4 (w W : World) (f : Fan) (A : Option Addr) (n c g g6 : Nat) (s1 s2 : Int) (L : Option Addr) (l : List Int) (t : Fan) (At : Option Addr) (ct gt : Nat) : Prop where
  a : T3 w W f A n c g g6 s1 s2 L l
  b : Blk W gt 26 (fanA t At n ct)
  r : Gaps W At n t.gs
structure T5 (w W : World) (f : Fan) (A : Option Addr) (n c g g6 : Nat) (s1 s2 : Int) (L : Option Addr) (l : List Int) (t : Fan) (At : Option Addr) (ct gt g11 : Nat) (z : Int) : Prop where
  a : T4 w W f A n c g g6 s1 s2 L l t At ct gt
  s : Blk W g11 23 #[.int .i64 z, .int .i64 z]
section
variable {w W W' : World} {f t : Fan} {A L At : Option Addr} {n c g g6 ct gt g11 : Nat} {s1 s2 z : Int} {l : List Int}
theorem T1.below (h : T1 w W f A n c g) (hb : Below W.heap.size W W') : T1 w W' f A n c g := ⟨blk_keep hb h.b, h.r.below hb, below_then h.bel hb⟩
theorem T2.below (h : T2 w W f A n c g g6 s1 s2) (hb : Below W.heap.size W W') : T2 w W' f A n c g g6 s1 s2 := ⟨h.a.below hb, blk_keep hb h.s⟩
theorem T3.below (h : T3 w W f A n c g g6 s1 s2 L l) (hb : Below W.heap.size W W') : T3 w W' f A n c g g6 s1 s2 L l := ⟨h.a.below hb, h.i.below hb⟩
theorem T4.below (h : T4 w W f A n c g g6 s1 s2 L l t At ct gt) (hb : Below W.heap.size W W') : T4 w W' f A n c g g6 s1 s2 L l t At ct gt := ⟨h.a.below hb, blk_keep hb h.b, h.r.below hb⟩
theorem T5.below (h : T5 w W f A n c g g6 s1 s2 L l t At ct gt g11 z) (hb : Below W.heap.size W W') : T5 w W' f A n c g g6 s1 s2 L l t At ct gt g11 z := ⟨h.a.below hb, blk_keep hb h.s⟩
theorem T5.drewd (h : T5 w W f A n c g g6 s1 s2 L l t At ct gt g11 z) : T5 w W.drew f A n c g g6 s1 s2 L l t At ct gt g11 z := h.below (Below.refl _ _).drew
theorem T1.start (hr : Gaps W A n f.gs) (bel : Below w.heap.size w W) : T1 w (W.alloc (.cells (fanA f A n c) 26)) f A n c W.heap.size :=
  ⟨Blk.new W _ _ rfl, hr.below (below_self W _), below_then bel (below_self W _)⟩
theorem T2.start (h : T1 w W f A n c g) : T2 w (W.alloc (.cells #[.int .i64 s1, .int .i64 s2] 23)) f A n c g W.heap.size s1 s2 := ⟨h.below (below_self W _), Blk.new W _ _ rfl⟩
theorem T4.start (h : T3 w W f A n c g g6 s1 s2 L l) (hr : Gaps W At n t.gs) : T4 w (W.alloc (.cells (fanA t At n ct) 26)) f A n c g g6 s1 s2 L l t At ct W.heap.size := ⟨h.below (below_self W _), Blk.new W _ _ rfl, hr.below (below_self W _)⟩
theorem T5.start (h : T4 w W f A n c g g6 s1 s2 L l t At ct gt) : T5 w (W.alloc (.cells #[.int .i64 z, .int .i64 z] 23)) f A n c g g6 s1 s2 L l t At ct gt W.heap.size z := ⟨h.below (below_self W _), Blk.new W _ _ rfl⟩
theorem span_get {s : Nat} {ty : TypeId} {x y : Value} (h : Blk W s ty #[x, y]) : W.cell? ⟨s, 0, none⟩ = some x ∧ W.cell? ⟨s, 1, none⟩ = some y := ⟨h.cell 0, h.cell 1⟩
end
theorem least_b {f : Fan} (hf : FanB f) : FanB f.least := ⟨by have := hf.a1; have := hf.ab; show 1 ≤ f.b; omega, Int.le_refl _, hf.b5, by have := hf.c1; have := hf.cd; show 1 ≤ f.d; omega, Int.le_refl _, hf.d5, by have := hf.n; show (gapsTo lowGap f.gs f.gs.length).length ≤ 41; rw [gapsTo_all, List.length_map]; exact this, fun g hg => by
  have hg' : g ∈ gapsTo lowGap f.gs f.gs.length := hg
  rw [gapsTo_all] at hg'
  obtain ⟨y, hy, rfl⟩ := List.mem_map.1 hg'
  have := hf.g y hy
  simp only [lowGap]; omega⟩
theorem most_b {f : Fan} (hf : FanB f) : FanB f.most := ⟨hf.a1, Int.le_refl _, by have := hf.b5; have := hf.ab; show f.a ≤ 5000; omega, hf.c1, Int.le_refl _, by have := hf.d5; have := hf.cd; show f.c ≤ 5000; omega, by have := hf.n; show (gapsTo highGap f.gs f.gs.length).length ≤ 41; rw [gapsTo_all, List.length_map]; exact this, fun g hg => by
  have hg' : g ∈ gapsTo highGap f.gs f.gs.length := hg
  rw [gapsTo_all] at hg'
  obtain ⟨y, hy, rfl⟩ := List.mem_map.1 hg'
  have := hf.g y hy
  simp only [highGap]; omega⟩
/-- What the law's long condition looks at. -/
def ST9 (g g6 g11 : Nat) (x0 x1 x2 x3 x4 y0 y1 z : Value) (W : World) : Prop := (W.cell? ⟨g, 0, none⟩ = some x0 ∧ W.cell? ⟨g, 1, none⟩ = some x1 ∧ W.cell? ⟨g, 2, none⟩ = some x2 ∧ W.cell? ⟨g, 3, none⟩ = some x3 ∧ W.cell? ⟨g, 4, none⟩ = some x4) ∧ (W.cell? ⟨g6, 0, none⟩ = some y0 ∧ W.cell? ⟨g6, 1, none⟩ = some y1) ∧ W.cell? ⟨g11, 0, none⟩ = some z ∧ W.cell? ⟨g11, 1, none⟩ = some z

set_option maxRecDepth 100000 in
set_option maxHeartbeats 8000000 in
theorem RivetTurns_any (x : Fo) (xs : List Int) (B : Option Addr) (m d : Nat) (w : World) (h : x.At w) (hB : Bytes w B m xs) (hm : m ≤ maxLen) :
    Calls Try.prog 12 #[.agg x.cells, .slice B m d] w fun e w' => e = .returned (.bool true) ∧ Below w.heap.size w w' := by
  have HK := Lib.hid (fun W => known_any W)
  unfold KnownRes at HK
  have HFAN := Lib.hid (fun W (hb : Below w.heap.size w W) => fan_any x W (h.below hb))
  have hroom := fun k hk => h.room (k := k) hk
  have herr := h.err
  have hlf : x.fan.gs.length = x.m := x.gsTo_len _
  have hn12 : x.m ≤ 12 := Nat.min_le_right _ _
  have P0 := fan5_get (Blk.new w 86 x.cells rfl)
  have B0 := Lib.hid (below_self w (.cells x.cells 86))
  clear h
  obtain ⟨xa, xb, na, nb, XA, xn, xc, xg⟩ := x
  simp only [Fo.cells] at *
  generalize (⟨xa, xb, na, nb, XA, xn, xc, xg⟩ : Fo).m = n at *
  generalize (⟨xa, xb, na, nb, XA, xn, xc, xg⟩ : Fo).fan = f at *
  have hf := (fanB_of herr).1
  have hte := true_err hB.b herr
  have ht := (fanB_of hte).1
  have hlt : (f.true xs).gs.length = n := (trueTo_len _ _ _).trans hlf
  have hds := true_deg hB.b hf ht
  have HCF := Lib.hid (fun A c W (hG : Gaps W A n f.gs) => copied_any f A n c W hG (by omega))
  have HCT := Lib.hid (fun A c W (hG : Gaps W A n (f.true xs).gs) => copied_any (f.true xs) A n c W hG (by omega))
  have HOF := Lib.hid (fun A c W (hG : Gaps W A n f.gs) => Opens_any f A n c W hG (by unfold maxLen; omega))
  have HOT := Lib.hid (fun A c W (hG : Gaps W A n (f.true xs).gs) => Opens_any (f.true xs) A n c W hG (by unfold maxLen; omega))
  have HST := Lib.hid (fun A c W (hG : Gaps W A n f.gs) => Stops_any f A n c W hG (by unfold maxLen; omega))
  have HTR := Lib.hid (fun A c W (hG : Gaps W A n f.gs) (hb : Below w.heap.size w W) => truly_any f xs A B n c m d W hf hG (hB.below hb) hm)
  have HTT := Lib.hid (fun A c W (hG : Gaps W A n (f.true xs).gs) => turn_any (f.true xs) A n c W ht hG)
  have HDT := Lib.hid (fun W => degrees_any (turnN (f.true xs)) (turnD (f.true xs)) W (turn_bd ht).1.1 (by have := (turn_bd ht).1.2; omega) (turn_bd ht).2.1 (turn_bd ht).2.2)
  have HLE := Lib.hid (fun A c W (hG : Gaps W A n f.gs) => least_any f A n c W hf hG)
  have HMO := Lib.hid (fun A c W (hG : Gaps W A n f.gs) => most_any f A n c W hf hG)
  have HTL := Lib.hid (fun A c W (hG : Gaps W A n f.least.gs) => turn_any f.least A n c W (least_b hf) hG)
  have HTM := Lib.hid (fun A c W (hG : Gaps W A n f.most.gs) => turn_any f.most A n c W (most_b hf) hG)
  have HDL := Lib.hid (fun W => degrees_any (turnN f.least) (turnD f.least) W (turn_bd (least_b hf)).1.1 (by have := (turn_bd (least_b hf)).1.2; omega) (turn_bd (least_b hf)).2.1 (turn_bd (least_b hf)).2.2)
  have HDM := Lib.hid (fun W => degrees_any (turnN f.most) (turnD f.most) W (turn_bd (most_b hf)).1.1 (by have := (turn_bd (most_b hf)).1.2; omega) (turn_bd (most_b hf)).2.1 (turn_bd (most_b hf)).2.2)
  have HSP := Lib.hid (fun a b W => lawSpan_any a b W)
  -- each round
  have HR1 := Lib.hid (fun k (hk : k < n) (hs : stopL f (f.gs.getD k Gap.zero) = 1) (A : Option Addr) (c : Nat) (W : World) (hG : Gaps W A n (f.put k (footWide (f.gs.getD k Gap.zero))).gs) => by
    have r := opens_foot herr (k := k) (by omega) (hroom k (by omega)).2 hs
    have q := Opens_any (f.put k (footWide (f.gs.getD k Gap.zero))) A n c W hG (by unfold maxLen; omega)
    rw [r.1, r.2] at q
    exact q)
  have HR2 := Lib.hid (fun k (hk : k < n) (hs : stopL f (f.gs.getD k Gap.zero) = 2) (A : Option Addr) (c : Nat) (W : World) (hG : Gaps W A n (f.put k (leafWide (f.gs.getD k Gap.zero))).gs) => by
    have r := opens_leaf herr (k := k) (by omega) (hroom k (by omega)).1 hs
    have q := Opens_any (f.put k (leafWide (f.gs.getD k Gap.zero))) A n c W hG (by unfold maxLen; omega)
    rw [r.1, r.2] at q
    exact q)
  have HS1 := Lib.hid (fun k (hk : k < n) (hs : stopL f (f.gs.getD k Gap.zero) = 1) => true_stop1 hB.b hf (gap_getD_mem (by omega)) k hs)
  have HS2 := Lib.hid (fun k (hk : k < n) (hs : stopL f (f.gs.getD k Gap.zero) = 2) => true_stop2 hB.b hf (gap_getD_mem (by omega)) k hs)
  have HS3 := Lib.hid (fun k => stop_in f (f.gs.getD k Gap.zero))
  have HTG := Lib.hid (fun k (hk : k < n) => trueTo_getD xs f.gs f.gs.length k (by omega))
  have HTB := Lib.hid (fun k (hk : k < n) => tn_parts ht (gap_getD_mem (gs := (f.true xs).gs) (k := k) (by omega)))
  have HL : Hid (∀ k, k < n → (f.gs.map (stopL f)).getD k 0 = stopL f (f.gs.getD k Gap.zero)) := fun k hk => by
    have : k < f.gs.length := by omega
    simp [List.getD, this]
  have hlm : (f.gs.map (stopL f)).length = n := by rw [List.length_map]; exact hlf
  have hsl : stopsL f = f.gs.map (stopL f) := if_pos herr
  have hop : opensL f = (degL false f, degL true f) := opens_val herr
  have hot : opensL (f.true xs) = (degF (turnN (f.true xs)) (turnD (f.true xs)), degF (turnN (f.true xs)) (turnD (f.true xs))) := by
    rw [opens_val hte, (true_pointed f xs).deg false, (true_pointed f xs).deg true]
  have hle : degF (turnN f.least) (turnD f.least) = degL false f := by rw [(least_turn f).1, (least_turn f).2]; rfl
  have hmo : degF (turnN f.most) (turnD f.most) = degL true f := by rw [(most_turn f).1, (most_turn f).2]; rfl
  unfold StopsRes at HST
  rw [hsl, herr, hlm] at HST
  rw [hop, herr] at HOF
  rw [hot, hte] at HOT
  rw [hle] at HDL
  rw [hmo] at HDM
  rw [hop] at HR1 HR2
  unfold OwnRes at HFAN HCF HCT HTR HLE HMO
  have HR1' : Hid (∀ k, k < n → stopL f (f.gs.getD k Gap.zero) = 1 → ∀ (A : Option Addr) (c : Nat) (W : World), Gaps W A n (f.gs.set k (footWide (f.gs.getD k Gap.zero))) → Calls Try.prog 20 #[.agg (fanA f A n c)] W fun e w' => e = .returned (.tuple #[.agg #[.int .i64 (degL false f), .int .i64 (degL true f)], .int .i64 0]) ∧ Below W.heap.size W w') := HR1.out
  have HR2' : Hid (∀ k, k < n → stopL f (f.gs.getD k Gap.zero) = 2 → ∀ (A : Option Addr) (c : Nat) (W : World), Gaps W A n (f.gs.set k (leafWide (f.gs.getD k Gap.zero))) → Calls Try.prog 20 #[.agg (fanA f A n c)] W fun e w' => e = .returned (.tuple #[.agg #[.int .i64 (degL false f), .int .i64 (degL true f)], .int .i64 0]) ∧ Below W.heap.size W w') := HR2.out
  have HS1' : Hid (∀ k, k < n → stopL f (f.gs.getD k Gap.zero) = 1 → ((f.true xs).gs.getD k Gap.zero).ll * (f.true xs).c < ((f.true xs).gs.getD k Gap.zero).fl * (f.true xs).a) := fun k hk hs => by
    have := HS1.out k hk hs
    rw [← HTG.out k hk] at this; exact this
  have HS2' : Hid (∀ k, k < n → stopL f (f.gs.getD k Gap.zero) = 2 → ((f.true xs).gs.getD k Gap.zero).fl * (f.true xs).a < ((f.true xs).gs.getD k Gap.zero).ll * (f.true xs).c) := fun k hk hs => by
    have := HS2.out k hk hs
    rw [← HTG.out k hk] at this; exact this
  have HGB := Lib.hid (fun k (hk : k < n) => hf.g _ (gap_getD_mem (gs := f.gs) (k := k) (by omega)))
  have HLF := Lib.hid hlf
  clear HR1 HR2 HS1 HS2 HTG hop hot hle hmo hsl hlm hlt hf ht hte herr hroom hB hm hlf
  generalize degL false f = s1 at *
  generalize degL true f = s2 at *
  generalize stopL f = st at *
  generalize f.gs.map st = l at *
  generalize f.least = lf at *
  generalize f.most = mf at *
  generalize f.true xs = t at *
  generalize fanA lf = FL at *
  generalize fanA mf = FM at *
  generalize turnN lf = lN at *
  generalize turnD lf = lD at *
  generalize turnN mf = mN at *
  generalize turnD mf = mD at *
  generalize hdd : degF (turnN t) (turnD t) = dd at *
  clear hdd
  generalize turnN t = tN at *
  generalize turnD t = tD at *
  obtain ⟨hd1, hd2⟩ := hds
  have HD := Lib.hid (And.intro hd1 hd2)
  clear hd1 hd2
  obtain ⟨fa, fb, fc, fd, gs⟩ := f
  obtain ⟨ta, tb, tc, td, ts⟩ := t
  simp only [fanA] at *
  have hnn : ((n : Int) != (n : Int)) = false := by simp
  go_enter Try.func12, Try.ntmps12
  go_wp2_with fail
  refine (HFAN.out _ B0.out).mono ?_
  rintro e w1 ⟨A, c, rfl, hO, b1⟩
  have G1 := Lib.hid hO.1
  have B1 := Lib.hid (below_then B0.out b1)
  have L1 := Lib.hid (T1.start (f := ⟨fa, fb, fc, fd, gs⟩) (c := c) G1.out B1.out)
  clear hO b1 P0 HFAN G1 B1
  simp only [fanA] at L1
  have p1 := fan5_get L1.out.b
  go_wp2_with fail
  generalize w1.heap.size = g at *
  -- both ends
  refine (HCF.out _ _ _ L1.out.r).mono ?_
  rintro e w2 ⟨A2, c2, rfl, hO, b2⟩
  have L2 := Lib.hid (L1.out.below b2)
  have G2 := Lib.hid hO.1
  have p2 := fan5_get L2.out.b
  clear hO b2 L1 p1
  go_wp2_with fail
  refine (HOF.out _ _ _ G2.out).mono ?_
  rintro e w3 ⟨rfl, b3⟩
  have L3 := Lib.hid (T2.start (s1 := s1) (s2 := s2) (L2.out.below b3))
  clear b3 L2 p2 G2
  have p3 := fan5_get L3.out.a.b
  have q3 := span_get L3.out.s
  go_wp2_with fail
  generalize w3.heap.size = g6 at *
  -- the stops
  refine (HCF.out _ _ _ L3.out.a.r).mono ?_
  rintro e w4 ⟨A4, c4, rfl, hO, b4⟩
  have L4 := Lib.hid (L3.out.below b4)
  have G4 := Lib.hid hO.1
  clear hO b4 L3 p3 q3
  have p4 := fan5_get L4.out.a.b
  go_wp2_with fail
  refine (HST.out _ _ _ G4.out).mono ?_
  rintro e w5 ⟨v, rfl, ho, b5⟩
  obtain ⟨L, cL, rfl, hI⟩ := own_ints ho
  have L5 : Hid (T3 w w5 ⟨fa, fb, fc, fd, gs⟩ A n c g g6 s1 s2 L l) := ⟨L4.out.below b5, hI⟩
  clear ho hI b5 L4 p4 G4 HST
  have p5 := fan5_get L5.out.a.a.b
  go_wp2_with fail
  -- the truth
  refine (HTR.out _ _ _ L5.out.a.a.r L5.out.a.a.bel).mono ?_
  rintro e w6 ⟨At, ct, rfl, hO, b6⟩
  have L6 := Lib.hid (T4.start (t := ⟨ta, tb, tc, td, ts⟩) (ct := ct) (L5.out.below b6) hO.1)
  clear hO b6 L5 p5 HTR
  simp only [fanA] at L6
  have p6 := fan5_get L6.out.a.a.a.b
  have q6 := fan5_get L6.out.b
  go_wp2_with fail
  generalize w6.heap.size = gt at *
  refine (HCT.out _ _ _ L6.out.r).mono ?_
  rintro e w7 ⟨A7, c7, rfl, hO, b7⟩
  have L7 := Lib.hid (L6.out.below b7)
  have G7 := Lib.hid hO.1
  clear hO b7 L6 p6 q6 HCT
  have p7 := fan5_get L7.out.b
  go_wp2_with fail
  refine (HOT.out _ _ _ G7.out).mono ?_
  rintro e w8 ⟨rfl, b8⟩
  have L8 := Lib.hid (T5.start (z := dd) (L7.out.below b8))
  clear b8 L7 p7 G7 HOT
  have p8 := fan5_get L8.out.a.a.a.a.b
  have q8 := fan5_get L8.out.a.b
  have r8 := span_get L8.out.s
  go_wp2_with fail
  generalize w8.heap.size = g11 at *
  -- what it opens to
  refine (HTT.out _ _ _ L8.out.a.r).mono ?_
  rintro e w9 ⟨rfl, b9⟩
  have L9 := Lib.hid (L8.out.below b9)
  clear b9 L8 p8 q8 r8 HTT
  go_wp2_with fail
  refine (HDT.out _).mono ?_
  rintro e _ ⟨rfl, rfl⟩
  clear HDT
  go_wp2_with fail
  have D9 := Lib.hid L9.out.drewd
  have hlo : ¬ dd < s1 := by have := HD.out.1; omega
  have hhi : ¬ dd > s2 := by have := HD.out.2; omega
  have hhi2 : ¬ s2 < dd := by have := HD.out.2; omega
  have S0 : ST9 g g6 g11 (.int .i64 fa) (.int .i64 fb) (.int .i64 fc) (.int .i64 fd) (.slice A n c) (.int .i64 s1) (.int .i64 s2) (.int .i64 dd) w9.drew := ⟨fan5_get D9.out.a.a.a.a.b, span_get D9.out.a.a.a.s, span_get D9.out.s⟩
  refine wp_region_untl (S := ST9 g g6 g11 (.int .i64 fa) (.int .i64 fb) (.int .i64 fc) (.int .i64 fd) (.slice A n c) (.int .i64 s1) (.int .i64 s2) (.int .i64 dd)) [] (by kernel_rfl) S0 (fun _ => ?_)
  generalize w9.drew = v0 at *
  refine untlTake (i := 0) 66 (v := ?v1) rfl (by kernel_rfl) (by kernel_rfl) (by kernel_rfl) (by kernel_rfl) (by kernel_rfl) (by kernel_rfl) (fun _ _ _ h => h) (Or.inl ⟨by kernel_rfl, ?y1⟩) (by assumption) ?r1
  case y1 => (intro w hSw; obtain ⟨⟨g0, g1, g2, g3, g4⟩, ⟨g5, g6⟩, g7, g8⟩ := hSw; go_simp; try with_reducible rfl)
  refine untlTake (i := 1) 67 (v := ?v2) rfl (by kernel_rfl) (by kernel_rfl) (by kernel_rfl) (by kernel_rfl) (by kernel_rfl) (by kernel_rfl) (fun _ _ _ h => h) (Or.inl ⟨by kernel_rfl, ?y2⟩) (by assumption) ?r2
  case y2 => (intro w hSw; obtain ⟨⟨g0, g1, g2, g3, g4⟩, ⟨g5, g6⟩, g7, g8⟩ := hSw; go_simp; try with_reducible rfl)
  refine untlTake (i := 2) 68 (v := ?v3) rfl (by kernel_rfl) (by kernel_rfl) (by kernel_rfl) (by kernel_rfl) (by kernel_rfl) (by kernel_rfl) (fun _ _ _ h => h) (Or.inl ⟨by kernel_rfl, ?y3⟩) (by assumption) ?r3
  case y3 => (intro w hSw; obtain ⟨⟨g0, g1, g2, g3, g4⟩, ⟨g5, g6⟩, g7, g8⟩ := hSw; go_simp; try with_reducible rfl)
  simp only [Act.put, List.setIfInBounds_toArray, List.set_cons_zero, List.set_cons_succ]
  refine untlStep (i := 3) (by kernel_rfl) rfl (fun K3 hK3 => ?_)
  rw [if_pos (by rfl)]
  go_simp
  refine (HSP.out _ _ _).mono ?_
  rintro e v1 ⟨rfl, b⟩
  have D10 := Lib.hid (D9.out.below b)
  have Sv1 : ST9 g g6 g11 (.int .i64 fa) (.int .i64 fb) (.int .i64 fc) (.int .i64 fd) (.slice A n c) (.int .i64 s1) (.int .i64 s2) (.int .i64 dd) v1 := ⟨fan5_get D10.out.a.a.a.a.b, span_get D10.out.a.a.a.s, span_get D10.out.s⟩
  clear b D9 S0
  refine hK3.out _ _ (.inr Sv1) ?_
  refine untlTake (i := 4) 70 (v := .bool false) rfl (by kernel_rfl) (by kernel_rfl) (by kernel_rfl) (by kernel_rfl) (by kernel_rfl) (by kernel_rfl) (fun _ _ _ h => h) (Or.inl ⟨by kernel_rfl, ?y4⟩) (by assumption) ?r4
  case y4 => (intro w hSw; obtain ⟨⟨g0, g1, g2, g3, g4⟩, ⟨g5, g6⟩, g7, g8⟩ := hSw; go_simp; try with_reducible rfl)
  refine untlTake (i := 5) 71 (v := .bool false) rfl (by kernel_rfl) (by kernel_rfl) (by kernel_rfl) (by kernel_rfl) (by kernel_rfl) (by kernel_rfl) (fun _ _ _ h => h) (Or.inl ⟨by kernel_rfl, ?y5⟩) (by assumption) ?r5
  case y5 => (intro w hSw; obtain ⟨⟨g0, g1, g2, g3, g4⟩, ⟨g5, g6⟩, g7, g8⟩ := hSw; go_simp; try with_reducible rfl)
  simp only [Act.put, List.setIfInBounds_toArray, List.set_cons_zero, List.set_cons_succ]
  refine untlTake (i := 6) 72 (v := ?v6) rfl (by kernel_rfl) (by kernel_rfl) (by kernel_rfl) (by kernel_rfl) (by kernel_rfl) (by kernel_rfl) (fun _ _ _ h => h) (Or.inl ⟨by kernel_rfl, ?y6⟩) (by assumption) ?r6
  case y6 => (intro w hSw; obtain ⟨⟨g0, g1, g2, g3, g4⟩, ⟨g5, g6⟩, g7, g8⟩ := hSw; go_simp; try with_reducible rfl)
  refine untlTake (i := 7) 73 (v := ?v7) rfl (by kernel_rfl) (by kernel_rfl) (by kernel_rfl) (by kernel_rfl) (by kernel_rfl) (by kernel_rfl) (fun _ _ _ h => h) (Or.inl ⟨by kernel_rfl, ?y7⟩) (by assumption) ?r7
  case y7 => (intro w hSw; obtain ⟨⟨g0, g1, g2, g3, g4⟩, ⟨g5, g6⟩, g7, g8⟩ := hSw; go_simp; try with_reducible rfl)
  refine untlTake (i := 8) 74 (v := ?v8) rfl (by kernel_rfl) (by kernel_rfl) (by kernel_rfl) (by kernel_rfl) (by kernel_rfl) (by kernel_rfl) (fun _ _ _ h => h) (Or.inl ⟨by kernel_rfl, ?y8⟩) (by assumption) ?r8
  case y8 => (intro w hSw; obtain ⟨⟨g0, g1, g2, g3, g4⟩, ⟨g5, g6⟩, g7, g8⟩ := hSw; go_simp; try with_reducible rfl)
  simp only [Act.put, List.setIfInBounds_toArray, List.set_cons_zero, List.set_cons_succ]
  refine untlTake (i := 9) 75 (v := .bool false) rfl (by kernel_rfl) (by kernel_rfl) (by kernel_rfl) (by kernel_rfl) (by kernel_rfl) (by kernel_rfl) (fun _ _ _ h => h) (Or.inl ⟨by kernel_rfl, ?y9⟩) (by assumption) ?r9
  case y9 => (intro w hSw; obtain ⟨⟨g0, g1, g2, g3, g4⟩, ⟨g5, g6⟩, g7, g8⟩ := hSw; go_simp; try with_reducible rfl)
  refine untlTake (i := 10) 76 (v := .bool false) rfl (by kernel_rfl) (by kernel_rfl) (by kernel_rfl) (by kernel_rfl) (by kernel_rfl) (by kernel_rfl) (fun _ _ _ h => h) (Or.inl ⟨by kernel_rfl, ?y10⟩) (by assumption) ?r10
  case y10 => (intro w hSw; obtain ⟨⟨g0, g1, g2, g3, g4⟩, ⟨g5, g6⟩, g7, g8⟩ := hSw; go_simp; try with_reducible rfl)
  refine untlTake (i := 11) 77 (v := .bool false) rfl (by kernel_rfl) (by kernel_rfl) (by kernel_rfl) (by kernel_rfl) (by kernel_rfl) (by kernel_rfl) (fun _ _ _ h => h) (Or.inl ⟨by kernel_rfl, ?y11⟩) (by assumption) ?r11
  case y11 => (intro w hSw; obtain ⟨⟨g0, g1, g2, g3, g4⟩, ⟨g5, g6⟩, g7, g8⟩ := hSw; go_simp; try with_reducible rfl)
  simp only [Act.put, List.setIfInBounds_toArray, List.set_cons_zero, List.set_cons_succ]
  refine untlTake (i := 12) 78 (v := ?v12) rfl (by kernel_rfl) (by kernel_rfl) (by kernel_rfl) (by kernel_rfl) (by kernel_rfl) (by kernel_rfl) (fun _ _ _ h => h) (Or.inl ⟨by kernel_rfl, ?y12⟩) (by assumption) ?r12
  case y12 => (intro w hSw; obtain ⟨⟨g0, g1, g2, g3, g4⟩, ⟨g5, g6⟩, g7, g8⟩ := hSw; go_simp; try with_reducible rfl)
  refine untlTake (i := 13) 79 (v := ?v13) rfl (by kernel_rfl) (by kernel_rfl) (by kernel_rfl) (by kernel_rfl) (by kernel_rfl) (by kernel_rfl) (fun _ _ _ h => h) (Or.inl ⟨by kernel_rfl, ?y13⟩) (by assumption) ?r13
  case y13 => (intro w hSw; obtain ⟨⟨g0, g1, g2, g3, g4⟩, ⟨g5, g6⟩, g7, g8⟩ := hSw; go_simp; try with_reducible rfl)
  refine untlTake (i := 14) 80 (v := ?v14) rfl (by kernel_rfl) (by kernel_rfl) (by kernel_rfl) (by kernel_rfl) (by kernel_rfl) (by kernel_rfl) (fun _ _ _ h => h) (Or.inl ⟨by kernel_rfl, ?y14⟩) (by assumption) ?r14
  case y14 => (intro w hSw; obtain ⟨⟨g0, g1, g2, g3, g4⟩, ⟨g5, g6⟩, g7, g8⟩ := hSw; go_simp; try with_reducible rfl)
  simp only [Act.put, List.setIfInBounds_toArray, List.set_cons_zero, List.set_cons_succ]
  refine untlTake (i := 15) 81 (v := .bool false) rfl (by kernel_rfl) (by kernel_rfl) (by kernel_rfl) (by kernel_rfl) (by kernel_rfl) (by kernel_rfl) (fun _ _ _ h => h) (Or.inl ⟨by kernel_rfl, ?y15⟩) (by assumption) ?r15
  case y15 => (intro w hSw; obtain ⟨⟨g0, g1, g2, g3, g4⟩, ⟨g5, g6⟩, g7, g8⟩ := hSw; go_simp; try with_reducible rfl)
  refine untlTake (i := 16) 82 (v := .bool false) rfl (by kernel_rfl) (by kernel_rfl) (by kernel_rfl) (by kernel_rfl) (by kernel_rfl) (by kernel_rfl) (fun _ _ _ h => h) (Or.inl ⟨by kernel_rfl, ?y16⟩) (by assumption) ?r16
  case y16 => (intro w hSw; obtain ⟨⟨g0, g1, g2, g3, g4⟩, ⟨g5, g6⟩, g7, g8⟩ := hSw; go_simp; try with_reducible rfl)
  refine untlTake (i := 17) 83 (v := .bool false) rfl (by kernel_rfl) (by kernel_rfl) (by kernel_rfl) (by kernel_rfl) (by kernel_rfl) (by kernel_rfl) (fun _ _ _ h => h) (Or.inl ⟨by kernel_rfl, ?y17⟩) (by assumption) ?r17
  case y17 => (intro w hSw; obtain ⟨⟨g0, g1, g2, g3, g4⟩, ⟨g5, g6⟩, g7, g8⟩ := hSw; go_simp; try with_reducible rfl)
  simp only [Act.put, List.setIfInBounds_toArray, List.set_cons_zero, List.set_cons_succ]
  refine untlTake (i := 18) 84 (v := ?v18) rfl (by kernel_rfl) (by kernel_rfl) (by kernel_rfl) (by kernel_rfl) (by kernel_rfl) (by kernel_rfl) (fun _ _ _ h => h) (Or.inl ⟨by kernel_rfl, ?y18⟩) (by assumption) ?r18
  case y18 => (intro w hSw; obtain ⟨⟨g0, g1, g2, g3, g4⟩, ⟨g5, g6⟩, g7, g8⟩ := hSw; go_simp; try with_reducible rfl)
  refine untlTake (i := 19) 85 (v := ?v19) rfl (by kernel_rfl) (by kernel_rfl) (by kernel_rfl) (by kernel_rfl) (by kernel_rfl) (by kernel_rfl) (fun _ _ _ h => h) (Or.inl ⟨by kernel_rfl, ?y19⟩) (by assumption) ?r19
  case y19 => (intro w hSw; obtain ⟨⟨g0, g1, g2, g3, g4⟩, ⟨g5, g6⟩, g7, g8⟩ := hSw; go_simp; try with_reducible rfl)
  refine untlTake (i := 20) 86 (v := ?v20) rfl (by kernel_rfl) (by kernel_rfl) (by kernel_rfl) (by kernel_rfl) (by kernel_rfl) (by kernel_rfl) (fun _ _ _ h => h) (Or.inl ⟨by kernel_rfl, ?y20⟩) (by assumption) ?r20
  case y20 => (intro w hSw; obtain ⟨⟨g0, g1, g2, g3, g4⟩, ⟨g5, g6⟩, g7, g8⟩ := hSw; go_simp; try with_reducible rfl)
  simp only [Act.put, List.setIfInBounds_toArray, List.set_cons_zero, List.set_cons_succ]
  refine untlStep (i := 21) (by kernel_rfl) rfl (fun K21 hK21 => ?_)
  rw [if_pos (by rfl)]
  go_simp
  refine (HLE.out _ _ _ D10.out.a.a.a.a.r).mono ?_
  rintro e v2 ⟨Al, cl, rfl, hO, b⟩
  have D11 := Lib.hid (D10.out.below b)
  have Sv2 : ST9 g g6 g11 (.int .i64 fa) (.int .i64 fb) (.int .i64 fc) (.int .i64 fd) (.slice A n c) (.int .i64 s1) (.int .i64 s2) (.int .i64 dd) v2 := ⟨fan5_get D11.out.a.a.a.a.b, span_get D11.out.a.a.a.s, span_get D11.out.s⟩
  clear b D10 Sv1
  have GL := Lib.hid hO.1
  clear hO
  refine hK21.out _ _ (.inr Sv2) ?_
  refine untlStep (i := 22) (by kernel_rfl) rfl (fun K22 hK22 => ?_)
  rw [if_pos (by rfl)]
  go_simp
  refine (HTL.out _ _ _ GL.out).mono ?_
  rintro e v3 ⟨rfl, b⟩
  have D12 := Lib.hid (D11.out.below b)
  have Sv3 : ST9 g g6 g11 (.int .i64 fa) (.int .i64 fb) (.int .i64 fc) (.int .i64 fd) (.slice A n c) (.int .i64 s1) (.int .i64 s2) (.int .i64 dd) v3 := ⟨fan5_get D12.out.a.a.a.a.b, span_get D12.out.a.a.a.s, span_get D12.out.s⟩
  clear b D11 Sv2 GL
  refine hK22.out _ _ (.inr Sv3) ?_
  refine untlTake (i := 23) 89 (v := ?v21) rfl (by kernel_rfl) (by kernel_rfl) (by kernel_rfl) (by kernel_rfl) (by kernel_rfl) (by kernel_rfl) (fun _ _ _ h => h) (Or.inl ⟨by kernel_rfl, ?y21⟩) (by assumption) ?r21
  case y21 => (intro w hSw; obtain ⟨⟨g0, g1, g2, g3, g4⟩, ⟨g5, g6⟩, g7, g8⟩ := hSw; go_simp; try with_reducible rfl)
  refine untlTake (i := 24) 90 (v := ?v22) rfl (by kernel_rfl) (by kernel_rfl) (by kernel_rfl) (by kernel_rfl) (by kernel_rfl) (by kernel_rfl) (fun _ _ _ h => h) (Or.inl ⟨by kernel_rfl, ?y22⟩) (by assumption) ?r22
  case y22 => (intro w hSw; obtain ⟨⟨g0, g1, g2, g3, g4⟩, ⟨g5, g6⟩, g7, g8⟩ := hSw; go_simp; try with_reducible rfl)
  simp only [Act.put, List.setIfInBounds_toArray, List.set_cons_zero, List.set_cons_succ]
  refine untlStep (i := 25) (by kernel_rfl) rfl (fun K25 hK25 => ?_)
  rw [if_pos (by rfl)]
  go_simp
  refine (HDL.out _).mono ?_
  rintro e _ ⟨rfl, rfl⟩
  refine hK25.out _ _ (.inr Sv3) ?_
  refine untlTake (i := 26) 92 (v := .bool false) rfl (by kernel_rfl) (by kernel_rfl) (by kernel_rfl) (by kernel_rfl) (by kernel_rfl) (by kernel_rfl) (fun _ _ _ h => h) (Or.inl ⟨by kernel_rfl, ?y23⟩) (by assumption) ?r23
  case y23 => (intro w hSw; obtain ⟨⟨g0, g1, g2, g3, g4⟩, ⟨g5, g6⟩, g7, g8⟩ := hSw; go_simp; try with_reducible rfl)
  refine untlTake (i := 27) 93 (v := .bool false) rfl (by kernel_rfl) (by kernel_rfl) (by kernel_rfl) (by kernel_rfl) (by kernel_rfl) (by kernel_rfl) (fun _ _ _ h => h) (Or.inl ⟨by kernel_rfl, ?y24⟩) (by assumption) ?r24
  case y24 => (intro w hSw; obtain ⟨⟨g0, g1, g2, g3, g4⟩, ⟨g5, g6⟩, g7, g8⟩ := hSw; go_simp; try with_reducible rfl)
  refine untlTake (i := 28) 94 (v := .bool false) rfl (by kernel_rfl) (by kernel_rfl) (by kernel_rfl) (by kernel_rfl) (by kernel_rfl) (by kernel_rfl) (fun _ _ _ h => h) (Or.inl ⟨by kernel_rfl, ?y25⟩) (by assumption) ?r25
  case y25 => (intro w hSw; obtain ⟨⟨g0, g1, g2, g3, g4⟩, ⟨g5, g6⟩, g7, g8⟩ := hSw; go_simp; try with_reducible rfl)
  simp only [Act.put, List.setIfInBounds_toArray, List.set_cons_zero, List.set_cons_succ]
  refine untlTake (i := 29) 95 (v := ?v26) rfl (by kernel_rfl) (by kernel_rfl) (by kernel_rfl) (by kernel_rfl) (by kernel_rfl) (by kernel_rfl) (fun _ _ _ h => h) (Or.inl ⟨by kernel_rfl, ?y26⟩) (by assumption) ?r26
  case y26 => (intro w hSw; obtain ⟨⟨g0, g1, g2, g3, g4⟩, ⟨g5, g6⟩, g7, g8⟩ := hSw; go_simp; try with_reducible rfl)
  refine untlTake (i := 30) 96 (v := ?v27) rfl (by kernel_rfl) (by kernel_rfl) (by kernel_rfl) (by kernel_rfl) (by kernel_rfl) (by kernel_rfl) (fun _ _ _ h => h) (Or.inl ⟨by kernel_rfl, ?y27⟩) (by assumption) ?r27
  case y27 => (intro w hSw; obtain ⟨⟨g0, g1, g2, g3, g4⟩, ⟨g5, g6⟩, g7, g8⟩ := hSw; go_simp; try with_reducible rfl)
  refine untlTake (i := 31) 97 (v := ?v28) rfl (by kernel_rfl) (by kernel_rfl) (by kernel_rfl) (by kernel_rfl) (by kernel_rfl) (by kernel_rfl) (fun _ _ _ h => h) (Or.inl ⟨by kernel_rfl, ?y28⟩) (by assumption) ?r28
  case y28 => (intro w hSw; obtain ⟨⟨g0, g1, g2, g3, g4⟩, ⟨g5, g6⟩, g7, g8⟩ := hSw; go_simp; try with_reducible rfl)
  simp only [Act.put, List.setIfInBounds_toArray, List.set_cons_zero, List.set_cons_succ]
  refine untlStep (i := 32) (by kernel_rfl) rfl (fun K32 hK32 => ?_)
  rw [if_pos (by rfl)]
  go_simp
  refine (HMO.out _ _ _ D12.out.a.a.a.a.r).mono ?_
  rintro e v4 ⟨Am, cm, rfl, hO, b⟩
  have D13 := Lib.hid (D12.out.below b)
  have Sv4 : ST9 g g6 g11 (.int .i64 fa) (.int .i64 fb) (.int .i64 fc) (.int .i64 fd) (.slice A n c) (.int .i64 s1) (.int .i64 s2) (.int .i64 dd) v4 := ⟨fan5_get D13.out.a.a.a.a.b, span_get D13.out.a.a.a.s, span_get D13.out.s⟩
  clear b D12 Sv3
  have GM := Lib.hid hO.1
  clear hO
  refine hK32.out _ _ (.inr Sv4) ?_
  refine untlStep (i := 33) (by kernel_rfl) rfl (fun K33 hK33 => ?_)
  rw [if_pos (by rfl)]
  go_simp
  refine (HTM.out _ _ _ GM.out).mono ?_
  rintro e v5 ⟨rfl, b⟩
  have D14 := Lib.hid (D13.out.below b)
  have Sv5 : ST9 g g6 g11 (.int .i64 fa) (.int .i64 fb) (.int .i64 fc) (.int .i64 fd) (.slice A n c) (.int .i64 s1) (.int .i64 s2) (.int .i64 dd) v5 := ⟨fan5_get D14.out.a.a.a.a.b, span_get D14.out.a.a.a.s, span_get D14.out.s⟩
  clear b D13 Sv4 GM
  refine hK33.out _ _ (.inr Sv5) ?_
  refine untlTake (i := 34) 100 (v := ?v29) rfl (by kernel_rfl) (by kernel_rfl) (by kernel_rfl) (by kernel_rfl) (by kernel_rfl) (by kernel_rfl) (fun _ _ _ h => h) (Or.inl ⟨by kernel_rfl, ?y29⟩) (by assumption) ?r29
  case y29 => (intro w hSw; obtain ⟨⟨g0, g1, g2, g3, g4⟩, ⟨g5, g6⟩, g7, g8⟩ := hSw; go_simp; try with_reducible rfl)
  refine untlTake (i := 35) 101 (v := ?v30) rfl (by kernel_rfl) (by kernel_rfl) (by kernel_rfl) (by kernel_rfl) (by kernel_rfl) (by kernel_rfl) (fun _ _ _ h => h) (Or.inl ⟨by kernel_rfl, ?y30⟩) (by assumption) ?r30
  case y30 => (intro w hSw; obtain ⟨⟨g0, g1, g2, g3, g4⟩, ⟨g5, g6⟩, g7, g8⟩ := hSw; go_simp; try with_reducible rfl)
  simp only [Act.put, List.setIfInBounds_toArray, List.set_cons_zero, List.set_cons_succ]
  refine untlStep (i := 36) (by kernel_rfl) rfl (fun K36 hK36 => ?_)
  rw [if_pos (by rfl)]
  go_simp
  refine (HDM.out _).mono ?_
  rintro e _ ⟨rfl, rfl⟩
  refine hK36.out _ _ (.inr Sv5) ?_
  refine untlTake (i := 37) 103 (v := .bool false) rfl (by kernel_rfl) (by kernel_rfl) (by kernel_rfl) (by kernel_rfl) (by kernel_rfl) (by kernel_rfl) (fun _ _ _ h => h) (Or.inl ⟨by kernel_rfl, ?y31⟩) (by assumption) ?r31
  case y31 => (intro w hSw; obtain ⟨⟨g0, g1, g2, g3, g4⟩, ⟨g5, g6⟩, g7, g8⟩ := hSw; go_simp; try with_reducible rfl)
  refine untlTake (i := 38) 104 (v := .bool false) rfl (by kernel_rfl) (by kernel_rfl) (by kernel_rfl) (by kernel_rfl) (by kernel_rfl) (by kernel_rfl) (fun _ _ _ h => h) (Or.inl ⟨by kernel_rfl, ?y32⟩) (by assumption) ?r32
  case y32 => (intro w hSw; obtain ⟨⟨g0, g1, g2, g3, g4⟩, ⟨g5, g6⟩, g7, g8⟩ := hSw; go_simp; try with_reducible rfl)
  refine untlDone (by kernel_rfl) ?_ _
  clear Sv5 hlo hhi hhi2 HSP HLE HTL HDL HMO HTM HDM
  go_wp2_with fail
  have E0 := Lib.hid D14.out
  clear D14
  go_loopw [14] (fun i wr => ∃ k : Nat, k ≤ n ∧ i = .int .i64 k ∧ T5 w wr ⟨fa, fb, fc, fd, gs⟩ A n c g g6 s1 s2 L l ⟨ta, tb, tc, td, ts⟩ At ct gt g11 dd) (fun i _ => n - (intOf i).toNat)
  case atStart => exact ⟨0, Nat.zero_le _, rfl, E0.out⟩
  case round =>
    obtain ⟨k, hk, rfl, hT⟩ := hrel
    have E1 := Lib.hid hT
    clear hT E0
    by_cases hlt : k < n
    · obtain ⟨bL, oL, hL0, _, d0⟩ := E1.out.a.a.i.at_ hlt
      obtain ⟨bt, ot, hAt, _, e0, _, e2, _⟩ := E1.out.a.r.at_ hlt
      subst hL0 hAt
      rw [HL.out k hlt] at d0
      have hst := HS3.out k
      have tb := HTB.out k hlt
      have HA1 := Lib.hid (HR1'.out k hlt)
      have HA2 := Lib.hid (HR2'.out k hlt)
      have hq1 := HS1'.out k hlt
      have hq2 := HS2'.out k hlt
      have gb := HGB.out k hlt
      have HF3 := Lib.hid (flatG_set3 gs k (by have := HLF.out; omega))
      have HF1 := Lib.hid (flatG_set1 gs k (by have := HLF.out; omega))
      have HX3 := Lib.hid (flatG_at gs k 3 (by have := HLF.out; omega) (by omega))
      have HX1 := Lib.hid (flatG_at gs k 1 (by have := HLF.out; omega) (by omega))
      have e : gs.getD k Gap.zero = gs[k]'(by have := HLF.out; omega) := by simp [List.getD, show k < gs.length from by have := HLF.out; omega]
      rw [← e] at HX3 HX1
      have HLL := Lib.hid (show k * 4 + 3 < (flatG gs).length from by rw [flatG_length]; have := HLF.out; omega)
      have HL2 := Lib.hid (show ∀ y : Gap, (gs.set k y).length = n from fun y => by rw [List.length_set]; exact HLF.out)
      simp only [footWide, leafWide] at HA1 HA2
      clear e HR1' HR2' HS1' HS2' HTB HL HS3 HGB HLF
      generalize ts.getD k Gap.zero = y at *
      obtain ⟨tl, tlh, tf, tfh⟩ := y
      simp only at e0 e2 hq1 hq2 tb
      generalize gs.getD k Gap.zero = yg at *
      generalize hz : st yg = z at *
      clear hz
      obtain ⟨gl, gh, zl, zh⟩ := yg
      simp only at HA1 HA2 HF1 HF3 gb
      simp only [Gap.cells] at HX1 HX3
      have HX1' : Hid ((flatG gs)[k * 4 + 1]? = some (.int .i64 gh)) := HX1.out
      have HX3' : Hid ((flatG gs)[k * 4 + 3]? = some (.int .i64 zh)) := HX3.out
      clear HX1 HX3
      have w1 : IntKind.i64.wrap (tl * tc) = tl * tc := IntWalk.i64_in _ (by omega)
      have w2 : IntKind.i64.wrap (tf * ta) = tf * ta := IntWalk.i64_in _ (by omega)
      have w3 : IntKind.i64.wrap (gh + 9) = gh + 9 := IntWalk.i64_in _ (by omega)
      have w4 : IntKind.i64.wrap (zh + 9) = zh + 9 := IntWalk.i64_in _ (by omega)
      have p15 := fan5_get E1.out.a.b
      clear tb gb
      go_wp2_with fail
      go_quiet (fail)
      clear p15 e0 e2
      generalize hWN : World.drewN _ _ = wn
      have D0 : wn.cell? ⟨bL, oL + k, none⟩ = some (.int .i64 z) := by rw [← hWN]; exact d0
      have E2 := Lib.hid (show T5 w wn ⟨fa, fb, fc, fd, gs⟩ A n c g g6 s1 s2 (some ⟨bL, oL, none⟩) l ⟨ta, tb, tc, td, ts⟩ (some ⟨bt, ot, none⟩) ct gt g11 dd from by rw [← hWN]; exact E1.out.below (below_drewN (Below.refl _ _) _))
      clear hWN E1 d0 w1 w2
      have p16 := fan5_get E2.out.a.a.a.a.b
      rcases hst with rfl | rfl | rfl
      · have hle : ¬ tl * tc ≥ tf * ta := by have := hq1 rfl; omega
        have HA := Lib.hid (HA1.out rfl)
        clear hq1 hq2 HA1 HA2 HF1 HX1' w3
        go_wp2_with fail
        refine (HCF.out _ _ _ E2.out.a.a.a.a.r).mono ?_
        rintro e w17 ⟨A17, c17, rfl, hO, b17⟩
        clear p16
        obtain ⟨r, rfl, hr0, hR0⟩ := hO.2 (by omega)
        have B18 := Lib.hid (below_then b17 (below_self w17 (.cells #[.int .i64 fa, .int .i64 fb, .int .i64 fc, .int .i64 fd, .slice (some ⟨r, 0, none⟩) n c17] 26)))
        have d18 := (B18.out.cell (lt_of_cell D0)).trans D0
        have p18 := fan5_get (Blk.new w17 26 #[.int .i64 fa, .int .i64 fb, .int .i64 fc, .int .i64 fd, .slice (some ⟨r, 0, none⟩) n c17] rfl)
        have hRB := hR0.below (below_self w17 (.cells #[.int .i64 fa, .int .i64 fb, .int .i64 fc, .int .i64 fd, .slice (some ⟨r, 0, none⟩) n c17] 26))
        have RB18 := Lib.hid hRB
        have hr1 : r < w17.heap.size := hR0.lt
        have n1 : ¬ r = w17.heap.size := by omega
        have n2 : ¬ w17.heap.size = r := by omega
        have HR0 := Lib.hid hr0
        clear hO b17 D0 hR0 hr0 hr1
        have x3 := hRB.cell HX3'.out
        have z3 := hRB.frozen (k * 4 + 3)
        clear hRB hle
        go_wp2_with fail
        refine (HA.out _ _ _ ?_).mono ?_
        · have R := RB18.out.set (i := k * 4 + 3) HLL.out (.int .i64 (zh + 9))
          rw [HF3.out] at R
          have G := R.gaps
          rw [HL2.out] at G
          exact G
        rintro e w23 ⟨rfl, b23⟩
        have E23 := Lib.hid ((E2.out.below (below_then (B18.out.setCell (p := ⟨r, k * 4 + 3, none⟩) HR0.out (.int .i64 (zh + 9))) b23)).below (below_self w23 (.cells #[.int .i64 s1, .int .i64 s2] 23)))
        clear b23 B18 E2 RB18 HR0 n1 n2 d18 p18 x3 z3
        have q23 := span_get E23.out.a.a.a.s
        go_wp2_with fail
        go_roundw
        case rel => exact ⟨k + 1, by omega, by go_num, E23.out⟩
        case measure => simp [intOf]; omega
      · have hle : ¬ tf * ta ≥ tl * tc := by have := hq2 rfl; omega
        have HA := Lib.hid (HA2.out rfl)
        clear hq1 hq2 HA1 HA2 HF3 HX3' w4
        go_wp2_with fail
        refine (HCF.out _ _ _ E2.out.a.a.a.a.r).mono ?_
        rintro e w17 ⟨A17, c17, rfl, hO, b17⟩
        clear p16
        obtain ⟨r, rfl, hr0, hR0⟩ := hO.2 (by omega)
        have B18 := Lib.hid (below_then b17 (below_self w17 (.cells #[.int .i64 fa, .int .i64 fb, .int .i64 fc, .int .i64 fd, .slice (some ⟨r, 0, none⟩) n c17] 26)))
        have d18 := (B18.out.cell (lt_of_cell D0)).trans D0
        have p18 := fan5_get (Blk.new w17 26 #[.int .i64 fa, .int .i64 fb, .int .i64 fc, .int .i64 fd, .slice (some ⟨r, 0, none⟩) n c17] rfl)
        have hRB := hR0.below (below_self w17 (.cells #[.int .i64 fa, .int .i64 fb, .int .i64 fc, .int .i64 fd, .slice (some ⟨r, 0, none⟩) n c17] 26))
        have RB18 := Lib.hid hRB
        have hr1 : r < w17.heap.size := hR0.lt
        have n1 : ¬ r = w17.heap.size := by omega
        have n2 : ¬ w17.heap.size = r := by omega
        have HR0 := Lib.hid hr0
        clear hO b17 D0 hR0 hr0 hr1
        have x1 := hRB.cell HX1'.out
        have z1 := hRB.frozen (k * 4 + 1)
        clear hRB hle
        go_wp2_with fail
        refine (HA.out _ _ _ ?_).mono ?_
        · have R := RB18.out.set (i := k * 4 + 1) (by have := HLL.out; omega) (.int .i64 (gh + 9))
          rw [HF1.out] at R
          have G := R.gaps
          rw [HL2.out] at G
          exact G
        rintro e w23 ⟨rfl, b23⟩
        have E23 := Lib.hid ((E2.out.below (below_then (B18.out.setCell (p := ⟨r, k * 4 + 1, none⟩) HR0.out (.int .i64 (gh + 9))) b23)).below (below_self w23 (.cells #[.int .i64 s1, .int .i64 s2] 23)))
        clear b23 B18 E2 RB18 HR0 n1 n2 d18 p18 x1 z1
        have q23 := span_get E23.out.a.a.a.s
        go_wp2_with fail
        go_roundw
        case rel => exact ⟨k + 1, by omega, by go_num, E23.out⟩
        case measure => simp [intOf]; omega
      · clear hq1 hq2 HA1 HA2 HF1 HF3 HX1' HX3' w3 w4
        go_wp2_with fail
        refine (HCF.out _ _ _ E2.out.a.a.a.a.r).mono ?_
        rintro e w17 ⟨A17, c17, rfl, _, b17⟩
        clear p16
        have E18 := Lib.hid ((E2.out.below b17).below (below_self w17 (.cells #[.int .i64 fa, .int .i64 fb, .int .i64 fc, .int .i64 fd, .slice A17 n c17] 26)))
        have d18 : (w17.alloc (.cells #[.int .i64 fa, .int .i64 fb, .int .i64 fc, .int .i64 fd, .slice A17 n c17] 26)).cell? ⟨bL, oL + k, none⟩ = some (.int .i64 3) := (((below_then b17 (below_self w17 (.cells #[.int .i64 fa, .int .i64 fb, .int .i64 fc, .int .i64 fd, .slice A17 n c17] 26))).cell (lt_of_cell D0)).trans D0)
        clear b17 D0 E2
        go_wp2_with fail
        go_roundw
        case rel => exact ⟨k + 1, by omega, by go_num, E18.out⟩
        case measure => simp [intOf]; omega
    · obtain rfl : k = n := by omega
      go_wp2_with fail
      refine (HK.out _).mono ?_
      rintro e w99 ⟨rfl, b99⟩
      go_wp2
      go_ret
      exact ⟨rfl, below_then E1.out.a.a.a.a.bel b99⟩
end Go.Proofs.Ytpbepipnfpgoiaa
