/- Walks: the law Compares. -/
import Derived.Test.YtpbepipnfpgoiaaSi
import Derived.Test.YtpbepipnfpgoiaaRi
import Derived.Test.YtpbepipnfpgoiaaSg
import Derived.Test.YtpbepipnfpgoiaaSk
import Derived.Test.YtpbepipnfpgoiaaHd
import Derived.Deep.CutRange
namespace Go.Proofs.Ytpbepipnfpgoiaa
open Go.RowKit

theorem ten_get {w W : World} {xa xb xc xd xs ya yb yc yd ys : Value} (h : Env2 w W 26 26 #[xa, xb, xc, xd, xs] #[ya, yb, yc, yd, ys]) : (W.cell? ⟨w.heap.size, 0, none⟩ = some xa ∧ W.cell? ⟨w.heap.size, 1, none⟩ = some xb ∧ W.cell? ⟨w.heap.size, 2, none⟩ = some xc ∧ W.cell? ⟨w.heap.size, 3, none⟩ = some xd ∧ W.cell? ⟨w.heap.size, 4, none⟩ = some xs) ∧ (W.cell? ⟨w.heap.size + 1, 0, none⟩ = some ya ∧ W.cell? ⟨w.heap.size + 1, 1, none⟩ = some yb ∧ W.cell? ⟨w.heap.size + 1, 2, none⟩ = some yc ∧ W.cell? ⟨w.heap.size + 1, 3, none⟩ = some yd ∧ W.cell? ⟨w.heap.size + 1, 4, none⟩ = some ys) := ⟨fan_get h.p, fan_get h.q⟩
/-- Two fans in their boxes, and their copies. -/
structure LF (w W : World) (x y : Fan) (A : Option Addr) (n c : Nat) (B : Option Addr) (m d g g' : Nat) (A' : Option Addr) (c' : Nat) (B' : Option Addr) (d' : Nat) : Prop where
  e : Env2 w W 26 26 (fanA x A n c) (fanA y B m d)
  p : Blk W g 26 (fanA x A' n c')
  q : Blk W g' 26 (fanA y B' m d')
  rp : Gaps W A' n x.gs
  rq : Gaps W B' m y.gs
theorem LF.below {w W W' : World} {x y : Fan} {A B A' B' : Option Addr} {n c m d g g' c' d' : Nat} (h : LF w W x y A n c B m d g g' A' c' B' d') (hb : Below W.heap.size W W') : LF w W' x y A n c B m d g g' A' c' B' d' :=
  ⟨h.e.below hb, blk_keep hb h.p, blk_keep hb h.q, h.rp.below hb, h.rq.below hb⟩
theorem OwnG.rowT {W : World} {b g n : Nat} {A : Option Addr} {xs : List Gap} {cs : Array Value} (h : OwnG b W A n xs) (hB : Blk W g 26 cs) (cs' : Array Value) : OwnG b (W.setRow g cs') A n xs := by
  rcases Nat.eq_zero_or_pos n with rfl | h0
  · exact ⟨⟨h.1.1, fun h => absurd h (by omega)⟩, fun h => absurd h (by omega)⟩
  · obtain ⟨r, rfl, hr, hR⟩ := h.2 h0
    have hne : r ≠ g := by
      rintro rfl
      obtain ⟨c2, h1, _⟩ := hR
      have e := h1.symm.trans hB
      simp only [Option.some.injEq, Obj.cells.injEq] at e
      exact absurd e.2.1 (by decide)
    have R2 : RB (W.setRow g cs') r 42 (flatG xs) := by
      obtain ⟨c2, h1, h2⟩ := hR
      exact ⟨c2, h1.setRow_far hne cs', h2⟩
    have G2 := R2.gaps
    rw [h.1.len] at G2
    exact ⟨G2, fun _ => ⟨r, rfl, hr, R2⟩⟩
def zFan : Array Value := #[.int .i64 0, .int .i64 0, .int .i64 0, .int .i64 0, .slice none 0 0]
/-- What stands of the two copies and of their boxes, on any way through the law's line that makes them. -/
structure CP (w W : World) (x y : Fan) (A : Option Addr) (n c : Nat) (B : Option Addr) (m d : Nat) (g5 g6 : Option Nat) (ca cb : Option (Option Addr)) : Prop where
  e : Env2 w W 26 26 (fanA x A n c) (fanA y B m d)
  h5 : ∀ g, g5 = some g → Blk W g 26 zFan ∧ w.heap.size + 1 < g
  h6 : ∀ g, g6 = some g → Blk W g 26 zFan ∧ w.heap.size + 1 < g
  hne : ∀ g g', g5 = some g → g6 = some g' → g ≠ g'
  ha : ∀ p, ca = some p → OwnG 0 W p n x.gs
  hb : ∀ p, cb = some p → OwnG 0 W p m y.gs
section
variable {w W W' : World} {x y : Fan} {A B : Option Addr} {n c m d : Nat} {g5 g6 : Option Nat} {ca cb : Option (Option Addr)}
theorem CP.below (h : CP w W x y A n c B m d g5 g6 ca cb) (hb : Below W.heap.size W W') : CP w W' x y A n c B m d g5 g6 ca cb :=
  ⟨h.e.below hb, fun g e => ⟨blk_keep hb (h.h5 g e).1, (h.h5 g e).2⟩, fun g e => ⟨blk_keep hb (h.h6 g e).1, (h.h6 g e).2⟩, h.hne, fun p e => (h.ha p e).below hb, fun p e => (h.hb p e).below hb⟩
theorem CP.start (h : Env2 w W 26 26 (fanA x A n c) (fanA y B m d)) : CP w W x y A n c B m d none none none none :=
  ⟨h, fun _ e => (by cases e), fun _ e => (by cases e), fun _ _ e => (by cases e), fun _ e => (by cases e), fun _ e => (by cases e)⟩
theorem CP.lt5 (h : CP w W x y A n c B m d g5 g6 ca cb) : ∀ g, g5 = some g → g ≠ W.heap.size := fun g e => Nat.ne_of_lt (h.h5 g e).1.lt
theorem CP.lt6 (h : CP w W x y A n c B m d g5 g6 ca cb) : ∀ g, g6 = some g → g ≠ W.heap.size := fun g e => Nat.ne_of_lt (h.h6 g e).1.lt
theorem CP.new5 (h : CP w W x y A n c B m d none g6 ca cb) : CP w (W.alloc (.cells #[.int .i64 0, .int .i64 0, .int .i64 0, .int .i64 0, .slice none 0 0] 26)) x y A n c B m d (some W.heap.size) g6 ca cb :=
  have k := h.below (below_self W (.cells #[.int .i64 0, .int .i64 0, .int .i64 0, .int .i64 0, .slice none 0 0] 26))
  ⟨k.e, fun g e => (by cases e; exact ⟨Blk.new W _ _ rfl, h.e.q.lt⟩), k.h6, fun g g' e e' => (by cases e; exact fun q => h.lt6 g' e' q.symm), k.ha, k.hb⟩
theorem CP.new6 (h : CP w W x y A n c B m d g5 none ca cb) : CP w (W.alloc (.cells #[.int .i64 0, .int .i64 0, .int .i64 0, .int .i64 0, .slice none 0 0] 26)) x y A n c B m d g5 (some W.heap.size) ca cb :=
  have k := h.below (below_self W (.cells #[.int .i64 0, .int .i64 0, .int .i64 0, .int .i64 0, .slice none 0 0] 26))
  ⟨k.e, k.h5, fun g e => (by cases e; exact ⟨Blk.new W _ _ rfl, h.e.q.lt⟩), fun g g' e e' => (by cases e'; exact h.lt5 g e), k.ha, k.hb⟩
theorem CP.copyA {A' : Option Addr} (h : CP w W x y A n c B m d g5 g6 none cb) (ho : OwnG W.heap.size W' A' n x.gs) (hb : Below W.heap.size W W') : CP w W' x y A n c B m d g5 g6 (some A') cb :=
  have k := h.below hb
  ⟨k.e, k.h5, k.h6, k.hne, fun p e => (by cases e; exact ho.less (Nat.zero_le _)), k.hb⟩
theorem CP.copyB {B' : Option Addr} (h : CP w W x y A n c B m d g5 g6 ca none) (ho : OwnG W.heap.size W' B' m y.gs) (hb : Below W.heap.size W W') : CP w W' x y A n c B m d g5 g6 ca (some B') :=
  have k := h.below hb
  ⟨k.e, k.h5, k.h6, k.hne, k.ha, fun p e => (by cases e; exact ho.less (Nat.zero_le _))⟩
end
theorem Env2.rowFar {w W : World} {t1 t2 : TypeId} {c1 c2 : Array Value} (h : Env2 w W t1 t2 c1 c2) {g : Nat} (hg : w.heap.size + 1 < g) (cs : Array Value) : Env2 w (W.setRow g cs) t1 t2 c1 c2 :=
  ⟨h.p.setRow_far (by omega) cs, h.q.setRow_far (by omega) cs, below_setR h.bel (by omega) cs⟩
/-- The first one is stored. -/
structure CQ (w W : World) (x y : Fan) (A : Option Addr) (n c : Nat) (B : Option Addr) (m d g g' : Nat) (A' : Option Addr) (c' : Nat) (B' : Option Addr) : Prop where
  e : Env2 w W 26 26 (fanA x A n c) (fanA y B m d)
  p : Blk W g 26 (fanA x A' n c')
  q : Blk W g' 26 zFan
  ha : OwnG 0 W A' n x.gs
  hb : OwnG 0 W B' m y.gs
  hne : g ≠ g'
  lt : w.heap.size + 1 < g'
theorem CP.put {w W : World} {x y : Fan} {A B A' B' : Option Addr} {n c m d g g' : Nat} (h : CP w W x y A n c B m d (some g) (some g') (some A') (some B')) (c' : Nat) : CQ w (W.setRow g (fanA x A' n c')) x y A n c B m d g g' A' c' B' :=
  have h5 := h.h5 g rfl
  have h6 := h.h6 g' rfl
  have hne := h.hne g g' rfl rfl
  ⟨h.e.rowFar h5.2 _, h5.1.setRow _, h6.1.setRow_far hne.symm _, (h.ha A' rfl).rowT h5.1 _, (h.hb B' rfl).rowT h5.1 _, hne, h6.2⟩
theorem CQ.put {w W : World} {x y : Fan} {A B A' B' : Option Addr} {n c m d g g' c' : Nat} (h : CQ w W x y A n c B m d g g' A' c' B') (d' : Nat) : LF w (W.setRow g' (fanA y B' m d')) x y A n c B m d g g' A' c' B' d' :=
  ⟨h.e.rowFar h.lt _, h.p.setRow_far h.hne _, h.q.setRow _, (h.ha.rowT h.q _).1, (h.hb.rowT h.q _).1⟩
theorem ones5v (a b c d : Int) (A : Option Addr) (n k : Nat) : (#[Value.int .i64 a, Value.int .i64 b, Value.int .i64 c, Value.int .i64 d, Value.slice A n k]).all (·.oneCell') = true := all_oneCell_toArray (cs := [.int .i64 a, .int .i64 b, .int .i64 c, .int .i64 d, .slice A n k]) (fun v hv => by simp only [List.mem_cons, List.not_mem_nil, or_false] at hv; rcases hv with rfl | rfl | rfl | rfl | rfl <;> rfl)
def STen (w : World) (xa xb xc xd xs ya yb yc yd ys : Value) (W : World) : Prop := (W.cell? ⟨w.heap.size, 0, none⟩ = some xa ∧ W.cell? ⟨w.heap.size, 1, none⟩ = some xb ∧ W.cell? ⟨w.heap.size, 2, none⟩ = some xc ∧ W.cell? ⟨w.heap.size, 3, none⟩ = some xd ∧ W.cell? ⟨w.heap.size, 4, none⟩ = some xs) ∧ (W.cell? ⟨w.heap.size + 1, 0, none⟩ = some ya ∧ W.cell? ⟨w.heap.size + 1, 1, none⟩ = some yb ∧ W.cell? ⟨w.heap.size + 1, 2, none⟩ = some yc ∧ W.cell? ⟨w.heap.size + 1, 3, none⟩ = some yd ∧ W.cell? ⟨w.heap.size + 1, 4, none⟩ = some ys)

set_option maxRecDepth 100000 in
set_option maxHeartbeats 8000000 in
theorem RivetCompares_any (x y : Fan) (A : Option Addr) (n c : Nat) (B : Option Addr) (m d : Nat) (w : World) (h : Gaps w A n x.gs) (h' : Gaps w B m y.gs) (hn : n ≤ maxLen) (hm : m ≤ maxLen) :
    Calls Try.prog 5 #[.agg (fanA x A n c), .agg (fanA y B m d)] w fun e w' => e = .returned (.bool true) ∧ Below w.heap.size w w' := by
  have E0 := Lib.hid (Env2.start w 26 26 (fanA x A n c) (fanA y B m d))
  have HK := Lib.hid (fun W => known_any W)
  unfold KnownRes at HK
  have HN := Lib.hid hn
  have HM := Lib.hid hm
  have hn2 := hn
  have hm2 := hm
  unfold maxLen at hn2 hm2
  by_cases h50 : 50 < n
  · clear h h' hn hm HN HM
    obtain ⟨xa, xb, xc, xd, xs⟩ := x
    obtain ⟨ya, yb, yc, yd, ys⟩ := y
    simp only [fanA] at *
    have p0 := fan_get E0.out.p
    go_enter Try.func5, Try.ntmps5
    go_wp2_with fail
    refine (HK.out _).mono ?_
    rintro e w1 ⟨rfl, b1⟩
    go_wp2
    go_ret
    exact ⟨rfl, below_then E0.out.bel b1⟩
  by_cases h51 : 50 < m
  · clear h h' hn hm HN HM
    obtain ⟨xa, xb, xc, xd, xs⟩ := x
    obtain ⟨ya, yb, yc, yd, ys⟩ := y
    simp only [fanA] at *
    have p0 := fan_get E0.out.p
    have q0 := fan_get E0.out.q
    go_enter Try.func5, Try.ntmps5
    go_wp2_with fail
    refine (HK.out _).mono ?_
    rintro e w1 ⟨rfl, b1⟩
    go_wp2
    go_ret
    exact ⟨rfl, below_then E0.out.bel b1⟩
  have HC1 := Lib.hid (fun W (hb : Below w.heap.size w W) => RefCopy_own x A n c W (h.below hb) (by omega))
  have HC2 := Lib.hid (fun W (hb : Below w.heap.size w W) => RefCopy_own y B m d W (h'.below hb) (by omega))
  unfold OwnRes at HC1 HC2
  have H1 := Lib.hid (fun A' c' B' d' W (hA : Gaps W A' n x.gs) (hB : Gaps W B' m y.gs) => Compare_any x y A' n c' B' m d' W hA hB HN.out HM.out)
  have H2 := Lib.hid (fun A' c' W (hG : Gaps W A' n x.gs) (hb : Below w.heap.size w W) => RefSame_any x A' A n c' c W hG (h.below hb) HN.out)
  have H3 := Lib.hid (fun A' c' W (hG : Gaps W A' m y.gs) (hb : Below w.heap.size w W) => RefSame_any y A' B m c' d W hG (h'.below hb) HM.out)
  have H4 := Lib.hid (fun W (hb : Below w.heap.size w W) => RefCheck_any x A n c W (h.below hb) HN.out)
  have H5 := Lib.hid (fun W (hb : Below w.heap.size w W) => RefCheck_any y B m d W (h'.below hb) HM.out)
  have H6 := Lib.hid (fun (hx : fanErr x = 0) (hy : fanErr y = 0) W (hb : Below w.heap.size w W) => RefCompare_any x y A B n c m d W (fanB_of hx).1 (fanB_of hy).1 (h.below hb) (h'.below hb))
  have HE : Hid (moreE x y = if fanErr x = 0 then fanErr y else fanErr x) := rfl
  have HL : Hid (moreL x y = if moreE x y = 0 then (if gtL x y = true then 1 else if gtL y x = true then 2 else 3) else 0) := rfl
  clear h h' hn hm HN HM
  generalize moreL x y = rl at *
  generalize moreE x y = re at *
  generalize fanErr x = ex at *
  generalize fanErr y = ey at *
  generalize (if gtL x y = true then (1 : Int) else if gtL y x = true then 2 else 3) = rr at *
  have HT0 := Lib.hid (CP.start E0.out.drewd)
  obtain ⟨xa, xb, xc, xd, xs⟩ := x
  obtain ⟨ya, yb, yc, yd, ys⟩ := y
  simp only [fanA] at E0 HT0 HC1 HC2 H1 H2 H3 H4 H5 H6 ⊢
  have p0 := fan_get E0.out.p
  have q0 := fan_get E0.out.q
  go_enter Try.func5, Try.ntmps5
  go_wp2_with fail
  clear p0 q0
  go_cut [5, 6] from 5 to 24 (fun s5 s6 W => ∃ (g g' : Nat) (A' B' : Option Addr) (c' d' : Nat), s5 = .pointer (some ⟨g, 0, none⟩) ∧ s6 = .pointer (some ⟨g', 0, none⟩) ∧ LF w W ⟨xa, xb, xc, xd, xs⟩ ⟨ya, yb, yc, yd, ys⟩ A n c B m d g g' A' c' B' d')
  case first =>
    have S0 : STen w (.int .i64 xa) (.int .i64 xb) (.int .i64 xc) (.int .i64 xd) (.slice A n c) (.int .i64 ya) (.int .i64 yb) (.int .i64 yc) (.int .i64 yd) (.slice B m d) _ := ten_get HT0.out.e
    refine wp_region_held_drew (S := STen w (.int .i64 xa) (.int .i64 xb) (.int .i64 xc) (.int .i64 xd) (.slice A n c) (.int .i64 ya) (.int .i64 yb) (.int .i64 yc) (.int .i64 yd) (.slice B m d)) (by kernel_rfl) S0 (fun _ => ?_)
    clear E0 S0
    generalize (((w.alloc (.cells #[.int .i64 xa, .int .i64 xb, .int .i64 xc, .int .i64 xd, .slice A n c] 26)).alloc (.cells #[.int .i64 ya, .int .i64 yb, .int .i64 yc, .int .i64 yd, .slice B m d] 26)).drew) = wd at *
    refine heldTake (i := 0) 21 (v := ?v1) rfl (by kernel_rfl) (by kernel_rfl) (by kernel_rfl) (by kernel_rfl) (fun _ _ _ h => h) (Or.inl ⟨by rfl, ?y1⟩) (by assumption) ?r1
    case y1 => (intro w hSw; obtain ⟨⟨g0, g1, g2, g3, g4⟩, g5, g6, g7, g8, g9⟩ := hSw; go_simp; try with_reducible rfl)
    refine heldTake (i := 2) 23 (v := ?v2) rfl (by kernel_rfl) (by kernel_rfl) (by kernel_rfl) (by kernel_rfl) (fun _ _ _ h => h) (Or.inl ⟨by rfl, ?y2⟩) (by assumption) ?r2
    case y2 => (intro w hSw; obtain ⟨⟨g0, g1, g2, g3, g4⟩, g5, g6, g7, g8, g9⟩ := hSw; go_simp; try with_reducible rfl)
    simp only [Act.put, List.setIfInBounds_toArray, List.set_cons_zero, List.set_cons_succ]
    refine wpAnyH_ready (rs := [1, 4, 5]) (by kernel_rfl) (by simp) ?_
    refine AllReadyH.cons rfl (fun K3 hK3 => ?_) ?_
    · skip
      go_simp
      refine (HC1.out _ HT0.out.e.bel).mono ?_
      rintro e V5 ⟨A1, c1, rfl, hA, b1⟩
      have C4 := Lib.hid (HT0.out.copyA hA b1)
      clear hA b1
      refine hK3.out _ _ (ten_get C4.out.e) (fun _ => ?_)
      refine wpAnyH_ready (rs := [3, 4, 5]) (by kernel_rfl) (by simp) ?_
      refine AllReadyH.cons rfl (fun K6 hK6 => ?_) ?_
      · skip
        go_simp
        refine (HC2.out _ C4.out.e.bel).mono ?_
        rintro e V8 ⟨B1, d1, rfl, hB, b2⟩
        have C7 := Lib.hid (C4.out.copyB hB b2)
        clear hB b2
        refine hK6.out _ _ (ten_get C7.out.e) (fun _ => ?_)
        refine wpAnyH_ready (rs := [4, 5]) (by kernel_rfl) (by simp) ?_
        refine AllReadyH.cons rfl (fun K9 hK9 => ?_) ?_
        · skip
          go_simp
          have C10 := Lib.hid C7.out.new5
          refine hK9.out _ _ (ten_get C10.out.e) (fun _ => ?_)
          generalize V8.alloc (.cells #[.int .i64 0, .int .i64 0, .int .i64 0, .int .i64 0, .slice none 0 0] 26) = V11 at *
          refine wpAnyH_ready (rs := [5]) (by kernel_rfl) (by simp) ?_
          refine AllReadyH.cons rfl (fun K12 hK12 => ?_) AllReadyH.nil
          go_simp
          have C13 := Lib.hid C10.out.new6
          refine hK12.out _ _ (ten_get C13.out.e) (fun _ => ?_)
          generalize V11.alloc (.cells #[.int .i64 0, .int .i64 0, .int .i64 0, .int .i64 0, .slice none 0 0] 26) = V14 at *
          refine wpAnyH_ready (rs := [6]) (by kernel_rfl) (by simp) ?_
          refine AllReadyH.cons rfl (fun K15 hK15 => ?_) AllReadyH.nil
          rw [if_pos (by rfl)]
          refine wp_store_rowN rfl _ _ _ rfl _ _ rfl rfl _ _ (C13.out.h5 _ rfl).1 (by kernel_rfl) rfl (ones5v _ _ _ _ _ _ _) ?_
          have Q16 := Lib.hid (C13.out.put c1)
          refine hK15.out _ _ (ten_get Q16.out.e) (fun _ => ?_)
          refine wpAnyH_ready (rs := [7]) (by kernel_rfl) (by simp) ?_
          refine AllReadyH.cons rfl (fun K17 hK17 => ?_) AllReadyH.nil
          rw [if_pos (by rfl)]
          refine wp_store_rowN rfl _ _ _ rfl _ _ rfl rfl _ _ Q16.out.q (by kernel_rfl) rfl (ones5v _ _ _ _ _ _ _) ?_
          have F18 := Lib.hid (Q16.out.put d1)
          refine hK17.out _ _ (ten_get F18.out.e) (fun _ => ?_)
          refine wpAnyH_done (by kernel_rfl) ?_ _
          go_wp2_with fail
          go_meet
          exact ⟨_, _, _, _, _, _, rfl, rfl, F18.out⟩
        refine AllReadyH.cons rfl (fun K19 hK19 => ?_) AllReadyH.nil
        go_simp
        have C20 := Lib.hid C7.out.new6
        refine hK19.out _ _ (ten_get C20.out.e) (fun _ => ?_)
        generalize V8.alloc (.cells #[.int .i64 0, .int .i64 0, .int .i64 0, .int .i64 0, .slice none 0 0] 26) = V21 at *
        refine wpAnyH_ready (rs := [4]) (by kernel_rfl) (by simp) ?_
        refine AllReadyH.cons rfl (fun K22 hK22 => ?_) AllReadyH.nil
        go_simp
        have C23 := Lib.hid C20.out.new5
        refine hK22.out _ _ (ten_get C23.out.e) (fun _ => ?_)
        generalize V21.alloc (.cells #[.int .i64 0, .int .i64 0, .int .i64 0, .int .i64 0, .slice none 0 0] 26) = V24 at *
        refine wpAnyH_ready (rs := [6]) (by kernel_rfl) (by simp) ?_
        refine AllReadyH.cons rfl (fun K25 hK25 => ?_) AllReadyH.nil
        rw [if_pos (by rfl)]
        refine wp_store_rowN rfl _ _ _ rfl _ _ rfl rfl _ _ (C23.out.h5 _ rfl).1 (by kernel_rfl) rfl (ones5v _ _ _ _ _ _ _) ?_
        have Q26 := Lib.hid (C23.out.put c1)
        refine hK25.out _ _ (ten_get Q26.out.e) (fun _ => ?_)
        refine wpAnyH_ready (rs := [7]) (by kernel_rfl) (by simp) ?_
        refine AllReadyH.cons rfl (fun K27 hK27 => ?_) AllReadyH.nil
        rw [if_pos (by rfl)]
        refine wp_store_rowN rfl _ _ _ rfl _ _ rfl rfl _ _ Q26.out.q (by kernel_rfl) rfl (ones5v _ _ _ _ _ _ _) ?_
        have F28 := Lib.hid (Q26.out.put d1)
        refine hK27.out _ _ (ten_get F28.out.e) (fun _ => ?_)
        refine wpAnyH_done (by kernel_rfl) ?_ _
        go_wp2_with fail
        go_meet
        exact ⟨_, _, _, _, _, _, rfl, rfl, F28.out⟩
      refine AllReadyH.cons rfl (fun K29 hK29 => ?_) ?_
      · skip
        go_simp
        have C30 := Lib.hid C4.out.new5
        refine hK29.out _ _ (ten_get C30.out.e) (fun _ => ?_)
        generalize V5.alloc (.cells #[.int .i64 0, .int .i64 0, .int .i64 0, .int .i64 0, .slice none 0 0] 26) = V31 at *
        refine wpAnyH_ready (rs := [3, 5]) (by kernel_rfl) (by simp) ?_
        refine AllReadyH.cons rfl (fun K32 hK32 => ?_) ?_
        · skip
          go_simp
          refine (HC2.out _ C30.out.e.bel).mono ?_
          rintro e V34 ⟨B1, d1, rfl, hB, b2⟩
          have C33 := Lib.hid (C30.out.copyB hB b2)
          clear hB b2
          refine hK32.out _ _ (ten_get C33.out.e) (fun _ => ?_)
          refine wpAnyH_ready (rs := [5]) (by kernel_rfl) (by simp) ?_
          refine AllReadyH.cons rfl (fun K35 hK35 => ?_) AllReadyH.nil
          go_simp
          have C36 := Lib.hid C33.out.new6
          refine hK35.out _ _ (ten_get C36.out.e) (fun _ => ?_)
          generalize V34.alloc (.cells #[.int .i64 0, .int .i64 0, .int .i64 0, .int .i64 0, .slice none 0 0] 26) = V37 at *
          refine wpAnyH_ready (rs := [6]) (by kernel_rfl) (by simp) ?_
          refine AllReadyH.cons rfl (fun K38 hK38 => ?_) AllReadyH.nil
          rw [if_pos (by rfl)]
          refine wp_store_rowN rfl _ _ _ rfl _ _ rfl rfl _ _ (C36.out.h5 _ rfl).1 (by kernel_rfl) rfl (ones5v _ _ _ _ _ _ _) ?_
          have Q39 := Lib.hid (C36.out.put c1)
          refine hK38.out _ _ (ten_get Q39.out.e) (fun _ => ?_)
          refine wpAnyH_ready (rs := [7]) (by kernel_rfl) (by simp) ?_
          refine AllReadyH.cons rfl (fun K40 hK40 => ?_) AllReadyH.nil
          rw [if_pos (by rfl)]
          refine wp_store_rowN rfl _ _ _ rfl _ _ rfl rfl _ _ Q39.out.q (by kernel_rfl) rfl (ones5v _ _ _ _ _ _ _) ?_
          have F41 := Lib.hid (Q39.out.put d1)
          refine hK40.out _ _ (ten_get F41.out.e) (fun _ => ?_)
          refine wpAnyH_done (by kernel_rfl) ?_ _
          go_wp2_with fail
          go_meet
          exact ⟨_, _, _, _, _, _, rfl, rfl, F41.out⟩
        refine AllReadyH.cons rfl (fun K42 hK42 => ?_) AllReadyH.nil
        go_simp
        have C43 := Lib.hid C30.out.new6
        refine hK42.out _ _ (ten_get C43.out.e) (fun _ => ?_)
        generalize V31.alloc (.cells #[.int .i64 0, .int .i64 0, .int .i64 0, .int .i64 0, .slice none 0 0] 26) = V44 at *
        refine wpAnyH_ready (rs := [3]) (by kernel_rfl) (by simp) ?_
        refine AllReadyH.cons rfl (fun K45 hK45 => ?_) AllReadyH.nil
        go_simp
        refine (HC2.out _ C43.out.e.bel).mono ?_
        rintro e V47 ⟨B1, d1, rfl, hB, b2⟩
        have C46 := Lib.hid (C43.out.copyB hB b2)
        clear hB b2
        refine hK45.out _ _ (ten_get C46.out.e) (fun _ => ?_)
        refine wpAnyH_ready (rs := [6]) (by kernel_rfl) (by simp) ?_
        refine AllReadyH.cons rfl (fun K48 hK48 => ?_) AllReadyH.nil
        rw [if_pos (by rfl)]
        refine wp_store_rowN rfl _ _ _ rfl _ _ rfl rfl _ _ (C46.out.h5 _ rfl).1 (by kernel_rfl) rfl (ones5v _ _ _ _ _ _ _) ?_
        have Q49 := Lib.hid (C46.out.put c1)
        refine hK48.out _ _ (ten_get Q49.out.e) (fun _ => ?_)
        refine wpAnyH_ready (rs := [7]) (by kernel_rfl) (by simp) ?_
        refine AllReadyH.cons rfl (fun K50 hK50 => ?_) AllReadyH.nil
        rw [if_pos (by rfl)]
        refine wp_store_rowN rfl _ _ _ rfl _ _ rfl rfl _ _ Q49.out.q (by kernel_rfl) rfl (ones5v _ _ _ _ _ _ _) ?_
        have F51 := Lib.hid (Q49.out.put d1)
        refine hK50.out _ _ (ten_get F51.out.e) (fun _ => ?_)
        refine wpAnyH_done (by kernel_rfl) ?_ _
        go_wp2_with fail
        go_meet
        exact ⟨_, _, _, _, _, _, rfl, rfl, F51.out⟩
      refine AllReadyH.cons rfl (fun K52 hK52 => ?_) AllReadyH.nil
      go_simp
      have C53 := Lib.hid C4.out.new6
      refine hK52.out _ _ (ten_get C53.out.e) (fun _ => ?_)
      generalize V5.alloc (.cells #[.int .i64 0, .int .i64 0, .int .i64 0, .int .i64 0, .slice none 0 0] 26) = V54 at *
      refine wpAnyH_ready (rs := [3, 4]) (by kernel_rfl) (by simp) ?_
      refine AllReadyH.cons rfl (fun K55 hK55 => ?_) ?_
      · skip
        go_simp
        refine (HC2.out _ C53.out.e.bel).mono ?_
        rintro e V57 ⟨B1, d1, rfl, hB, b2⟩
        have C56 := Lib.hid (C53.out.copyB hB b2)
        clear hB b2
        refine hK55.out _ _ (ten_get C56.out.e) (fun _ => ?_)
        refine wpAnyH_ready (rs := [4]) (by kernel_rfl) (by simp) ?_
        refine AllReadyH.cons rfl (fun K58 hK58 => ?_) AllReadyH.nil
        go_simp
        have C59 := Lib.hid C56.out.new5
        refine hK58.out _ _ (ten_get C59.out.e) (fun _ => ?_)
        generalize V57.alloc (.cells #[.int .i64 0, .int .i64 0, .int .i64 0, .int .i64 0, .slice none 0 0] 26) = V60 at *
        refine wpAnyH_ready (rs := [6]) (by kernel_rfl) (by simp) ?_
        refine AllReadyH.cons rfl (fun K61 hK61 => ?_) AllReadyH.nil
        rw [if_pos (by rfl)]
        refine wp_store_rowN rfl _ _ _ rfl _ _ rfl rfl _ _ (C59.out.h5 _ rfl).1 (by kernel_rfl) rfl (ones5v _ _ _ _ _ _ _) ?_
        have Q62 := Lib.hid (C59.out.put c1)
        refine hK61.out _ _ (ten_get Q62.out.e) (fun _ => ?_)
        refine wpAnyH_ready (rs := [7]) (by kernel_rfl) (by simp) ?_
        refine AllReadyH.cons rfl (fun K63 hK63 => ?_) AllReadyH.nil
        rw [if_pos (by rfl)]
        refine wp_store_rowN rfl _ _ _ rfl _ _ rfl rfl _ _ Q62.out.q (by kernel_rfl) rfl (ones5v _ _ _ _ _ _ _) ?_
        have F64 := Lib.hid (Q62.out.put d1)
        refine hK63.out _ _ (ten_get F64.out.e) (fun _ => ?_)
        refine wpAnyH_done (by kernel_rfl) ?_ _
        go_wp2_with fail
        go_meet
        exact ⟨_, _, _, _, _, _, rfl, rfl, F64.out⟩
      refine AllReadyH.cons rfl (fun K65 hK65 => ?_) AllReadyH.nil
      go_simp
      have C66 := Lib.hid C53.out.new5
      refine hK65.out _ _ (ten_get C66.out.e) (fun _ => ?_)
      generalize V54.alloc (.cells #[.int .i64 0, .int .i64 0, .int .i64 0, .int .i64 0, .slice none 0 0] 26) = V67 at *
      refine wpAnyH_ready (rs := [3]) (by kernel_rfl) (by simp) ?_
      refine AllReadyH.cons rfl (fun K68 hK68 => ?_) AllReadyH.nil
      go_simp
      refine (HC2.out _ C66.out.e.bel).mono ?_
      rintro e V70 ⟨B1, d1, rfl, hB, b2⟩
      have C69 := Lib.hid (C66.out.copyB hB b2)
      clear hB b2
      refine hK68.out _ _ (ten_get C69.out.e) (fun _ => ?_)
      refine wpAnyH_ready (rs := [6]) (by kernel_rfl) (by simp) ?_
      refine AllReadyH.cons rfl (fun K71 hK71 => ?_) AllReadyH.nil
      rw [if_pos (by rfl)]
      refine wp_store_rowN rfl _ _ _ rfl _ _ rfl rfl _ _ (C69.out.h5 _ rfl).1 (by kernel_rfl) rfl (ones5v _ _ _ _ _ _ _) ?_
      have Q72 := Lib.hid (C69.out.put c1)
      refine hK71.out _ _ (ten_get Q72.out.e) (fun _ => ?_)
      refine wpAnyH_ready (rs := [7]) (by kernel_rfl) (by simp) ?_
      refine AllReadyH.cons rfl (fun K73 hK73 => ?_) AllReadyH.nil
      rw [if_pos (by rfl)]
      refine wp_store_rowN rfl _ _ _ rfl _ _ rfl rfl _ _ Q72.out.q (by kernel_rfl) rfl (ones5v _ _ _ _ _ _ _) ?_
      have F74 := Lib.hid (Q72.out.put d1)
      refine hK73.out _ _ (ten_get F74.out.e) (fun _ => ?_)
      refine wpAnyH_done (by kernel_rfl) ?_ _
      go_wp2_with fail
      go_meet
      exact ⟨_, _, _, _, _, _, rfl, rfl, F74.out⟩
    refine AllReadyH.cons rfl (fun K75 hK75 => ?_) ?_
    · skip
      go_simp
      have C76 := Lib.hid HT0.out.new5
      refine hK75.out _ _ (ten_get C76.out.e) (fun _ => ?_)
      generalize wd.alloc (.cells #[.int .i64 0, .int .i64 0, .int .i64 0, .int .i64 0, .slice none 0 0] 26) = V77 at *
      refine wpAnyH_ready (rs := [1, 5]) (by kernel_rfl) (by simp) ?_
      refine AllReadyH.cons rfl (fun K78 hK78 => ?_) ?_
      · skip
        go_simp
        refine (HC1.out _ C76.out.e.bel).mono ?_
        rintro e V80 ⟨A1, c1, rfl, hA, b1⟩
        have C79 := Lib.hid (C76.out.copyA hA b1)
        clear hA b1
        refine hK78.out _ _ (ten_get C79.out.e) (fun _ => ?_)
        refine wpAnyH_ready (rs := [3, 5]) (by kernel_rfl) (by simp) ?_
        refine AllReadyH.cons rfl (fun K81 hK81 => ?_) ?_
        · skip
          go_simp
          refine (HC2.out _ C79.out.e.bel).mono ?_
          rintro e V83 ⟨B1, d1, rfl, hB, b2⟩
          have C82 := Lib.hid (C79.out.copyB hB b2)
          clear hB b2
          refine hK81.out _ _ (ten_get C82.out.e) (fun _ => ?_)
          refine wpAnyH_ready (rs := [5]) (by kernel_rfl) (by simp) ?_
          refine AllReadyH.cons rfl (fun K84 hK84 => ?_) AllReadyH.nil
          go_simp
          have C85 := Lib.hid C82.out.new6
          refine hK84.out _ _ (ten_get C85.out.e) (fun _ => ?_)
          generalize V83.alloc (.cells #[.int .i64 0, .int .i64 0, .int .i64 0, .int .i64 0, .slice none 0 0] 26) = V86 at *
          refine wpAnyH_ready (rs := [6]) (by kernel_rfl) (by simp) ?_
          refine AllReadyH.cons rfl (fun K87 hK87 => ?_) AllReadyH.nil
          rw [if_pos (by rfl)]
          refine wp_store_rowN rfl _ _ _ rfl _ _ rfl rfl _ _ (C85.out.h5 _ rfl).1 (by kernel_rfl) rfl (ones5v _ _ _ _ _ _ _) ?_
          have Q88 := Lib.hid (C85.out.put c1)
          refine hK87.out _ _ (ten_get Q88.out.e) (fun _ => ?_)
          refine wpAnyH_ready (rs := [7]) (by kernel_rfl) (by simp) ?_
          refine AllReadyH.cons rfl (fun K89 hK89 => ?_) AllReadyH.nil
          rw [if_pos (by rfl)]
          refine wp_store_rowN rfl _ _ _ rfl _ _ rfl rfl _ _ Q88.out.q (by kernel_rfl) rfl (ones5v _ _ _ _ _ _ _) ?_
          have F90 := Lib.hid (Q88.out.put d1)
          refine hK89.out _ _ (ten_get F90.out.e) (fun _ => ?_)
          refine wpAnyH_done (by kernel_rfl) ?_ _
          go_wp2_with fail
          go_meet
          exact ⟨_, _, _, _, _, _, rfl, rfl, F90.out⟩
        refine AllReadyH.cons rfl (fun K91 hK91 => ?_) AllReadyH.nil
        go_simp
        have C92 := Lib.hid C79.out.new6
        refine hK91.out _ _ (ten_get C92.out.e) (fun _ => ?_)
        generalize V80.alloc (.cells #[.int .i64 0, .int .i64 0, .int .i64 0, .int .i64 0, .slice none 0 0] 26) = V93 at *
        refine wpAnyH_ready (rs := [3]) (by kernel_rfl) (by simp) ?_
        refine AllReadyH.cons rfl (fun K94 hK94 => ?_) AllReadyH.nil
        go_simp
        refine (HC2.out _ C92.out.e.bel).mono ?_
        rintro e V96 ⟨B1, d1, rfl, hB, b2⟩
        have C95 := Lib.hid (C92.out.copyB hB b2)
        clear hB b2
        refine hK94.out _ _ (ten_get C95.out.e) (fun _ => ?_)
        refine wpAnyH_ready (rs := [6]) (by kernel_rfl) (by simp) ?_
        refine AllReadyH.cons rfl (fun K97 hK97 => ?_) AllReadyH.nil
        rw [if_pos (by rfl)]
        refine wp_store_rowN rfl _ _ _ rfl _ _ rfl rfl _ _ (C95.out.h5 _ rfl).1 (by kernel_rfl) rfl (ones5v _ _ _ _ _ _ _) ?_
        have Q98 := Lib.hid (C95.out.put c1)
        refine hK97.out _ _ (ten_get Q98.out.e) (fun _ => ?_)
        refine wpAnyH_ready (rs := [7]) (by kernel_rfl) (by simp) ?_
        refine AllReadyH.cons rfl (fun K99 hK99 => ?_) AllReadyH.nil
        rw [if_pos (by rfl)]
        refine wp_store_rowN rfl _ _ _ rfl _ _ rfl rfl _ _ Q98.out.q (by kernel_rfl) rfl (ones5v _ _ _ _ _ _ _) ?_
        have F100 := Lib.hid (Q98.out.put d1)
        refine hK99.out _ _ (ten_get F100.out.e) (fun _ => ?_)
        refine wpAnyH_done (by kernel_rfl) ?_ _
        go_wp2_with fail
        go_meet
        exact ⟨_, _, _, _, _, _, rfl, rfl, F100.out⟩
      refine AllReadyH.cons rfl (fun K101 hK101 => ?_) AllReadyH.nil
      go_simp
      have C102 := Lib.hid C76.out.new6
      refine hK101.out _ _ (ten_get C102.out.e) (fun _ => ?_)
      generalize V77.alloc (.cells #[.int .i64 0, .int .i64 0, .int .i64 0, .int .i64 0, .slice none 0 0] 26) = V103 at *
      refine wpAnyH_ready (rs := [1]) (by kernel_rfl) (by simp) ?_
      refine AllReadyH.cons rfl (fun K104 hK104 => ?_) AllReadyH.nil
      go_simp
      refine (HC1.out _ C102.out.e.bel).mono ?_
      rintro e V106 ⟨A1, c1, rfl, hA, b1⟩
      have C105 := Lib.hid (C102.out.copyA hA b1)
      clear hA b1
      refine hK104.out _ _ (ten_get C105.out.e) (fun _ => ?_)
      refine wpAnyH_ready (rs := [3]) (by kernel_rfl) (by simp) ?_
      refine AllReadyH.cons rfl (fun K107 hK107 => ?_) AllReadyH.nil
      go_simp
      refine (HC2.out _ C105.out.e.bel).mono ?_
      rintro e V109 ⟨B1, d1, rfl, hB, b2⟩
      have C108 := Lib.hid (C105.out.copyB hB b2)
      clear hB b2
      refine hK107.out _ _ (ten_get C108.out.e) (fun _ => ?_)
      refine wpAnyH_ready (rs := [6]) (by kernel_rfl) (by simp) ?_
      refine AllReadyH.cons rfl (fun K110 hK110 => ?_) AllReadyH.nil
      rw [if_pos (by rfl)]
      refine wp_store_rowN rfl _ _ _ rfl _ _ rfl rfl _ _ (C108.out.h5 _ rfl).1 (by kernel_rfl) rfl (ones5v _ _ _ _ _ _ _) ?_
      have Q111 := Lib.hid (C108.out.put c1)
      refine hK110.out _ _ (ten_get Q111.out.e) (fun _ => ?_)
      refine wpAnyH_ready (rs := [7]) (by kernel_rfl) (by simp) ?_
      refine AllReadyH.cons rfl (fun K112 hK112 => ?_) AllReadyH.nil
      rw [if_pos (by rfl)]
      refine wp_store_rowN rfl _ _ _ rfl _ _ rfl rfl _ _ Q111.out.q (by kernel_rfl) rfl (ones5v _ _ _ _ _ _ _) ?_
      have F113 := Lib.hid (Q111.out.put d1)
      refine hK112.out _ _ (ten_get F113.out.e) (fun _ => ?_)
      refine wpAnyH_done (by kernel_rfl) ?_ _
      go_wp2_with fail
      go_meet
      exact ⟨_, _, _, _, _, _, rfl, rfl, F113.out⟩
    refine AllReadyH.cons rfl (fun K114 hK114 => ?_) AllReadyH.nil
    go_simp
    have C115 := Lib.hid HT0.out.new6
    refine hK114.out _ _ (ten_get C115.out.e) (fun _ => ?_)
    generalize wd.alloc (.cells #[.int .i64 0, .int .i64 0, .int .i64 0, .int .i64 0, .slice none 0 0] 26) = V116 at *
    refine wpAnyH_ready (rs := [1, 4]) (by kernel_rfl) (by simp) ?_
    refine AllReadyH.cons rfl (fun K117 hK117 => ?_) ?_
    · skip
      go_simp
      refine (HC1.out _ C115.out.e.bel).mono ?_
      rintro e V119 ⟨A1, c1, rfl, hA, b1⟩
      have C118 := Lib.hid (C115.out.copyA hA b1)
      clear hA b1
      refine hK117.out _ _ (ten_get C118.out.e) (fun _ => ?_)
      refine wpAnyH_ready (rs := [3, 4]) (by kernel_rfl) (by simp) ?_
      refine AllReadyH.cons rfl (fun K120 hK120 => ?_) ?_
      · skip
        go_simp
        refine (HC2.out _ C118.out.e.bel).mono ?_
        rintro e V122 ⟨B1, d1, rfl, hB, b2⟩
        have C121 := Lib.hid (C118.out.copyB hB b2)
        clear hB b2
        refine hK120.out _ _ (ten_get C121.out.e) (fun _ => ?_)
        refine wpAnyH_ready (rs := [4]) (by kernel_rfl) (by simp) ?_
        refine AllReadyH.cons rfl (fun K123 hK123 => ?_) AllReadyH.nil
        go_simp
        have C124 := Lib.hid C121.out.new5
        refine hK123.out _ _ (ten_get C124.out.e) (fun _ => ?_)
        generalize V122.alloc (.cells #[.int .i64 0, .int .i64 0, .int .i64 0, .int .i64 0, .slice none 0 0] 26) = V125 at *
        refine wpAnyH_ready (rs := [6]) (by kernel_rfl) (by simp) ?_
        refine AllReadyH.cons rfl (fun K126 hK126 => ?_) AllReadyH.nil
        rw [if_pos (by rfl)]
        refine wp_store_rowN rfl _ _ _ rfl _ _ rfl rfl _ _ (C124.out.h5 _ rfl).1 (by kernel_rfl) rfl (ones5v _ _ _ _ _ _ _) ?_
        have Q127 := Lib.hid (C124.out.put c1)
        refine hK126.out _ _ (ten_get Q127.out.e) (fun _ => ?_)
        refine wpAnyH_ready (rs := [7]) (by kernel_rfl) (by simp) ?_
        refine AllReadyH.cons rfl (fun K128 hK128 => ?_) AllReadyH.nil
        rw [if_pos (by rfl)]
        refine wp_store_rowN rfl _ _ _ rfl _ _ rfl rfl _ _ Q127.out.q (by kernel_rfl) rfl (ones5v _ _ _ _ _ _ _) ?_
        have F129 := Lib.hid (Q127.out.put d1)
        refine hK128.out _ _ (ten_get F129.out.e) (fun _ => ?_)
        refine wpAnyH_done (by kernel_rfl) ?_ _
        go_wp2_with fail
        go_meet
        exact ⟨_, _, _, _, _, _, rfl, rfl, F129.out⟩
      refine AllReadyH.cons rfl (fun K130 hK130 => ?_) AllReadyH.nil
      go_simp
      have C131 := Lib.hid C118.out.new5
      refine hK130.out _ _ (ten_get C131.out.e) (fun _ => ?_)
      generalize V119.alloc (.cells #[.int .i64 0, .int .i64 0, .int .i64 0, .int .i64 0, .slice none 0 0] 26) = V132 at *
      refine wpAnyH_ready (rs := [3]) (by kernel_rfl) (by simp) ?_
      refine AllReadyH.cons rfl (fun K133 hK133 => ?_) AllReadyH.nil
      go_simp
      refine (HC2.out _ C131.out.e.bel).mono ?_
      rintro e V135 ⟨B1, d1, rfl, hB, b2⟩
      have C134 := Lib.hid (C131.out.copyB hB b2)
      clear hB b2
      refine hK133.out _ _ (ten_get C134.out.e) (fun _ => ?_)
      refine wpAnyH_ready (rs := [6]) (by kernel_rfl) (by simp) ?_
      refine AllReadyH.cons rfl (fun K136 hK136 => ?_) AllReadyH.nil
      rw [if_pos (by rfl)]
      refine wp_store_rowN rfl _ _ _ rfl _ _ rfl rfl _ _ (C134.out.h5 _ rfl).1 (by kernel_rfl) rfl (ones5v _ _ _ _ _ _ _) ?_
      have Q137 := Lib.hid (C134.out.put c1)
      refine hK136.out _ _ (ten_get Q137.out.e) (fun _ => ?_)
      refine wpAnyH_ready (rs := [7]) (by kernel_rfl) (by simp) ?_
      refine AllReadyH.cons rfl (fun K138 hK138 => ?_) AllReadyH.nil
      rw [if_pos (by rfl)]
      refine wp_store_rowN rfl _ _ _ rfl _ _ rfl rfl _ _ Q137.out.q (by kernel_rfl) rfl (ones5v _ _ _ _ _ _ _) ?_
      have F139 := Lib.hid (Q137.out.put d1)
      refine hK138.out _ _ (ten_get F139.out.e) (fun _ => ?_)
      refine wpAnyH_done (by kernel_rfl) ?_ _
      go_wp2_with fail
      go_meet
      exact ⟨_, _, _, _, _, _, rfl, rfl, F139.out⟩
    refine AllReadyH.cons rfl (fun K140 hK140 => ?_) AllReadyH.nil
    go_simp
    have C141 := Lib.hid C115.out.new5
    refine hK140.out _ _ (ten_get C141.out.e) (fun _ => ?_)
    generalize V116.alloc (.cells #[.int .i64 0, .int .i64 0, .int .i64 0, .int .i64 0, .slice none 0 0] 26) = V142 at *
    refine wpAnyH_ready (rs := [1]) (by kernel_rfl) (by simp) ?_
    refine AllReadyH.cons rfl (fun K143 hK143 => ?_) AllReadyH.nil
    go_simp
    refine (HC1.out _ C141.out.e.bel).mono ?_
    rintro e V145 ⟨A1, c1, rfl, hA, b1⟩
    have C144 := Lib.hid (C141.out.copyA hA b1)
    clear hA b1
    refine hK143.out _ _ (ten_get C144.out.e) (fun _ => ?_)
    refine wpAnyH_ready (rs := [3]) (by kernel_rfl) (by simp) ?_
    refine AllReadyH.cons rfl (fun K146 hK146 => ?_) AllReadyH.nil
    go_simp
    refine (HC2.out _ C144.out.e.bel).mono ?_
    rintro e V148 ⟨B1, d1, rfl, hB, b2⟩
    have C147 := Lib.hid (C144.out.copyB hB b2)
    clear hB b2
    refine hK146.out _ _ (ten_get C147.out.e) (fun _ => ?_)
    refine wpAnyH_ready (rs := [6]) (by kernel_rfl) (by simp) ?_
    refine AllReadyH.cons rfl (fun K149 hK149 => ?_) AllReadyH.nil
    rw [if_pos (by rfl)]
    refine wp_store_rowN rfl _ _ _ rfl _ _ rfl rfl _ _ (C147.out.h5 _ rfl).1 (by kernel_rfl) rfl (ones5v _ _ _ _ _ _ _) ?_
    have Q150 := Lib.hid (C147.out.put c1)
    refine hK149.out _ _ (ten_get Q150.out.e) (fun _ => ?_)
    refine wpAnyH_ready (rs := [7]) (by kernel_rfl) (by simp) ?_
    refine AllReadyH.cons rfl (fun K151 hK151 => ?_) AllReadyH.nil
    rw [if_pos (by rfl)]
    refine wp_store_rowN rfl _ _ _ rfl _ _ rfl rfl _ _ Q150.out.q (by kernel_rfl) rfl (ones5v _ _ _ _ _ _ _) ?_
    have F152 := Lib.hid (Q150.out.put d1)
    refine hK151.out _ _ (ten_get F152.out.e) (fun _ => ?_)
    refine wpAnyH_done (by kernel_rfl) ?_ _
    go_wp2_with fail
    go_meet
    exact ⟨_, _, _, _, _, _, rfl, rfl, F152.out⟩
  case rest =>
    obtain ⟨g, g', A', B', c', d', rfl, rfl, hLF⟩ := hcut
    have L1 := Lib.hid hLF
    have p1 := fan_get hLF.p
    have q1 := fan_get hLF.q
    clear hLF E0 HT0 HC1 HC2
    go_wp2_with fail
    refine (H1.out _ _ _ _ _ L1.out.rp L1.out.rq).mono ?_
    rintro e w2 ⟨rfl, b2⟩
    have L2 := Lib.hid (L1.out.below b2)
    have p2 := fan_get L2.out.p
    have q2 := fan_get L2.out.e.p
    clear b2 p1 q1 L1
    go_wp2_with fail
    refine (H2.out _ _ _ L2.out.rp L2.out.e.bel).mono ?_
    rintro e w3 ⟨rfl, b3⟩
    have L3 := Lib.hid (L2.out.below b3)
    have p3 := fan_get L3.out.q
    have q3 := fan_get L3.out.e.q
    clear b3 p2 q2 L2
    go_wp2_with fail
    refine (H3.out _ _ _ L3.out.rq L3.out.e.bel).mono ?_
    rintro e w4 ⟨rfl, b4⟩
    have L4 := Lib.hid (L3.out.below b4)
    have p4 := fan_get L4.out.e.p
    have q4 := fan_get L4.out.e.q
    clear b4 p3 q3 L3
    go_wp2_with fail
    refine (H4.out _ L4.out.e.bel).mono ?_
    rintro e w5 ⟨rfl, b5⟩
    have L5 := Lib.hid (L4.out.below b5)
    have p5 := fan_get L5.out.e.p
    have q5 := fan_get L5.out.e.q
    clear b5 p4 q4 L4
    by_cases hx : ex = 0
    · subst hx
      have hE1 := HE.out
      rw [if_pos rfl] at hE1
      subst hE1
      go_wp2_with fail
      refine (H5.out _ L5.out.e.bel).mono ?_
      rintro e w6 ⟨rfl, b6⟩
      have L6 := Lib.hid (L5.out.below b6)
      have p6 := fan_get L6.out.e.p
      have q6 := fan_get L6.out.e.q
      clear b6 p5 q5 L5
      by_cases hy : re = 0
      · subst hy
        have hL := HL.out
        rw [if_pos rfl] at hL
        subst hL
        have z1 : (rl == rl) = true := by simp
        have H7 := Lib.hid (H6.out (by simp) (by simp))
        clear H6 HE HL
        go_wp2_with fail
        refine (H7.out _ L6.out.e.bel).mono ?_
        rintro e w7 ⟨rfl, b7⟩
        have L7 := Lib.hid (L6.out.below b7)
        clear b7 p6 q6 L6
        go_wp2_with fail
        refine (HK.out _).mono ?_
        rintro e w9 ⟨rfl, b9⟩
        go_wp2
        go_ret
        exact ⟨rfl, below_then L7.out.e.bel b9⟩
      · have hL := HL.out
        rw [if_neg hy] at hL
        subst hL
        have hr0 : (re != 0) = true := by simpa using hy
        have hr1 : (re == re) = true := by simp
        clear H6 HE HL
        go_wp2_with fail
        refine (HK.out _).mono ?_
        rintro e w9 ⟨rfl, b9⟩
        go_wp2
        go_ret
        exact ⟨rfl, below_then L6.out.e.bel b9⟩
    · have hE1 := HE.out
      rw [if_neg hx] at hE1
      subst hE1
      have hL := HL.out
      rw [if_neg hx] at hL
      subst hL
      have hr0 : (re != 0) = true := by simpa using hx
      have hr2 : (re == 0) = false := by simpa using hx
      have hr1 : (re == re) = true := by simp
      clear H6 HE HL
      go_wp2_with fail
      refine (HK.out _).mono ?_
      rintro e w9 ⟨rfl, b9⟩
      go_wp2
      go_ret
      exact ⟨rfl, below_then L5.out.e.bel b9⟩
end Go.Proofs.Ytpbepipnfpgoiaa
