/- Walks: the law of Opens. -/
import Derived.Test.YtpbepipnfpgoiaaSf
import Derived.Test.YtpbepipnfpgoiaaSe
namespace Go.Proofs.Ytpbepipnfpgoiaa
open Go.RowKit

/-- The law's fan in its box. -/
structure LA (w W : World) (f : Fan) (A : Option Addr) (n c : Nat) : Prop where
  b : Blk W w.heap.size 26 (fanA f A n c)
  bel : Below w.heap.size w W
theorem LA.below {w W W' : World} {f : Fan} {A : Option Addr} {n c : Nat} (h : LA w W f A n c) (hb : Below W.heap.size W W') : LA w W' f A n c := ⟨blk_keep hb h.b, below_then h.bel hb⟩
theorem LA.start (w : World) (f : Fan) (A : Option Addr) (n c : Nat) : LA w (w.alloc (.cells (fanA f A n c) 26)) f A n c := ⟨Blk.new w _ _ rfl, below_self w _⟩
/-- And its copy. -/
structure LB (w W : World) (f : Fan) (A : Option Addr) (n c g : Nat) (A' : Option Addr) (c' : Nat) : Prop where
  a : LA w W f A n c
  b : Blk W g 26 (fanA f A' n c')
  r : Gaps W A' n f.gs
theorem LB.below {w W W' : World} {f : Fan} {A A' : Option Addr} {n c c' g : Nat} (h : LB w W f A n c g A' c') (hb : Below W.heap.size W W') : LB w W' f A n c g A' c' := ⟨h.a.below hb, blk_keep hb h.b, h.r.below hb⟩
theorem LB.alloc {w W : World} {f : Fan} {A A' : Option Addr} {n c c' g : Nat} (h : LB w W f A n c g A' c') (o : Obj) : LB w (W.alloc o) f A n c g A' c' := h.below (below_self W o)
theorem LB.start {w W : World} {f : Fan} {A A' : Option Addr} {n c c' : Nat} (h : LA w W f A n c) (hG : Gaps W A' n f.gs) (cs : Array Value) : LB w ((W.alloc (.cells cs 26)).setRow W.heap.size (fanA f A' n c')) f A n c W.heap.size A' c' :=
  have hb := below_setR (below_self W (.cells cs 26)) (Nat.le_refl _) (fanA f A' n c')
  ⟨h.below hb, (Blk.new W _ cs rfl).setRow _, hG.below hb⟩
/-- And a span. -/
structure LC (w W : World) (f : Fan) (A : Option Addr) (n c g : Nat) (A' : Option Addr) (c' s : Nat) (x y : Int) : Prop where
  l : LB w W f A n c g A' c'
  s : Blk W s 23 #[.int .i64 x, .int .i64 y]
theorem LC.below {w W W' : World} {f : Fan} {A A' : Option Addr} {n c c' g s : Nat} {x y : Int} (h : LC w W f A n c g A' c' s x y) (hb : Below W.heap.size W W') : LC w W' f A n c g A' c' s x y := ⟨h.l.below hb, blk_keep hb h.s⟩
theorem LC.drewd {w W : World} {f : Fan} {A A' : Option Addr} {n c c' g s : Nat} {x y : Int} (h : LC w W f A n c g A' c' s x y) : LC w W.drew f A n c g A' c' s x y := ⟨⟨⟨h.l.a.b, h.l.a.bel.drew⟩, h.l.b, h.l.r⟩, h.s⟩
theorem LC.start {w W : World} {f : Fan} {A A' : Option Addr} {n c c' g : Nat} (h : LB w W f A n c g A' c') (cs : Array Value) (x y : Int) : LC w ((W.alloc (.cells cs 23)).setRow W.heap.size #[.int .i64 x, .int .i64 y]) f A n c g A' c' W.heap.size x y :=
  have hb := below_setR (below_self W (.cells cs 23)) (Nat.le_refl _) #[.int .i64 x, .int .i64 y]
  ⟨h.below hb, (Blk.new W _ cs rfl).setRow _⟩
theorem LC.get {w W : World} {fa fb fc fd : Int} {gs : List Gap} {A A' : Option Addr} {n c c' g s : Nat} {x y : Int} (h : LC w W ⟨fa, fb, fc, fd, gs⟩ A n c g A' c' s x y) :
    (W.cell? ⟨s, 0, none⟩ = some (.int .i64 x) ∧ W.cell? ⟨s, 1, none⟩ = some (.int .i64 y)) ∧ W.cell? ⟨w.heap.size, 0, none⟩ = some (.int .i64 fa) ∧ W.cell? ⟨w.heap.size, 1, none⟩ = some (.int .i64 fb) ∧ W.cell? ⟨w.heap.size, 2, none⟩ = some (.int .i64 fc) ∧ W.cell? ⟨w.heap.size, 3, none⟩ = some (.int .i64 fd) ∧ W.cell? ⟨w.heap.size, 4, none⟩ = some (.slice A n c) :=
  ⟨⟨h.s.cell 0, h.s.cell 1⟩, fan_get h.l.a.b⟩

set_option maxRecDepth 100000 in
set_option maxHeartbeats 4000000 in
theorem RivetOpens_any (f : Fan) (A : Option Addr) (n c : Nat) (w : World) (h : Gaps w A n f.gs) (hn : n ≤ maxLen) :
    Calls Try.prog 3 #[.agg (fanA f A n c)] w fun e w' => e = .returned (.bool true) ∧ Below w.heap.size w w' := by
  have L0 := Lib.hid (LA.start w f A n c)
  have HK := Lib.hid (fun W => known_any W)
  unfold KnownRes at HK
  have HN := Lib.hid hn
  have hn2 := hn
  unfold maxLen at hn2
  by_cases h50 : 50 < n
  · clear h hn HN
    obtain ⟨fa, fb, fc, fd, gs⟩ := f
    simp only [fanA] at *
    go_enter Try.func3, Try.ntmps3
    go_wp2_with fail
    refine (HK.out _).mono ?_
    rintro e w1 ⟨rfl, b1⟩
    go_wp2
    go_ret
    exact ⟨rfl, below_then L0.out.bel b1⟩
  have HC := Lib.hid (fun W (hb : Below w.heap.size w W) => RefCopy_any f A n c W (h.below hb) (by omega))
  unfold FanRes at HC
  have H1 := Lib.hid (fun A' c' W (hG : Gaps W A' n f.gs) => Check_any f A' n c' W hG HN.out)
  have H2 := Lib.hid (fun A' c' W (hG : Gaps W A' n f.gs) => Opens_any f A' n c' W hG HN.out)
  have H3 := Lib.hid (fun W (hb : Below w.heap.size w W) => RefCheck_any f A n c W (h.below hb) HN.out)
  have H4 := Lib.hid (fun A' c' W (hG : Gaps W A' n f.gs) (hb : Below w.heap.size w W) => RefSame_any f A' A n c' c W hG (h.below hb) HN.out)
  have H5 := Lib.hid (fun W (hb : Below w.heap.size w W) (hf : FanB f) => RefOpens_any f A n c W hf (h.below hb))
  have HO1 : Hid (fanErr f = 0 → opensL f = (degL false f, degL true f)) := fun hE => if_pos hE
  have HO2 : Hid (¬ fanErr f = 0 → opensL f = (0, 0)) := fun hE => if_neg hE
  have HFB : Hid (fanErr f = 0 → FanB f) := fun hE => (fanB_of hE).1
  clear h hn HN
  generalize opensL f = op at *
  generalize fanErr f = r at *
  generalize degL false f = d1 at *
  generalize degL true f = d2 at *
  obtain ⟨fa, fb, fc, fd, gs⟩ := f
  obtain ⟨x, y⟩ := op
  have hr2 : (r != r) = false := by simp
  simp only [fanA] at HC H1 H2 H3 H4 H5 ⊢
  have p0 := fan_get L0.out.b
  go_enter Try.func3, Try.ntmps3
  go_wp2_with fail
  refine (HC.out _ L0.out.bel).mono ?_
  rintro e w1 ⟨A', c', rfl, hG, b1⟩
  have L1 := Lib.hid (L0.out.below b1)
  have G1 := Lib.hid hG
  have S1 := Lib.hid (Blk.new w1 26 #[.int .i64 0, .int .i64 0, .int .i64 0, .int .i64 0, .slice none 0 0] (g := w1.heap.size) rfl)
  clear b1 hG p0 L0 HC
  go_wp2_with (refine wpList_store_row rfl 26 _ _ rfl w1.heap.size _ rfl rfl 26 _ S1.out (by kernel_rfl) rfl (by kernel_rfl) ?_; have L2 := Lib.hid (LB.start (c' := c') L1.out G1.out #[.int .i64 0, .int .i64 0, .int .i64 0, .int .i64 0, .slice none 0 0]); simp only [fanA] at L2; have p2 := fan_get L2.out.b; clear L1 G1 S1)
  refine (H1.out _ _ _ L2.out.r).mono ?_
  rintro e w3 ⟨rfl, b3⟩
  have L3 := Lib.hid (L2.out.below b3)
  have p3 := fan_get L3.out.b
  clear b3 p2 L2 H1
  generalize w1.heap.size = g at *
  go_wp2_with fail
  refine (H2.out _ _ _ L3.out.r).mono ?_
  rintro e w4 ⟨rfl, b4⟩
  have L4 := Lib.hid (L3.out.below b4)
  have S4 := Lib.hid (Blk.new w4 23 #[.int .i64 0, .int .i64 0] (g := w4.heap.size) rfl)
  clear b4 p3 L3 H2
  go_wp2_with (refine wpList_store_row rfl 23 _ _ rfl w4.heap.size _ rfl rfl 23 _ S4.out (by kernel_rfl) rfl (by kernel_rfl) ?_; have L5 := Lib.hid (LC.start L4.out #[.int .i64 0, .int .i64 0] x y); have p5 := fan_get L5.out.l.a.b; clear L4 S4)
  refine (H3.out _ L5.out.l.a.bel).mono ?_
  rintro e w6 ⟨rfl, b6⟩
  have L6 := Lib.hid (L5.out.below b6)
  have p6 := fan_get L6.out.l.a.b
  have q6 := fan_get L6.out.l.b
  clear b6 p5 L5 H3
  generalize w4.heap.size = s at *
  go_wp2_with fail
  refine (H4.out _ _ _ L6.out.l.r L6.out.l.a.bel).mono ?_
  rintro e w7 ⟨rfl, b7⟩
  have L7 := Lib.hid (L6.out.below b7)
  have p7 := L7.out.get
  clear b7 p6 q6 L6 H4
  by_cases hE : r = 0
  · have hO := HO1.out hE
    have hfb := HFB.out hE
    simp only [Prod.mk.injEq] at hO
    obtain ⟨rfl, rfl⟩ := hO
    subst hE
    have H6 := Lib.hid (fun W hb => H5.out W hb hfb)
    have L8 := Lib.hid L7.out.drewd
    clear HO1 HO2 HFB hfb H5 p7
    have hd1 : (x == x) = true := by simp
    have hd2 : (y == y) = true := by simp
    go_wp2_with fail
    go_region_held3 (fun W => (W.cell? ⟨s, 0, none⟩ = some (.int .i64 x) ∧ W.cell? ⟨s, 1, none⟩ = some (.int .i64 y)) ∧ W.cell? ⟨w.heap.size, 0, none⟩ = some (.int .i64 fa) ∧ W.cell? ⟨w.heap.size, 1, none⟩ = some (.int .i64 fb) ∧ W.cell? ⟨w.heap.size, 2, none⟩ = some (.int .i64 fc) ∧ W.cell? ⟨w.heap.size, 3, none⟩ = some (.int .i64 fd) ∧ W.cell? ⟨w.heap.size, 4, none⟩ = some (.slice A n c))
      (first | exact L8.out.get)
      (first
      | (go_at_call 23; refine (H6.out _ L8.out.l.a.bel).mono ?_; rintro e x1 ⟨rfl, h1⟩; have M1 := Lib.hid (L8.out.below h1); clear L8 h1; have L8 := M1; clear M1)
      | (go_at_call 17; refine (HK.out _).mono ?_; rintro e x1 ⟨rfl, h1⟩; have M1 := Lib.hid (L8.out.below h1); clear L8 h1; have L8 := M1; clear M1))
    all_goals
      go_wp2
      go_ret
      exact ⟨rfl, L8.out.l.a.bel⟩
  · have hO := HO2.out hE
    simp only [Prod.mk.injEq] at hO
    obtain ⟨rfl, rfl⟩ := hO
    clear HO1 HO2 HFB H5
    have hr0 : (r != 0) = true := by simpa using hE
    go_wp2_with fail
    refine (HK.out _).mono ?_
    rintro e w8 ⟨rfl, b8⟩
    go_wp2
    go_ret
    exact ⟨rfl, below_then L7.out.l.a.bel b8⟩
end Go.Proofs.Ytpbepipnfpgoiaa
