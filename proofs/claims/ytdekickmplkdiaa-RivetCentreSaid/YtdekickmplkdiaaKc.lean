/- Merged: Rh, Ri, Rg. -/
import Derived.Test.YtdekickmplkdiaaKb

/- Walks: compare, Compare. -/
namespace Go.Proofs.Ytdekickmplkdiaa
open Go.RowKit

def cmpL (x y : Int) : Int := if x < y then -1 else if y < x then 1 else 0
theorem isNaN_any (x : Int) (w : World) : Calls Try.prog 118 #[.int .i64 x] w fun e w' => e = .returned (.bool false) ∧ w' = w := by
  go_enter Try.func118, Try.ntmps118
  go_wp2
  go_ret
  exact ⟨rfl, rfl⟩
set_option maxHeartbeats 400000 in
theorem cmp_any (x y : Int) (w : World) : Calls Try.prog 98 #[.int .i64 x, .int .i64 y] w fun e w' => e = .returned (.int .i64 (cmpL x y)) ∧ w' = w := by
  have HO : Hid (cmpL x y = if x < y then -1 else if y < x then 1 else 0) := rfl
  generalize cmpL x y = r at *
  by_cases h1 : x < y
  · have H : Hid (r = -1) := by unfold Hid; rw [HO.out, if_pos h1]
    clear HO
    go_enter Try.func98, Try.ntmps98
    go_wp2_with (go_at_call 118; refine (isNaN_any _ _).mono ?_; rintro e w' ⟨rfl, rfl⟩)
    go_ret
    exact ⟨ret_int H.out.symm, rfl⟩
  · by_cases h2 : y < x
    · have H : Hid (r = 1) := by unfold Hid; rw [HO.out, if_neg h1, if_pos h2]
      clear HO
      go_enter Try.func98, Try.ntmps98
      go_wp2_with (go_at_call 118; refine (isNaN_any _ _).mono ?_; rintro e w' ⟨rfl, rfl⟩)
      go_ret
      exact ⟨ret_int H.out.symm, rfl⟩
    · have H : Hid (r = 0) := by unfold Hid; rw [HO.out, if_neg h1, if_neg h2]
      clear HO
      go_enter Try.func98, Try.ntmps98
      go_wp2_with (go_at_call 118; refine (isNaN_any _ _).mono ?_; rintro e w' ⟨rfl, rfl⟩)
      go_ret
      exact ⟨ret_int H.out.symm, rfl⟩
/-- Two ratios compared. -/
def ratL (a b c d : Int) : Int := cmpL (a * d) (c * b)
theorem big_bd {x y : Int} (h1 : 0 ≤ x) (h2 : x ≤ 1000000000) (h3 : 0 ≤ y) (h4 : y ≤ 25000000) : 0 ≤ x * y ∧ x * y ≤ 25000000000000000 := mul_bd h1 h2 h3 h4
set_option maxHeartbeats 400000 in
theorem compare_any (a b c d : Int) (w : World) (ha : 0 ≤ a ∧ a ≤ 1000000000) (hb : 0 ≤ b ∧ b ≤ 25000000) (hc : 0 ≤ c ∧ c ≤ 1000000000) (hd : 0 ≤ d ∧ d ≤ 25000000) :
    Calls Try.prog 68 #[.agg #[.int .i64 a, .int .i64 b], .agg #[.int .i64 c, .int .i64 d]] w fun e w' => e = .returned (.int .i64 (ratL a b c d)) ∧ Below w.heap.size w w' := by
  have B := Lib.hid ((below_self w (.cells #[.int .i64 a, .int .i64 b] 77)).alloc (by simp) (.cells #[.int .i64 c, .int .i64 d] 77))
  have q1 := big_bd ha.1 ha.2 hd.1 hd.2
  have q2 := big_bd hc.1 hc.2 hb.1 hb.2
  have H := Lib.hid (fun W => cmp_any (a * d) (c * b) W)
  unfold ratL
  generalize cmpL (a * d) (c * b) = r at *
  clear ha hb hc hd
  go_enter Try.func68, Try.ntmps68
  go_wp2_with (go_at_call 98; refine (H.out _).mono ?_; rintro e w' ⟨rfl, rfl⟩)
  go_ret
  exact ⟨rfl, B.out⟩

/-- A fan surely opens farther than another one. -/
def gtL (x y : Fan) : Bool := decide (0 < ratL (openN false x) (partsL false x) (openN true y) (partsL true y))
theorem arr_get {W : World} {g : Nat} {x0 x1 x2 x3 x4 y0 y1 y2 y3 y4 : Value} (h : Blk W g 112 #[x0, x1, x2, x3, x4, y0, y1, y2, y3, y4]) :
    W.cell? ⟨g, 0, none⟩ = some x0 ∧ W.cell? ⟨g, 1, none⟩ = some x1 ∧ W.cell? ⟨g, 2, none⟩ = some x2 ∧ W.cell? ⟨g, 3, none⟩ = some x3 ∧ W.cell? ⟨g, 4, none⟩ = some x4 ∧ W.cell? ⟨g, 5, none⟩ = some y0 ∧ W.cell? ⟨g, 6, none⟩ = some y1 ∧ W.cell? ⟨g, 7, none⟩ = some y2 ∧ W.cell? ⟨g, 8, none⟩ = some y3 ∧ W.cell? ⟨g, 9, none⟩ = some y4 := ⟨h.cell 0, h.cell 1, h.cell 2, h.cell 3, h.cell 4, h.cell 5, h.cell 6, h.cell 7, h.cell 8, h.cell 9⟩

set_option maxRecDepth 100000 in
set_option maxHeartbeats 2000000 in
theorem fart01_any (x y : Fan) (A : Option Addr) (n c : Nat) (A' : Option Addr) (m c' : Nat) (g : Nat) (w : World) (hx : FanB x) (hy : FanB y) (h : Gaps w A n x.gs) (h' : Gaps w A' m y.gs)
    (hg : Blk w g 112 #[.int .i64 x.a, .int .i64 x.b, .int .i64 x.c, .int .i64 x.d, .slice A n c, .int .i64 y.a, .int .i64 y.b, .int .i64 y.c, .int .i64 y.d, .slice A' m c']) :
    Calls Try.prog 67 #[.int .i64 0, .int .i64 1, .pointer (some ⟨g, 0, none⟩)] w fun e w' => e = .returned (.bool (gtL x y)) ∧ Below w.heap.size w w' := by
  have HO : Hid (gtL x y = decide (0 < ratL (openN false x) (partsL false x) (openN true y) (partsL true y))) := rfl
  have H1 := Lib.hid (fun W (hb : Below w.heap.size w W) => opening_any false x A n c W hx (h.below hb))
  have H2 := Lib.hid (fun W (hb : Below w.heap.size w W) => opening_any true y A' m c' W hy (h'.below hb))
  have b1 := open_bd hx false; have b2 := parts_bd hx false; have b3 := open_bd hy true; have b4 := parts_bd hy true
  have H3 := Lib.hid (fun W => compare_any (openN false x) (partsL false x) (openN true y) (partsL true y) W (by omega) (by omega) (by omega) (by omega))
  have HL1 := Lib.hid leastEnd_any
  have HL2 := Lib.hid mostEnd_any
  clear b1 b2 b3 b4 hx hy h h'
  have R0 := Lib.hid hg
  have R0d : Hid (Blk w.drew g _ _) := R0.out
  have B0 := Lib.hid (Below.refl w.heap.size w).drew
  clear hg
  generalize gtL x y = r at *
  generalize openN false x = p at *
  generalize partsL false x = q at *
  generalize openN true y = s at *
  generalize partsL true y = t at *
  generalize ratL p q s t = z at *
  obtain ⟨xa, xb, xc, xd, xs⟩ := x
  obtain ⟨ya, yb, yc, yd, ys⟩ := y
  simp only [endA, fanA] at *
  go_enter Try.func67, Try.ntmps67
  go_wp2_with fail
  go_region_held3 (fun W => W.cell? ⟨g, 0, none⟩ = some (.int .i64 xa) ∧ W.cell? ⟨g, 1, none⟩ = some (.int .i64 xb) ∧ W.cell? ⟨g, 2, none⟩ = some (.int .i64 xc) ∧ W.cell? ⟨g, 3, none⟩ = some (.int .i64 xd) ∧ W.cell? ⟨g, 4, none⟩ = some (.slice A n c) ∧ W.cell? ⟨g, 5, none⟩ = some (.int .i64 ya) ∧ W.cell? ⟨g, 6, none⟩ = some (.int .i64 yb) ∧ W.cell? ⟨g, 7, none⟩ = some (.int .i64 yc) ∧ W.cell? ⟨g, 8, none⟩ = some (.int .i64 yd) ∧ W.cell? ⟨g, 9, none⟩ = some (.slice A' m c'))
    (first | with_reducible exact arr_get R0d.out | with_reducible exact arr_get R0.out | with_reducible exact arr_get R1.out | with_reducible exact arr_get R2.out | with_reducible exact arr_get R3.out | with_reducible exact arr_get R4.out | with_reducible exact arr_get R5.out)
    (first | (go_at_call 69; refine (HL1.out _).mono ?_; rintro e W1 ⟨rfl, hb1⟩; have R1 := Lib.hid (blk_keep hb1 R0d.out); have B1 := Lib.hid (below_then B0.out hb1); clear hb1) | (go_at_call 71; refine (HL2.out _).mono ?_; rintro e W3 ⟨rfl, hb3⟩; have R3 := Lib.hid (blk_keep hb3 R2.out); have B3 := Lib.hid (below_then B2.out hb3); clear hb3) | (go_at_call 70; (with_reducible refine (H1.out _ B1.out).mono ?_); rintro e W2 ⟨rfl, hb2⟩; have R2 := Lib.hid (blk_keep hb2 R1.out); have B2 := Lib.hid (below_then B1.out hb2); clear hb2) | (go_at_call 70; (with_reducible refine (H2.out _ B3.out).mono ?_); rintro e W4 ⟨rfl, hb4⟩; have R4 := Lib.hid (blk_keep hb4 R3.out); have B4 := Lib.hid (below_then B3.out hb4); clear hb4) | (go_at_call 68; refine (H3.out _).mono ?_; rintro e W5 ⟨rfl, hb5⟩; have R5 := Lib.hid (blk_keep hb5 R4.out); have B5 := Lib.hid (below_then B4.out hb5); clear hb5))
  all_goals
    go_wp2
    go_ret
    exact ⟨ret_bool (by rw [HO.out]), B5.out⟩

set_option maxRecDepth 100000 in
set_option maxHeartbeats 2000000 in
theorem fart10_any (x y : Fan) (A : Option Addr) (n c : Nat) (A' : Option Addr) (m c' : Nat) (g : Nat) (w : World) (hx : FanB x) (hy : FanB y) (h : Gaps w A n x.gs) (h' : Gaps w A' m y.gs)
    (hg : Blk w g 112 #[.int .i64 x.a, .int .i64 x.b, .int .i64 x.c, .int .i64 x.d, .slice A n c, .int .i64 y.a, .int .i64 y.b, .int .i64 y.c, .int .i64 y.d, .slice A' m c']) :
    Calls Try.prog 67 #[.int .i64 1, .int .i64 0, .pointer (some ⟨g, 0, none⟩)] w fun e w' => e = .returned (.bool (gtL y x)) ∧ Below w.heap.size w w' := by
  have HO : Hid (gtL y x = decide (0 < ratL (openN false y) (partsL false y) (openN true x) (partsL true x))) := rfl
  have H1 := Lib.hid (fun W (hb : Below w.heap.size w W) => opening_any false y A' m c' W hy (h'.below hb))
  have H2 := Lib.hid (fun W (hb : Below w.heap.size w W) => opening_any true x A n c W hx (h.below hb))
  have b1 := open_bd hy false; have b2 := parts_bd hy false; have b3 := open_bd hx true; have b4 := parts_bd hx true
  have H3 := Lib.hid (fun W => compare_any (openN false y) (partsL false y) (openN true x) (partsL true x) W (by omega) (by omega) (by omega) (by omega))
  have HL1 := Lib.hid leastEnd_any
  have HL2 := Lib.hid mostEnd_any
  clear b1 b2 b3 b4 hx hy h h'
  have R0 := Lib.hid hg
  have R0d : Hid (Blk w.drew g _ _) := R0.out
  have B0 := Lib.hid (Below.refl w.heap.size w).drew
  clear hg
  generalize gtL y x = r at *
  generalize openN false y = p at *
  generalize partsL false y = q at *
  generalize openN true x = s at *
  generalize partsL true x = t at *
  generalize ratL p q s t = z at *
  obtain ⟨xa, xb, xc, xd, xs⟩ := x
  obtain ⟨ya, yb, yc, yd, ys⟩ := y
  simp only [endA, fanA] at *
  go_enter Try.func67, Try.ntmps67
  go_wp2_with fail
  go_region_held3 (fun W => W.cell? ⟨g, 0, none⟩ = some (.int .i64 xa) ∧ W.cell? ⟨g, 1, none⟩ = some (.int .i64 xb) ∧ W.cell? ⟨g, 2, none⟩ = some (.int .i64 xc) ∧ W.cell? ⟨g, 3, none⟩ = some (.int .i64 xd) ∧ W.cell? ⟨g, 4, none⟩ = some (.slice A n c) ∧ W.cell? ⟨g, 5, none⟩ = some (.int .i64 ya) ∧ W.cell? ⟨g, 6, none⟩ = some (.int .i64 yb) ∧ W.cell? ⟨g, 7, none⟩ = some (.int .i64 yc) ∧ W.cell? ⟨g, 8, none⟩ = some (.int .i64 yd) ∧ W.cell? ⟨g, 9, none⟩ = some (.slice A' m c'))
    (first | with_reducible exact arr_get R0d.out | with_reducible exact arr_get R0.out | with_reducible exact arr_get R1.out | with_reducible exact arr_get R2.out | with_reducible exact arr_get R3.out | with_reducible exact arr_get R4.out | with_reducible exact arr_get R5.out)
    (first | (go_at_call 69; refine (HL1.out _).mono ?_; rintro e W1 ⟨rfl, hb1⟩; have R1 := Lib.hid (blk_keep hb1 R0d.out); have B1 := Lib.hid (below_then B0.out hb1); clear hb1) | (go_at_call 71; refine (HL2.out _).mono ?_; rintro e W3 ⟨rfl, hb3⟩; have R3 := Lib.hid (blk_keep hb3 R2.out); have B3 := Lib.hid (below_then B2.out hb3); clear hb3) | (go_at_call 70; (with_reducible refine (H1.out _ B1.out).mono ?_); rintro e W2 ⟨rfl, hb2⟩; have R2 := Lib.hid (blk_keep hb2 R1.out); have B2 := Lib.hid (below_then B1.out hb2); clear hb2) | (go_at_call 70; (with_reducible refine (H2.out _ B3.out).mono ?_); rintro e W4 ⟨rfl, hb4⟩; have R4 := Lib.hid (blk_keep hb4 R3.out); have B4 := Lib.hid (below_then B3.out hb4); clear hb4) | (go_at_call 68; refine (H3.out _).mono ?_; rintro e W5 ⟨rfl, hb5⟩; have R5 := Lib.hid (blk_keep hb5 R4.out); have B5 := Lib.hid (below_then B4.out hb5); clear hb5))
  all_goals
    go_wp2
    go_ret
    exact ⟨ret_bool (by rw [HO.out]), B5.out⟩
end Go.Proofs.Ytdekickmplkdiaa

/- Walks: Compare. -/
namespace Go.Proofs.Ytdekickmplkdiaa
open Go.RowKit

def moreE (x y : Fan) : Int := if fanErr x = 0 then fanErr y else fanErr x
def moreL (x y : Fan) : Int := if moreE x y = 0 then (if gtL x y = true then 1 else if gtL y x = true then 2 else 3) else 0

set_option maxRecDepth 100000 in
set_option maxHeartbeats 2000000 in
theorem Compare_any (x y : Fan) (A : Option Addr) (n c : Nat) (A' : Option Addr) (m c' : Nat) (w : World) (h : Gaps w A n x.gs) (h' : Gaps w A' m y.gs) (hn : n ≤ maxLen) (hm : m ≤ maxLen) :
    Calls Try.prog 26 #[.agg (fanA x A n c), .agg (fanA y A' m c')] w fun e w' => e = .returned (.tuple #[.int .i64 (moreL x y), .int .i64 (moreE x y)]) ∧ Below w.heap.size w w' := by
  have HX := Lib.hid (fun W (hb : Below w.heap.size w W) => fanError_any x A n c W (h.below hb) hn)
  have HY := Lib.hid (fun W (hb : Below w.heap.size w W) => fanError_any y A' m c' W (h'.below hb) hm)
  have HM1 : Hid (¬ fanErr x = 0 → moreE x y = fanErr x ∧ moreL x y = 0) := fun h => by unfold moreL moreE; rw [if_neg h]; exact ⟨rfl, if_neg h⟩
  have HM2 : Hid (fanErr x = 0 → ¬ fanErr y = 0 → moreE x y = fanErr y ∧ moreL x y = 0) := fun h h2 => by unfold moreL moreE; rw [if_pos h]; exact ⟨rfl, if_neg h2⟩
  have HM3 : Hid (fanErr x = 0 → fanErr y = 0 → moreE x y = 0 ∧ moreL x y = (if gtL x y = true then 1 else if gtL y x = true then 2 else 3)) := fun h h2 => by unfold moreL moreE; rw [if_pos h, h2]; exact ⟨rfl, if_pos rfl⟩
  have HG1 := Lib.hid (fun (hx : fanErr x = 0) (hy : fanErr y = 0) W (g : Nat) (hb : Below w.heap.size w W) hg => fart01_any x y A n c A' m c' g W (fanB_of hx).1 (fanB_of hy).1 (h.below hb) (h'.below hb) hg)
  have HG2 := Lib.hid (fun (hx : fanErr x = 0) (hy : fanErr y = 0) W (g : Nat) (hb : Below w.heap.size w W) hg => fart10_any x y A n c A' m c' g W (fanB_of hx).1 (fanB_of hy).1 (h.below hb) (h'.below hb) hg)
  clear h h' hn hm
  generalize moreE x y = me at *
  generalize moreL x y = mo at *
  generalize gtL x y = g1 at *
  generalize gtL y x = g2 at *
  generalize fanErr x = rx at *
  generalize fanErr y = ry at *
  obtain ⟨xa, xb, xc, xd, xs⟩ := x
  obtain ⟨ya, yb, yc, yd, ys⟩ := y
  simp only [fanA] at *
  go_enter Try.func26, Try.ntmps26
  go_wp2_with fail
  have B0 := Lib.hid (((below_self w (.cells #[.int .i64 xa, .int .i64 xb, .int .i64 xc, .int .i64 xd, .slice A n c] 26)).alloc (by simp) (.cells #[.int .i64 ya, .int .i64 yb, .int .i64 yc, .int .i64 yd, .slice A' m c'] 26)).alloc (by simp; omega) (.cells #[.int .i64 xa, .int .i64 xb, .int .i64 xc, .int .i64 xd, .slice A n c, .int .i64 ya, .int .i64 yb, .int .i64 yc, .int .i64 yd, .slice A' m c'] 112))
  have R0 := Lib.hid (Blk.new ((w.alloc (.cells #[.int .i64 xa, .int .i64 xb, .int .i64 xc, .int .i64 xd, .slice A n c] 26)).alloc (.cells #[.int .i64 ya, .int .i64 yb, .int .i64 yc, .int .i64 yd, .slice A' m c'] 26)) 112 #[.int .i64 xa, .int .i64 xb, .int .i64 xc, .int .i64 xd, .slice A n c, .int .i64 ya, .int .i64 yb, .int .i64 yc, .int .i64 yd, .slice A' m c'] (g := w.heap.size + 1 + 1) (by simp))
  go_loopw [15] (fun i wr => ∃ k : Nat, k ≤ 2 ∧ i = .int .i64 k ∧ (1 ≤ k → rx = 0) ∧ (2 ≤ k → ry = 0) ∧ Blk wr (w.heap.size + 1 + 1) 112 #[.int .i64 xa, .int .i64 xb, .int .i64 xc, .int .i64 xd, .slice A n c, .int .i64 ya, .int .i64 yb, .int .i64 yc, .int .i64 yd, .slice A' m c'] ∧ Below w.heap.size w wr) (fun i _ => 2 - (intOf i).toNat)
  case atStart => exact ⟨0, by omega, rfl, fun h => absurd h (by omega), fun h => absurd h (by omega), R0.out, B0.out⟩
  case round =>
    obtain ⟨k, hk, rfl, hk1, hk2, hR, hB⟩ := hrel
    have R2 := Lib.hid hR
    have B2 := Lib.hid hB
    clear hR hB R0 B0
    rcases (show k = 0 ∨ k = 1 ∨ k = 2 from by omega) with rfl | rfl | rfl
    · clear hk1 hk2 hk
      have hrun : ∀ W : World, (Instr.index 112 (.agg #[.int .i64 xa, .int .i64 xb, .int .i64 xc, .int .i64 xd, .slice A n c, .int .i64 ya, .int .i64 yb, .int .i64 yc, .int .i64 yd, .slice A' m c']) (.int .i64 0)).run Try.prog W = .ok (.agg #[.int .i64 xa, .int .i64 xb, .int .i64 xc, .int .i64 xd, .slice A n c]) W := fun W => by kernel_rfl
      by_cases he : rx = 0
      · have HE := Lib.hid he
        have HZ := HX
        rw [HE.out] at HZ
        clear he
        go_wp2_with fail
        refine (HZ.out _ (below_then B2.out (below_self _ _))).mono ?_
        rintro e W3 ⟨rfl, hb3⟩
        have R3 := Lib.hid (blk_keep hb3 (blk_keep (below_self wr (.cells #[.int .i64 xa, .int .i64 xb, .int .i64 xc, .int .i64 xd, .slice A n c] 26)) R2.out))
        have B3 := Lib.hid (below_then (below_then B2.out (below_self _ _)) hb3)
        clear hb3
        go_wp2
        go_roundw
        case rel => exact ⟨1, by omega, rfl, fun _ => HE.out, fun h => absurd h (by omega), R3.out, B3.out⟩
        case measure => simp [intOf]
      · have he1 : decide (rx = 0) = false := by simpa using he
        have HQ : Hid (me = rx ∧ mo = 0) := HM1.out he
        go_wp2_with fail
        refine (HX.out _ (below_then B2.out (below_self _ _))).mono ?_
        rintro e W3 ⟨rfl, hb3⟩
        have B3 := Lib.hid (below_then (below_then B2.out (below_self _ _)) hb3)
        clear hb3
        go_wp2
        go_ret2
        exact ⟨by rw [HQ.out.1, HQ.out.2]; rfl, B3.out⟩
    · have HK1 := Lib.hid (hk1 (by omega))
      clear hk1 hk2 hk
      have hrun : ∀ W : World, (Instr.index 112 (.agg #[.int .i64 xa, .int .i64 xb, .int .i64 xc, .int .i64 xd, .slice A n c, .int .i64 ya, .int .i64 yb, .int .i64 yc, .int .i64 yd, .slice A' m c']) (.int .i64 1)).run Try.prog W = .ok (.agg #[.int .i64 ya, .int .i64 yb, .int .i64 yc, .int .i64 yd, .slice A' m c']) W := fun W => by kernel_rfl
      by_cases he : ry = 0
      · have HE := Lib.hid he
        have HZ := HY
        rw [HE.out] at HZ
        clear he
        go_wp2_with fail
        refine (HZ.out _ (below_then B2.out (below_self _ _))).mono ?_
        rintro e W3 ⟨rfl, hb3⟩
        have R3 := Lib.hid (blk_keep hb3 (blk_keep (below_self wr (.cells #[.int .i64 ya, .int .i64 yb, .int .i64 yc, .int .i64 yd, .slice A' m c'] 26)) R2.out))
        have B3 := Lib.hid (below_then (below_then B2.out (below_self _ _)) hb3)
        clear hb3
        go_wp2
        go_roundw
        case rel => exact ⟨2, by omega, rfl, fun _ => HK1.out, fun _ => HE.out, R3.out, B3.out⟩
        case measure => simp [intOf]
      · have he1 : decide (ry = 0) = false := by simpa using he
        have HQ : Hid (me = ry ∧ mo = 0) := HM2.out HK1.out he
        go_wp2_with fail
        refine (HY.out _ (below_then B2.out (below_self _ _))).mono ?_
        rintro e W3 ⟨rfl, hb3⟩
        have B3 := Lib.hid (below_then (below_then B2.out (below_self _ _)) hb3)
        clear hb3
        go_wp2
        go_ret2
        exact ⟨by rw [HQ.out.1, HQ.out.2]; rfl, B3.out⟩
    · have HK1 := Lib.hid (hk1 (by omega))
      have HK2 := Lib.hid (hk2 (by omega))
      have C1 := Lib.hid (fun W hb hg => HG1.out HK1.out HK2.out W (w.heap.size + 1 + 1) hb hg)
      have C2 := Lib.hid (fun W hb hg => HG2.out HK1.out HK2.out W (w.heap.size + 1 + 1) hb hg)
      have HQ := Lib.hid (HM3.out HK1.out HK2.out)
      clear hk1 hk2 hk HG1 HG2
      cases g1
      · cases g2
        · go_wp2_with fail
          refine (C1.out _ B2.out R2.out).mono ?_
          rintro e W3 ⟨rfl, hb3⟩
          have B3 := Lib.hid (below_then B2.out hb3)
          have R3 := Lib.hid (blk_keep hb3 R2.out)
          clear hb3
          go_wp2_with fail
          refine (C2.out _ B3.out R3.out).mono ?_
          rintro e W4 ⟨rfl, hb4⟩
          have B4 := Lib.hid (below_then B3.out hb4)
          clear hb4
          go_wp2
          go_ret2
          exact ⟨by rw [HQ.out.1, HQ.out.2]; rfl, B4.out⟩
        · go_wp2_with fail
          refine (C1.out _ B2.out R2.out).mono ?_
          rintro e W3 ⟨rfl, hb3⟩
          have B3 := Lib.hid (below_then B2.out hb3)
          have R3 := Lib.hid (blk_keep hb3 R2.out)
          clear hb3
          go_wp2_with fail
          refine (C2.out _ B3.out R3.out).mono ?_
          rintro e W4 ⟨rfl, hb4⟩
          have B4 := Lib.hid (below_then B3.out hb4)
          clear hb4
          go_wp2
          go_ret2
          exact ⟨by rw [HQ.out.1, HQ.out.2]; rfl, B4.out⟩
      · go_wp2_with fail
        refine (C1.out _ B2.out R2.out).mono ?_
        rintro e W3 ⟨rfl, hb3⟩
        have B3 := Lib.hid (below_then B2.out hb3)
        clear hb3
        go_wp2
        go_ret2
        exact ⟨by rw [HQ.out.1, HQ.out.2]; rfl, B3.out⟩
end Go.Proofs.Ytdekickmplkdiaa

/- Walks: stop, Stops. -/
namespace Go.Proofs.Ytdekickmplkdiaa
open Go.RowKit

theorem mul_sm {x y : Int} (h1 : 0 ≤ x) (h2 : x ≤ 5000) (h3 : 0 ≤ y) (h4 : y ≤ 5000) : 0 ≤ x * y ∧ x * y ≤ 25000000 := mul_bd h1 h2 h3 h4
set_option maxHeartbeats 400000 in
theorem smaller_any (al ah dl dh ol oh pl ph : Int) (w : World) (h1 : 0 ≤ ah ∧ ah ≤ 5000) (h2 : 0 ≤ ph ∧ ph ≤ 5000) (h3 : 0 ≤ ol ∧ ol ≤ 5000) (h4 : 0 ≤ dl ∧ dl ≤ 5000) :
    Calls Try.prog 97 #[.agg #[.int .i64 al, .int .i64 ah], .agg #[.int .i64 dl, .int .i64 dh], .agg #[.int .i64 ol, .int .i64 oh], .agg #[.int .i64 pl, .int .i64 ph]] w fun e w' => e = .returned (.bool (decide (ah * ph < ol * dl))) ∧ Below w.heap.size w w' := by
  have B := Lib.hid (((below_self w (.cells #[.int .i64 al, .int .i64 ah] 23)).alloc (by simp) (.cells #[.int .i64 dl, .int .i64 dh] 23)).alloc (by simp; omega) (.cells #[.int .i64 ol, .int .i64 oh] 23) |>.alloc (by simp; omega) (.cells #[.int .i64 pl, .int .i64 ph] 23))
  have q1 := mul_sm h1.1 h1.2 h2.1 h2.2
  have q2 := mul_sm h3.1 h3.2 h4.1 h4.2
  go_enter Try.func97, Try.ntmps97
  go_wp2
  go_ret
  exact ⟨rfl, B.out⟩

def stopL (f : Fan) (g : Gap) : Int := if g.lh * f.d < g.fl * f.a then 1 else if g.fh * f.b < g.ll * f.c then 2 else 3
set_option maxHeartbeats 1000000 in
theorem stop_any (f : Fan) (y : Gap) (A : Option Addr) (n c : Nat) (w : World) (hf : FanB f) (hy : y ∈ f.gs) :
    Calls Try.prog 66 #[.agg (fanA f A n c), .agg #[.int .i64 y.ll, .int .i64 y.lh, .int .i64 y.fl, .int .i64 y.fh]] w fun e w' => e = .returned (.int .i64 (stopL f y)) ∧ Below w.heap.size w w' := by
  have h1 := hf.a1; have h2 := hf.ab; have h3 := hf.b5; have h4 := hf.c1; have h5 := hf.cd; have h6 := hf.d5
  obtain ⟨k1, k2, k3, k4, k5, k6⟩ := hf.g y hy
  have E0 := Lib.hid (Env2.start w 26 42 (fanA f A n c) #[.int .i64 y.ll, .int .i64 y.lh, .int .i64 y.fl, .int .i64 y.fh])
  have HO : Hid (stopL f y = if y.lh * f.d < y.fl * f.a then 1 else if y.fh * f.b < y.ll * f.c then 2 else 3) := rfl
  generalize stopL f y = r at *
  clear hf hy
  obtain ⟨fa, fb, fc, fd, gs⟩ := f
  obtain ⟨ll, lh, fl, fh⟩ := y
  simp only [fanA] at *
  have C1 := Lib.hid (fun W => smaller_any ll lh fa fb fl fh fc fd W (by omega) (by omega) (by omega) (by omega))
  have C2 := Lib.hid (fun W => smaller_any fl fh fc fd ll lh fa fb W (by omega) (by omega) (by omega) (by omega))
  clear h1 h2 h3 h4 h5 h6 k1 k2 k3 k4 k5 k6
  cases q1 : decide (lh * fd < fl * fa)
  · cases q2 : decide (fh * fb < ll * fc)
    · have H : Hid (r = 3) := by unfold Hid; rw [HO.out, if_neg (by simpa using q1), if_neg (by simpa using q2)]
      rw [q1] at C1; rw [q2] at C2
      clear HO q1 q2
      go_enter Try.func66, Try.ntmps66
      go_wp2_with fail
      refine (C1.out _).mono ?_
      rintro e W1 ⟨rfl, hb1⟩
      have E1 := Lib.hid (E0.out.below hb1)
      have p1 := E1.out.p.cell; have p2 := E1.out.q.cell
      clear hb1
      go_wp2_with fail
      refine (C2.out _).mono ?_
      rintro e W2 ⟨rfl, hb2⟩
      have E2 := Lib.hid (E1.out.below hb2)
      clear p1 p2 hb2
      go_wp2
      go_ret
      exact ⟨ret_int H.out.symm, E2.out.bel⟩
    · have H : Hid (r = 2) := by unfold Hid; rw [HO.out, if_neg (by simpa using q1), if_pos (by simpa using q2)]
      rw [q1] at C1; rw [q2] at C2
      clear HO q1 q2
      go_enter Try.func66, Try.ntmps66
      go_wp2_with fail
      refine (C1.out _).mono ?_
      rintro e W1 ⟨rfl, hb1⟩
      have E1 := Lib.hid (E0.out.below hb1)
      have p1 := E1.out.p.cell; have p2 := E1.out.q.cell
      clear hb1
      go_wp2_with fail
      refine (C2.out _).mono ?_
      rintro e W2 ⟨rfl, hb2⟩
      have E2 := Lib.hid (E1.out.below hb2)
      clear p1 p2 hb2
      go_wp2
      go_ret
      exact ⟨ret_int H.out.symm, E2.out.bel⟩
  · have H : Hid (r = 1) := by unfold Hid; rw [HO.out, if_pos (by simpa using q1)]
    rw [q1] at C1
    clear HO q1 C2
    go_enter Try.func66, Try.ntmps66
    go_wp2_with fail
    refine (C1.out _).mono ?_
    rintro e W1 ⟨rfl, hb1⟩
    have E1 := Lib.hid (E0.out.below hb1)
    clear hb1
    go_wp2
    go_ret
    exact ⟨ret_int H.out.symm, E1.out.bel⟩

def stopsL (f : Fan) : List Int := if fanErr f = 0 then f.gs.map (stopL f) else []
theorem stops_take (f : Fan) (k : Nat) (hk : k < f.gs.length) : (((f.gs.map (stopL f)).take (k + 1)).map (Value.int .i64)) = ((f.gs.map (stopL f)).take k).map (Value.int .i64) ++ [.int .i64 (stopL f (f.gs.getD k Gap.zero))] := by
  have e : f.gs.getD k Gap.zero = f.gs[k] := by simp [List.getD, hk]
  rw [e, List.take_succ_eq_append_getElem (by simpa using hk)]
  simp
def StopsRes (w : World) (L : List Int) (r : Int) (e : Ending) (w' : World) : Prop := ∃ v, e = .returned (.tuple #[v, .int .i64 r]) ∧ w'.ownsRow w.heap.size 39 1 v L.length (L.map (Value.int .i64)) ∧ Below w.heap.size w w'
set_option maxRecDepth 100000 in
set_option maxHeartbeats 1000000 in
theorem Stops_any (f : Fan) (A : Option Addr) (n c : Nat) (w : World) (h : Gaps w A n f.gs) (hn : n ≤ maxLen) :
    Calls Try.prog 24 #[.agg (fanA f A n c)] w (StopsRes w (stopsL f) (fanErr f)) := by
  obtain ⟨i0, hi0, hz0, hz1, hz2⟩ := info_parts Try.infoStop
  have HF := Lib.hid (fun W (hb : Below w.heap.size w W) => fanError_any f A n c W (h.below hb) hn)
  have B0 := Lib.hid (below_self w (.cells (fanA f A n c) 26))
  have R0 := Lib.hid (Blk.new w 26 (fanA f A n c) rfl)
  by_cases hE : fanErr f = 0
  · have hlen := h.len
    have hf := (fanB_of hE).1
    have HN : n ≤ 41 := by have := hf.n; rw [hlen] at this; exact this
    have HR : Hid (stopsL f = f.gs.map (stopL f)) := if_pos hE
    have HT := Lib.hid (stops_take f)
    have HC := Lib.hid (fun k (hk : k < n) W => stop_any f (f.gs.getD k Gap.zero) A n c W hf (by
      have e : f.gs.getD k Gap.zero = f.gs[k]'(by omega) := by simp [List.getD, show k < f.gs.length from by omega]
      rw [e]; exact List.getElem_mem _))
    have HG := Lib.hid h
    have HE := Lib.hid hE
    have Hl := Lib.hid hlen
    have HL := Lib.hid (show (f.gs.map (stopL f)).length = n by simp [hlen])
    clear h hn hE hlen hf
    rw [HE.out] at HF ⊢
    generalize stopsL f = L0 at *
    generalize stopL f = st at *
    generalize f.gs.map st = L at *
    obtain ⟨fa, fb, fc, fd, gs⟩ := f
    simp only [fanA] at *
    go_enter Try.func24, Try.ntmps24
    go_wp2_with fail
    refine (HF.out _ B0.out).mono ?_
    rintro e W1 ⟨rfl, hb1⟩
    have R1 := Lib.hid (blk_keep hb1 R0.out)
    have B1 := Lib.hid (below_then B0.out hb1)
    have r1 := R1.out.cell
    clear hb1
    go_wp2_with fail
    clear r1
    go_loopw [5, 16] (fun s i wr => ∃ (k : Nat) (v : Value), k ≤ n ∧ i = .int .i64 k ∧ s = v ∧ wr.ownsRow w.heap.size 39 1 v k ((L.take k).map (Value.int .i64)) ∧ Blk wr w.heap.size 26 #[.int .i64 fa, .int .i64 fb, .int .i64 fc, .int .i64 fd, .slice A n c] ∧ Below w.heap.size w wr) (fun _ i _ => n - (intOf i).toNat)
    case atStart => exact ⟨0, _, Nat.zero_le _, rfl, rfl, World.ownsRow_nil _ _ _ _, R1.out, B1.out⟩
    case round =>
      obtain ⟨k, v, hk, rfl, rfl, hown, hR, hB⟩ := hrel
      have O2 := Lib.hid hown
      have R2 := Lib.hid hR
      have B2 := Lib.hid hB
      clear hown hR hB
      by_cases hlt : k < n
      · obtain ⟨b, off, rfl, hb, hc0, hc1, hc2, hc3⟩ := (HG.out.below B2.out).at_ hlt
        have HS := Lib.hid (HT.out k (by rw [Hl.out]; exact hlt))
        have C := Lib.hid (HC.out k hlt)
        generalize gs.getD k Gap.zero = y at *
        generalize st y = r at *
        obtain ⟨yl, yh, zl, zh⟩ := y
        have bs := below_self wr (.cells #[.int .i64 yl, .int .i64 yh, .int .i64 zl, .int .i64 zh] 42)
        have O3 := Lib.hid (ownsRow_below O2.out bs)
        have R3 := Lib.hid (blk_keep bs R2.out)
        have B3 := Lib.hid (below_then B2.out bs)
        clear bs
        have r2 := fan_get R3.out
        go_wp2_with fail
        refine (C.out _).mono ?_
        rintro e W4 ⟨rfl, hb4⟩
        have O4 := Lib.hid (ownsRow_below O3.out hb4)
        have R4 := Lib.hid (blk_keep hb4 R3.out)
        have B4 := Lib.hid (below_then B3.out hb4)
        clear hb4 r2 hc0 hc1 hc2 hc3
        go_wp2_with (at_builtin; refine wpList_append_any rfl _ _ 36 rfl w.heap.size 39 i0 (.int .i64 0) 1 8 Try.underlying36 hi0 hz0 hz1 hz2 rfl (by decide) _ k _ rfl (O4.out.alloc _) (some ⟨W4.heap.size, 0, none⟩) 1 1 [.int .i64 r] rfl (ints_new1 W4 r _ rfl) ?c1 ?c2 ?c3 ?c4 ?_)
        case c1 => intro u hu; rw [List.mem_singleton.1 hu]; rfl
        case c2 => unfold maxLen; omega
        case c3 => omega
        case c4 => have := B4.out.size; simp; omega
        intro v' W5 hown5 hgrow
        have O5 : Hid (W5.ownsRow w.heap.size 39 1 v' (k + 1) ((L.take (k + 1)).map (Value.int .i64))) := by unfold Hid; rw [HS.out, List.map_take]; exact hown5
        have R5 := Lib.hid ((R4.out.alloc (.cells #[.int .i64 r] 39)).grown hgrow (own_blk_ne O4.out R4.out (by decide)))
        have B5 := Lib.hid ((below_then B4.out (below_self _ _)).grown hgrow (by have := B4.out.size; simp; omega) (fun q e => (O4.out.lt q e.symm.symm).1))
        clear hown5 hgrow
        go_wp2
        go_roundw
        case rel => exact ⟨k + 1, _, by omega, by go_num, rfl, O5.out, R5.out, B5.out⟩
        case measure => simp [intOf]; omega
      · obtain rfl : k = n := by omega
        have he := Lib.hid (show (L).take k = L from List.take_of_length_le (by rw [HL.out]; exact Nat.le_refl _))
        go_wp2
        go_ret2
        exact ⟨_, rfl, by rw [HR.out, HL.out]; have h := O2.out; rw [he.out] at h; exact h, B2.out⟩
  · have HR : Hid (stopsL f = []) := if_neg hE
    clear h hn
    generalize stopsL f = L0 at *
    generalize fanErr f = r at *
    have HE1 : decide (r = 0) = false := by simpa using hE
    unfold fanA at *
    go_enter Try.func24, Try.ntmps24
    go_wp2_with fail
    refine (HF.out _ B0.out).mono ?_
    rintro e W1 ⟨rfl, hb1⟩
    have B1 := Lib.hid (below_then B0.out hb1)
    clear hb1
    go_wp2
    go_ret2
    exact ⟨_, rfl, by rw [HR.out]; exact World.ownsRow_nil _ _ _ _, B1.out⟩
end Go.Proofs.Ytdekickmplkdiaa
