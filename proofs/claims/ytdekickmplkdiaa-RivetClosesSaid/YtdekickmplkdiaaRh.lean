/- Walks: compare, Compare. -/
import Derived.Test.YtdekickmplkdiaaRf
namespace Go.Proofs.Ytdekickmplkdiaa
open Go.RowKit

def cmpL (x y : Int) : Int := if x < y then -1 else if y < x then 1 else 0
theorem isNaN_any (x : Int) (w : World) : Calls Try.prog 118 #[.int .i64 x] w fun e w' => e = .returned (.bool false) ∧ w' = w := by
  go_enter Try.func118, Try.ntmps118
  go_wp2
  go_ret
  exact ⟨rfl, rfl⟩
set_option maxHeartbeats 400000 in
theorem cmp_any (x y : Int) (w : World) : Calls Try.prog 98 #[.int .i64 x, .int .i64 y] w fun e w' => e = .returned (.int .i64 (cmpL x y)) ∧ w' = w := by
  have HO : Hid (cmpL x y = if x < y then -1 else if y < x then 1 else 0) := rfl
  generalize cmpL x y = r at *
  by_cases h1 : x < y
  · have H : Hid (r = -1) := by unfold Hid; rw [HO.out, if_pos h1]
    clear HO
    go_enter Try.func98, Try.ntmps98
    go_wp2_with (go_at_call 118; refine (isNaN_any _ _).mono ?_; rintro e w' ⟨rfl, rfl⟩)
    go_ret
    exact ⟨ret_int H.out.symm, rfl⟩
  · by_cases h2 : y < x
    · have H : Hid (r = 1) := by unfold Hid; rw [HO.out, if_neg h1, if_pos h2]
      clear HO
      go_enter Try.func98, Try.ntmps98
      go_wp2_with (go_at_call 118; refine (isNaN_any _ _).mono ?_; rintro e w' ⟨rfl, rfl⟩)
      go_ret
      exact ⟨ret_int H.out.symm, rfl⟩
    · have H : Hid (r = 0) := by unfold Hid; rw [HO.out, if_neg h1, if_neg h2]
      clear HO
      go_enter Try.func98, Try.ntmps98
      go_wp2_with (go_at_call 118; refine (isNaN_any _ _).mono ?_; rintro e w' ⟨rfl, rfl⟩)
      go_ret
      exact ⟨ret_int H.out.symm, rfl⟩
/-- Two ratios compared. -/
def ratL (a b c d : Int) : Int := cmpL (a * d) (c * b)
theorem big_bd {x y : Int} (h1 : 0 ≤ x) (h2 : x ≤ 1000000000) (h3 : 0 ≤ y) (h4 : y ≤ 25000000) : 0 ≤ x * y ∧ x * y ≤ 25000000000000000 := mul_bd h1 h2 h3 h4
set_option maxHeartbeats 400000 in
theorem compare_any (a b c d : Int) (w : World) (ha : 0 ≤ a ∧ a ≤ 1000000000) (hb : 0 ≤ b ∧ b ≤ 25000000) (hc : 0 ≤ c ∧ c ≤ 1000000000) (hd : 0 ≤ d ∧ d ≤ 25000000) :
    Calls Try.prog 68 #[.agg #[.int .i64 a, .int .i64 b], .agg #[.int .i64 c, .int .i64 d]] w fun e w' => e = .returned (.int .i64 (ratL a b c d)) ∧ Below w.heap.size w w' := by
  have B := Lib.hid ((below_self w (.cells #[.int .i64 a, .int .i64 b] 77)).alloc (by simp) (.cells #[.int .i64 c, .int .i64 d] 77))
  have q1 := big_bd ha.1 ha.2 hd.1 hd.2
  have q2 := big_bd hc.1 hc.2 hb.1 hb.2
  have H := Lib.hid (fun W => cmp_any (a * d) (c * b) W)
  unfold ratL
  generalize cmpL (a * d) (c * b) = r at *
  clear ha hb hc hd
  go_enter Try.func68, Try.ntmps68
  go_wp2_with (go_at_call 98; refine (H.out _).mono ?_; rintro e w' ⟨rfl, rfl⟩)
  go_ret
  exact ⟨rfl, B.out⟩

/-- A fan surely opens farther than another one. -/
def gtL (x y : Fan) : Bool := decide (0 < ratL (openN false x) (partsL false x) (openN true y) (partsL true y))
theorem arr_get {W : World} {g : Nat} {x0 x1 x2 x3 x4 y0 y1 y2 y3 y4 : Value} (h : Blk W g 112 #[x0, x1, x2, x3, x4, y0, y1, y2, y3, y4]) :
    W.cell? ⟨g, 0, none⟩ = some x0 ∧ W.cell? ⟨g, 1, none⟩ = some x1 ∧ W.cell? ⟨g, 2, none⟩ = some x2 ∧ W.cell? ⟨g, 3, none⟩ = some x3 ∧ W.cell? ⟨g, 4, none⟩ = some x4 ∧ W.cell? ⟨g, 5, none⟩ = some y0 ∧ W.cell? ⟨g, 6, none⟩ = some y1 ∧ W.cell? ⟨g, 7, none⟩ = some y2 ∧ W.cell? ⟨g, 8, none⟩ = some y3 ∧ W.cell? ⟨g, 9, none⟩ = some y4 := ⟨h.cell 0, h.cell 1, h.cell 2, h.cell 3, h.cell 4, h.cell 5, h.cell 6, h.cell 7, h.cell 8, h.cell 9⟩

set_option maxRecDepth 100000 in
set_option maxHeartbeats 2000000 in
theorem fart01_any (x y : Fan) (A : Option Addr) (n c : Nat) (A' : Option Addr) (m c' : Nat) (g : Nat) (w : World) (hx : FanB x) (hy : FanB y) (h : Gaps w A n x.gs) (h' : Gaps w A' m y.gs)
    (hg : Blk w g 112 #[.int .i64 x.a, .int .i64 x.b, .int .i64 x.c, .int .i64 x.d, .slice A n c, .int .i64 y.a, .int .i64 y.b, .int .i64 y.c, .int .i64 y.d, .slice A' m c']) :
    Calls Try.prog 67 #[.int .i64 0, .int .i64 1, .pointer (some ⟨g, 0, none⟩)] w fun e w' => e = .returned (.bool (gtL x y)) ∧ Below w.heap.size w w' := by
  have HO : Hid (gtL x y = decide (0 < ratL (openN false x) (partsL false x) (openN true y) (partsL true y))) := rfl
  have H1 := Lib.hid (fun W (hb : Below w.heap.size w W) => opening_any false x A n c W hx (h.below hb))
  have H2 := Lib.hid (fun W (hb : Below w.heap.size w W) => opening_any true y A' m c' W hy (h'.below hb))
  have b1 := open_bd hx false; have b2 := parts_bd hx false; have b3 := open_bd hy true; have b4 := parts_bd hy true
  have H3 := Lib.hid (fun W => compare_any (openN false x) (partsL false x) (openN true y) (partsL true y) W (by omega) (by omega) (by omega) (by omega))
  have HL1 := Lib.hid leastEnd_any
  have HL2 := Lib.hid mostEnd_any
  clear b1 b2 b3 b4 hx hy h h'
  have R0 := Lib.hid hg
  have R0d : Hid (Blk w.drew g _ _) := R0.out
  have B0 := Lib.hid (Below.refl w.heap.size w).drew
  clear hg
  generalize gtL x y = r at *
  generalize openN false x = p at *
  generalize partsL false x = q at *
  generalize openN true y = s at *
  generalize partsL true y = t at *
  generalize ratL p q s t = z at *
  obtain ⟨xa, xb, xc, xd, xs⟩ := x
  obtain ⟨ya, yb, yc, yd, ys⟩ := y
  simp only [endA, fanA] at *
  go_enter Try.func67, Try.ntmps67
  go_wp2_with fail
  go_region_held3 (fun W => W.cell? ⟨g, 0, none⟩ = some (.int .i64 xa) ∧ W.cell? ⟨g, 1, none⟩ = some (.int .i64 xb) ∧ W.cell? ⟨g, 2, none⟩ = some (.int .i64 xc) ∧ W.cell? ⟨g, 3, none⟩ = some (.int .i64 xd) ∧ W.cell? ⟨g, 4, none⟩ = some (.slice A n c) ∧ W.cell? ⟨g, 5, none⟩ = some (.int .i64 ya) ∧ W.cell? ⟨g, 6, none⟩ = some (.int .i64 yb) ∧ W.cell? ⟨g, 7, none⟩ = some (.int .i64 yc) ∧ W.cell? ⟨g, 8, none⟩ = some (.int .i64 yd) ∧ W.cell? ⟨g, 9, none⟩ = some (.slice A' m c'))
    (first | with_reducible exact arr_get R0d.out | with_reducible exact arr_get R0.out | with_reducible exact arr_get R1.out | with_reducible exact arr_get R2.out | with_reducible exact arr_get R3.out | with_reducible exact arr_get R4.out | with_reducible exact arr_get R5.out)
    (first | (go_at_call 69; refine (HL1.out _).mono ?_; rintro e W1 ⟨rfl, hb1⟩; have R1 := Lib.hid (blk_keep hb1 R0d.out); have B1 := Lib.hid (below_then B0.out hb1); clear hb1) | (go_at_call 71; refine (HL2.out _).mono ?_; rintro e W3 ⟨rfl, hb3⟩; have R3 := Lib.hid (blk_keep hb3 R2.out); have B3 := Lib.hid (below_then B2.out hb3); clear hb3) | (go_at_call 70; (with_reducible refine (H1.out _ B1.out).mono ?_); rintro e W2 ⟨rfl, hb2⟩; have R2 := Lib.hid (blk_keep hb2 R1.out); have B2 := Lib.hid (below_then B1.out hb2); clear hb2) | (go_at_call 70; (with_reducible refine (H2.out _ B3.out).mono ?_); rintro e W4 ⟨rfl, hb4⟩; have R4 := Lib.hid (blk_keep hb4 R3.out); have B4 := Lib.hid (below_then B3.out hb4); clear hb4) | (go_at_call 68; refine (H3.out _).mono ?_; rintro e W5 ⟨rfl, hb5⟩; have R5 := Lib.hid (blk_keep hb5 R4.out); have B5 := Lib.hid (below_then B4.out hb5); clear hb5))
  all_goals
    go_wp2
    go_ret
    exact ⟨ret_bool (by rw [HO.out]), B5.out⟩

set_option maxRecDepth 100000 in
set_option maxHeartbeats 2000000 in
theorem fart10_any (x y : Fan) (A : Option Addr) (n c : Nat) (A' : Option Addr) (m c' : Nat) (g : Nat) (w : World) (hx : FanB x) (hy : FanB y) (h : Gaps w A n x.gs) (h' : Gaps w A' m y.gs)
    (hg : Blk w g 112 #[.int .i64 x.a, .int .i64 x.b, .int .i64 x.c, .int .i64 x.d, .slice A n c, .int .i64 y.a, .int .i64 y.b, .int .i64 y.c, .int .i64 y.d, .slice A' m c']) :
    Calls Try.prog 67 #[.int .i64 1, .int .i64 0, .pointer (some ⟨g, 0, none⟩)] w fun e w' => e = .returned (.bool (gtL y x)) ∧ Below w.heap.size w w' := by
  have HO : Hid (gtL y x = decide (0 < ratL (openN false y) (partsL false y) (openN true x) (partsL true x))) := rfl
  have H1 := Lib.hid (fun W (hb : Below w.heap.size w W) => opening_any false y A' m c' W hy (h'.below hb))
  have H2 := Lib.hid (fun W (hb : Below w.heap.size w W) => opening_any true x A n c W hx (h.below hb))
  have b1 := open_bd hy false; have b2 := parts_bd hy false; have b3 := open_bd hx true; have b4 := parts_bd hx true
  have H3 := Lib.hid (fun W => compare_any (openN false y) (partsL false y) (openN true x) (partsL true x) W (by omega) (by omega) (by omega) (by omega))
  have HL1 := Lib.hid leastEnd_any
  have HL2 := Lib.hid mostEnd_any
  clear b1 b2 b3 b4 hx hy h h'
  have R0 := Lib.hid hg
  have R0d : Hid (Blk w.drew g _ _) := R0.out
  have B0 := Lib.hid (Below.refl w.heap.size w).drew
  clear hg
  generalize gtL y x = r at *
  generalize openN false y = p at *
  generalize partsL false y = q at *
  generalize openN true x = s at *
  generalize partsL true x = t at *
  generalize ratL p q s t = z at *
  obtain ⟨xa, xb, xc, xd, xs⟩ := x
  obtain ⟨ya, yb, yc, yd, ys⟩ := y
  simp only [endA, fanA] at *
  go_enter Try.func67, Try.ntmps67
  go_wp2_with fail
  go_region_held3 (fun W => W.cell? ⟨g, 0, none⟩ = some (.int .i64 xa) ∧ W.cell? ⟨g, 1, none⟩ = some (.int .i64 xb) ∧ W.cell? ⟨g, 2, none⟩ = some (.int .i64 xc) ∧ W.cell? ⟨g, 3, none⟩ = some (.int .i64 xd) ∧ W.cell? ⟨g, 4, none⟩ = some (.slice A n c) ∧ W.cell? ⟨g, 5, none⟩ = some (.int .i64 ya) ∧ W.cell? ⟨g, 6, none⟩ = some (.int .i64 yb) ∧ W.cell? ⟨g, 7, none⟩ = some (.int .i64 yc) ∧ W.cell? ⟨g, 8, none⟩ = some (.int .i64 yd) ∧ W.cell? ⟨g, 9, none⟩ = some (.slice A' m c'))
    (first | with_reducible exact arr_get R0d.out | with_reducible exact arr_get R0.out | with_reducible exact arr_get R1.out | with_reducible exact arr_get R2.out | with_reducible exact arr_get R3.out | with_reducible exact arr_get R4.out | with_reducible exact arr_get R5.out)
    (first | (go_at_call 69; refine (HL1.out _).mono ?_; rintro e W1 ⟨rfl, hb1⟩; have R1 := Lib.hid (blk_keep hb1 R0d.out); have B1 := Lib.hid (below_then B0.out hb1); clear hb1) | (go_at_call 71; refine (HL2.out _).mono ?_; rintro e W3 ⟨rfl, hb3⟩; have R3 := Lib.hid (blk_keep hb3 R2.out); have B3 := Lib.hid (below_then B2.out hb3); clear hb3) | (go_at_call 70; (with_reducible refine (H1.out _ B1.out).mono ?_); rintro e W2 ⟨rfl, hb2⟩; have R2 := Lib.hid (blk_keep hb2 R1.out); have B2 := Lib.hid (below_then B1.out hb2); clear hb2) | (go_at_call 70; (with_reducible refine (H2.out _ B3.out).mono ?_); rintro e W4 ⟨rfl, hb4⟩; have R4 := Lib.hid (blk_keep hb4 R3.out); have B4 := Lib.hid (below_then B3.out hb4); clear hb4) | (go_at_call 68; refine (H3.out _).mono ?_; rintro e W5 ⟨rfl, hb5⟩; have R5 := Lib.hid (blk_keep hb5 R4.out); have B5 := Lib.hid (below_then B4.out hb5); clear hb5))
  all_goals
    go_wp2
    go_ret
    exact ⟨ret_bool (by rw [HO.out]), B5.out⟩
end Go.Proofs.Ytdekickmplkdiaa
