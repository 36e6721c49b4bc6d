/- Walks: the law of Pleat. -/
import Derived.Test.YtdekickmplkdiaaKi
import Derived.Test.YtdekickmplkdiaaKh
namespace Go.Proofs.Ytdekickmplkdiaa
open Go.RowKit

theorem within_inB' (a b n : Int) : within a b [n] = inB n a b := by
  unfold within inB
  simp
theorem degree_any (n : Int) (w : World) : Calls Try.prog 31 #[.int .i64 n] w fun e w' => e = .returned (.bool (inB n 0 360)) ∧ w = w' := by
  have H := Lib.hid (fun W => RefIn_any n 0 360 W)
  generalize inB n 0 360 = r at *
  go_enter Try.func31, Try.ntmps31
  go_wp2_with fail
  refine (H.out _).mono ?_
  rintro e w1 ⟨rfl, rfl⟩
  go_wp2
  go_ret
  exact ⟨rfl, rfl⟩
set_option maxRecDepth 100000 in
set_option maxHeartbeats 4000000 in
theorem RivetPleats_any (f : Fan) (A : Option Addr) (n c : Nat) (d : Int) (w : World) (h : Gaps w A n f.gs) (hn : n ≤ maxLen) :
    Calls Try.prog 9 #[.agg (fanA f A n c), .int .i64 d] w fun e w' => e = .returned (.bool true) ∧ Below w.heap.size w w' := by
  have L0 := Lib.hid (LA.start w f A n c)
  have HK := Lib.hid (fun W => known_any W)
  unfold KnownRes at HK
  have HN := Lib.hid hn
  have hn2 := hn
  unfold maxLen at hn2
  have hl := h.len
  by_cases h50 : 50 < n
  · clear h hn HN hl
    obtain ⟨fa, fb, fc, fd, gs⟩ := f
    simp only [fanA] at *
    go_enter Try.func9, Try.ntmps9
    go_wp2_with fail
    refine (HK.out _).mono ?_
    rintro e w1 ⟨rfl, b1⟩
    go_wp2
    go_ret
    exact ⟨rfl, below_then L0.out.bel b1⟩
  have HC := Lib.hid (fun W (hb : Below w.heap.size w W) => RefCopy_any f A n c W (h.below hb) (by omega))
  unfold FanRes at HC
  have H2 := Lib.hid (fun A' c' W (hG : Gaps W A' n f.gs) => Pleat_any f d A' n c' W hG HN.out)
  have H3 := Lib.hid (fun W (hb : Below w.heap.size w W) => RefCheck_any f A n c W (h.below hb) HN.out)
  have H4 := Lib.hid (fun A' c' W (hG : Gaps W A' n f.gs) (hb : Below w.heap.size w W) => RefSame_any f A' A n c' c W hG (h.below hb) HN.out)
  have H6 := Lib.hid (fun W => degree_any d W)
  have H5 := Lib.hid (fun (hE : fanErr f = 0) W (hb : Below w.heap.size w W) => RefPleat_any f d A n c W (h.below hb) hE)
  have HR : Hid (pleatR f d = if fanErr f = 0 then (if inB d 0 360 = true then (if 1000 < pleatL f d then (0, 7) else ((pleatL f d : Int), 0)) else (0, 4)) else (0, fanErr f)) := by
    unfold Hid pleatR; rw [within_inB']
  clear h hn HN hl
  generalize pleatR f d = t at *
  generalize fanErr f = r at *
  generalize pleatL f d = pl at *
  generalize inB d 0 360 = ib at *
  obtain ⟨t1, t3⟩ := t
  obtain ⟨fa, fb, fc, fd, gs⟩ := f
  simp only [fanA] at HC H2 H3 H4 H5 ⊢
  have p0 := fan_get L0.out.b
  go_enter Try.func9, Try.ntmps9
  go_wp2_with fail
  refine (HC.out _ L0.out.bel).mono ?_
  rintro e w1 ⟨A', c', rfl, hG, b1⟩
  have L1 := Lib.hid (L0.out.below b1)
  have G1 := Lib.hid hG
  have S1 := Lib.hid (Blk.new w1 26 #[.int .i64 0, .int .i64 0, .int .i64 0, .int .i64 0, .slice none 0 0] (g := w1.heap.size) rfl)
  clear b1 hG p0 L0 HC
  go_wp2_with (refine wpList_store_row rfl 26 _ _ rfl w1.heap.size _ rfl rfl 26 _ S1.out (by kernel_rfl) rfl (by kernel_rfl) ?_; have L2 := Lib.hid (LB.start (c' := c') L1.out G1.out #[.int .i64 0, .int .i64 0, .int .i64 0, .int .i64 0, .slice none 0 0]); simp only [fanA] at L2; have p2 := fan_get L2.out.b; clear L1 G1 S1)
  refine (H2.out _ _ _ L2.out.r).mono ?_
  rintro e w4 ⟨rfl, b4⟩
  have L4 := Lib.hid (L2.out.below b4)
  have p4 := fan_get L4.out.a.b
  have q4 := fan_get L4.out.b
  clear b4 p2 L2 H2
  generalize w1.heap.size = g at *
  go_wp2_with fail
  refine (H4.out _ _ _ L4.out.r L4.out.a.bel).mono ?_
  rintro e w6 ⟨rfl, b6⟩
  have L6 := Lib.hid (L4.out.below b6)
  have p6 := fan_get L6.out.a.b
  clear b6 p4 q4 L4 H4
  go_wp2_with fail
  refine (H3.out _ L6.out.a.bel).mono ?_
  rintro e w7 ⟨rfl, b7⟩
  have L7 := Lib.hid (L6.out.below b7)
  have p7 := fan_get L7.out.a.b
  clear b7 p6 L6 H3
  by_cases hE : r = 0
  · subst hE
    have HR1 : Hid ((t1, t3) = if ib = true then (if 1000 < pl then (0, 7) else ((pl : Int), 0)) else (0, 4)) := by unfold Hid; rw [HR.out, if_pos rfl]
    have H7 := Lib.hid (fun W hb => H5.out (by first | rfl | trivial) W hb)
    clear HR H5
    cases ib
    · have hR := HR1.out
      rw [if_neg (by simp)] at hR
      simp only [Prod.mk.injEq] at hR
      obtain ⟨rfl, rfl⟩ := hR
      clear HR1 H7
      go_wp2_with fail
      refine (H6.out _).mono ?_
      rintro e w8 ⟨rfl, rfl⟩
      go_wp2_with fail
      refine (HK.out _).mono ?_
      rintro e w9 ⟨rfl, b9⟩
      go_wp2
      go_ret
      exact ⟨rfl, below_then L7.out.a.bel b9⟩
    · have hR := HR1.out
      rw [if_pos rfl] at hR
      clear HR1
      by_cases hz : 1000 < pl
      · rw [if_pos hz] at hR H7
        simp only [Prod.mk.injEq] at hR
        obtain ⟨rfl, rfl⟩ := hR
        go_wp2_with fail
        refine (H6.out _).mono ?_
        rintro e w8 ⟨rfl, rfl⟩
        go_wp2_with fail
        refine (H7.out _ L7.out.a.bel).mono ?_
        rintro e w8 ⟨rfl, b8⟩
        have L8 := Lib.hid (L7.out.below b8)
        clear b8 L7 p7 H7
        go_wp2_with fail
        refine (HK.out _).mono ?_
        rintro e w9 ⟨rfl, b9⟩
        go_wp2
        go_ret
        exact ⟨rfl, below_then L8.out.a.bel b9⟩
      · rw [if_neg hz] at hR H7
        simp only [Prod.mk.injEq] at hR
        obtain ⟨rfl, rfl⟩ := hR
        have hx1 : ((pl : Int) == (pl : Int)) = true := by simp
        have hx2 : (0 : Int) ≤ (pl : Int) := by omega
        go_wp2_with fail
        refine (H6.out _).mono ?_
        rintro e w8 ⟨rfl, rfl⟩
        go_wp2_with fail
        refine (H7.out _ L7.out.a.bel).mono ?_
        rintro e w8 ⟨rfl, b8⟩
        have L8 := Lib.hid (L7.out.below b8)
        clear b8 L7 p7 H7
        go_wp2_with fail
        refine (HK.out _).mono ?_
        rintro e w9 ⟨rfl, b9⟩
        go_wp2
        go_ret
        exact ⟨rfl, below_then L8.out.a.bel b9⟩
  · have hR := HR.out
    rw [if_neg hE] at hR
    simp only [Prod.mk.injEq] at hR
    obtain ⟨rfl, rfl⟩ := hR
    clear HR H5 H6
    have hr0 : (t3 == 0) = false := by simpa using hE
    have hr1 : (t3 != 0) = true := by simpa using hE
    have hr3 : (t3 == t3) = true := by simp
    go_wp2_with fail
    refine (HK.out _).mono ?_
    rintro e w9 ⟨rfl, b9⟩
    go_wp2
    go_ret
    exact ⟨rfl, below_then L7.out.a.bel b9⟩
end Go.Proofs.Ytdekickmplkdiaa
