/- Walks: the law of Widen. -/
import Derived.Test.YtpbepipnfpgoiaaSm
import Derived.Test.YtpbepipnfpgoiaaSg
namespace Go.Proofs.Ytpbepipnfpgoiaa
open Go.RowKit

theorem within_inB (a b n : Int) : within a b [n] = inB n a b := by
  unfold within inB
  simp
set_option maxRecDepth 100000 in
set_option maxHeartbeats 4000000 in
theorem RivetWidens_any (f : Fan) (A : Option Addr) (n c : Nat) (more : Int) (w : World) (h : Gaps w A n f.gs) (hn : n ≤ maxLen) :
    Calls Try.prog 6 #[.agg (fanA f A n c), .int .i64 more] w fun e w' => e = .returned (.bool true) ∧ Below w.heap.size w w' := by
  have L0 := Lib.hid (LA.start w f A n c)
  have HK := Lib.hid (fun W => known_any W)
  unfold KnownRes at HK
  have HN := Lib.hid hn
  have hn2 := hn
  unfold maxLen at hn2
  have hl := h.len
  by_cases h50 : 50 < n
  · clear h hn HN hl
    obtain ⟨fa, fb, fc, fd, gs⟩ := f
    simp only [fanA] at *
    go_enter Try.func6, Try.ntmps6
    go_wp2_with fail
    refine (HK.out _).mono ?_
    rintro e w1 ⟨rfl, b1⟩
    go_wp2
    go_ret
    exact ⟨rfl, below_then L0.out.bel b1⟩
  have HC := Lib.hid (fun W (hb : Below w.heap.size w W) => RefCopy_any f A n c W (h.below hb) (by omega))
  unfold FanRes at HC
  have H2 := Lib.hid (fun A' c' W (hG : Gaps W A' n f.gs) => Widen_any f more A' n c' W hG HN.out)
  have H3 := Lib.hid (fun W (hb : Below w.heap.size w W) => RefCheck_any f A n c W (h.below hb) HN.out)
  have H4 := Lib.hid (fun A' c' W (hG : Gaps W A' n f.gs) (hb : Below w.heap.size w W) => RefSame_any f A' A n c' c W hG (h.below hb) HN.out)
  have H6 := Lib.hid (fun W => RefIn_any more 0 1000 W)
  have HI : Hid (inB more 0 1000 = true → 0 ≤ more ∧ more ≤ 1000) := fun h => by simpa [inB] using h
  have H5 := Lib.hid (fun (hE : fanErr f = 0) (hi : inB more 0 1000 = true) W (hb : Below w.heap.size w W) => RefWiden_any f more A n c W (h.below hb) hE (HI.out hi).1 (HI.out hi).2)
  have HR : Hid (widenR f more = if fanErr f = 0 then (if inB more 0 1000 = true then (if n = 0 then (0, 0, 7) else ((widenGo f more n).1, (widenGo f more n).2, 0)) else (0, 0, 4)) else (0, 0, fanErr f)) := by
    unfold Hid widenR; rw [within_inB, hl]
  clear h hn HN hl HI
  generalize widenR f more = t at *
  generalize fanErr f = r at *
  generalize widenGo f more n = go at *
  generalize inB more 0 1000 = ib at *
  obtain ⟨t1, t2, t3⟩ := t
  obtain ⟨g1, g2⟩ := go
  obtain ⟨fa, fb, fc, fd, gs⟩ := f
  simp only [fanA] at HC H2 H3 H4 H5 ⊢
  have p0 := fan_get L0.out.b
  go_enter Try.func6, Try.ntmps6
  go_wp2_with fail
  refine (HC.out _ L0.out.bel).mono ?_
  rintro e w1 ⟨A', c', rfl, hG, b1⟩
  have L1 := Lib.hid (L0.out.below b1)
  have G1 := Lib.hid hG
  have S1 := Lib.hid (Blk.new w1 26 #[.int .i64 0, .int .i64 0, .int .i64 0, .int .i64 0, .slice none 0 0] (g := w1.heap.size) rfl)
  clear b1 hG p0 L0 HC
  go_wp2_with (refine wpList_store_row rfl 26 _ _ rfl w1.heap.size _ rfl rfl 26 _ S1.out (by kernel_rfl) rfl (by kernel_rfl) ?_; have L2 := Lib.hid (LB.start (c' := c') L1.out G1.out #[.int .i64 0, .int .i64 0, .int .i64 0, .int .i64 0, .slice none 0 0]); simp only [fanA] at L2; have p2 := fan_get L2.out.b; clear L1 G1 S1)
  refine (H2.out _ _ _ L2.out.r).mono ?_
  rintro e w4 ⟨rfl, b4⟩
  have L4 := Lib.hid (L2.out.below b4)
  have p4 := fan_get L4.out.a.b
  have q4 := fan_get L4.out.b
  clear b4 p2 L2 H2
  generalize w1.heap.size = g at *
  go_wp2_with fail
  refine (H4.out _ _ _ L4.out.r L4.out.a.bel).mono ?_
  rintro e w6 ⟨rfl, b6⟩
  have L6 := Lib.hid (L4.out.below b6)
  have p6 := fan_get L6.out.a.b
  clear b6 p4 q4 L4 H4
  go_wp2_with fail
  refine (H3.out _ L6.out.a.bel).mono ?_
  rintro e w7 ⟨rfl, b7⟩
  have L7 := Lib.hid (L6.out.below b7)
  have p7 := fan_get L7.out.a.b
  clear b7 p6 L6 H3
  by_cases hE : r = 0
  · subst hE
    have HR1 : Hid ((t1, t2, t3) = if ib = true then (if n = 0 then (0, 0, 7) else (g1, g2, 0)) else (0, 0, 4)) := by unfold Hid; rw [HR.out, if_pos rfl]
    clear HR
    cases ib
    · have hR := HR1.out
      rw [if_neg (by simp)] at hR
      simp only [Prod.mk.injEq] at hR
      obtain ⟨rfl, rfl, rfl⟩ := hR
      clear HR1 H5
      go_wp2_with fail
      refine (H6.out _).mono ?_
      rintro e w8 ⟨rfl, rfl⟩
      go_wp2_with fail
      refine (HK.out _).mono ?_
      rintro e w9 ⟨rfl, b9⟩
      go_wp2
      go_ret
      exact ⟨rfl, below_then L7.out.a.bel b9⟩
    · have hR := HR1.out
      rw [if_pos rfl] at hR
      have H7 := Lib.hid (fun W hb => H5.out (by first | rfl | trivial) (by first | rfl | trivial) W hb)
      clear HR1 H5
      by_cases hz : n = 0
      · rw [if_pos hz] at hR
        simp only [Prod.mk.injEq] at hR
        obtain ⟨rfl, rfl, rfl⟩ := hR
        subst hz
        clear H7
        go_wp2_with fail
        refine (H6.out _).mono ?_
        rintro e w8 ⟨rfl, rfl⟩
        go_wp2_with fail
        refine (HK.out _).mono ?_
        rintro e w9 ⟨rfl, b9⟩
        go_wp2
        go_ret
        exact ⟨rfl, below_then L7.out.a.bel b9⟩
      · rw [if_neg hz] at hR
        simp only [Prod.mk.injEq] at hR
        obtain ⟨rfl, rfl, rfl⟩ := hR
        have hz2 : ((n : Int) == 0) = false := by simpa using hz
        have hx1 : (t1 == t1) = true := by simp
        have hx2 : (t2 == t2) = true := by simp
        go_wp2_with fail
        refine (H6.out _).mono ?_
        rintro e w8 ⟨rfl, rfl⟩
        go_wp2_with fail
        refine (H7.out _ L7.out.a.bel).mono ?_
        rintro e w9 ⟨rfl, b9⟩
        have L9 := Lib.hid (L7.out.below b9)
        clear b9 L7 p7 H7
        go_wp2_with fail
        refine (HK.out _).mono ?_
        rintro e w10 ⟨rfl, b10⟩
        go_wp2
        go_ret
        exact ⟨rfl, below_then L9.out.a.bel b10⟩
  · have hR := HR.out
    rw [if_neg hE] at hR
    simp only [Prod.mk.injEq] at hR
    obtain ⟨rfl, rfl, rfl⟩ := hR
    clear HR H5 H6
    have hr0 : (t3 == 0) = false := by simpa using hE
    have hr1 : (t3 != 0) = true := by simpa using hE
    have hr3 : (t3 == t3) = true := by simp
    go_wp2_with fail
    refine (HK.out _).mono ?_
    rintro e w8 ⟨rfl, b8⟩
    go_wp2
    go_ret
    exact ⟨rfl, below_then L7.out.a.bel b8⟩
end Go.Proofs.Ytpbepipnfpgoiaa
