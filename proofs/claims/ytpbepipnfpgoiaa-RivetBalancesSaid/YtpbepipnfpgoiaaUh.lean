/- Walks: the law Balances. -/
import Derived.Test.YtpbepipnfpgoiaaUe
import Derived.Test.YtpbepipnfpgoiaaUg
namespace Go.Proofs.Ytpbepipnfpgoiaa
open Go.RowKit

/-- What the law Balances holds. -/
structure LY (w W : World) (l : List Stk) (A' : Option Addr) (n g : Nat) (c1 c2 : Array Value) : Prop where
  i : Stks W A' n l
  p : Blk W g 77 c1
  q : Blk W (g + 1) 77 c2
  bel : Below w.heap.size w W
theorem LY.below {w W W' : World} {l : List Stk} {A' : Option Addr} {n g : Nat} {c1 c2 : Array Value} (h : LY w W l A' n g c1 c2) (hb : Below W.heap.size W W') : LY w W' l A' n g c1 c2 :=
  ⟨h.i.below hb, blk_keep hb h.p, blk_keep hb h.q, below_then h.bel hb⟩
theorem LY.get {w W : World} {l : List Stk} {A' : Option Addr} {n g : Nat} {a1 a2 a3 a4 : Value} (h : LY w W l A' n g #[a1, a2] #[a3, a4]) : W.cell? ⟨g, 0, none⟩ = some a1 ∧ W.cell? ⟨g, 1, none⟩ = some a2 ∧ W.cell? ⟨g + 1, 0, none⟩ = some a3 ∧ W.cell? ⟨g + 1, 1, none⟩ = some a4 :=
  ⟨h.p.cell 0, h.p.cell 1, h.q.cell 0, h.q.cell 1⟩

set_option maxRecDepth 100000 in
set_option maxHeartbeats 4000000 in
theorem RivetBalances_any (l : List Stk) (A : Option Addr) (n c : Nat) (w : World) (h : Stks w A n l) (hn : n ≤ maxLen) :
    Calls Try.prog 11 #[.slice A n c] w fun e w' => e = .returned (.bool true) ∧ Below w.heap.size w w' := by
  have B0 := Lib.hid (Below.refl w.heap.size w)
  have HK := Lib.hid (fun W => known_any W)
  unfold KnownRes at HK
  have HN := Lib.hid hn
  have hn2 := hn
  unfold maxLen at hn2
  by_cases h50 : 20 < n
  · clear h hn HN
    go_enter Try.func11, Try.ntmps11
    go_wp2_with fail
    refine (HK.out _).mono ?_
    rintro e w1 ⟨rfl, b1⟩
    go_wp2
    go_ret
    exact ⟨rfl, below_then B0.out b1⟩
  have HC := Lib.hid (fun W (hb : Below w.heap.size w W) => LawOwn_any l A n c W (h.below hb) (by omega))
  unfold OwnSRes at HC
  have H1 := Lib.hid (fun A' c' W (hG : Stks W A' n l) => Balance_any l A' n c' W hG HN.out)
  have H3 := Lib.hid (fun W (hb : Below w.heap.size w W) => RefClosed_any l A n c W (h.below hb) HN.out)
  have H4 := Lib.hid (fun A' c' W (hG : Stks W A' n l) (hb : Below w.heap.size w W) => RefEqual_any l A' A n c' c W hG (h.below hb) HN.out)
  have hl := h.len
  by_cases hE : stkErr l = 0
  · by_cases hz : n = 0
    · have HO : Hid (balR l = ((0, 0), (0, 0), 7)) := by unfold Hid balR; rw [if_pos hE, hl, if_pos hz]
      simp only [HO.out] at H1
      rw [hE] at H3
      clear h hn HN hE HO hl
      subst hz
      go_enter Try.func11, Try.ntmps11
      go_wp2_with fail
      refine (HC.out _ B0.out).mono ?_
      rintro e w1 ⟨A', c', rfl, hG, b1⟩
      have B1 := Lib.hid (below_then B0.out b1)
      have G1 := Lib.hid hG
      clear hG b1
      go_wp2_with fail
      refine (H1.out _ _ _ G1.out).mono ?_
      rintro e w2 ⟨rfl, b2⟩
      have B2 := Lib.hid (below_then B1.out b2)
      have G2 := Lib.hid (G1.out.below b2)
      have P2 := Lib.hid (Blk.new w2 77 #[.int .i64 0, .int .i64 0] (g := w2.heap.size) rfl |>.alloc (.cells #[.int .i64 0, .int .i64 0] 77))
      have T3 := Lib.hid (T2.one w2 77 #[.int .i64 0, .int .i64 0] #[.int .i64 0, .int .i64 0] #[.int .i64 0, .int .i64 0])
      have T4 := Lib.hid (T3.out.two #[.int .i64 0, .int .i64 0])
      have L4 : Hid (LY w _ l A' 0 w2.heap.size _ _) := Lib.hid ⟨G2.out.below T4.out.bel, T4.out.p, T4.out.q, below_then B2.out T4.out.bel⟩
      clear b2 G1 B1
      go_wp2_with (first | (refine wpList_store_row rfl 77 _ _ rfl w2.heap.size _ rfl rfl 77 _ P2.out (by kernel_rfl) rfl (by kernel_rfl) ?_) | (refine wpList_store_row rfl 77 _ _ rfl (w2.heap.size + 1) _ rfl rfl 77 _ T3.out.q (by kernel_rfl) rfl (by kernel_rfl) ?_))
      refine (H4.out _ _ _ L4.out.i L4.out.bel).mono ?_
      rintro e w5 ⟨rfl, b5⟩
      have L5 := Lib.hid (L4.out.below b5)
      generalize w2.heap.size = g at *
      clear b5 P2 T3 T4 L4 B2 G2
      go_wp2_with fail
      refine (H3.out _ L5.out.bel).mono ?_
      rintro e w7 ⟨rfl, b7⟩
      have L7 := Lib.hid (L5.out.below b7)
      have p7 := L7.out.get
      clear b7 L5
      go_wp2_with fail
      refine (HK.out _).mono ?_
      rintro e w9 ⟨rfl, b9⟩
      go_wp2
      go_ret
      exact ⟨rfl, below_then L7.out.bel b9⟩
    · have HO : Hid (balR l = (lowR (balL false l), lowR (balL true l), 0)) := by unfold Hid balR; rw [if_pos hE, hl, if_neg hz]
      have hs := stkB_of hE
      have H5 := Lib.hid (fun W (hb : Below w.heap.size w W) => RefBalance_any l A n c W hs (h.below hb) (by omega))
      simp only [HO.out] at H1
      rw [hE] at H3
      clear h hn HN hE HO hl hs
      have hz1 : ((n : Int) == 0) = false := by simpa using hz
      have hz2 : decide (n = 0) = false := by simpa using hz
      generalize lowR (balL false l) = r1 at *
      generalize lowR (balL true l) = r2 at *
      obtain ⟨a1, a2⟩ := r1
      obtain ⟨a3, a4⟩ := r2
      simp only at H1 H5
      have z1 : (a1 == a1) = true := by simp
      have z2 : (a2 == a2) = true := by simp
      have z3 : (a3 == a3) = true := by simp
      have z4 : (a4 == a4) = true := by simp
      go_enter Try.func11, Try.ntmps11
      go_wp2_with fail
      refine (HC.out _ B0.out).mono ?_
      rintro e w1 ⟨A', c', rfl, hG, b1⟩
      have B1 := Lib.hid (below_then B0.out b1)
      have G1 := Lib.hid hG
      clear hG b1
      go_wp2_with fail
      refine (H1.out _ _ _ G1.out).mono ?_
      rintro e w2 ⟨rfl, b2⟩
      have B2 := Lib.hid (below_then B1.out b2)
      have G2 := Lib.hid (G1.out.below b2)
      have P2 := Lib.hid (Blk.new w2 77 #[.int .i64 0, .int .i64 0] (g := w2.heap.size) rfl |>.alloc (.cells #[.int .i64 0, .int .i64 0] 77))
      have T3 := Lib.hid (T2.one w2 77 #[.int .i64 0, .int .i64 0] #[.int .i64 0, .int .i64 0] #[.int .i64 a1, .int .i64 a2])
      have T4 := Lib.hid (T3.out.two #[.int .i64 a3, .int .i64 a4])
      have L4 : Hid (LY w _ l A' n w2.heap.size _ _) := Lib.hid ⟨G2.out.below T4.out.bel, T4.out.p, T4.out.q, below_then B2.out T4.out.bel⟩
      clear b2 G1 B1
      go_wp2_with (first | (refine wpList_store_row rfl 77 _ _ rfl w2.heap.size _ rfl rfl 77 _ P2.out (by kernel_rfl) rfl (by kernel_rfl) ?_) | (refine wpList_store_row rfl 77 _ _ rfl (w2.heap.size + 1) _ rfl rfl 77 _ T3.out.q (by kernel_rfl) rfl (by kernel_rfl) ?_))
      refine (H4.out _ _ _ L4.out.i L4.out.bel).mono ?_
      rintro e w5 ⟨rfl, b5⟩
      have L5 := Lib.hid (L4.out.below b5)
      generalize w2.heap.size = g at *
      clear b5 P2 T3 T4 L4 B2 G2
      go_wp2_with fail
      refine (H3.out _ L5.out.bel).mono ?_
      rintro e w7 ⟨rfl, b7⟩
      have L7 := Lib.hid (L5.out.below b7)
      have p7 := L7.out.get
      clear b7 L5
      go_wp2_with fail
      refine (H5.out _ L7.out.bel).mono ?_
      rintro e w8 ⟨rfl, b8⟩
      have L8 := Lib.hid (L7.out.below b8)
      have P8 := Lib.hid (Blk.new w8 77 #[.int .i64 0, .int .i64 0] (g := w8.heap.size) rfl |>.alloc (.cells #[.int .i64 0, .int .i64 0] 77))
      have T8 := Lib.hid (T2.one w8 77 #[.int .i64 0, .int .i64 0] #[.int .i64 0, .int .i64 0] #[.int .i64 a1, .int .i64 a2])
      have T9 := Lib.hid (T8.out.two #[.int .i64 a3, .int .i64 a4])
      have L9 := Lib.hid (L8.out.below T9.out.bel)
      clear b8 p7 L7
      go_wp2_with (first | (refine wpList_store_row rfl 77 _ _ rfl w8.heap.size _ rfl rfl 77 _ P8.out (by kernel_rfl) rfl (by kernel_rfl) ?_) | (refine wpList_store_row rfl 77 _ _ rfl (w8.heap.size + 1) _ rfl rfl 77 _ T8.out.q (by kernel_rfl) rfl (by kernel_rfl) ?_; have p9 := L9.out.get; have q9 := pair_get T9.out.p; have r9 := pair_get T9.out.q))
      refine (HK.out _).mono ?_
      rintro e w9 ⟨rfl, b9⟩
      go_wp2
      go_ret
      exact ⟨rfl, below_then L9.out.bel b9⟩
  · have HO : Hid (balR l = ((0, 0), (0, 0), stkErr l)) := if_neg hE
    simp only [HO.out] at H1
    have hr0 : (stkErr l != 0) = true := by simpa using hE
    have hr1 : (stkErr l == 0) = false := by simpa using hE
    have hr2 : (stkErr l == stkErr l) = true := by simp
    have hr3 : (stkErr l != stkErr l) = false := by simp
    clear h hn HN HO hl
    generalize stkErr l = r at *
    go_enter Try.func11, Try.ntmps11
    go_wp2_with fail
    refine (HC.out _ B0.out).mono ?_
    rintro e w1 ⟨A', c', rfl, hG, b1⟩
    have B1 := Lib.hid (below_then B0.out b1)
    have G1 := Lib.hid hG
    clear hG b1
    go_wp2_with fail
    refine (H1.out _ _ _ G1.out).mono ?_
    rintro e w2 ⟨rfl, b2⟩
    have B2 := Lib.hid (below_then B1.out b2)
    have G2 := Lib.hid (G1.out.below b2)
    have P2 := Lib.hid (Blk.new w2 77 #[.int .i64 0, .int .i64 0] (g := w2.heap.size) rfl |>.alloc (.cells #[.int .i64 0, .int .i64 0] 77))
    have T3 := Lib.hid (T2.one w2 77 #[.int .i64 0, .int .i64 0] #[.int .i64 0, .int .i64 0] #[.int .i64 0, .int .i64 0])
    have T4 := Lib.hid (T3.out.two #[.int .i64 0, .int .i64 0])
    have L4 : Hid (LY w _ l A' n w2.heap.size _ _) := Lib.hid ⟨G2.out.below T4.out.bel, T4.out.p, T4.out.q, below_then B2.out T4.out.bel⟩
    clear b2 G1 B1
    go_wp2_with (first | (refine wpList_store_row rfl 77 _ _ rfl w2.heap.size _ rfl rfl 77 _ P2.out (by kernel_rfl) rfl (by kernel_rfl) ?_) | (refine wpList_store_row rfl 77 _ _ rfl (w2.heap.size + 1) _ rfl rfl 77 _ T3.out.q (by kernel_rfl) rfl (by kernel_rfl) ?_))
    refine (H4.out _ _ _ L4.out.i L4.out.bel).mono ?_
    rintro e w5 ⟨rfl, b5⟩
    have L5 := Lib.hid (L4.out.below b5)
    generalize w2.heap.size = g at *
    clear b5 P2 T3 T4 L4 B2 G2
    go_wp2_with fail
    refine (H3.out _ L5.out.bel).mono ?_
    rintro e w7 ⟨rfl, b7⟩
    have L7 := Lib.hid (L5.out.below b7)
    have p7 := L7.out.get
    clear b7 L5
    go_wp2_with fail
    refine (HK.out _).mono ?_
    rintro e w9 ⟨rfl, b9⟩
    go_wp2
    go_ret
    exact ⟨rfl, below_then L7.out.bel b9⟩
end Go.Proofs.Ytpbepipnfpgoiaa
