/- Walks: the law Wrongs. -/
import Derived.Test.YtpbepipnfpgoiaaUp
import Derived.Test.YtpbepipnfpgoiaaSq
namespace Go.Proofs.Ytpbepipnfpgoiaa
open Go.RowKit

/-- What the law Wrongs holds. -/
structure LU (w W : World) (f : Fan) (A : Option Addr) (n c : Nat) (s1 s2 : Int) (g : Nat) (A' : Option Addr) (c' : Nat) : Prop where
  e : Env2 w W 26 23 (fanA f A n c) #[.int .i64 s1, .int .i64 s2]
  b : Blk W g 26 (fanA f A' n c')
  r : Gaps W A' n f.gs
section
variable {w W W' : World} {f : Fan} {A A' : Option Addr} {n c c' g : Nat} {s1 s2 : Int}
theorem LU.below (h : LU w W f A n c s1 s2 g A' c') (hb : Below W.heap.size W W') : LU w W' f A n c s1 s2 g A' c' := ⟨h.e.below hb, blk_keep hb h.b, h.r.below hb⟩
theorem LU.start {fan : Array Value} (h : Env2 w W 26 23 (fanA f A n c) #[.int .i64 s1, .int .i64 s2]) (hG : Gaps W A' n f.gs) (z : Array Value) (hfan : fan = fanA f A' n c') : LU w ((W.alloc (.cells z 26)).setRow W.heap.size fan) f A n c s1 s2 W.heap.size A' c' :=
  have hb := below_setR (below_self W (.cells z 26)) (Nat.le_refl _) fan
  ⟨h.below hb, hfan ▸ (Blk.new W _ z rfl).setRow _, hG.below hb⟩
end
theorem ints_row {W : World} {v : Value} {xs : List Int} (h : IntRow W v xs) : ∃ A c, v = .slice A xs.length c ∧ Ints W A xs.length xs := by
  obtain ⟨A, c, e, hi, _⟩ := h
  exact ⟨A, c, e, hi⟩
theorem valid_deg (s1 s2 : Int) : validS 0 360 [(s1, s2)] = (inB s1 0 360 && (inB s2 0 360 && decide (s1 ≤ s2))) := by
  rw [Bool.eq_iff_iff]
  simp only [inB, validS, List.all_cons, List.all_nil, Bool.and_eq_true, decide_eq_true_eq, Bool.and_true]
  omega

set_option maxRecDepth 100000 in
set_option maxHeartbeats 8000000 in
theorem RivetWrongs_any (f : Fan) (s1 s2 : Int) (A : Option Addr) (n c : Nat) (w : World) (h : Gaps w A n f.gs) (hn : n ≤ maxLen) :
    Calls Try.prog 7 #[.agg (fanA f A n c), .agg #[.int .i64 s1, .int .i64 s2]] w fun e w' => e = .returned (.bool true) ∧ Below w.heap.size w w' := by
  have E0 := Lib.hid (Env2.start w 26 23 (fanA f A n c) #[.int .i64 s1, .int .i64 s2])
  have HK := Lib.hid (fun W => known_any W)
  unfold KnownRes at HK
  have HN := Lib.hid hn
  have hn2 := hn
  unfold maxLen at hn2
  have hl := h.len
  have H0 := Lib.hid (fun W (hb : Below w.heap.size w W) => RefCheck_any f A n c W (h.below hb) HN.out)
  have HD1 := Lib.hid (fun W => degree_any s1 W)
  have HD2 := Lib.hid (fun W => degree_any s2 W)
  have HC := Lib.hid (fun (h5 : n ≤ 1000) W (hb : Below w.heap.size w W) => RefCopy_any f A n c W (h.below hb) h5)
  unfold FanRes at HC
  have H1 := Lib.hid (fun A' c' W (hG : Gaps W A' n f.gs) => Wrong_any f s1 s2 A' n c' W hG HN.out)
  unfold WrongRes at H1
  have H4 := Lib.hid (fun A' c' W (hG : Gaps W A' n f.gs) (hb : Below w.heap.size w W) => RefSame_any f A' A n c' c W hG (h.below hb) HN.out)
  have HR := Lib.hid (fun (hf : FanB f) (h10 : n ≤ 10) W (hb : Below w.heap.size w W) => RefWrong_any f s1 s2 A n c W hf (h.below hb) h10)
  unfold WRes at HR
  by_cases hE : fanErr f = 0
  · have hfb := fanB_of hE
    have hf := hfb.1
    have h40 : n ≤ 40 := by omega
    rw [hE] at H0
    cases q : validS 0 360 [(s1, s2)]
    · have hw : wrongE f (s1, s2) = 4 := by unfold wrongE; rw [if_pos hE, q]; rfl
      have hw2 : wrongL f (s1, s2) = [] := by unfold wrongL; rw [hw]; rfl
      rw [hw, hw2] at H1
      rw [valid_deg] at q
      clear h hn HN hE hf hfb hl hw hw2 HR
      obtain ⟨fa, fb, fc, fd, gs⟩ := f
      simp only [fanA] at *
      cases q1 : inB s1 0 360
      · rw [q1] at HD1
        clear q q1 HD2
        have p0 := fan_get E0.out.p
        go_enter Try.func7, Try.ntmps7
        go_wp2_with fail
        refine (H0.out _ E0.out.bel).mono ?_
        rintro e w1 ⟨rfl, b1⟩
        have E1 := Lib.hid (E0.out.below b1)
        have p1 := fan_get E1.out.p
        have q1' := pair_get E1.out.q
        clear b1 p0 E0 H0
        go_wp2_with fail
        refine (HD1.out _).mono ?_
        rintro e wq ⟨rfl, rfl⟩
        go_wp2_with fail
        refine (HC.out (by omega) _ E1.out.bel).mono ?_
        rintro e w2 ⟨A', c', rfl, hG, b2⟩
        have E2 := Lib.hid (E1.out.below b2)
        have G2 := Lib.hid hG
        have S2 := Lib.hid (Blk.new w2 26 #[.int .i64 0, .int .i64 0, .int .i64 0, .int .i64 0, .slice none 0 0] (g := w2.heap.size) rfl)
        have L3 : Hid (LU w _ ⟨fa, fb, fc, fd, gs⟩ A n c s1 s2 w2.heap.size A' c') := Lib.hid (LU.start (fan := #[.int .i64 fa, .int .i64 fb, .int .i64 fc, .int .i64 fd, .slice A' n c']) E2.out G2.out #[.int .i64 0, .int .i64 0, .int .i64 0, .int .i64 0, .slice none 0 0] rfl)
        clear b2 hG p1 q1' E1 HC
        go_wp2_with (refine wpList_store_row rfl 26 _ _ rfl w2.heap.size _ rfl rfl 26 _ S2.out (by kernel_rfl) rfl (by kernel_rfl) ?_; have p3 := fan_get L3.out.b; have q3' := pair_get L3.out.e.q)
        refine (H1.out _ _ _ L3.out.r).mono ?_
        rintro e w4 ⟨v, rfl, ho, b4⟩
        have L4 := Lib.hid (L3.out.below b4)
        have p4 := fan_get L4.out.b
        have q4' := fan_get L4.out.e.p
        obtain ⟨A8, c8, rfl⟩ := own_slice ho
        clear b4 p3 q3' L3 S2 E2 G2 H1 ho
        generalize w2.heap.size = g at *
        go_wp2_with fail
        refine (H4.out _ _ _ L4.out.r L4.out.e.bel).mono ?_
        rintro e w5 ⟨rfl, b5⟩
        have L5 := Lib.hid (L4.out.below b5)
        have p5 := fan_get L5.out.e.p
        have q5' := pair_get L5.out.e.q
        clear b5 p4 q4' L4 H4
        go_wp2_with fail
        refine (HK.out _).mono ?_
        rintro e w9 ⟨rfl, b9⟩
        go_wp2
        go_ret
        exact ⟨rfl, below_then L5.out.e.bel b9⟩
      · rw [q1] at HD1 q
        cases q2 : inB s2 0 360
        · rw [q2] at HD2
          clear q q1 q2
          have p0 := fan_get E0.out.p
          go_enter Try.func7, Try.ntmps7
          go_wp2_with fail
          refine (H0.out _ E0.out.bel).mono ?_
          rintro e w1 ⟨rfl, b1⟩
          have E1 := Lib.hid (E0.out.below b1)
          have p1 := fan_get E1.out.p
          have q1' := pair_get E1.out.q
          clear b1 p0 E0 H0
          go_wp2_with fail
          refine (HD1.out _).mono ?_
          rintro e wq ⟨rfl, rfl⟩
          go_wp2_with fail
          refine (HD2.out _).mono ?_
          rintro e wq ⟨rfl, rfl⟩
          go_wp2_with fail
          refine (HC.out (by omega) _ E1.out.bel).mono ?_
          rintro e w2 ⟨A', c', rfl, hG, b2⟩
          have E2 := Lib.hid (E1.out.below b2)
          have G2 := Lib.hid hG
          have S2 := Lib.hid (Blk.new w2 26 #[.int .i64 0, .int .i64 0, .int .i64 0, .int .i64 0, .slice none 0 0] (g := w2.heap.size) rfl)
          have L3 : Hid (LU w _ ⟨fa, fb, fc, fd, gs⟩ A n c s1 s2 w2.heap.size A' c') := Lib.hid (LU.start (fan := #[.int .i64 fa, .int .i64 fb, .int .i64 fc, .int .i64 fd, .slice A' n c']) E2.out G2.out #[.int .i64 0, .int .i64 0, .int .i64 0, .int .i64 0, .slice none 0 0] rfl)
          clear b2 hG p1 q1' E1 HC
          go_wp2_with (refine wpList_store_row rfl 26 _ _ rfl w2.heap.size _ rfl rfl 26 _ S2.out (by kernel_rfl) rfl (by kernel_rfl) ?_; have p3 := fan_get L3.out.b; have q3' := pair_get L3.out.e.q)
          refine (H1.out _ _ _ L3.out.r).mono ?_
          rintro e w4 ⟨v, rfl, ho, b4⟩
          have L4 := Lib.hid (L3.out.below b4)
          have p4 := fan_get L4.out.b
          have q4' := fan_get L4.out.e.p
          obtain ⟨A8, c8, rfl⟩ := own_slice ho
          clear b4 p3 q3' L3 S2 E2 G2 H1 ho
          generalize w2.heap.size = g at *
          go_wp2_with fail
          refine (H4.out _ _ _ L4.out.r L4.out.e.bel).mono ?_
          rintro e w5 ⟨rfl, b5⟩
          have L5 := Lib.hid (L4.out.below b5)
          have p5 := fan_get L5.out.e.p
          have q5' := pair_get L5.out.e.q
          clear b5 p4 q4' L4 H4
          go_wp2_with fail
          refine (HK.out _).mono ?_
          rintro e w9 ⟨rfl, b9⟩
          go_wp2
          go_ret
          exact ⟨rfl, below_then L5.out.e.bel b9⟩
        · rw [q2] at HD2 q
          have q3 : s2 < s1 := by simpa using q
          clear q q1 q2
          have p0 := fan_get E0.out.p
          go_enter Try.func7, Try.ntmps7
          go_wp2_with fail
          refine (H0.out _ E0.out.bel).mono ?_
          rintro e w1 ⟨rfl, b1⟩
          have E1 := Lib.hid (E0.out.below b1)
          have p1 := fan_get E1.out.p
          have q1' := pair_get E1.out.q
          clear b1 p0 E0 H0
          go_wp2_with fail
          refine (HD1.out _).mono ?_
          rintro e wq ⟨rfl, rfl⟩
          go_wp2_with fail
          refine (HD2.out _).mono ?_
          rintro e wq ⟨rfl, rfl⟩
          go_wp2_with fail
          refine (HC.out (by omega) _ E1.out.bel).mono ?_
          rintro e w2 ⟨A', c', rfl, hG, b2⟩
          have E2 := Lib.hid (E1.out.below b2)
          have G2 := Lib.hid hG
          have S2 := Lib.hid (Blk.new w2 26 #[.int .i64 0, .int .i64 0, .int .i64 0, .int .i64 0, .slice none 0 0] (g := w2.heap.size) rfl)
          have L3 : Hid (LU w _ ⟨fa, fb, fc, fd, gs⟩ A n c s1 s2 w2.heap.size A' c') := Lib.hid (LU.start (fan := #[.int .i64 fa, .int .i64 fb, .int .i64 fc, .int .i64 fd, .slice A' n c']) E2.out G2.out #[.int .i64 0, .int .i64 0, .int .i64 0, .int .i64 0, .slice none 0 0] rfl)
          clear b2 hG p1 q1' E1 HC
          go_wp2_with (refine wpList_store_row rfl 26 _ _ rfl w2.heap.size _ rfl rfl 26 _ S2.out (by kernel_rfl) rfl (by kernel_rfl) ?_; have p3 := fan_get L3.out.b; have q3' := pair_get L3.out.e.q)
          refine (H1.out _ _ _ L3.out.r).mono ?_
          rintro e w4 ⟨v, rfl, ho, b4⟩
          have L4 := Lib.hid (L3.out.below b4)
          have p4 := fan_get L4.out.b
          have q4' := fan_get L4.out.e.p
          obtain ⟨A8, c8, rfl⟩ := own_slice ho
          clear b4 p3 q3' L3 S2 E2 G2 H1 ho
          generalize w2.heap.size = g at *
          go_wp2_with fail
          refine (H4.out _ _ _ L4.out.r L4.out.e.bel).mono ?_
          rintro e w5 ⟨rfl, b5⟩
          have L5 := Lib.hid (L4.out.below b5)
          have p5 := fan_get L5.out.e.p
          have q5' := pair_get L5.out.e.q
          clear b5 p4 q4' L4 H4
          go_wp2_with fail
          refine (HK.out _).mono ?_
          rintro e w9 ⟨rfl, b9⟩
          go_wp2
          go_ret
          exact ⟨rfl, below_then L5.out.e.bel b9⟩
    · have hlaw := wrong_law hE q
      rw [hl] at hlaw
      have q1 := q
      rw [valid_deg] at q1
      simp only [Bool.and_eq_true, decide_eq_true_eq] at q1
      obtain ⟨q1, q2, q3⟩ := q1
      rw [q1] at HD1
      rw [q2] at HD2
      by_cases h10 : 10 < n
      · clear h hn HN hE hf hfb hl hlaw q q1 q2 HR H1 H4 HC
        obtain ⟨fa, fb, fc, fd, gs⟩ := f
        simp only [fanA] at *
        have p0 := fan_get E0.out.p
        go_enter Try.func7, Try.ntmps7
        go_wp2_with fail
        refine (H0.out _ E0.out.bel).mono ?_
        rintro e w1 ⟨rfl, b1⟩
        have E1 := Lib.hid (E0.out.below b1)
        have p1 := fan_get E1.out.p
        have q1' := pair_get E1.out.q
        clear b1 p0 E0 H0
        go_wp2_with fail
        refine (HD1.out _).mono ?_
        rintro e wq ⟨rfl, rfl⟩
        go_wp2_with fail
        refine (HD2.out _).mono ?_
        rintro e wq ⟨rfl, rfl⟩
        go_wp2_with fail
        refine (HK.out _).mono ?_
        rintro e w9 ⟨rfl, b9⟩
        go_wp2
        go_ret
        exact ⟨rfl, below_then E1.out.bel b9⟩
      · have HR2 := Lib.hid (HR.out hf (by omega))
        rcases hlaw with ⟨hw, hw2, hr⟩ | ⟨hw, hw2, hr⟩ | ⟨hw, L, hL0, hw2, hr⟩
        · rw [hw, hw2] at H1
          simp only [hr, Option.isSome_some, Option.getD_some] at HR2
          clear h hn HN hE hf hfb hl hw hw2 hr q q1 q2 HR
          obtain ⟨fa, fb, fc, fd, gs⟩ := f
          simp only [fanA] at *
          have p0 := fan_get E0.out.p
          go_enter Try.func7, Try.ntmps7
          go_wp2_with fail
          refine (H0.out _ E0.out.bel).mono ?_
          rintro e w1 ⟨rfl, b1⟩
          have E1 := Lib.hid (E0.out.below b1)
          have p1 := fan_get E1.out.p
          have q1' := pair_get E1.out.q
          clear b1 p0 E0 H0
          go_wp2_with fail
          refine (HD1.out _).mono ?_
          rintro e wq ⟨rfl, rfl⟩
          go_wp2_with fail
          refine (HD2.out _).mono ?_
          rintro e wq ⟨rfl, rfl⟩
          go_wp2_with fail
          refine (HC.out (by omega) _ E1.out.bel).mono ?_
          rintro e w2 ⟨A', c', rfl, hG, b2⟩
          have E2 := Lib.hid (E1.out.below b2)
          have G2 := Lib.hid hG
          have S2 := Lib.hid (Blk.new w2 26 #[.int .i64 0, .int .i64 0, .int .i64 0, .int .i64 0, .slice none 0 0] (g := w2.heap.size) rfl)
          have L3 : Hid (LU w _ ⟨fa, fb, fc, fd, gs⟩ A n c s1 s2 w2.heap.size A' c') := Lib.hid (LU.start (fan := #[.int .i64 fa, .int .i64 fb, .int .i64 fc, .int .i64 fd, .slice A' n c']) E2.out G2.out #[.int .i64 0, .int .i64 0, .int .i64 0, .int .i64 0, .slice none 0 0] rfl)
          clear b2 hG p1 q1' E1 HC
          go_wp2_with (refine wpList_store_row rfl 26 _ _ rfl w2.heap.size _ rfl rfl 26 _ S2.out (by kernel_rfl) rfl (by kernel_rfl) ?_; have p3 := fan_get L3.out.b; have q3' := pair_get L3.out.e.q)
          refine (H1.out _ _ _ L3.out.r).mono ?_
          rintro e w4 ⟨v, rfl, ho, b4⟩
          have L4 := Lib.hid (L3.out.below b4)
          have p4 := fan_get L4.out.b
          have q4' := fan_get L4.out.e.p
          obtain ⟨A8, c8, rfl⟩ := own_slice ho
          clear b4 p3 q3' L3 S2 E2 G2 H1 ho
          generalize w2.heap.size = g at *
          go_wp2_with fail
          refine (H4.out _ _ _ L4.out.r L4.out.e.bel).mono ?_
          rintro e w5 ⟨rfl, b5⟩
          have L5 := Lib.hid (L4.out.below b5)
          have p5 := fan_get L5.out.e.p
          have q5' := pair_get L5.out.e.q
          clear b5 p4 q4' L4 H4
          go_wp2_with fail
          refine (HR2.out _ L5.out.e.bel).mono ?_
          rintro e w6 ⟨v6, rfl, hrow6, b6⟩
          have L6 := Lib.hid (L5.out.below b6)
          obtain ⟨A9, c9, rfl, _⟩ := hrow6
          clear b6 p5 q5' L5 HR2
          go_wp2_with fail
          refine (HK.out _).mono ?_
          rintro e w9 ⟨rfl, b9⟩
          go_wp2
          go_ret
          exact ⟨rfl, below_then L6.out.e.bel b9⟩
        · rw [hw, hw2] at H1
          simp only [hr, Option.isSome_none, Option.getD_none] at HR2
          clear h hn HN hE hf hfb hl hw hw2 hr q q1 q2 HR
          obtain ⟨fa, fb, fc, fd, gs⟩ := f
          simp only [fanA] at *
          have p0 := fan_get E0.out.p
          go_enter Try.func7, Try.ntmps7
          go_wp2_with fail
          refine (H0.out _ E0.out.bel).mono ?_
          rintro e w1 ⟨rfl, b1⟩
          have E1 := Lib.hid (E0.out.below b1)
          have p1 := fan_get E1.out.p
          have q1' := pair_get E1.out.q
          clear b1 p0 E0 H0
          go_wp2_with fail
          refine (HD1.out _).mono ?_
          rintro e wq ⟨rfl, rfl⟩
          go_wp2_with fail
          refine (HD2.out _).mono ?_
          rintro e wq ⟨rfl, rfl⟩
          go_wp2_with fail
          refine (HC.out (by omega) _ E1.out.bel).mono ?_
          rintro e w2 ⟨A', c', rfl, hG, b2⟩
          have E2 := Lib.hid (E1.out.below b2)
          have G2 := Lib.hid hG
          have S2 := Lib.hid (Blk.new w2 26 #[.int .i64 0, .int .i64 0, .int .i64 0, .int .i64 0, .slice none 0 0] (g := w2.heap.size) rfl)
          have L3 : Hid (LU w _ ⟨fa, fb, fc, fd, gs⟩ A n c s1 s2 w2.heap.size A' c') := Lib.hid (LU.start (fan := #[.int .i64 fa, .int .i64 fb, .int .i64 fc, .int .i64 fd, .slice A' n c']) E2.out G2.out #[.int .i64 0, .int .i64 0, .int .i64 0, .int .i64 0, .slice none 0 0] rfl)
          clear b2 hG p1 q1' E1 HC
          go_wp2_with (refine wpList_store_row rfl 26 _ _ rfl w2.heap.size _ rfl rfl 26 _ S2.out (by kernel_rfl) rfl (by kernel_rfl) ?_; have p3 := fan_get L3.out.b; have q3' := pair_get L3.out.e.q)
          refine (H1.out _ _ _ L3.out.r).mono ?_
          rintro e w4 ⟨v, rfl, ho, b4⟩
          have L4 := Lib.hid (L3.out.below b4)
          have p4 := fan_get L4.out.b
          have q4' := fan_get L4.out.e.p
          obtain ⟨A8, c8, rfl⟩ := own_slice ho
          clear b4 p3 q3' L3 S2 E2 G2 H1 ho
          generalize w2.heap.size = g at *
          go_wp2_with fail
          refine (H4.out _ _ _ L4.out.r L4.out.e.bel).mono ?_
          rintro e w5 ⟨rfl, b5⟩
          have L5 := Lib.hid (L4.out.below b5)
          have p5 := fan_get L5.out.e.p
          have q5' := pair_get L5.out.e.q
          clear b5 p4 q4' L4 H4
          go_wp2_with fail
          refine (HR2.out _ L5.out.e.bel).mono ?_
          rintro e w6 ⟨v6, rfl, hrow6, b6⟩
          have L6 := Lib.hid (L5.out.below b6)
          obtain ⟨A9, c9, rfl, _⟩ := hrow6
          clear b6 p5 q5' L5 HR2
          go_wp2_with fail
          refine (HK.out _).mono ?_
          rintro e w9 ⟨rfl, b9⟩
          go_wp2
          go_ret
          exact ⟨rfl, below_then L6.out.e.bel b9⟩
        · rw [hw, hw2] at H1
          simp only [hr, Option.isSome_some, Option.getD_some] at HR2
          clear h hn HN hE hf hfb hl hw hw2 hr q q1 q2 HR
          obtain ⟨fa, fb, fc, fd, gs⟩ := f
          simp only [fanA] at *
          have p0 := fan_get E0.out.p
          go_enter Try.func7, Try.ntmps7
          go_wp2_with fail
          refine (H0.out _ E0.out.bel).mono ?_
          rintro e w1 ⟨rfl, b1⟩
          have E1 := Lib.hid (E0.out.below b1)
          have p1 := fan_get E1.out.p
          have q1' := pair_get E1.out.q
          clear b1 p0 E0 H0
          go_wp2_with fail
          refine (HD1.out _).mono ?_
          rintro e wq ⟨rfl, rfl⟩
          go_wp2_with fail
          refine (HD2.out _).mono ?_
          rintro e wq ⟨rfl, rfl⟩
          go_wp2_with fail
          refine (HC.out (by omega) _ E1.out.bel).mono ?_
          rintro e w2 ⟨A', c', rfl, hG, b2⟩
          have E2 := Lib.hid (E1.out.below b2)
          have G2 := Lib.hid hG
          have S2 := Lib.hid (Blk.new w2 26 #[.int .i64 0, .int .i64 0, .int .i64 0, .int .i64 0, .slice none 0 0] (g := w2.heap.size) rfl)
          have L3 : Hid (LU w _ ⟨fa, fb, fc, fd, gs⟩ A n c s1 s2 w2.heap.size A' c') := Lib.hid (LU.start (fan := #[.int .i64 fa, .int .i64 fb, .int .i64 fc, .int .i64 fd, .slice A' n c']) E2.out G2.out #[.int .i64 0, .int .i64 0, .int .i64 0, .int .i64 0, .slice none 0 0] rfl)
          clear b2 hG p1 q1' E1 HC
          go_wp2_with (refine wpList_store_row rfl 26 _ _ rfl w2.heap.size _ rfl rfl 26 _ S2.out (by kernel_rfl) rfl (by kernel_rfl) ?_; have p3 := fan_get L3.out.b; have q3' := pair_get L3.out.e.q)
          refine (H1.out _ _ _ L3.out.r).mono ?_
          rintro e w4 ⟨v, rfl, ho, b4⟩
          have L4 := Lib.hid (L3.out.below b4)
          have p4 := fan_get L4.out.b
          have q4' := fan_get L4.out.e.p
          obtain ⟨A8, c8, rfl⟩ := own_slice ho
          have HCAP := Lib.hid (own_cap ho)
          obtain ⟨A7, c7, hv, hi4⟩ := ints_row (intRow_of_own ho)
          simp only [Value.slice.injEq, true_and] at hv
          obtain ⟨rfl, rfl⟩ := hv
          clear b4 p3 q3' L3 S2 E2 G2 H1 ho
          generalize w2.heap.size = g at *
          go_wp2_with fail
          refine (H4.out _ _ _ L4.out.r L4.out.e.bel).mono ?_
          rintro e w5 ⟨rfl, b5⟩
          have L5 := Lib.hid (L4.out.below b5)
          have p5 := fan_get L5.out.e.p
          have q5' := pair_get L5.out.e.q
          have hi5 := hi4.below b5
          clear hi4
          clear b5 p4 q4' L4 H4
          go_wp2_with fail
          refine (HR2.out _ L5.out.e.bel).mono ?_
          rintro e w6 ⟨v6, rfl, hrow6, b6⟩
          have L6 := Lib.hid (L5.out.below b6)
          obtain ⟨A9, c9, rfl, hi6, _⟩ := hrow6
          have I6 := Lib.hid (hi5.below b6)
          have J6 := Lib.hid hi6
          have hcl : (castL L).length = L.length := by simp [castL]
          have hcp : 0 < (castL L).length := by omega
          have C7 := Lib.hid (RefInts_eq A8 A9 (castL L).length c8 c9 (castL L) w6 I6.out J6.out (by have := HCAP.out; omega))
          clear b6 p5 q5' L5 HR2 hi5 hi6 I6 J6 hcl
          generalize (castL L).length = le at *
          go_wp2_with fail
          refine C7.out.mono ?_
          rintro e w7 ⟨rfl, b7⟩
          have L7 := Lib.hid (L6.out.below b7)
          clear b7 L6 C7
          go_wp2_with fail
          refine (HK.out _).mono ?_
          rintro e w9 ⟨rfl, b9⟩
          go_wp2
          go_ret
          exact ⟨rfl, below_then L7.out.e.bel b9⟩
  · have hw : wrongE f (s1, s2) = fanErr f := if_neg hE
    have hw2 : wrongL f (s1, s2) = [] := by unfold wrongL; rw [hw, if_neg hE]
    rw [hw, hw2] at H1
    have hr0 : (fanErr f == 0) = false := by simpa using hE
    have hr1 : (fanErr f != 0) = true := by simpa using hE
    have hr2 : (fanErr f == fanErr f) = true := beq_self_eq_true _
    clear h hn HN hl hw hw2 HR HD1 HD2
    generalize fanErr f = r at *
    obtain ⟨fa, fb, fc, fd, gs⟩ := f
    simp only [fanA] at *
    by_cases h50 : 50 < n
    · clear HC H1 H4
      have p0 := fan_get E0.out.p
      go_enter Try.func7, Try.ntmps7
      go_wp2_with fail
      refine (H0.out _ E0.out.bel).mono ?_
      rintro e w1 ⟨rfl, b1⟩
      have E1 := Lib.hid (E0.out.below b1)
      have p1 := fan_get E1.out.p
      have q1' := pair_get E1.out.q
      clear b1 p0 E0 H0
      go_wp2_with fail
      refine (HK.out _).mono ?_
      rintro e w9 ⟨rfl, b9⟩
      go_wp2
      go_ret
      exact ⟨rfl, below_then E1.out.bel b9⟩
    · skip
      have p0 := fan_get E0.out.p
      go_enter Try.func7, Try.ntmps7
      go_wp2_with fail
      refine (H0.out _ E0.out.bel).mono ?_
      rintro e w1 ⟨rfl, b1⟩
      have E1 := Lib.hid (E0.out.below b1)
      have p1 := fan_get E1.out.p
      have q1' := pair_get E1.out.q
      clear b1 p0 E0 H0
      go_wp2_with fail
      refine (HC.out (by omega) _ E1.out.bel).mono ?_
      rintro e w2 ⟨A', c', rfl, hG, b2⟩
      have E2 := Lib.hid (E1.out.below b2)
      have G2 := Lib.hid hG
      have S2 := Lib.hid (Blk.new w2 26 #[.int .i64 0, .int .i64 0, .int .i64 0, .int .i64 0, .slice none 0 0] (g := w2.heap.size) rfl)
      have L3 : Hid (LU w _ ⟨fa, fb, fc, fd, gs⟩ A n c s1 s2 w2.heap.size A' c') := Lib.hid (LU.start (fan := #[.int .i64 fa, .int .i64 fb, .int .i64 fc, .int .i64 fd, .slice A' n c']) E2.out G2.out #[.int .i64 0, .int .i64 0, .int .i64 0, .int .i64 0, .slice none 0 0] rfl)
      clear b2 hG p1 q1' E1 HC
      go_wp2_with (refine wpList_store_row rfl 26 _ _ rfl w2.heap.size _ rfl rfl 26 _ S2.out (by kernel_rfl) rfl (by kernel_rfl) ?_; have p3 := fan_get L3.out.b; have q3' := pair_get L3.out.e.q)
      refine (H1.out _ _ _ L3.out.r).mono ?_
      rintro e w4 ⟨v, rfl, ho, b4⟩
      have L4 := Lib.hid (L3.out.below b4)
      have p4 := fan_get L4.out.b
      have q4' := fan_get L4.out.e.p
      obtain ⟨A8, c8, rfl⟩ := own_slice ho
      clear b4 p3 q3' L3 S2 E2 G2 H1 ho
      generalize w2.heap.size = g at *
      go_wp2_with fail
      refine (H4.out _ _ _ L4.out.r L4.out.e.bel).mono ?_
      rintro e w5 ⟨rfl, b5⟩
      have L5 := Lib.hid (L4.out.below b5)
      have p5 := fan_get L5.out.e.p
      have q5' := pair_get L5.out.e.q
      clear b5 p4 q4' L4 H4
      go_wp2_with fail
      refine (HK.out _).mono ?_
      rintro e w9 ⟨rfl, b9⟩
      go_wp2
      go_ret
      exact ⟨rfl, below_then L5.out.e.bel b9⟩
end Go.Proofs.Ytpbepipnfpgoiaa
