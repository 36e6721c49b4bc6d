/- Walks: the law ToothBounds. -/
import Derived.Test.YtiflhimmieflpaaW50
namespace Go.Proofs.Ytiflhimmieflpaa
open Go.RowKit Go.Maps

theorem Bl.Like.boundL {B B' : Bl} (h : B.Like B') (s : Sw) : boundL B' s = boundL B s := by unfold Go.Proofs.Ytiflhimmieflpaa.boundL; rw [h.worst, h.n]
theorem Bl.Like.classL {B B' : Bl} (h : B.Like B') (s : Sw) : classL B' s = classL B s := by unfold Go.Proofs.Ytiflhimmieflpaa.classL; rw [h.boundL, h.worst, h.n]
theorem thin_block {B : Bl} {s : Sw} {TA TB K : Option Addr} {c c' d : Nat} {X : Nat} (hok : B.Ok) (hs : s.Ok) (hc : B.cerr = 0) (hb : B.bot.length = B.n) (ht : B.top.length = B.n') (hX : X < B.n) : (refBlockL (sureV B TA TB K c c' d) s.thin X).length = bn (B.worst s.one) B.n X := by
  have hR := room_in (worst_bounds hok hs.one) (show (B.worst s.one).bottom.length = B.n by show ((bentL B.bot B.bend).map (·.2)).length = B.n; rw [List.length_map, bentL_length, hb]) (show (B.worst s.one).top.length = B.n by show ((bentL B.top B.bend).map (·.1)).length = B.n; rw [List.length_map, bentL_length, ht, hok.nn]) (x := X) (by show (X : Int) + 1 ≤ B.n; omega)
  have e := blockL_ref (B := B) (s := s.one) (x := X) (TA := TA) (TB := TB) (K := K) (c := c) (c' := c') (d := d) hs.one hc hR.1.1 hR.2.2
  have e2 : refBlockL (sureV B TA TB K c c' d) s.thin X = refBlockL (sureV B TA TB K c c' d) s.one X := rfl
  rw [e2, ← e]
  unfold bn LL
  rw [if_pos (by show X < B.n + 1 - (1 : Int).toNat; simp; exact hX)]

set_option maxRecDepth 100000 in
set_option maxHeartbeats 4000000 in
theorem ToothBounds_any (B : Bl) (s : Sw) (w : World) (h : B.At w) : Calls Try.prog 8 #[B.val, s.val] w (Yes w) := by
  have L0 := Lib.hid (LV.new w B s)
  have H := Lib.hid h
  have HLG := Lib.hid (fun W => large_any B W)
  have HKN := Lib.hid (fun W => known_any W)
  clear h
  unfold Bl.val Sw.val at *
  go_enter Try.func8, Try.ntmps8
  have l0 := L0.out.get
  go_wp2_with fail
  refine (HLG.out _).mono ?_
  rintro e w1 ⟨rfl, b1⟩
  have L1 := Lib.hid (L0.out.below b1)
  have l1 := L1.out.get
  clear b1 HLG L0 l0
  cases hlg : largeB B.n B.n' B.m
  case true =>
    clear hlg
    go_wp2_with fail
    refine (HKN.out _).mono ?_
    rintro e w2 ⟨rfl, b2⟩
    have D2 := Lib.hid (below_then L1.out.bel b2)
    clear b2
    go_wp2
    go_ret
    exact ⟨rfl, D2.out⟩
  obtain ⟨k1, k2, k3⟩ := large_no hlg
  clear hlg
  have HCP := Lib.hid (RefCopy_any B _ (H.out.below L1.out.bel) (by omega) (by omega) (by omega))
  have HPL := Lib.hid (fun W (hb : Below w.heap.size w W) => open_any B s W (H.out.below hb) (by omega) (by omega) (by omega))
  unfold Bl.val Sw.val at *
  go_wp2_with fail
  refine HCP.out.mono ?_
  rintro e w2 ⟨B', rfl, hlike, hat, b2⟩
  have L2 := Lib.hid (L1.out.below b2)
  have HL := Lib.hid hlike
  have HA := Lib.hid hat
  clear b2 HCP hlike hat l1 L1
  have E2 := Lib.hid (below_self w2 (.cells #[.slice B'.A B'.n B'.c, .slice B'.A' B'.n' B'.c', .int .i64 B'.bend, .slice B'.K B'.m B'.d] 25))
  have X2 := Lib.hid (Blk.new w2 25 #[.slice B'.A B'.n B'.c, .slice B'.A' B'.n' B'.c', .int .i64 B'.bend, .slice B'.K B'.m B'.d] rfl)
  have L2a := Lib.hid (L2.out.alloc (.cells #[.slice B'.A B'.n B'.c, .slice B'.A' B'.n' B'.c', .int .i64 B'.bend, .slice B'.K B'.m B'.d] 25))
  have HCK := Lib.hid (Bound_any B' s _ (HA.out.below E2.out))
  have HSM := Lib.hid (fun W (hb : Below w2.heap.size w2 W) (hb2 : Below w.heap.size w W) => RefSame_any B B' W (H.out.below hb2) (HA.out.below hb) HL.out)
  unfold Bl.val Sw.val at *
  have l2 := L2a.out.get
  have x2 := X2.out.cell
  go_wp2_with fail
  refine HCK.out.mono ?_
  rintro e w3 ⟨b3, hcs⟩
  rw [HL.out.err, HL.out.boundL, HL.out.classL] at hcs
  have E3 := Lib.hid (below_then E2.out b3)
  have L3 := Lib.hid (L2a.out.below b3)
  have X3 := Lib.hid (blk_keep b3 X2.out)
  have HSM3 := Lib.hid (HSM.out _ E3.out L3.out.bel)
  clear b3 E2 X2 L2a HCK l2 x2 HSM L2
  have l3 := L3.out.get
  have x3 := X3.out.cell
  rcases hcs with ⟨hE, rfl⟩ | ⟨herr, rfl⟩
  · have hE2 : (B.err s != 0) = true := by simpa using hE
    have hE3 : (B.err s == B.err s) = true := by simp
    generalize B.err s = E at *
    clear hE
    go_wp2_with fail
    refine HSM3.out.mono ?_
    rintro e w4 ⟨rfl, b4⟩
    have L4 := Lib.hid (L3.out.below b4)
    have HPL4 := Lib.hid (HPL.out _ L4.out.bel)
    have l4 := L4.out.get
    clear b4 l3 L3 x3 X3 E3 HSM3 HPL
    go_wp2_with fail
    refine HPL4.out.mono ?_
    rintro e w5 ⟨rfl, b5⟩
    have L5 := Lib.hid (L4.out.below b5)
    clear b5 l4 L4 HPL4
    go_wp2_with fail
    refine (HKN.out _).mono ?_
    rintro e w6 ⟨rfl, b6⟩
    have D6 := Lib.hid (below_then L5.out.bel b6)
    clear b6 L5
    go_wp2
    go_ret
    exact ⟨rfl, D6.out⟩
  · obtain ⟨hce, hok, hso⟩ := err_ok herr
    have hce' : B.cerr = 0 := hce
    obtain ⟨l, hl⟩ := Int.eq_ofNat_of_zero_le (show 0 ≤ s.long by have := hso.l1; omega)
    have hl1 : 1 ≤ l := by have := hso.l1; omega
    have HSU := Lib.hid (fun W (hb : Below w.heap.size w W) => Sure_any B W (H.out.below hb) hce')
    have HRB := Lib.hid (fun TA TB K c c' d W (hV : (sureV B TA TB K c c' d).At W) => RefBound_any (sureV B TA TB K c c' d) s (B.worst s.one) l W hV hso hl (fun X hX => thin_block hok hso hce' H.out.hb.len H.out.ht.len hX) hok.n2)
    have HDN := Lib.hid (fun m c (h : BInv (fun r => sumsAt (B.worst s.one) B.n l B.n r) l m c) => BInv.done hl hl1 h)
    rw [herr] at HPL
    clear herr hce hok hso hce' hl hl1
    unfold Bl.val Sw.val at *
    have hb1 : (boundL B s == boundL B s) = true := by simp
    have hb2 : (classL B s == classL B s) = true := by simp
    generalize boundL B s = bl at *
    generalize classL B s = cl at *
    go_wp2_with fail
    refine HSM3.out.mono ?_
    rintro e w4 ⟨rfl, b4⟩
    have L4 := Lib.hid (L3.out.below b4)
    have HPL4 := Lib.hid (HPL.out _ L4.out.bel)
    have l4 := L4.out.get
    clear b4 l3 L3 x3 X3 E3 HSM3 HPL
    go_wp2_with fail
    refine HPL4.out.mono ?_
    rintro e w5 ⟨rfl, b5⟩
    have L5 := Lib.hid (L4.out.below b5).drewd
    clear b5 l4 L4 HPL4
    go_upto_region 10 with (fail)
    have l5 := L5.out.get
    go_region_held3 (fun W => (W.cell? ⟨w.heap.size, 0, none⟩ = some (.slice B.A B.n B.c) ∧ W.cell? ⟨w.heap.size, 1, none⟩ = some (.slice B.A' B.n' B.c') ∧ W.cell? ⟨w.heap.size, 2, none⟩ = some (.int .i64 B.bend) ∧ W.cell? ⟨w.heap.size, 3, none⟩ = some (.slice B.K B.m B.d)) ∧
      W.cell? ⟨w.heap.size + 1, 0, none⟩ = some (.int .i64 s.long) ∧ W.cell? ⟨w.heap.size + 1, 1, none⟩ = some (.int .i64 s.wide) ∧ W.cell? ⟨w.heap.size + 1, 2, none⟩ = some (.int .i64 s.kerf) ∧ W.cell? ⟨w.heap.size + 1, 3, none⟩ = some (.int .i64 s.across))
      (first | with_reducible exact L5.out.get | with_reducible exact L7.out.get | with_reducible exact L6.out.get)
      (first
        | (go_at_call 29; refine (HSU.out _ ?_).mono ?_; (with_reducible exact L5.out.bel); rintro e W6 ⟨TA, TB, K, q1, q2, q3, rfl, hV, b6⟩; have L6 := Lib.hid (L5.out.below b6); have HV6 := Lib.hid hV; clear hV b6)
        | (go_at_call 41; refine (HRB.out _ _ _ _ _ _ _ HV6.out).mono ?_; rintro e W7 ⟨m, c, rfl, hbi, b7⟩; have L7 := Lib.hid (L6.out.below b7); obtain ⟨rfl, rfl⟩ := HDN.out _ _ hbi; clear hbi b7))
    go_wp2_with fail
    refine (HKN.out _).mono ?_
    rintro e w8 ⟨rfl, b8⟩
    have D8 := Lib.hid (below_then L7.out.bel b8)
    clear b8
    go_wp2
    go_ret
    exact ⟨rfl, D8.out⟩
end Go.Proofs.Ytiflhimmieflpaa
