/- Walks: the law ToothWidests. -/
import Derived.Test.YtiflhimmieflpaaW57
namespace Go.Proofs.Ytiflhimmieflpaa
open Go.RowKit Go.Maps

section
variable {B : Bl} {s : Sw} {TA TB K : Option Addr} {c c' d : Nat}
theorem RefWidest_sure (sticks : Int) (hok : B.Ok) (hs : s.Ok) (hc : B.cerr = 0) (hb : B.bot.length = B.n) (ht : B.top.length = B.n') (W : World) (hV : (sureV B TA TB K c c' d).At W) :
    Calls Try.prog 50 #[(sureV B TA TB K c c' d).val, s.val, .int .i64 sticks] W fun e w' => e = .returned (.int .i64 (widestL B s sticks)) ∧ Below W.heap.size W w' := by
  obtain ⟨p1, p2, p3⟩ := widest_spec sticks hok hs hc hb ht
  refine RefWidest_any (sureV B TA TB K c c' d) s sticks (fun X => countL (B.worst (s.width X)) B.n) (widestL B s sticks) W p1 p2 p3 fun X h1 h2 W' hbl => ?_
  have hso : (s.width X).Ok := hs.width (by omega) (by omega)
  obtain ⟨l, hl⟩ := Int.eq_ofNat_of_zero_le (show 0 ≤ (s.width X).long by have := hso.l1; omega)
  obtain ⟨a, ha⟩ := Int.eq_ofNat_of_zero_le hso.a1
  refine (RefMost_sure hok hso hc hb ht hl ha W' (hV.below hbl)).mono ?_
  rintro e w2 ⟨v, rfl, ⟨A, c2, rfl, _⟩, b2⟩
  exact ⟨A, _, c2, rfl, layout_len hok hso hc hb ht, b2⟩
end
theorem Bl.Like.widestL {B B' : Bl} (h : B.Like B') (s : Sw) (x : Int) : widestL B' s x = widestL B s x := by
  have : fewP B' s x = fewP B s x := by funext k; unfold fewP; rw [h.worst, h.n]
  unfold Go.Proofs.Ytiflhimmieflpaa.widestL
  rw [this]

set_option maxRecDepth 100000 in
set_option maxHeartbeats 4000000 in
theorem ToothWidests_any (B : Bl) (s : Sw) (x : Int) (w : World) (h : B.At w) : Calls Try.prog 11 #[B.val, s.val, .int .i64 x] w (Yes w) := by
  have L0 := Lib.hid (LV.new w B s)
  have H := Lib.hid h
  have HLG := Lib.hid (fun W => large_any B W)
  have HKN := Lib.hid (fun W => known_any W)
  clear h
  unfold Bl.val Sw.val at *
  go_enter Try.func11, Try.ntmps11
  have l0 := L0.out.get
  go_wp2_with fail
  refine (HLG.out _).mono ?_
  rintro e w1 ⟨rfl, b1⟩
  have L1 := Lib.hid (L0.out.below b1)
  have l1 := L1.out.get
  clear b1 HLG L0 l0
  cases hlg : largeB B.n B.n' B.m
  case true =>
    clear hlg
    go_wp2_with fail
    refine (HKN.out _).mono ?_
    rintro e w2 ⟨rfl, b2⟩
    have D2 := Lib.hid (below_then L1.out.bel b2)
    clear b2
    go_wp2
    go_ret
    exact ⟨rfl, D2.out⟩
  obtain ⟨k1, k2, k3⟩ := large_no hlg
  clear hlg
  have HCP := Lib.hid (RefCopy_any B _ (H.out.below L1.out.bel) (by omega) (by omega) (by omega))
  have HPL := Lib.hid (fun W (hb : Below w.heap.size w W) => open_any B s W (H.out.below hb) (by omega) (by omega) (by omega))
  unfold Bl.val Sw.val at *
  go_wp2_with fail
  refine HCP.out.mono ?_
  rintro e w2 ⟨B', rfl, hlike, hat, b2⟩
  have L2 := Lib.hid (L1.out.below b2)
  have HL := Lib.hid hlike
  have HA := Lib.hid hat
  clear b2 HCP hlike hat l1 L1
  have E2 := Lib.hid (below_self w2 (.cells #[.slice B'.A B'.n B'.c, .slice B'.A' B'.n' B'.c', .int .i64 B'.bend, .slice B'.K B'.m B'.d] 25))
  have X2 := Lib.hid (Blk.new w2 25 #[.slice B'.A B'.n B'.c, .slice B'.A' B'.n' B'.c', .int .i64 B'.bend, .slice B'.K B'.m B'.d] rfl)
  have L2a := Lib.hid (L2.out.alloc (.cells #[.slice B'.A B'.n B'.c, .slice B'.A' B'.n' B'.c', .int .i64 B'.bend, .slice B'.K B'.m B'.d] 25))
  have HCK := Lib.hid (Widest_any B' s x _ (HA.out.below E2.out))
  have HSM := Lib.hid (fun W (hb : Below w2.heap.size w2 W) (hb2 : Below w.heap.size w W) => RefSame_any B B' W (H.out.below hb2) (HA.out.below hb) HL.out)
  unfold Bl.val Sw.val at *
  have l2 := L2a.out.get
  have x2 := X2.out.cell
  go_wp2_with fail
  refine HCK.out.mono ?_
  rintro e w3 ⟨b3, hcs⟩
  rw [HL.out.err, HL.out.widestL] at hcs
  have E3 := Lib.hid (below_then E2.out b3)
  have L3 := Lib.hid (L2a.out.below b3)
  have X3 := Lib.hid (blk_keep b3 X2.out)
  have HSM3 := Lib.hid (HSM.out _ E3.out L3.out.bel)
  clear b3 E2 X2 L2a HCK l2 x2 HSM L2
  have l3 := L3.out.get
  have x3 := X3.out.cell
  rw [← inB_within x 1 400] at hcs
  rcases hcs with ⟨hE, rfl⟩ | ⟨herr, hin, rfl⟩ | ⟨herr, hin, hw0, rfl⟩ | ⟨herr, hin, hw0, rfl⟩
  · have hE2 : (B.err s == 0) = false := by simpa using hE
    have hE3 : (B.err s == B.err s) = true := by simp
    generalize B.err s = E at *
    clear hE
    go_wp2_with fail
    refine HSM3.out.mono ?_
    rintro e w4 ⟨rfl, b4⟩
    have L4 := Lib.hid (L3.out.below b4)
    have HPL4 := Lib.hid (HPL.out _ L4.out.bel)
    have l4 := L4.out.get
    clear b4 l3 L3 x3 X3 E3 HSM3 HPL
    go_wp2_with fail
    refine HPL4.out.mono ?_
    rintro e w5 ⟨rfl, b5⟩
    have L5 := Lib.hid (L4.out.below b5)
    clear b5 l4 L4 HPL4
    go_wp2_with fail
    refine (HKN.out _).mono ?_
    rintro e w6 ⟨rfl, b6⟩
    have D6 := Lib.hid (below_then L5.out.bel b6)
    clear b6 L5
    go_wp2
    go_ret
    exact ⟨rfl, D6.out⟩
  · have HIN := Lib.hid (In_val hin)
    rw [herr] at HPL
    clear herr hin
    go_wp2_with fail
    refine HSM3.out.mono ?_
    rintro e w4 ⟨rfl, b4⟩
    have L4 := Lib.hid (L3.out.below b4)
    have HPL4 := Lib.hid (HPL.out _ L4.out.bel)
    have l4 := L4.out.get
    clear b4 l3 L3 x3 X3 E3 HSM3 HPL
    go_wp2_with fail
    refine HPL4.out.mono ?_
    rintro e w5 ⟨rfl, b5⟩
    have L5 := Lib.hid (L4.out.below b5)
    clear b5 l4 L4 HPL4
    go_wp2_with fail
    refine (HIN.out _).mono ?_
    rintro e w5b ⟨rfl, rfl⟩
    go_wp2_with fail
    refine (HKN.out _).mono ?_
    rintro e w6 ⟨rfl, b6⟩
    have D6 := Lib.hid (below_then L5.out.bel b6)
    clear b6 L5
    go_wp2
    go_ret
    exact ⟨rfl, D6.out⟩
  · obtain ⟨hce, hok, hso⟩ := err_ok herr
    have HIN := Lib.hid (In_val hin)
    have hce' : B.cerr = 0 := hce
    have HSU := Lib.hid (fun W (hb : Below w.heap.size w W) => Sure_any B W (H.out.below hb) hce')
    have HRB := Lib.hid (fun TA TB K c c' d W (hV : (sureV B TA TB K c c' d).At W) => RefWidest_sure x hok hso hce' H.out.hb.len H.out.ht.len W hV)
    rw [herr] at HPL
    rw [hw0] at HRB
    clear herr hin hw0 hce hok hso hce'
    unfold Bl.val Sw.val at *
    go_wp2_with fail
    refine HSM3.out.mono ?_
    rintro e w4 ⟨rfl, b4⟩
    have L4 := Lib.hid (L3.out.below b4)
    have HPL4 := Lib.hid (HPL.out _ L4.out.bel)
    have l4 := L4.out.get
    clear b4 l3 L3 x3 X3 E3 HSM3 HPL
    go_wp2_with fail
    refine HPL4.out.mono ?_
    rintro e w5 ⟨rfl, b5⟩
    have L5 := Lib.hid (L4.out.below b5)
    clear b5 l4 L4 HPL4
    go_wp2_with fail
    refine (HIN.out _).mono ?_
    rintro e w5b ⟨rfl, rfl⟩
    have L6 := Lib.hid L5.out.drewd
    go_upto_region 11 with (fail)
    have l6 := L6.out.get
    go_region_held3 (fun W => (W.cell? ⟨w.heap.size, 0, none⟩ = some (.slice B.A B.n B.c) ∧ W.cell? ⟨w.heap.size, 1, none⟩ = some (.slice B.A' B.n' B.c') ∧ W.cell? ⟨w.heap.size, 2, none⟩ = some (.int .i64 B.bend) ∧ W.cell? ⟨w.heap.size, 3, none⟩ = some (.slice B.K B.m B.d)) ∧
      W.cell? ⟨w.heap.size + 1, 0, none⟩ = some (.int .i64 s.long) ∧ W.cell? ⟨w.heap.size + 1, 1, none⟩ = some (.int .i64 s.wide) ∧ W.cell? ⟨w.heap.size + 1, 2, none⟩ = some (.int .i64 s.kerf) ∧ W.cell? ⟨w.heap.size + 1, 3, none⟩ = some (.int .i64 s.across))
      (first | with_reducible exact L6.out.get | with_reducible exact L8.out.get | with_reducible exact L7.out.get)
      (first
        | (go_at_call 29; refine (HSU.out _ ?_).mono ?_; (with_reducible exact L6.out.bel); rintro e W7 ⟨TA, TB, K, q1, q2, q3, rfl, hV, b7⟩; have L7 := Lib.hid (L6.out.below b7); have HV7 := Lib.hid hV; clear hV b7)
        | (go_at_call 50; refine (HRB.out _ _ _ _ _ _ _ HV7.out).mono ?_; rintro e W8 ⟨rfl, b8⟩; have L8 := Lib.hid (L7.out.below b8); clear b8))
    go_wp2_with fail
    refine (HKN.out _).mono ?_
    rintro e w9 ⟨rfl, b9⟩
    have D9 := Lib.hid (below_then L8.out.bel b9)
    clear b9
    go_wp2
    go_ret
    exact ⟨rfl, D9.out⟩
  · obtain ⟨hce, hok, hso⟩ := err_ok herr
    have HIN := Lib.hid (In_val hin)
    have hce' : B.cerr = 0 := hce
    have HSU := Lib.hid (fun W (hb : Below w.heap.size w W) => Sure_any B W (H.out.below hb) hce')
    have HRB := Lib.hid (fun TA TB K c c' d W (hV : (sureV B TA TB K c c' d).At W) => RefWidest_sure x hok hso hce' H.out.hb.len H.out.ht.len W hV)
    rw [herr] at HPL
    have hw1 : (0 : Int) < (widestL B s x : Int) := by omega
    have hw2 : ((widestL B s x : Int) == (widestL B s x : Int)) = true := by simp
    clear herr hin hw0 hce hok hso hce'
    generalize widestL B s x = wl at *
    unfold Bl.val Sw.val at *
    go_wp2_with fail
    refine HSM3.out.mono ?_
    rintro e w4 ⟨rfl, b4⟩
    have L4 := Lib.hid (L3.out.below b4)
    have HPL4 := Lib.hid (HPL.out _ L4.out.bel)
    have l4 := L4.out.get
    clear b4 l3 L3 x3 X3 E3 HSM3 HPL
    go_wp2_with fail
    refine HPL4.out.mono ?_
    rintro e w5 ⟨rfl, b5⟩
    have L5 := Lib.hid (L4.out.below b5)
    clear b5 l4 L4 HPL4
    go_wp2_with fail
    refine (HIN.out _).mono ?_
    rintro e w5b ⟨rfl, rfl⟩
    have L6 := Lib.hid L5.out.drewd
    go_upto_region 11 with (fail)
    have l6 := L6.out.get
    go_region_held3 (fun W => (W.cell? ⟨w.heap.size, 0, none⟩ = some (.slice B.A B.n B.c) ∧ W.cell? ⟨w.heap.size, 1, none⟩ = some (.slice B.A' B.n' B.c') ∧ W.cell? ⟨w.heap.size, 2, none⟩ = some (.int .i64 B.bend) ∧ W.cell? ⟨w.heap.size, 3, none⟩ = some (.slice B.K B.m B.d)) ∧
      W.cell? ⟨w.heap.size + 1, 0, none⟩ = some (.int .i64 s.long) ∧ W.cell? ⟨w.heap.size + 1, 1, none⟩ = some (.int .i64 s.wide) ∧ W.cell? ⟨w.heap.size + 1, 2, none⟩ = some (.int .i64 s.kerf) ∧ W.cell? ⟨w.heap.size + 1, 3, none⟩ = some (.int .i64 s.across))
      (first | with_reducible exact L6.out.get | with_reducible exact L8.out.get | with_reducible exact L7.out.get)
      (first
        | (go_at_call 29; refine (HSU.out _ ?_).mono ?_; (with_reducible exact L6.out.bel); rintro e W7 ⟨TA, TB, K, q1, q2, q3, rfl, hV, b7⟩; have L7 := Lib.hid (L6.out.below b7); have HV7 := Lib.hid hV; clear hV b7)
        | (go_at_call 50; refine (HRB.out _ _ _ _ _ _ _ HV7.out).mono ?_; rintro e W8 ⟨rfl, b8⟩; have L8 := Lib.hid (L7.out.below b8); clear b8))
    go_wp2_with fail
    refine (HKN.out _).mono ?_
    rintro e w9 ⟨rfl, b9⟩
    have D9 := Lib.hid (below_then L8.out.bel b9)
    clear b9
    go_wp2
    go_ret
    exact ⟨rfl, D9.out⟩
end Go.Proofs.Ytiflhimmieflpaa
