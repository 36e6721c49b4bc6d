/- Walks: the reference's Places, of equal lists; the law ToothMosts. -/
import Derived.Test.YtiflhimmieflpaaW54
namespace Go.Proofs.Ytiflhimmieflpaa
open Go.RowKit Go.Maps

set_option maxRecDepth 100000 in
theorem RefPlaces_eq (A A' : Option Addr) (n c c' : Nat) (xs : List (Int × Int)) (w : World) (h : Pairs w A n xs) (h' : Pairs w A' n xs) (hn : n ≤ maxLen) :
    Calls Try.prog 36 #[.slice A n c, .slice A' n c'] w fun e w' => e = .returned (.bool true) ∧ Below w.heap.size w w' := by
  unfold maxLen at hn
  have H := Lib.hid h
  have H' := Lib.hid h'
  have hd2 : ((n : Int) != (n : Int)) = false := by simp
  have hd : ((n : Int) == (n : Int)) = true := by simp
  clear h h'
  go_enter Try.func36, Try.ntmps36
  go_wp2
  go_loopw [5] (fun i wr => ∃ k : Nat, k ≤ n ∧ i = .int .i64 k ∧ Below w.heap.size w wr) (fun i _ => n - (intOf i).toNat)
  case atStart => exact ⟨0, Nat.zero_le _, rfl, Below.refl _ _⟩
  case round =>
    obtain ⟨k, hk, rfl, hbel⟩ := hrel
    have Hbel := Lib.hid hbel
    by_cases hlt : k < n
    · obtain ⟨b, off, hA, hb, q0, q1⟩ := (H.out.below hbel).at_ hlt
      obtain ⟨b', off', hA', hb', p0, p1⟩ := (H'.out.below hbel).at_ hlt
      subst hA hA'
      clear hbel
      generalize (xs.getD k (0, 0)).1 = x at *
      generalize (xs.getD k (0, 0)).2 = y at *
      go_wp2_with fail
      go_quiet (fail)
      go_wp2
      go_roundw
      case rel => exact ⟨k + 1, by omega, by go_num, below_drewN Hbel.out _⟩
      case measure => simp [intOf]; omega
    · obtain rfl : k = n := by omega
      go_wp2
      go_ret
      exact ⟨rfl, Hbel.out⟩
section
variable {B : Bl} {s : Sw} {TA TB K : Option Addr} {c c' d l a : Nat}
theorem ref_len (hs : s.Ok) {V : Vw} {x : Nat} : (refBlockL V s x).length ≤ 301 := by
  have := gcount_le (fine := fineV V s x) (st := stV s) (by unfold stV; have := hs.w1; omega) 0
  unfold refBlockL
  rw [List.length_map]
  unfold gcount at this
  omega
theorem ref_LL (hok : B.Ok) (hs : s.Ok) (hc : B.cerr = 0) (hb : B.bot.length = B.n) (ht : B.top.length = B.n') (hl : s.long = l) (x : Nat) (hx : x + l ≤ B.n) : refBlockL (sureV B TA TB K c c' d) s x = LL (B.worst s) (B.n + 1 - l) x := by
  have hR := room_in (worst_bounds hok hs) (show (B.worst s).bottom.length = B.n by show ((bentL B.bot B.bend).map (·.2)).length = B.n; rw [List.length_map, bentL_length, hb]) (show (B.worst s).top.length = B.n by show ((bentL B.top B.bend).map (·.1)).length = B.n; rw [List.length_map, bentL_length, ht, hok.nn]) (x := x) (by show (x : Int) + s.long ≤ B.n; omega)
  unfold LL
  rw [if_pos (by omega), blockL_ref (TA := TA) (TB := TB) (K := K) (c := c) (c' := c') (d := d) hs hc hR.1.1 hR.2.2]
theorem step_ref (hl : s.long = l) (ha : s.across = a) : stepN (B.worst s) = l + a := by
  unfold stepN
  rw [show (B.worst s).long = s.long from rfl, show (B.worst s).across = s.across from rfl, hl, ha]
  simp
theorem layout_ref (hok : B.Ok) (hs : s.Ok) (hc : B.cerr = 0) (hb : B.bot.length = B.n) (ht : B.top.length = B.n') (hl : s.long = l) (ha : s.across = a) : layoutL (B.worst s) B.n = mostM (refBlockL (sureV B TA TB K c c' d) s) B.n l (l + a) 0 := by
  have h1 := hs.l1
  unfold layoutL
  rw [layout_most (B.worst s) (refBlockL (sureV B TA TB K c c' d) s) B.n l hl (by omega) (by rw [step_ref hl ha]; omega) (fun x hx => ref_LL hok hs hc hb ht hl x hx) (B.n + 1) 0 (by omega), step_ref hl ha]
theorem most_len (hok : B.Ok) (hs : s.Ok) (hc : B.cerr = 0) (hb : B.bot.length = B.n) (ht : B.top.length = B.n') (hl : s.long = l) (ha : s.across = a) (x : Nat) : (mostM (refBlockL (sureV B TA TB K c c' d) s) B.n l (l + a) x).length ≤ 10000 := by
  have h1 := hs.l1
  have e := mostM_length (B.worst s) (refBlockL (sureV B TA TB K c c' d) s) B.n l hl (by omega) (by rw [step_ref hl ha]; omega) (fun x hx => by rw [ref_LL hok hs hc hb ht hl x hx]; unfold bn; rw [show (B.worst s).long = s.long from rfl, hl, Int.toNat_natCast]) (B.n - x) x (Nat.le_refl _)
  rw [step_ref hl ha] at e
  have h2 := aheadAt_in (B.worst s) B.n 302 (bn_le _ _) B.n x
  have h3 := hok.n2
  omega
theorem RefMost_sure (hok : B.Ok) (hs : s.Ok) (hc : B.cerr = 0) (hb : B.bot.length = B.n) (ht : B.top.length = B.n') (hl : s.long = l) (ha : s.across = a) (W : World) (hV : (sureV B TA TB K c c' d).At W) :
    Calls Try.prog 37 #[(sureV B TA TB K c c' d).val, s.val] W fun e w' => ∃ v, e = .returned v ∧ BV W.heap.size w' v (layoutL (B.worst s) B.n) ∧ Below W.heap.size W w' := by
  have := RefMost_any (sureV B TA TB K c c' d) s l a W hV hs hl ha hok.n2 (fun x _ => ref_len hs) (fun x => most_len hok hs hc hb ht hl ha x)
  rw [show mostM (refBlockL (sureV B TA TB K c c' d) s) (sureV B TA TB K c c' d).n l (l + a) 0 = layoutL (B.worst s) B.n from (layout_ref hok hs hc hb ht hl ha).symm] at this
  exact this
end

set_option maxRecDepth 100000 in
set_option maxHeartbeats 4000000 in
theorem ToothMosts_any (B : Bl) (s : Sw) (w : World) (h : B.At w) : Calls Try.prog 6 #[B.val, s.val] w (Yes w) := by
  have L0 := Lib.hid (LV.new w B s)
  have H := Lib.hid h
  have HLG := Lib.hid (fun W => large_any B W)
  have HKN := Lib.hid (fun W => known_any W)
  clear h
  unfold Bl.val Sw.val at *
  go_enter Try.func6, Try.ntmps6
  have l0 := L0.out.get
  go_wp2_with fail
  refine (HLG.out _).mono ?_
  rintro e w1 ⟨rfl, b1⟩
  have L1 := Lib.hid (L0.out.below b1)
  have l1 := L1.out.get
  clear b1 HLG L0 l0
  cases hlg : largeB B.n B.n' B.m
  case true =>
    clear hlg
    go_wp2_with fail
    refine (HKN.out _).mono ?_
    rintro e w2 ⟨rfl, b2⟩
    have D2 := Lib.hid (below_then L1.out.bel b2)
    clear b2
    go_wp2
    go_ret
    exact ⟨rfl, D2.out⟩
  obtain ⟨k1, k2, k3⟩ := large_no hlg
  clear hlg
  have HCP := Lib.hid (RefCopy_any B _ (H.out.below L1.out.bel) (by omega) (by omega) (by omega))
  have HPL := Lib.hid (fun W (hb : Below w.heap.size w W) => open_any B s W (H.out.below hb) (by omega) (by omega) (by omega))
  unfold Bl.val Sw.val at *
  go_wp2_with fail
  refine HCP.out.mono ?_
  rintro e w2 ⟨B', rfl, hlike, hat, b2⟩
  have L2 := Lib.hid (L1.out.below b2)
  have HL := Lib.hid hlike
  have HA := Lib.hid hat
  clear b2 HCP hlike hat l1 L1
  have E2 := Lib.hid (below_self w2 (.cells #[.slice B'.A B'.n B'.c, .slice B'.A' B'.n' B'.c', .int .i64 B'.bend, .slice B'.K B'.m B'.d] 25))
  have X2 := Lib.hid (Blk.new w2 25 #[.slice B'.A B'.n B'.c, .slice B'.A' B'.n' B'.c', .int .i64 B'.bend, .slice B'.K B'.m B'.d] rfl)
  have L2a := Lib.hid (L2.out.alloc (.cells #[.slice B'.A B'.n B'.c, .slice B'.A' B'.n' B'.c', .int .i64 B'.bend, .slice B'.K B'.m B'.d] 25))
  have HCK := Lib.hid (Most_any B' s _ (HA.out.below E2.out))
  have HSM := Lib.hid (fun W (hb : Below w2.heap.size w2 W) (hb2 : Below w.heap.size w W) => RefSame_any B B' W (H.out.below hb2) (HA.out.below hb) HL.out)
  unfold Bl.val Sw.val at *
  have l2 := L2a.out.get
  have x2 := X2.out.cell
  go_wp2_with fail
  refine HCK.out.mono ?_
  rintro e w3 ⟨b3, hcs⟩
  rw [HL.out.err, HL.out.worst, HL.out.n] at hcs
  have E3 := Lib.hid (below_then E2.out b3)
  have L3 := Lib.hid (L2a.out.below b3)
  have X3 := Lib.hid (blk_keep b3 X2.out)
  have HSM3 := Lib.hid (HSM.out _ E3.out L3.out.bel)
  clear b3 E2 X2 L2a HCK l2 x2 HSM L2
  have l3 := L3.out.get
  have x3 := X3.out.cell
  rcases hcs with ⟨hE, rfl⟩ | ⟨herr, v, rfl, hown⟩
  · have hE2 : (B.err s != 0) = true := by simpa using hE
    have hE3 : (B.err s == B.err s) = true := by simp
    generalize B.err s = E at *
    clear hE
    go_wp2_with fail
    refine HSM3.out.mono ?_
    rintro e w4 ⟨rfl, b4⟩
    have L4 := Lib.hid (L3.out.below b4)
    have HPL4 := Lib.hid (HPL.out _ L4.out.bel)
    have l4 := L4.out.get
    clear b4 l3 L3 x3 X3 E3 HSM3 HPL
    go_wp2_with fail
    refine HPL4.out.mono ?_
    rintro e w5 ⟨rfl, b5⟩
    have L5 := Lib.hid (L4.out.below b5)
    clear b5 l4 L4 HPL4
    go_wp2_with fail
    refine (HKN.out _).mono ?_
    rintro e w6 ⟨rfl, b6⟩
    have D6 := Lib.hid (below_then L5.out.bel b6)
    clear b6 L5
    go_wp2
    go_ret
    exact ⟨rfl, D6.out⟩
  · obtain ⟨A, c, rfl⟩ := own_slice hown
    obtain ⟨hce, hok, hso⟩ := err_ok herr
    have hce' : B.cerr = 0 := hce
    obtain ⟨l, hl⟩ := Int.eq_ofNat_of_zero_le (show 0 ≤ s.long by have := hso.l1; omega)
    obtain ⟨a, ha⟩ := Int.eq_ofNat_of_zero_le hso.a1
    have HSU := Lib.hid (fun W (hb : Below w.heap.size w W) => Sure_any B W (H.out.below hb) hce')
    have HRB := Lib.hid (fun TA TB K c c' d W (hV : (sureV B TA TB K c c' d).At W) => RefMost_sure hok hso hce' H.out.hb.len H.out.ht.len hl ha W hV)
    have HI : Hid (Pairs w3 A (layoutL (B.worst s) B.n).length (layoutL (B.worst s) B.n)) := (reads_of_own hown).r
    have HLN : Hid ((layoutL (B.worst s) B.n).length ≤ maxLen) := by
      have := most_len (TA := none) (TB := none) (K := none) (c := 0) (c' := 0) (d := 0) hok hso hce' H.out.hb.len H.out.ht.len hl ha 0
      unfold Hid
      rw [layout_ref (TA := none) (TB := none) (K := none) (c := 0) (c' := 0) (d := 0) hok hso hce' H.out.hb.len H.out.ht.len hl ha]
      unfold maxLen
      omega
    rw [herr] at HPL
    clear herr hce hok hso hce' hown hl ha
    generalize layoutL (B.worst s) B.n = L at *
    unfold Bl.val Sw.val at *
    go_wp2_with fail
    refine HSM3.out.mono ?_
    rintro e w4 ⟨rfl, b4⟩
    have L4 := Lib.hid (L3.out.below b4)
    have HPL4 := Lib.hid (HPL.out _ L4.out.bel)
    have HI4 := Lib.hid (Reads.below HI.out b4)
    have l4 := L4.out.get
    clear b4 l3 L3 x3 X3 E3 HSM3 HPL HI
    go_wp2_with fail
    refine HPL4.out.mono ?_
    rintro e w5 ⟨rfl, b5⟩
    have L5 := Lib.hid (L4.out.below b5).drewd
    have HI5 : Hid (Pairs w5.drew A L.length L) := Reads.below HI4.out b5.drew
    clear b5 l4 L4 HPL4 HI4
    go_upto_region 10 with (fail)
    have l5 := L5.out.get
    go_region_held3 (fun W => (W.cell? ⟨w.heap.size, 0, none⟩ = some (.slice B.A B.n B.c) ∧ W.cell? ⟨w.heap.size, 1, none⟩ = some (.slice B.A' B.n' B.c') ∧ W.cell? ⟨w.heap.size, 2, none⟩ = some (.int .i64 B.bend) ∧ W.cell? ⟨w.heap.size, 3, none⟩ = some (.slice B.K B.m B.d)) ∧
      W.cell? ⟨w.heap.size + 1, 0, none⟩ = some (.int .i64 s.long) ∧ W.cell? ⟨w.heap.size + 1, 1, none⟩ = some (.int .i64 s.wide) ∧ W.cell? ⟨w.heap.size + 1, 2, none⟩ = some (.int .i64 s.kerf) ∧ W.cell? ⟨w.heap.size + 1, 3, none⟩ = some (.int .i64 s.across))
      (first | with_reducible exact L5.out.get | with_reducible exact L9.out.get | with_reducible exact L8.out.get | with_reducible exact L7.out.get | with_reducible exact L6.out.get)
      (first
        | (go_at_call 29; refine (HSU.out _ ?_).mono ?_; (with_reducible exact L5.out.bel); rintro e W6 ⟨TA, TB, K, q1, q2, q3, rfl, hV, b6⟩; have L6 := Lib.hid (L5.out.below b6); have HV6 := Lib.hid hV; have HI6 := Lib.hid (Reads.below HI5.out b6); clear hV b6)
        | (go_at_call 37; refine (HRB.out _ _ _ _ _ _ _ HV6.out).mono ?_; rintro e W7 ⟨v, rfl, hbv, b7⟩; have L7 := Lib.hid (L6.out.below b7); have HI7 := Lib.hid (Reads.below HI6.out b7); obtain ⟨A', c', rfl, hn7⟩ := hbv; have HJ7 := Lib.hid hn7.r; clear hn7 b7)
        | (go_at_call 36; refine (RefPlaces_eq _ _ _ _ _ _ _ HI7.out HJ7.out HLN.out).mono ?_; rintro e W8 ⟨rfl, b8⟩; have L8 := Lib.hid (L7.out.below b8); clear b8)
        | (go_at_call 18; refine (HKN.out _).mono ?_; rintro e W9 ⟨rfl, b9⟩; have L9 := Lib.hid (L8.out.below b9); clear b9))
    go_wp2
    go_ret
    exact ⟨rfl, L9.out.bel⟩
end Go.Proofs.Ytiflhimmieflpaa
