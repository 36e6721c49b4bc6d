/- Walks: the law ToothCosts. -/
import Derived.Test.YtiflhimmieflpaaW78
namespace Go.Proofs.Ytiflhimmieflpaa
open Go.RowKit Go.Maps

theorem Bl.Like.costs {B B' : Bl} (h : B.Like B') (s : Sw) : costsL B' s = costsL B s := by
  unfold costsL
  rw [h.m]
  refine List.map_congr_left fun k _ => ?_
  unfold costAt Bl.worstX Bl.worst
  rw [h.n, h.bend, h.bot, h.top, h.cr]
theorem Bl.Like.look {B B' : Bl} (h : B.Like B') (s : Sw) : ∀ k, lookTo B' s k = lookTo B s k := by
  have hg : ∀ x, gainAt B' s x = gainAt B s x := fun x => by
    unfold gainAt Bl.soundX Bl.worst
    rw [h.n, h.bend, h.bot, h.top, h.cr]
  intro k
  induction k with
  | zero => rfl
  | succ k ih =>
    unfold lookTo
    rw [ih, hg k]
theorem costs_at {B : Bl} {s : Sw} {k : Nat} (hk : k < B.m) : (costsL B s).getD k 0 = countL (B.worstX s k) B.n - countL (B.worst s) B.n := by
  simp [costsL, List.getD, hk, costAt]
theorem costsL_length (B : Bl) (s : Sw) : (costsL B s).length = B.m := by simp [costsL]
set_option maxRecDepth 100000 in
set_option maxHeartbeats 8000000 in
theorem ToothCosts_any (B : Bl) (s : Sw) (w : World) (h : B.At w) (hd : B.m ≤ B.d) : Calls Try.prog 10 #[B.val, s.val] w (Yes w) := by
  have L0 := Lib.hid (LV.new w B s)
  have H := Lib.hid h
  have HLG := Lib.hid (fun W => large_any B W)
  have HKN := Lib.hid (fun W => known_any W)
  have HDD := Lib.hid hd
  clear h hd
  unfold Bl.val Sw.val at *
  go_enter Try.func10, Try.ntmps10
  have l0 := L0.out.get
  go_wp2_with fail
  refine (HLG.out _).mono ?_
  rintro e w1 ⟨rfl, b1⟩
  have L1 := Lib.hid (L0.out.below b1)
  have l1 := L1.out.get
  clear b1 HLG L0 l0
  cases hlg : largeB B.n B.n' B.m
  case true =>
    clear hlg
    go_wp2_with fail
    refine (HKN.out _).mono ?_
    rintro e w9 ⟨rfl, b9⟩
    have D9 := Lib.hid (below_then L1.out.bel b9)
    clear b9 L1
    go_wp2
    go_ret
    exact ⟨rfl, D9.out⟩
  obtain ⟨k1, k2, k3⟩ := large_no hlg
  clear hlg
  have HCP := Lib.hid (RefCopy_any B _ (H.out.below L1.out.bel) (by omega) (by omega) (by omega))
  have HPL := Lib.hid (fun W (hb : Below w.heap.size w W) => open_any B s W (H.out.below hb) (by omega) (by omega) (by omega))
  unfold Bl.val Sw.val at *
  go_wp2_with fail
  refine HCP.out.mono ?_
  rintro e w2 ⟨B', rfl, hlike, hat, b2⟩
  have L2 := Lib.hid (L1.out.below b2)
  have HL := Lib.hid hlike
  have HA := Lib.hid hat
  clear b2 HCP hlike hat l1 L1
  have E2 := Lib.hid (below_self w2 (.cells #[.slice B'.A B'.n B'.c, .slice B'.A' B'.n' B'.c', .int .i64 B'.bend, .slice B'.K B'.m B'.d] 25))
  have X2 := Lib.hid (Blk.new w2 25 #[.slice B'.A B'.n B'.c, .slice B'.A' B'.n' B'.c', .int .i64 B'.bend, .slice B'.K B'.m B'.d] rfl)
  have L2a := Lib.hid (L2.out.alloc (.cells #[.slice B'.A B'.n B'.c, .slice B'.A' B'.n' B'.c', .int .i64 B'.bend, .slice B'.K B'.m B'.d] 25))
  have HCK := Lib.hid (Costs_any B' s _ (HA.out.below E2.out))
  have HLK := Lib.hid (fun W (hb : Below w2.heap.size w2 W) => Look_any B' s W (HA.out.below hb))
  have HSM := Lib.hid (fun W (hb : Below w2.heap.size w2 W) (hb2 : Below w.heap.size w W) => RefSame_any B B' W (H.out.below hb2) (HA.out.below hb) HL.out)
  unfold Bl.val Sw.val at *
  have l2 := L2a.out.get
  have x2 := X2.out.cell
  go_wp2_with fail
  refine HCK.out.mono ?_
  rintro e w3 ⟨b3, hcs⟩
  rw [HL.out.err, HL.out.costs, HL.out.m] at hcs
  have E3 := Lib.hid (below_then E2.out b3)
  have L3 := Lib.hid (L2a.out.below b3)
  have X3 := Lib.hid (blk_keep b3 X2.out)
  have HLK3 := Lib.hid (HLK.out _ E3.out)
  clear b3 E2 X2 L2a HCK HLK l2 x2 L2
  have l3 := L3.out.get
  have x3 := X3.out.cell
  rcases hcs with ⟨hE, rfl⟩ | ⟨herr, v, rfl, hown⟩
  · have hE2 : (B.err s != 0) = true := by simpa using hE
    have hE3 : (B.err s == B.err s) = true := by simp
    have HE := Lib.hid hE
    clear hE
    go_wp2_with fail
    refine HLK3.out.mono ?_
    rintro e w4 ⟨b4, hlk⟩
    rw [HL.out.err, HL.out.look, HL.out.n] at hlk
    rcases hlk with ⟨_, rfl⟩ | ⟨e0, _⟩ | ⟨e0, _⟩
    case inr.inl => exact absurd e0 HE.out
    case inr.inr => exact absurd e0 HE.out
    have E4 := Lib.hid (below_then E3.out b4)
    have L4 := Lib.hid (L3.out.below b4)
    have X4 := Lib.hid (blk_keep b4 X3.out)
    have HSM4 := Lib.hid (HSM.out _ E4.out L4.out.bel)
    clear b4 HLK3 l3 x3 L3 X3 E3 HSM HE
    have l4 := L4.out.get
    have x4 := X4.out.cell
    generalize B.err s = E at *
    go_wp2_with fail
    refine HSM4.out.mono ?_
    rintro e w5 ⟨rfl, b5⟩
    have L5 := Lib.hid (L4.out.below b5)
    have HPL5 := Lib.hid (HPL.out _ L5.out.bel)
    have l5 := L5.out.get
    clear b5 l4 L4 x4 X4 E4 HSM4 HPL
    go_wp2_with fail
    refine HPL5.out.mono ?_
    rintro e w6 ⟨rfl, b6⟩
    have L6 := Lib.hid (L5.out.below b6)
    clear b6 l5 L5 HPL5
    go_wp2_with fail
    refine (HKN.out _).mono ?_
    rintro e w9 ⟨rfl, b9⟩
    have D9 := Lib.hid (below_then L6.out.bel b9)
    clear b9 L6
    go_wp2
    go_ret
    exact ⟨rfl, D9.out⟩
  · obtain ⟨A, c, rfl⟩ := own_slice hown
    obtain ⟨hce, hok, hso⟩ := err_ok herr
    have hce' : B.cerr = 0 := hce
    have HSU := Lib.hid (fun W (hb : Below w.heap.size w W) => Sure_any B W (H.out.below hb) hce')
    have HMO := Lib.hid (most_like (B1 := B) (B2 := B) (s := s) ⟨rfl, rfl, rfl, rfl, rfl, rfl, rfl⟩ hce' hso H.out.hb.len H.out.ht.len)
    have HWO := Lib.hid (fun (k : Nat) W (hb : Below w.heap.size w W) (hk : k < B.m) => RefWithout_any B k W (H.out.below hb) (by omega) (by omega) (by omega) hk HDD.out)
    have HS2 := Lib.hid (fun (k : Nat) (B2 : Bl) (hL : (B.less k 0 0).Like B2) W (hat : B2.At W) => Sure_any B2 W hat (by rw [hL.cerr]; exact less_cerr hce' k))
    have HM2 : Hid (∀ (k : Nat) (B2 : Bl) (_ : (B.less k 0 0).Like B2) (W0 : World) (_ : B2.At W0), ∀ TA TB K c c' d W, (sureV B2 TA TB K c c' d).At W → Calls Try.prog 37 #[(sureV B2 TA TB K c c' d).val, s.val] W fun e w' => ∃ A n cc, e = .returned (.slice A n cc) ∧ (n : Int) = countL (B.worstX s k) B.n ∧ Below W.heap.size W w') := fun k B2 hL W0 hat => by
      exact most_like (s := s) hL (less_cerr hce' k) hso hat.hb.len hat.ht.len
    have HRL := Lib.hid (fun W (hb : Below w.heap.size w W) => RefLook_any B s W (H.out.below hb) hce' hso)
    have HCI := Lib.hid (fun x => countL_in x B.n hok.n2)
    have HI : Hid (Ints w3 A B.m (costsL B s)) := (reads_of_own hown).r
    have HQK := Lib.hid (fun k (hk : k < B.m) => costs_at (B := B) (s := s) hk)
    have HLI := Lib.hid (lookTo_in B s hok.n2 B.n (Nat.le_refl _))
    rw [herr] at HPL
    have HER := Lib.hid herr
    clear herr hce hok hso hce' hown
    unfold Bl.val at HSU HWO HS2
    unfold Bl.val Sw.val at HRL
    unfold Sw.val at HMO HM2
    go_wp2_with fail
    refine HLK3.out.mono ?_
    rintro e w4 ⟨b4, hlk⟩
    rw [HL.out.err, HL.out.look, HL.out.n] at hlk
    have E4 := Lib.hid (below_then E3.out b4)
    have L4 := Lib.hid (L3.out.below b4)
    have X4 := Lib.hid (blk_keep b4 X3.out)
    have HI4 := Lib.hid (Reads.below HI.out b4)
    have HSM4 := Lib.hid (HSM.out _ E4.out L4.out.bel)
    clear b4 HLK3 l3 x3 L3 X3 E3 HSM HI
    have l4 := L4.out.get
    have x4 := X4.out.cell
    obtain ⟨col, gain, f, rfl, hcl⟩ : ∃ col gain f : Int, e = .returned (.tuple #[.int .i64 col, .int .i64 gain, .int .i64 f]) ∧ (((lookTo B s B.n).2 = 0 ∧ col = 0 ∧ gain = 0 ∧ f = 7) ∨ ((lookTo B s B.n).2 ≠ 0 ∧ col = (lookTo B s B.n).1 ∧ gain = (lookTo B s B.n).2 ∧ f = 0)) := by
      rcases hlk with ⟨e0, _⟩ | ⟨_, h2, rfl⟩ | ⟨_, h2, rfl⟩
      · exact absurd HER.out e0
      · exact ⟨0, 0, 7, rfl, .inl ⟨h2, rfl, rfl, rfl⟩⟩
      · exact ⟨_, _, 0, rfl, .inr ⟨h2, rfl, rfl, rfl⟩⟩
    have HCL := Lib.hid hcl
    clear hlk hcl HER
    go_wp2_with fail
    refine HSM4.out.mono ?_
    rintro e w5 ⟨rfl, b5⟩
    have L5 := Lib.hid (L4.out.below b5)
    have HI5 := Lib.hid (Reads.below HI4.out b5)
    have HPL5 := Lib.hid (HPL.out _ L5.out.bel)
    have l5 := L5.out.get
    clear b5 l4 L4 x4 X4 E4 HSM4 HPL HI4
    go_wp2_with fail
    refine HPL5.out.mono ?_
    rintro e w6 ⟨rfl, b6⟩
    have L6 := Lib.hid (L5.out.below b6)
    have HI6 := Lib.hid (Reads.below HI5.out b6)
    clear b6 l5 L5 HPL5 HI5
    have l6 := L6.out.get
    have N5 := Lib.hid L6.out.drewd
    have NI5 := Lib.hid (Reads.below HI6.out (Below.refl _ _).drew)
    go_upto_region 13 with (fail)
    go_region_held3 (fun W => (W.cell? ⟨w.heap.size, 0, none⟩ = some (.slice B.A B.n B.c) ∧ W.cell? ⟨w.heap.size, 1, none⟩ = some (.slice B.A' B.n' B.c') ∧ W.cell? ⟨w.heap.size, 2, none⟩ = some (.int .i64 B.bend) ∧ W.cell? ⟨w.heap.size, 3, none⟩ = some (.slice B.K B.m B.d)) ∧
      W.cell? ⟨w.heap.size + 1, 0, none⟩ = some (.int .i64 s.long) ∧ W.cell? ⟨w.heap.size + 1, 1, none⟩ = some (.int .i64 s.wide) ∧ W.cell? ⟨w.heap.size + 1, 2, none⟩ = some (.int .i64 s.kerf) ∧ W.cell? ⟨w.heap.size + 1, 3, none⟩ = some (.int .i64 s.across))
      (first | with_reducible exact N5.out.get | with_reducible exact N7.out.get | with_reducible exact N6.out.get)
      (first
        | (go_at_call 29; refine (HSU.out _ N5.out.bel).mono ?_; rintro e W6 ⟨TA, TB, K, q1, q2, q3, rfl, hV, b6⟩; have N6 := Lib.hid (N5.out.below b6); have NI6 := Lib.hid (Reads.below NI5.out b6); have HV6 := Lib.hid hV; clear hV b6)
        | (go_at_call 37; refine (HMO.out _ _ _ _ _ _ _ HV6.out).mono ?_; rintro e W7 ⟨A7, n7, c7, rfl, hn7, b7⟩; have N7 := Lib.hid (N6.out.below b7); have NI7 := Lib.hid (Reads.below NI6.out b7); have HN7 := Lib.hid hn7; clear hn7 b7))
    have hnow := HN7.out
    have hn7 := HCI.out (B.worst s)
    rw [← hnow] at hn7 HQK
    clear hnow HN7 l6 L6 HI6 N5 N6 NI5 NI6 HV6 HSU HMO
    go_wp2_with fail
    go_loopw [13] (fun i wr => ∃ k : Nat, k ≤ B.m ∧ i = .int .i64 k ∧ LV w B s wr ∧ Ints wr A B.m (costsL B s)) (fun i _ => B.m - (intOf i).toNat)
    case atStart => exact ⟨0, Nat.zero_le _, rfl, N7.out, NI7.out⟩
    case round =>
      obtain ⟨k, hk, rfl, hlv, hin⟩ := hrel
      have M4 := Lib.hid hlv
      have HI4 := Lib.hid hin
      have m4 := M4.out.get
      clear hlv hin N7 NI7
      by_cases hlt : k < B.m
      · have M5 := Lib.hid M4.out.drewd
        have HI5 := Lib.hid (Reads.below HI4.out (Below.refl _ _).drew)
        obtain ⟨b, off, hA, hb, q0⟩ := Ints.at_ HI5.out hlt
        subst hA
        have hcx := HCI.out (B.worstX s k)
        have hck := Lib.hid (HQK.out k hlt)
        generalize (costsL B s).getD k 0 = ck at *
        have K5 := Lib.hid (And.intro M5.out.get q0)
        have hlt2 : (k : Int) < (B.m : Int) := by omega
        clear q0 HI4
        go_upto_region 17 with (fail)
        go_region_held3 (fun W => ((W.cell? ⟨w.heap.size, 0, none⟩ = some (.slice B.A B.n B.c) ∧ W.cell? ⟨w.heap.size, 1, none⟩ = some (.slice B.A' B.n' B.c') ∧ W.cell? ⟨w.heap.size, 2, none⟩ = some (.int .i64 B.bend) ∧ W.cell? ⟨w.heap.size, 3, none⟩ = some (.slice B.K B.m B.d)) ∧
      W.cell? ⟨w.heap.size + 1, 0, none⟩ = some (.int .i64 s.long) ∧ W.cell? ⟨w.heap.size + 1, 1, none⟩ = some (.int .i64 s.wide) ∧ W.cell? ⟨w.heap.size + 1, 2, none⟩ = some (.int .i64 s.kerf) ∧ W.cell? ⟨w.heap.size + 1, 3, none⟩ = some (.int .i64 s.across)) ∧ W.cell? ⟨b, off + k, none⟩ = some (.int .i64 ck))
          (first | with_reducible exact K5.out | with_reducible exact K8.out | with_reducible exact K7.out | with_reducible exact K6.out)
          (first
            | (go_at_call 46; refine (HWO.out k _ M5.out.bel hlt).mono ?_; rintro e W6 ⟨B2, rfl, hlk, hat, b6⟩; have M6 := Lib.hid (M5.out.below b6); have HI6 := Lib.hid (Reads.below HI5.out b6); have K6 := Lib.hid (And.intro M6.out.get (cell_stay b6 K5.out.2)); have HS3 := Lib.hid (HS2.out k B2 hlk _ hat); have HM3 := Lib.hid (HM2.out k B2 hlk _ hat); clear hlk hat b6)
            | (go_at_call 29; refine HS3.out.mono ?_; rintro e W7 ⟨TA, TB, K, q1, q2, q3, rfl, hV, b7⟩; have M7 := Lib.hid (M6.out.below b7); have HI7 := Lib.hid (Reads.below HI6.out b7); have K7 := Lib.hid (And.intro M7.out.get (cell_stay b7 K6.out.2)); have HV7 := Lib.hid hV; clear hV b7)
            | (go_at_call 37; refine (HM3.out _ _ _ _ _ _ _ HV7.out).mono ?_; rintro e W8 ⟨A8, n8, c8, rfl, hn8, b8⟩; have M8 := Lib.hid (M7.out.below b8); have HI8 := Lib.hid (Reads.below HI7.out b8); have K8 := Lib.hid (And.intro M8.out.get (cell_stay b8 K7.out.2)); have k8 : IntKind.i64.wrap ((n8 : Int) - (n7 : Int)) = (n8 : Int) - (n7 : Int) := IntWalk.i64_in _ (by omega); have hq : (ck != (n8 : Int) - (n7 : Int)) = false := (by rw [hck.out, ← hn8]; exact bne_self_eq_false _); clear hn8 b8))
        clear K5 K6 K7 K8 M5 M6 M7 HI5 HI6 HI7 HS3 HM3 HV7 hck
        go_wp2
        go_roundw
        case rel => exact ⟨k + 1, by omega, by go_num, M8.out, HI8.out⟩
        case measure => simp [intOf]; omega
      · obtain rfl : k = B.m := by omega
        have HRL4 := Lib.hid (HRL.out _ M4.out.bel)
        clear HWO HS2 HM2 HQK HRL HI4
        go_wp2_with fail
        refine HRL4.out.mono ?_
        rintro e w8 ⟨rfl, b8⟩
        have M8 := Lib.hid (M4.out.below b8)
        clear b8 HRL4 m4 M4
        rcases HCL.out with ⟨h2, rfl, rfl, rfl⟩ | ⟨h2, rfl, rfl, rfl⟩
        · have h3 : ((lookTo B s B.n).2 == 0) = true := by simpa using h2
          clear h2 HCL HLI
          go_wp2_with fail
          refine (HKN.out _).mono ?_
          rintro e w9 ⟨rfl, b9⟩
          have D9 := Lib.hid (below_then M8.out.bel b9)
          clear b9 M8
          go_wp2
          go_ret
          exact ⟨rfl, D9.out⟩
        · have h3 : ((lookTo B s B.n).2 == 0) = false := by simpa using h2
          have h4 : ((lookTo B s B.n).2 == (lookTo B s B.n).2) = true := by simp
          have h5 : ((lookTo B s B.n).1 == (lookTo B s B.n).1) = true := by simp
          clear h2 HCL HLI
          go_wp2_with fail
          refine (HKN.out _).mono ?_
          rintro e w9 ⟨rfl, b9⟩
          have D9 := Lib.hid (below_then M8.out.bel b9)
          clear b9 M8
          go_wp2
          go_ret
          exact ⟨rfl, D9.out⟩
end Go.Proofs.Ytiflhimmieflpaa
