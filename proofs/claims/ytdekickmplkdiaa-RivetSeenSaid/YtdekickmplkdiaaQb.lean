/- Walks: the law of what is seen: to its loops. -/
import Derived.Test.YtdekickmplkdiaaQa
import Derived.Test.YtdekickmplkdiaaRz
import Derived.Test.YtdekickmplkdiaaVd
import Derived.Deep.CutRange
import Derived.Deep.CutBlock
namespace Go.Proofs.Ytdekickmplkdiaa
open Go.RowKit

/-- A proof under a structure, so that a walk can be parted. -/
structure Ls (p : Prop) : Prop where
  out : p
/-- What is looked at while a gap is appended. -/
def S33 (t g b off : Nat) (x y ll lh fl fh : Value) (W : World) : Prop := (W.cell? ⟨t, 4, none⟩ = some x ∧ W.cell? ⟨g, 4, none⟩ = some y) ∧ W.cell? ⟨b, off, none⟩ = some ll ∧ W.cell? ⟨b, off + 1, none⟩ = some lh ∧ W.cell? ⟨b, off + 2, none⟩ = some fl ∧ W.cell? ⟨b, off + 3, none⟩ = some fh
theorem own_gaps2 {w : World} {base n c : Nat} {A : Option Addr} {xs : List Gap} (h : w.ownsRow base 42 4 (.slice A n c) n (flatG xs)) : Gaps w A n xs := (own_gaps h).1
theorem three_get {W : World} {s : Nat} {ty : TypeId} {x y z : Value} (h : Blk W s ty #[x, y, z]) : W.cell? ⟨s, 0, none⟩ = some x ∧ W.cell? ⟨s, 1, none⟩ = some y ∧ W.cell? ⟨s, 2, none⟩ = some z := ⟨h.cell 0, h.cell 1, h.cell 2⟩
theorem wrong_near {f : Fan} {D a b : Int} (hE : fanErr f = 0) (h1 : degL false f ≤ D) (h2 : D ≤ degL true f) (ha : 0 ≤ a ∧ a ≤ D) (hb : D ≤ b ∧ b ≤ 360) : wrongE f (a, b) = 7 ∧ wrongL f (a, b) = [] := by
  have hv : validS 0 360 [(a, b)] = true := by simp [validS]; omega
  have e : wrongE f (a, b) = 7 := by
    unfold wrongE
    rw [if_pos hE, if_pos hv, decide_eq_true (show (a, b).1 ≤ degL true f by simp only; omega), decide_eq_true (show degL false f ≤ (a, b).2 by simp only; omega)]
    rfl
  refine ⟨e, ?_⟩
  unfold wrongL
  rw [if_neg (by rw [e]; decide)]
theorem wrong_cases {f : Fan} {lo hi : Int} (hE : fanErr f = 0) (h0 : 0 ≤ lo) (h1 : lo ≤ hi) (h2 : hi ≤ 360) :
    ((degL false f ≤ hi ∧ lo ≤ degL true f) ∧ wrongE f (lo, hi) = 7 ∧ wrongL f (lo, hi) = []) ∨ (¬ (degL false f ≤ hi ∧ lo ≤ degL true f) ∧ f.gs.length = 0 ∧ wrongE f (lo, hi) = 9 ∧ wrongL f (lo, hi) = []) ∨
    (¬ (degL false f ≤ hi ∧ lo ≤ degL true f) ∧ 0 < f.gs.length ∧ wrongE f (lo, hi) = 0 ∧ wrongL f (lo, hi) = fewestL f hi) := by
  have hv : validS 0 360 [(lo, hi)] = true := by simp [validS]; omega
  have e : wrongE f (lo, hi) = if (decide (lo ≤ degL true f) && decide (degL false f ≤ hi)) = true then 7 else if f.gs.length = 0 then 9 else 0 := by
    unfold wrongE
    rw [if_pos hE, if_pos hv]
  by_cases hc : degL false f ≤ hi ∧ lo ≤ degL true f
  · rw [decide_eq_true hc.1, decide_eq_true hc.2] at e
    have e : wrongE f (lo, hi) = 7 := e
    exact Or.inl ⟨hc, e, by unfold wrongL; rw [if_neg (by rw [e]; decide)]⟩
  · have hd : (decide (lo ≤ degL true f) && decide (degL false f ≤ hi)) = false := by
      rw [Bool.and_eq_false_iff]
      simp only [decide_eq_false_iff_not]
      omega
    rw [hd, if_neg (by simp)] at e
    by_cases hn : f.gs.length = 0
    · rw [if_pos hn] at e
      exact Or.inr (Or.inl ⟨hc, hn, e, by unfold wrongL; rw [if_neg (by rw [e]; decide)]⟩)
    · rw [if_neg hn] at e
      exact Or.inr (Or.inr ⟨hc, by omega, e, by unfold wrongL; rw [if_pos e]⟩)
set_option maxRecDepth 100000 in
set_option maxHeartbeats 8000000 in
noncomputable def seen_1 (x : Fo) (xs : List Int) (B : Option Addr) (m dc : Nat) (b0 b1 b2 : Int) (w : World) (h0 : Hid (x.At w)) (hB0 : Hid (Bytes w B m xs)) (hm0 : Hid (m ≤ maxLen)) (hc0 : Hid (Byte b0)) (hc1 : Hid (Byte b1)) (hc2 : Hid (Byte b2)) : PSigma fun G : Prop => Ls G → Calls Try.prog 14 #[.agg x.cells, .slice B m dc, .agg #[.int .u8 b0, .int .u8 b1, .int .u8 b2]] w fun e w' => e = .returned (.bool true) ∧ Below w.heap.size w w' := by
  apply PSigma.mk
  case snd =>
    intro kG
    have h := h0.out
    have hB := hB0.out
    have hm := hm0.out
    have hb0 := hc0.out
    have hb1 := hc1.out
    have hb2 := hc2.out
    obtain ⟨i0, hi, hz0, hz1, hz2⟩ := info_parts Try.infoGap
    have HK := Lib.hid (fun W => known_any W)
    unfold KnownRes at HK
    have HFAN := Lib.hid (fun W (hb : Below w.heap.size w W) => fan_any x W (h.below hb))
    have herr := h.err
    have hlf : x.fan.gs.length = x.m := x.gsTo_len _
    have hn12 : x.m ≤ 12 := Nat.min_le_right _ _
    have P0 := fan5_get ((Blk.new w 86 x.cells rfl).alloc (.cells #[.int .u8 b0, .int .u8 b1, .int .u8 b2] 96))
    have B0 := Lib.hid (below_alloc' (below_self w (.cells x.cells 86)) (.cells #[.int .u8 b0, .int .u8 b1, .int .u8 b2] 96))
    have Y0 : Hid (Blk ((w.alloc (.cells x.cells 86)).alloc (.cells #[.int .u8 b0, .int .u8 b1, .int .u8 b2] 96)) (w.heap.size + 1) 96 #[.int .u8 b0, .int .u8 b1, .int .u8 b2]) := Lib.hid (Blk.new _ _ _ (by simp))
    clear h
    simp only [Fo.cells] at *
    generalize x.m = n at *
    generalize x.fan = f at *
    unfold Byte at hb0 hb1 hb2
    have hf := (fanB_of herr).1
    have hte := true_err hB.2 herr
    have ht := (fanB_of hte).1
    have hds := true_deg hB.2 hf ht
    have hD0 := degF_bd (turn_bd ht).1.1 (turn_bd ht).2.1
    have HTR := Lib.hid (fun A c W (hG : Gaps W A n f.gs) (hb : Below w.heap.size w W) => truly_any f xs A B n c m dc W hf hG (hB.below hb) hm)
    have HTT := Lib.hid (fun A c W (hG : Gaps W A n (f.true xs).gs) => turn_any (f.true xs) A n c W ht hG)
    have HDT := Lib.hid (fun W => degrees_any (turnN (f.true xs)) (turnD (f.true xs)) W (turn_bd ht).1.1 (by have := (turn_bd ht).1.2; omega) (turn_bd ht).2.1 (turn_bd ht).2.2)
    have HCF := Lib.hid (fun A c W (hG : Gaps W A n f.gs) => copied_any f A n c W hG (by omega))
    have HOF := Lib.hid (fun A c W (hG : Gaps W A n f.gs) => by
      have q := Opens_any f A n c W hG (by unfold maxLen; omega)
      rw [opens_val herr, herr] at q
      exact q)
    have HSP := Lib.hid (fun a b W => lawSpan_any a b W)
    obtain ⟨D, hD⟩ : ∃ z, degF (turnN (f.true xs)) (turnD (f.true xs)) = z := ⟨_, rfl⟩
    rw [hD] at HDT hds hD0
    generalize turnN (f.true xs) = tn at *
    generalize turnD (f.true xs) = td at *
    clear hD
    obtain ⟨c0, m1⟩ : ∃ z, b0.tmod 3 = z := ⟨_, rfl⟩
    obtain ⟨q0, m2⟩ : ∃ z, b0.tdiv 3 = z := ⟨_, rfl⟩
    obtain ⟨c1, m3⟩ : ∃ z, q0.tmod 3 = z := ⟨_, rfl⟩
    obtain ⟨lo, m4⟩ : ∃ z, (b1 * 360).tdiv 255 = z := ⟨_, rfl⟩
    obtain ⟨c2, m5⟩ : ∃ z, b2.tmod 5 = z := ⟨_, rfl⟩
    have q1 : 0 ≤ c0 ∧ c0 ≤ 2 := by rw [← m1, Int.tmod_eq_emod_of_nonneg hb0.1]; omega
    have q2 : 0 ≤ q0 ∧ q0 ≤ 85 := by rw [← m2, Int.tdiv_eq_ediv_of_nonneg hb0.1]; omega
    have q3 : 0 ≤ c1 ∧ c1 ≤ 2 := by rw [← m3, Int.tmod_eq_emod_of_nonneg q2.1]; omega
    have q4 : 0 ≤ lo ∧ lo ≤ 360 := by rw [← m4, Int.tdiv_eq_ediv_of_nonneg (by omega)]; omega
    have q5 : 0 ≤ c2 ∧ c2 ≤ 4 := by rw [← m5, Int.tmod_eq_emod_of_nonneg hb2.1]; omega
    have u0 : IntKind.i64.wrap b0 = b0 := IntWalk.i64_in _ (by omega)
    have u1 : IntKind.i64.wrap b1 = b1 := IntWalk.i64_in _ (by omega)
    have u2 : IntKind.i64.wrap b2 = b2 := IntWalk.i64_in _ (by omega)
    have u3 : IntKind.i64.wrap c0 = c0 := IntWalk.i64_in _ (by omega)
    have u4 : IntKind.i64.wrap q0 = q0 := IntWalk.i64_in _ (by omega)
    have u5 : IntKind.i64.wrap c1 = c1 := IntWalk.i64_in _ (by omega)
    have u6 : IntKind.i64.wrap (b1 * 360) = b1 * 360 := IntWalk.i64_in _ (by omega)
    have u7 : IntKind.i64.wrap lo = lo := IntWalk.i64_in _ (by omega)
    have u8 : IntKind.i64.wrap c2 = c2 := IntWalk.i64_in _ (by omega)
    have u9 : IntKind.i64.wrap (D - c0) = D - c0 := IntWalk.i64_in _ (by omega)
    have u10 : IntKind.i64.wrap (D + c1) = D + c1 := IntWalk.i64_in _ (by omega)
    have u11 : IntKind.i64.wrap (lo + c2) = lo + c2 := IntWalk.i64_in _ (by omega)
    obtain ⟨a, ha⟩ : ∃ z, max 0 (D - c0) = z := ⟨_, rfl⟩
    obtain ⟨b, hb⟩ : ∃ z, min 360 (D + c1) = z := ⟨_, rfl⟩
    obtain ⟨hh, hhh⟩ : ∃ z, min 360 (lo + c2) = z := ⟨_, rfl⟩
    have ha' : (if 0 < D - c0 then D - c0 else 0) = a := by rw [← ha]; split <;> omega
    have hb' : (if D + c1 < 360 then D + c1 else 360) = b := by rw [← hb]; split <;> omega
    have hh' : (if lo + c2 < 360 then lo + c2 else 360) = hh := by rw [← hhh]; split <;> omega
    have HW1 := Lib.hid (fun (A : Option Addr) (cA : Nat) (W : World) (hG : Gaps W A n f.gs) => by
      have e := wrong_near (a := a) (b := b) herr hds.1 hds.2 (by rw [← ha]; omega) (by rw [← hb]; omega)
      have q := Wrong_any f a b A n cA W hG (by unfold maxLen; omega)
      rw [e.1, e.2] at q
      exact q)
    have HW2 := Lib.hid (fun A c W (hG : Gaps W A n f.gs) => Wrong_any f lo hh A n c W hG (by unfold maxLen; omega))
    have HWC := Lib.hid (wrong_cases (lo := lo) (hi := hh) herr q4.1 (by rw [← hhh]; omega) (by rw [← hhh]; omega))
    have HHH : Hid (0 ≤ hh ∧ hh ≤ 360) := by unfold Hid; rw [← hhh]; omega
    have HSE := Lib.hid (fun (h0 : 0 < f.gs.length) => seen_list (d := hh) herr HHH.out.1 h0)
    have HER := Lib.hid herr
    have HLF := Lib.hid hlf
    have HFB := Lib.hid hf
    have HN := Lib.hid hn12
    have HBY := Lib.hid (fun W (hb : Below w.heap.size w W) => hB.below hb)
    have HMX := Lib.hid hm
    unfold OwnRes at HCF HFAN HTR
    unfold WrongRes at HW1 HW2
    have HFF : Hid (∀ A' m' c', fanA f A' m' c' = #[.int .i64 f.a, .int .i64 f.b, .int .i64 f.c, .int .i64 f.d, .slice A' m' c']) := fun _ _ _ => rfl
    simp only [HFF.out] at HCF HOF HFAN HTR HW1 HW2
    obtain ⟨s1, hs1⟩ : ∃ z, degL false f = z := ⟨_, rfl⟩
    obtain ⟨s2, hs2⟩ : ∃ z, degL true f = z := ⟨_, rfl⟩
    rw [hs1, hs2] at HOF HWC
    clear hs1 hs2 hB hm hlf herr HFF hf hte ht hds hD0 q1 q2 q3 q4 q5 hb0 hb1 hb2 hn12
    obtain ⟨fa, hfa⟩ : ∃ z, f.a = z := ⟨_, rfl⟩
    obtain ⟨fb, hfb⟩ : ∃ z, f.b = z := ⟨_, rfl⟩
    obtain ⟨fc, hfc⟩ : ∃ z, f.c = z := ⟨_, rfl⟩
    obtain ⟨fd, hfd⟩ : ∃ z, f.d = z := ⟨_, rfl⟩
    rw [hfa, hfb, hfc, hfd] at HCF HOF HFAN HTR HW1 HW2
    have HA := Lib.hid (And.intro hfa (And.intro hfb (And.intro hfc hfd)))
    clear hfa hfb hfc hfd
    obtain ⟨L2, hL2⟩ : ∃ z, wrongL f (lo, hh) = z := ⟨_, rfl⟩
    obtain ⟨r2, hr2⟩ : ∃ z, wrongE f (lo, hh) = z := ⟨_, rfl⟩
    obtain ⟨l2, hl2⟩ : ∃ z, L2.length = z := ⟨_, rfl⟩
    rw [hL2, hr2] at HW2 HWC
    rw [hl2] at HW2
    have HL2 := Lib.hid hl2
    clear hL2 hr2 hl2
    go_enter Try.func14, Try.ntmps14
    go_wp2_with fail
    refine (HFAN.out _ B0.out).mono ?_
    rintro e w1 ⟨A, c, rfl, hO, b1⟩
    have FB : Hid (Blk (w1.alloc (.cells #[.int .i64 fa, .int .i64 fb, .int .i64 fc, .int .i64 fd, .slice A n c] 26)) w1.heap.size 26 #[.int .i64 fa, .int .i64 fb, .int .i64 fc, .int .i64 fd, .slice A n c]) := Lib.hid (Blk.new _ _ _ rfl)
    have FG := Lib.hid (hO.1.below (below_self w1 (.cells #[.int .i64 fa, .int .i64 fb, .int .i64 fc, .int .i64 fd, .slice A n c] 26)))
    have FY := Lib.hid (blk_keep (below_self w1 (.cells #[.int .i64 fa, .int .i64 fb, .int .i64 fc, .int .i64 fd, .slice A n c] 26)) (blk_keep b1 Y0.out))
    have FW := Lib.hid (below_then (below_then B0.out b1) (below_self w1 (.cells #[.int .i64 fa, .int .i64 fb, .int .i64 fc, .int .i64 fd, .slice A n c] 26)))
    clear hO b1 B0 P0 Y0 HFAN
    go_wp2_with fail
    generalize w1.alloc (.cells #[.int .i64 fa, .int .i64 fb, .int .i64 fc, .int .i64 fd, .slice A n c] 26) = v0 at *
    generalize w1.heap.size = g at *
    have p2 := fan5_get FB.out
    go_wp2_with fail
    refine (HTR.out _ _ _ FG.out FW.out).mono ?_
    rintro e w2 ⟨A2, c2', rfl, hO, b2'⟩
    have G2 := Lib.hid hO.1
    have B2 := Lib.hid b2'
    clear hO b2' p2 HTR
    go_wp2_with fail
    refine (HTT.out _ _ _ G2.out).mono ?_
    rintro e w3 ⟨rfl, b3⟩
    have B3 := Lib.hid (below_then B2.out b3)
    clear b3 G2 B2 HTT
    go_wp2_with fail
    refine (HDT.out _).mono ?_
    rintro e w4 ⟨rfl, rfl⟩
    clear HDT
    go_upto_region 3 with fail
    have FB3 := Lib.hid (blk_keep B3.out FB.out)
    have FG3 := Lib.hid (FG.out.below B3.out)
    have FY3 := Lib.hid (blk_keep B3.out FY.out)
    have FW3 := Lib.hid (below_then FW.out B3.out)
    clear FB FG FY FW B3
    have KS := Lib.hid (fun W (hb : Below w3.heap.size w3 W) => And.intro (fan5_get (blk_keep hb FB3.out)) (three_get (blk_keep hb FY3.out)))
    go_cut [9, 10] from 39 to 59 (fun s9 s10 W => s10 = .int .i64 7 ∧ Below w3.heap.size w3 W)
    case first =>
      go_region_held3 (fun W => (W.cell? ⟨g, 0, none⟩ = some (.int .i64 fa) ∧ W.cell? ⟨g, 1, none⟩ = some (.int .i64 fb) ∧ W.cell? ⟨g, 2, none⟩ = some (.int .i64 fc) ∧ W.cell? ⟨g, 3, none⟩ = some (.int .i64 fd) ∧ W.cell? ⟨g, 4, none⟩ = some (.slice A n c)) ∧ W.cell? ⟨w.heap.size + 1, 0, none⟩ = some (.int .u8 b0) ∧ W.cell? ⟨w.heap.size + 1, 1, none⟩ = some (.int .u8 b1) ∧ W.cell? ⟨w.heap.size + 1, 2, none⟩ = some (.int .u8 b2))
        (first | with_reducible exact KS.out _ H3.out | with_reducible exact KS.out _ H2.out | with_reducible exact KS.out _ H1.out | with_reducible exact KS.out _ (Below.refl _ _).drew | with_reducible exact KS.out _ (Below.refl _ _))
        (first | (go_at_call 49; refine (HCF.out A c w3.drew (show Gaps w3 _ _ _ from FG3.out)).mono ?_; rintro e w5 ⟨A5, c5, rfl, o5, b5⟩; have H1 := Lib.hid (below_then (Below.refl w3.heap.size w3).drew b5); have G5 := Lib.hid o5.1; clear b5 o5) | (go_at_call 53; refine (HSP.out _ _ _).mono ?_; rintro e w6 ⟨rfl, b6⟩; have H2 := Lib.hid (below_then H1.out b6); have G6 := Lib.hid (G5.out.below b6); clear b6) | (go_at_call 32; refine (HW1.out _ _ _ G6.out).mono ?_; rintro e w7 ⟨v7, rfl, o7, b7⟩; have H3 := Lib.hid (below_then H2.out b7); clear b7 o7))
      all_goals
        go_wp2_with fail
        go_meet
        exact ⟨rfl, H3.out⟩
    case rest =>
      obtain ⟨rfl, hcb⟩ := hcut
      have B3 := Lib.hid hcb
      clear hcb KS HW1
      have FB := Lib.hid (blk_keep B3.out FB3.out)
      have FG := Lib.hid (FG3.out.below B3.out)
      have FY := Lib.hid (blk_keep B3.out FY3.out)
      have FW := Lib.hid (below_then FW3.out B3.out)
      clear FB3 FG3 FY3 FW3 B3
      (try clear ha)
      (try clear hb)
      (try clear ha')
      (try clear hb')
      (try clear m1)
      (try clear m2)
      (try clear m3)
      (try clear u0)
      (try clear u3)
      (try clear u4)
      (try clear u5)
      (try clear u9)
      (try clear u10)
      have y7 := three_get FY.out
      go_wp2_with fail
      refine (HSP.out _ _ _).mono ?_
      rintro e w8 ⟨rfl, b8⟩
      clear y7
      (try clear u1)
      (try clear u2)
      (try clear u6)
      (try clear u7)
      (try clear u8)
      (try clear u11)
      (try clear m4)
      (try clear m5)
      (try clear hhh)
      (try clear hh')
      have FQ : Hid (Blk (w8.alloc (.cells #[.int .i64 lo, .int .i64 hh] 23)) w8.heap.size 23 #[.int .i64 lo, .int .i64 hh]) := Lib.hid (Blk.new _ _ _ rfl)
      have B8 := Lib.hid (below_alloc' b8 (.cells #[.int .i64 lo, .int .i64 hh] 23))
      clear b8
      go_upto_region 8 with fail
      generalize w8.alloc (.cells #[.int .i64 lo, .int .i64 hh] 23) = w9 at *
      generalize w8.heap.size = gq at *
      have FB9 := Lib.hid (blk_keep B8.out FB.out)
      have FG9 := Lib.hid (FG.out.below B8.out)
      have FW9 := Lib.hid (below_then FW.out B8.out)
      clear FB FG FY FW B8
      have KS := Lib.hid (fun W (hb : Below w9.heap.size w9 W) => And.intro (fan5_get (blk_keep hb FB9.out)) (spn_get (blk_keep hb FQ.out)))
      go_cut [13, 14] from 77 to 82 (fun s13 s14 W => ∃ AL cL, s13 = .slice AL l2 cL ∧ s14 = .int .i64 r2 ∧ Below w9.heap.size w9 W ∧ Ints W AL l2 L2)
      case first =>
        go_region_held3 (fun W => (W.cell? ⟨g, 0, none⟩ = some (.int .i64 fa) ∧ W.cell? ⟨g, 1, none⟩ = some (.int .i64 fb) ∧ W.cell? ⟨g, 2, none⟩ = some (.int .i64 fc) ∧ W.cell? ⟨g, 3, none⟩ = some (.int .i64 fd) ∧ W.cell? ⟨g, 4, none⟩ = some (.slice A n c)) ∧ W.cell? ⟨gq, 0, none⟩ = some (.int .i64 lo) ∧ W.cell? ⟨gq, 1, none⟩ = some (.int .i64 hh))
          (first | with_reducible exact KS.out _ H2.out | with_reducible exact KS.out _ H1.out | with_reducible exact KS.out _ (Below.refl _ _).drew | with_reducible exact KS.out _ (Below.refl _ _))
          (first | (go_at_call 49; refine (HCF.out A c w9.drew (show Gaps w9 _ _ _ from FG9.out)).mono ?_; rintro e w10 ⟨A10, c10, rfl, o10, b10⟩; have H1 := Lib.hid (below_then (Below.refl w9.heap.size w9).drew b10); have G10 := Lib.hid o10.1; clear b10 o10) | (go_at_call 32; refine (HW2.out _ _ _ G10.out).mono ?_; rintro e w11 ⟨v11, rfl, o11, b11⟩; have H2 := Lib.hid (below_then H1.out b11); have O11 := Lib.hid o11; clear b11 o11))
        all_goals
          obtain ⟨AL, cL, rfl⟩ := own_slice O11.out
          have IL : Hid (Ints w11 AL l2 L2) := by
            obtain ⟨A', c', e, h⟩ := own_ints O11.out
            simp only [Value.slice.injEq, true_and] at e
            obtain ⟨rfl, rfl⟩ := e
            exact h
          go_wp2_with fail
          go_meet
          exact ⟨AL, cL, rfl, rfl, H2.out, IL.out⟩
      case rest =>
        obtain ⟨AL, cL, rfl, rfl, hcb, hci⟩ := hcut
        have B9 := Lib.hid hcb
        have IL := Lib.hid hci
        clear hcb hci KS HW2
        have FB := Lib.hid (blk_keep B9.out FB9.out)
        have FG := Lib.hid (FG9.out.below B9.out)
        have FQ := Lib.hid (blk_keep B9.out FQ.out)
        have FW := Lib.hid (below_then FW9.out B9.out)
        clear FB9 FG9 FW9 B9
        have p9 := fan5_get FB.out
        go_wp2_with fail
        refine (HCF.out _ _ _ FG.out).mono ?_
        rintro e w12 ⟨A12, c12, rfl, o12, b12⟩
        have G12 := Lib.hid o12.1
        have B12 := Lib.hid b12
        clear o12 b12 p9 HCF
        go_wp2_with fail
        refine (HOF.out _ _ _ G12.out).mono ?_
        rintro e w13 ⟨rfl, b13⟩
        clear HOF G12
        have FS : Hid (Blk (w13.alloc (.cells #[.int .i64 s1, .int .i64 s2] 23)) w13.heap.size 23 #[.int .i64 s1, .int .i64 s2]) := Lib.hid (Blk.new _ _ _ rfl)
        have B13 := Lib.hid (below_alloc' (below_then B12.out b13) (.cells #[.int .i64 s1, .int .i64 s2] 23))
        clear b13 B12
        go_upto_region 10 with fail
        generalize w13.alloc (.cells #[.int .i64 s1, .int .i64 s2] 23) = v at *
        generalize w13.heap.size = gs at *
        have FB := Lib.hid (blk_keep B13.out FB.out)
        have FG := Lib.hid (FG.out.below B13.out)
        have FQ := Lib.hid (blk_keep B13.out FQ.out)
        have FW := Lib.hid (below_then FW.out B13.out)
        have IL := Lib.hid (IL.out.below B13.out)
        clear B13
        have pf := fan5_get FB.out
        have pq := spn_get FQ.out
        have ps := spn_get FS.out
        rcases HWC.out with ⟨⟨z1, z2⟩, rfl, rfl⟩ | ⟨z1, z2, rfl, rfl⟩ | ⟨z1, z2, rfl, z3⟩
        · have hl : l2 = 0 := HL2.out.symm
          subst hl
          clear HWC HSE
          go_wp2_with (go_at_call 17; refine (HK.out _).mono ?_; rintro e w99 ⟨rfl, b99⟩)
          go_ret
          exact ⟨rfl, below_then FW.out b99⟩
        · have hl : l2 = 0 := HL2.out.symm
          subst hl
          have hn0 : n = 0 := by have := HLF.out; omega
          subst hn0
          clear HWC HSE
          have z4 : s1 ≤ hh → ¬ lo ≤ s2 := fun h1 h2 => z1 ⟨h1, h2⟩
          by_cases z5 : s1 ≤ hh
          · have z6 := z4 z5
            clear z1 z4 z2
            go_wp2_with (go_at_call 17; refine (HK.out _).mono ?_; rintro e w99 ⟨rfl, b99⟩)
            go_ret
            exact ⟨rfl, below_then FW.out b99⟩
          · clear z1 z4 z2
            go_wp2_with (go_at_call 17; refine (HK.out _).mono ?_; rintro e w99 ⟨rfl, b99⟩)
            go_ret
            exact ⟨rfl, below_then FW.out b99⟩
        · obtain ⟨G, g1, g2, g3, g4, g5, g6, g7⟩ := HSE.out z2
          rw [g1] at z3
          subst z3
          have hl : l2 = G.length := by rw [← HL2.out]; simp [castL]
          subst hl
          have HG := Lib.hid (And.intro g2 (And.intro g3 (And.intro g4 (And.intro g5 (And.intro g6 g7)))))
          have hnp : 0 < n := by have := HLF.out; omega
          have hr1 : 1 ≤ G.length := g2
          have hrn : G.length ≤ n := by have := HLF.out; omega
          clear g1 g2 g3 g4 g5 g6 g7 HSE HWC HL2
          generalize hr : G.length = r at *
          have HR := Lib.hid hr
          clear hr
          have v1 : ((n : Int) == 0) = false := by simp; omega
          have v2 : ((n : Int) = 0) = False := by simp; omega
          have v3 : (n = 0) = False := by simp; omega
          have v4 : ((r : Int) == 0) = false := by simp; omega
          have v5 : ((r : Int) = 0) = False := by simp; omega
          have v6 : (r = 0) = False := by simp; omega
          have v7 : ¬ (n : Int) < r := by omega
          go_upto_region 12 with fail
          go_cut [102] from 91 to 102 (fun s W => s = .bool false ∧ v = W)
          case first =>
            have z4 : s1 ≤ hh → ¬ lo ≤ s2 := fun h1 h2 => z1 ⟨h1, h2⟩
            by_cases z5 : s1 ≤ hh
            · have z6 := z4 z5
              clear z1 z4 z2
              go_wp2_with fail
              go_meet
              exact ⟨rfl, rfl⟩
            · clear z1 z4 z2
              go_wp2_with fail
              go_meet
              exact ⟨rfl, rfl⟩
          case rest =>
            obtain ⟨rfl, rfl⟩ := hcut
            clear z1 z2 ps
            go_upto_region 18 with fail
            clear pf pq v1 v2 v3 v4 v5 v6 v7 FS
            rename_i zy0 zy1 zy2 zy3 zy4 zy5 zy6 zy7 zy8 zy9 zy10 zy11 zy12
            revert i0 hi hz0 hz1 hz2 HK n f HSP D tn td c0 q0 c1 lo c2 zy0 a b hh HHH HER HLF HFB HN HBY HMX s1 s2 fa fb fc fd HA zy1 w1 A c v0 g w2 A2 c2' w3 zy2 u9 u38 u39 u40 u41 u42 u43 u44 u45 u46 u47 u48 u49 u50 u51 u52 u53 u54 u55 u56 u57 u58 u59 w8 w9 gq zy3 wc u76 u77 u78 u79 u80 u81 u82 AL cL zy4 zy5 zy6 zy7 w12 A12 c12 w13 v gs FB FG FQ FW G hnp r zy8 IL HG hr1 hrn HR u91 u92 u93 u94 u95 u96 u97 u98 u99 u100 u101 zy9 zy10 zy11 zy12
            exact kG.out
end Go.Proofs.Ytdekickmplkdiaa
