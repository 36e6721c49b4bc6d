/- Walks: the law of the centre: behind its first loop. -/
import Derived.Test.YtdekickmplkdiaaPc
namespace Go.Proofs.Ytdekickmplkdiaa
open Go.RowKit

theorem closeE0 {l : List Stk} (h : stkErr l = 0) (z : Int) : closeE l z = z := if_pos h
theorem holds0 {l : List Stk} (h : stkErr l = 0) {t : Int} (ht : 0 ≤ t ∧ t ≤ 5000) : holdsE l (t, t) = 0 ∧ ∀ b, holdsB l (t, t) b = b := by
  have hv : validS 0 5000 [(t, t)] = true := by simp [validS]; omega
  have e : holdsE l (t, t) = 0 := by unfold holdsE; rw [if_pos h, if_pos hv]
  exact ⟨e, fun b => by unfold holdsB; rw [if_pos e]⟩
set_option maxRecDepth 100000 in
set_option maxHeartbeats 8000000 in
noncomputable def centre_2 (ys : List Int) (S : Option Addr) (n c : Nat) (xs : List Int) (B : Option Addr) (m dc : Nat) (far : Int) (w : World) (h0 : Hid (Fives w S n ys)) (hB0 : Hid (Bytes w B m xs)) (hn0 : Hid (n ≤ maxLen)) (hm0 : Hid (m ≤ maxLen)) (hf0 : Hid (Byte far)) : PSigma fun G : Prop => Lc G → Lc (centre_1 ys S n c xs B m dc far w h0 hB0 hn0 hm0 hf0).1 := by
  apply PSigma.mk
  case snd =>
    intro kG
    refine ⟨?_⟩
    intro hn i0 hi hz0 hz1 hz2 HSP HK dW dT dN dP tW tT sTo HLN sF HFB fv zx0 zx1 wz wr u13 u14 u15 zx2 zx3 zx4 zx5 zx6 zx7 zx8 u43 u44 u45 u46 u47 u48 u49 u50 u51 u52 u53 u54 u55 u56 u57 u58 u59 u60 u61 u62 u63 u64 u65 u66 u67 u68 u69 u70 u71 u72 u73 u74 u75 u76 u77 u78 u79 u80 u81 u82 u83 u84 u85 u86 u87 u88 u89 u90 u91 u92 u93 u94 u95 u96 u97 u98 u99 u100 u101 u102 u103 u104 u105 u106 u107 u108 u109 u110 u111 u112 u113 u114 u115 u116 u117 u118 k A' c' HNK zx9 u36 u37 u38 u39 u40 u41 u42 hnn hnn1 hnn2 HNN HSB HSI HMB HAT HCF hk zx10 zx11 hlt I1 BV HN1 HDK zx12 zx13
    have hn1 := HN1.out
    have E0 := Lib.hid (stk_err0 HSB.out)
    have HOW := Lib.hid (fun A2 c2 W (h : Stks W A2 k (sTo k)) => LawOwn_any (sTo k) A2 k c2 W h (by omega))
    have HCO := Lib.hid (fun A2 c2 W (h : Stks W A2 k (sTo k)) => Closed_any (sTo k) A2 k c2 W h (by unfold maxLen; omega))
    have HBA := Lib.hid (fun A2 c2 W (h : Stks W A2 k (sTo k)) => Balance_any (sTo k) A2 k c2 W h (by unfold maxLen; omega))
    have HHO := Lib.hid (fun A2 c2 W (h : Stks W A2 k (sTo k)) => Holds_any (sTo k) (dT k) (dT k) A2 k c2 W h (by unfold maxLen; omega))
    unfold OwnSRes at HOW
    have hh0 := holds0 E0.out (t := dT k) (by have := HDK.out; omega)
    simp only [closeE0 E0.out, E0.out] at HCO
    simp only [hh0.1, hh0.2] at HHO
    clear hh0
    have hsi := HSI.out
    obtain ⟨a1, ha1⟩ : ∃ z, sumLo false (sTo k) = z := ⟨_, rfl⟩
    obtain ⟨a2, ha2⟩ : ∃ z, sumHi false (sTo k) = z := ⟨_, rfl⟩
    obtain ⟨a3, ha3⟩ : ∃ z, sumLo true (sTo k) = z := ⟨_, rfl⟩
    obtain ⟨a4, ha4⟩ : ∃ z, sumHi true (sTo k) = z := ⟨_, rfl⟩
    rw [ha1, ha2, ha3, ha4] at hsi
    rw [ha1, ha2, ha3, ha4] at HCO
    rw [ha3, ha4] at HHO
    clear ha1 ha2 ha3 ha4
    obtain ⟨N0, hb1⟩ : ∃ z, (balR (sTo k)).1.1 = z := ⟨_, rfl⟩
    obtain ⟨D0, hb2⟩ : ∃ z, (balR (sTo k)).1.2 = z := ⟨_, rfl⟩
    obtain ⟨N1, hb3⟩ : ∃ z, (balR (sTo k)).2.1.1 = z := ⟨_, rfl⟩
    obtain ⟨D1, hb4⟩ : ∃ z, (balR (sTo k)).2.1.2 = z := ⟨_, rfl⟩
    obtain ⟨r0, hb5⟩ : ∃ z, (balR (sTo k)).2.2 = z := ⟨_, rfl⟩
    rw [hb1, hb2, hb3, hb4, hb5] at HBA
    have HBR := Lib.hid (And.intro hb1 (And.intro hb2 (And.intro hb3 (And.intro hb4 hb5))))
    clear hb1 hb2 hb3 hb4 hb5
    have HS2 := Lib.hid hsi
    clear hsi
    have HSP2 := Lib.hid (HSP.out (dT k) (dT k))
    go_wp2_with fail
    refine (HOW.out _ _ _ I1.out).mono ?_
    rintro e w1 ⟨A1, c1, rfl, hG, b1⟩
    have G1 := Lib.hid hG
    have B1 := Lib.hid b1
    clear hG b1
    go_wp2_with fail
    refine (HCO.out _ _ _ G1.out).mono ?_
    rintro e w2 ⟨rfl, b2⟩
    have BV2 := Lib.hid (below_then BV.out (below_then B1.out b2))
    have I2 := Lib.hid (I1.out.below (below_then B1.out b2))
    clear b2 B1 G1 HCO
    have P2 := Lib.hid (Blk.new w2 23 #[.int .i64 0, .int .i64 0] (g := w2.heap.size) rfl |>.alloc (.cells #[.int .i64 0, .int .i64 0] 23))
    have T3 := Lib.hid (T2.one w2 23 #[.int .i64 0, .int .i64 0] #[.int .i64 0, .int .i64 0] #[.int .i64 a1, .int .i64 a2])
    have T4 := Lib.hid (T3.out.two #[.int .i64 a3, .int .i64 a4])
    have BV4 := Lib.hid (below_then BV2.out T4.out.bel)
    have I4 := Lib.hid (I2.out.below T4.out.bel)
    go_wp2_with (first | (refine wpList_store_row rfl 23 _ _ rfl w2.heap.size _ rfl rfl 23 _ P2.out (by kernel_rfl) rfl (by kernel_rfl) ?_) | (refine wpList_store_row rfl 23 _ _ rfl (w2.heap.size + 1) _ rfl rfl 23 _ T3.out.q (by kernel_rfl) rfl (by kernel_rfl) ?_))
    refine (HOW.out _ _ _ I4.out).mono ?_
    rintro e w5 ⟨A5, c5, rfl, hG, b5⟩
    have G5 := Lib.hid hG
    have BV5 := Lib.hid (below_then BV4.out b5)
    have I5 := Lib.hid (I4.out.below b5)
    have P5 := Lib.hid (blk_keep b5 T4.out.p)
    have Q5 := Lib.hid (blk_keep b5 T4.out.q)
    generalize w2.heap.size = g1 at *
    clear hG b5 P2 T3 T4 BV2 I2 BV4 I4
    go_wp2_with fail
    refine (HBA.out _ _ _ G5.out).mono ?_
    rintro e w6 ⟨rfl, b6⟩
    have BV6 := Lib.hid (below_then BV5.out b6)
    have I6 := Lib.hid (I5.out.below b6)
    have P6 := Lib.hid (blk_keep b6 P5.out)
    have Q6 := Lib.hid (blk_keep b6 Q5.out)
    clear b6 G5 BV5 I5 P5 Q5 HBA
    have R2 := Lib.hid (Blk.new w6 77 #[.int .i64 0, .int .i64 0] (g := w6.heap.size) rfl |>.alloc (.cells #[.int .i64 0, .int .i64 0] 77))
    have T3 := Lib.hid (T2.one w6 77 #[.int .i64 0, .int .i64 0] #[.int .i64 0, .int .i64 0] #[.int .i64 N0, .int .i64 D0])
    have T4 := Lib.hid (T3.out.two #[.int .i64 N1, .int .i64 D1])
    have BV7 := Lib.hid (below_then BV6.out T4.out.bel)
    have I7 := Lib.hid (I6.out.below T4.out.bel)
    have P7 := Lib.hid (blk_keep T4.out.bel P6.out)
    have Q7 := Lib.hid (blk_keep T4.out.bel Q6.out)
    clear BV6 I6 P6 Q6
    go_wp2_with (first | (refine wpList_store_row rfl 77 _ _ rfl w6.heap.size _ rfl rfl 77 _ R2.out (by kernel_rfl) rfl (by kernel_rfl) ?_) | (refine wpList_store_row rfl 77 _ _ rfl (w6.heap.size + 1) _ rfl rfl 77 _ T3.out.q (by kernel_rfl) rfl (by kernel_rfl) ?_))
    refine (HOW.out _ _ _ I7.out).mono ?_
    rintro e w8 ⟨A8, c8, rfl, hG, b8⟩
    have G8 := Lib.hid hG
    have T8 := Lib.hid (T4.out.below b8)
    have BV8 := Lib.hid (below_then BV7.out b8)
    have I8 := Lib.hid (I7.out.below b8)
    have P8 := Lib.hid (blk_keep b8 P7.out)
    have Q8 := Lib.hid (blk_keep b8 Q7.out)
    clear hG b8 R2 T3 T4 BV7 I7 P7 Q7
    have R8 := Lib.hid T8.out.p
    have S8 := Lib.hid T8.out.q
    generalize w6.heap.size = g2 at *
    clear T8
    go_wp2_with fail
    refine (HSP.out _ _ _).mono ?_
    rintro e w9 ⟨rfl, b9⟩
    have G9 := Lib.hid (G8.out.below b9)
    have BV9 := Lib.hid (below_then BV8.out b9)
    have I9 := Lib.hid (I8.out.below b9)
    have P9 := Lib.hid (blk_keep b9 P8.out)
    have Q9 := Lib.hid (blk_keep b9 Q8.out)
    have R9 := Lib.hid (blk_keep b9 R8.out)
    have S9 := Lib.hid (blk_keep b9 S8.out)
    clear b9 G8 BV8 I8 P8 Q8 R8 S8
    go_wp2_with fail
    refine (HHO.out _ _ _ G9.out).mono ?_
    rintro e v ⟨rfl, b9⟩
    have BV := Lib.hid (below_then BV9.out b9)
    have I1 := Lib.hid (I9.out.below b9)
    have P1 := Lib.hid (blk_keep b9 P9.out)
    have Q1 := Lib.hid (blk_keep b9 Q9.out)
    have R1 := Lib.hid (blk_keep b9 R9.out)
    have S1 := Lib.hid (blk_keep b9 S9.out)
    clear b9 G9 BV9 I9 P9 Q9 R9 S9 HHO
    go_upto_region 13 with fail
    have hs := HS2.out
    have x1 := pair_get P1.out
    have x2 := pair_get Q1.out
    have z1 : ¬ dW k < a1 := by omega
    have z2 : ¬ a2 < dW k := by omega
    have z3 : ¬ dT k < a3 := by omega
    have z4 : ¬ a4 < dT k := by omega
    have z5 : a3 ≤ dT k := by omega
    have z6 : decide (a4 ≤ dT k) = (dT k == a4) := by
      rw [Bool.eq_iff_iff]
      simp only [decide_eq_true_eq, beq_iff_eq]
      omega
    rw [z6]
    obtain ⟨sv, hsv⟩ : ∃ z, (dT k == a4) = z := ⟨_, rfl⟩
    rw [hsv, decide_eq_true z5]
    clear z6
    go_cut [184] from 143 to 184 (fun s W => s = .bool false ∧ v = W)
    case first =>
      cases sv
      all_goals
        go_wp2_with fail
        go_meet
        exact ⟨rfl, rfl⟩
    case rest =>
      obtain ⟨rfl, rfl⟩ := hcut
      clear x1 x2 z1 z2 z3 z4 z5 hs
      go_upto_region 15 with fail
      by_cases hk0 : k = 0
      · have hr : r0 = 7 := by
          rw [← HBR.out.2.2.2.2]
          unfold balR
          rw [if_pos E0.out, if_pos (by rw [HLN.out]; exact hk0)]
        subst hr
        clear HCF HBR HAT HMB
        subst hk0
        go_wp2_with (go_at_call 17; refine (HK.out _).mono ?_; rintro e w99 ⟨rfl, b99⟩)
        go_ret
        exact ⟨rfl, below_then BV.out b99⟩
      · have hk1 : 0 < k := by omega
        obtain ⟨x0, y0, x1, y1, e0, e1, b0, b1, hq, hP0, hP1, hF⟩ := HCF.out hk1
        have hb : balR (sTo k) = ((x0, y0), (x1, y1), 0) := by
          unfold balR
          rw [if_pos E0.out, if_neg (by rw [HLN.out]; exact hk0), e0, e1]
        have hbr := HBR.out
        rw [hb] at hbr
        simp only at hbr
        obtain ⟨rfl, rfl, rfl, rfl, rfl⟩ := hbr
        have HP0 := Lib.hid hP0
        have HP1 := Lib.hid hP1
        have HF2 := Lib.hid (hF far hf0.out)
        have HXY := Lib.hid (And.intro b0 b1)
        have HQ := Lib.hid hq
        have v2 : ((k : Int) == 0) = false := by simp; omega
        have v3 : ((k : Int) = 0) = False := by simp; omega
        clear hP0 hP1 hF hb e0 e1 HBR HCF
        have x1' := pair_get R1.out
        have x2' := pair_get S1.out
        go_upto_region 17 with fail
        have hdk := HDK.out
        have m0 := mul_bd (x := dN k) (X := 6000000) (y := y0) (Y := 120000) (by omega) (by omega) (by omega) (by omega)
        have m1 := mul_bd (x := dN k) (X := 6000000) (y := y1) (Y := 120000) (by omega) (by omega) (by omega) (by omega)
        have m2 := mul_bd (x := x0) (X := 600000000) (y := dW k) (Y := 4000) (by omega) (by omega) (by omega) (by omega)
        have m3 := mul_bd (x := x1) (X := 600000000) (y := dW k) (Y := 4000) (by omega) (by omega) (by omega) (by omega)
        go_cut [256] from 193 to 256 (fun s W => s = .bool false ∧ v = W)
        case first =>
          have u1 : IntKind.i64.wrap (dN k * y0) = dN k * y0 := IntWalk.i64_in _ (by omega)
          have u2 : IntKind.i64.wrap (dN k * y1) = dN k * y1 := IntWalk.i64_in _ (by omega)
          have u3 : IntKind.i64.wrap (x0 * dW k) = x0 * dW k := IntWalk.i64_in _ (by omega)
          have u4 : IntKind.i64.wrap (x1 * dW k) = x1 * dW k := IntWalk.i64_in _ (by omega)
          have z1 : ¬ dN k * y0 < x0 * dW k := by omega
          have z2 : ¬ x1 * dW k < dN k * y1 := by omega
          go_wp2_with fail
          go_meet
          refine ⟨?_, rfl⟩
          rw [decide_eq_false (by omega : ¬ y0 < 1), decide_eq_false (by omega : ¬ y1 < 1), decide_eq_false (by omega : ¬ x0 < 0), decide_eq_false (by omega : ¬ x1 < 0), decide_eq_false (by omega : ¬ 1048576 < y0), decide_eq_false (by omega : ¬ 1048576 < y1), decide_eq_false (by omega : ¬ 2147483648 < x0), decide_eq_false (by omega : ¬ 2147483648 < x1)]
          rfl
        case rest =>
          obtain ⟨rfl, rfl⟩ := hcut
          clear m0 m1 m2 m3 hdk x1' x2' v2 v3 hq b0 b1
          go_upto_region 19 with fail
          rename_i zw0 zw1 zw2 zw3 zw4 zw5
          revert hn i0 hi hz0 hz1 hz2 HSP HK dW dT dN dP tW tT sTo HLN sF HFB fv zx0 zx1 wz wr u13 u14 u15 zx2 zx3 zx4 zx5 zx6 zx7 zx8 u43 u44 u45 u46 u47 u48 u49 u50 u51 u52 u53 u54 u55 u56 u57 u58 u59 u60 u61 u62 u63 u64 u65 u66 u67 u68 u69 u70 u71 u72 u73 u74 u75 u76 u77 u78 u79 u80 u81 u82 u83 u84 u85 u86 u87 u88 u89 u90 u91 u92 u93 u94 u95 u96 u97 u98 u99 u100 u101 u102 u103 u104 u105 u106 u107 u108 u109 u110 u111 u112 u113 u114 u115 u116 u117 u118 k A' c' HNK zx9 u36 u37 u38 u39 u40 u41 u42 hnn hnn1 hnn2 HNN HSB HSI HMB HAT hk zx10 zx11 hlt zw0 zw1 HN1 HDK hn1 E0 HOW a1 a2 a3 a4 HS2 HSP2 w1 A1 c1 w2 w5 A5 c5 g1 w6 w8 A8 c8 g2 w9 v BV I1 P1 Q1 sv hsv u143 u144 u145 u146 u147 u148 u149 u150 u151 u152 u153 u154 u155 u156 u157 u158 u159 u160 u161 u162 u163 u164 u165 u166 u167 u168 u169 u170 u171 u172 u173 u174 u175 u176 u177 u178 u179 u180 u181 u182 u183 hk0 hk1 x0 y0 x1 y1 R1 S1 HP0 HP1 HF2 HXY HQ u193 u194 u195 u196 u197 u198 u199 u200 u201 u202 u203 u204 u205 u206 u207 u208 u209 u210 u211 u212 u213 u214 u215 u216 u217 u218 u219 u220 u221 u222 u223 u224 u225 u226 u227 u228 u229 u230 u231 u232 u233 u234 u235 u236 u237 u238 u239 u240 u241 u242 u243 u244 u245 u246 u247 u248 u249 u250 u251 u252 u253 u254 u255 zw2 zw3 zw4 zw5
          exact kG.out
end Go.Proofs.Ytdekickmplkdiaa
