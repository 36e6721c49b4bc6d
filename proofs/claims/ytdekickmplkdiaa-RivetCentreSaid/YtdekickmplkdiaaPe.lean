/- Walks: the law of the centre: its last loops; the law. -/
import Derived.Test.YtdekickmplkdiaaPd
import Derived.Test.YtdekickmplkdiaaPo
namespace Go.Proofs.Ytdekickmplkdiaa
open Go.RowKit

/-- The sums of a truth in which some sticks are heavy, the others light. -/
theorem half_sums (l : List Stk) (sF : Nat → Stk) (k : Nat) (hat : ∀ i < k, l.getD i Stk.zero = sF i) (hb : ∀ i, (1 ≤ (sF i).wl ∧ (sF i).wl ≤ (sF i).wh ∧ (sF i).wh ≤ 295) ∧ (1 ≤ (sF i).tl ∧ (sF i).tl ≤ (sF i).th ∧ (sF i).th ≤ 99) ∧ 0 ≤ (sF i).pl ∧ (sF i).pl ≤ 1785) (P : Nat → Bool) :
    ∃ an ad : Nat → Int, (an 0 = 0 ∧ ad 0 = 0) ∧ (∀ i < k, an (i + 1) = an i + (if P i = true then (sF i).wh else (sF i).wl) * (sF i).pl ∧ ad (i + 1) = ad i + (if P i = true then (sF i).wh else (sF i).wl)) ∧ (∀ i, i ≤ k → (0 ≤ an i ∧ an i ≤ 526575 * i) ∧ 0 ≤ ad i ∧ ad i ≤ 295 * i) ∧ an k = numC (wP P l) l k ∧ ad k = denC (wP P l) k := by
  have hw : ∀ i < k, wP P l i = if P i = true then (sF i).wh else (sF i).wl := fun i hi => by unfold wP; rw [hat i hi]
  refine ⟨numC (wP P l) l, denC (wP P l), ⟨rfl, rfl⟩, fun i hi => ?_, fun i hi => ?_, rfl, rfl⟩
  · simp only [numC, denC, hw i hi, hat i hi]
    exact ⟨trivial, trivial⟩
  · induction i with
    | zero => simp [numC, denC]
    | succ i ih =>
      have h := ih (by omega)
      have hq := hb i
      simp only [numC, denC, hw i (by omega), hat i (by omega)]
      obtain ⟨o, ho⟩ : ∃ o, (if P i = true then (sF i).wh else (sF i).wl) = o := ⟨_, rfl⟩
      have ho1 : 0 ≤ o ∧ o ≤ 295 := by rw [← ho]; split <;> omega
      rw [ho]
      have hm := mul_bd (x := o) (X := 295) (y := (sF i).pl) (Y := 1785) (by omega) (by omega) (by omega) (by omega)
      omega
set_option maxRecDepth 100000 in
set_option maxHeartbeats 8000000 in
theorem centre_3 (ys : List Int) (S : Option Addr) (n c : Nat) (xs : List Int) (B : Option Addr) (m dc : Nat) (far : Int) (w : World) (h0 : Hid (Fives w S n ys)) (hB0 : Hid (Bytes w B m xs)) (hn0 : Hid (n ≤ maxLen)) (hm0 : Hid (m ≤ maxLen)) (hf0 : Hid (Byte far)) : Lc (centre_2 ys S n c xs B m dc far w h0 hB0 hn0 hm0 hf0).1 := by
  refine ⟨?_⟩
  intro hn i0 hi hz0 hz1 hz2 HSP HK dW dT dN dP tW tT sTo HLN sF HFB fv zx0 zx1 wz wr u13 u14 u15 zx2 zx3 zx4 zx5 zx6 zx7 zx8 u43 u44 u45 u46 u47 u48 u49 u50 u51 u52 u53 u54 u55 u56 u57 u58 u59 u60 u61 u62 u63 u64 u65 u66 u67 u68 u69 u70 u71 u72 u73 u74 u75 u76 u77 u78 u79 u80 u81 u82 u83 u84 u85 u86 u87 u88 u89 u90 u91 u92 u93 u94 u95 u96 u97 u98 u99 u100 u101 u102 u103 u104 u105 u106 u107 u108 u109 u110 u111 u112 u113 u114 u115 u116 u117 u118 k A' c' HNK zx9 u36 u37 u38 u39 u40 u41 u42 hnn hnn1 hnn2 HNN HSB HSI HMB HAT hk zx10 zx11 hlt zw0 zw1 HN1 HDK hn1 E0 HOW a1 a2 a3 a4 HS2 HSP2 w1 A1 c1 w2 w5 A5 c5 g1 w6 w8 A8 c8 g2 w9 v BV I1 P1 Q1 sv hsv u143 u144 u145 u146 u147 u148 u149 u150 u151 u152 u153 u154 u155 u156 u157 u158 u159 u160 u161 u162 u163 u164 u165 u166 u167 u168 u169 u170 u171 u172 u173 u174 u175 u176 u177 u178 u179 u180 u181 u182 u183 hk0 hk1 x0 y0 x1 y1 R1 S1 HP0 HP1 HF2 HXY HQ u193 u194 u195 u196 u197 u198 u199 u200 u201 u202 u203 u204 u205 u206 u207 u208 u209 u210 u211 u212 u213 u214 u215 u216 u217 u218 u219 u220 u221 u222 u223 u224 u225 u226 u227 u228 u229 u230 u231 u232 u233 u234 u235 u236 u237 u238 u239 u240 u241 u242 u243 u244 u245 u246 u247 u248 u249 u250 u251 u252 u253 u254 u255 zw2 zw3 zw4 zw5
  have x1' := pair_get R1.out
  have x2' := pair_get S1.out
  go_wp2_with fail
  go_loopw [25] (fun s25 wr => ∃ j : Nat, j ≤ 2 ∧ s25 = .int .i64 j ∧ Below v.heap.size v wr) (fun s25 _ => 2 - (intOf s25).toNat)
  case atStart => exact ⟨0, by omega, rfl, Below.refl _ _⟩
  case round =>
    obtain ⟨j, hj, rfl, hb⟩ := hrel
    have BJ := Lib.hid hb
    clear hb x1' x2'
    have p1 := pair_get (blk_keep BJ.out R1.out)
    have p2 := pair_get (blk_keep BJ.out S1.out)
    by_cases hlt : j < 2
    · have hj2 : (j : Int) < 2 := by omega
      obtain ⟨X, Y, hX0, hX1⟩ : ∃ X Y : Int, (j = 0 → X = x0 ∧ Y = y0) ∧ (j = 1 → X = x1 ∧ Y = y1) := by
        rcases (by omega : j = 0 ∨ j = 1) with h | h
        · exact ⟨x0, y0, fun _ => ⟨rfl, rfl⟩, fun e => by omega⟩
        · exact ⟨x1, y1, fun e => by omega, fun _ => ⟨rfl, rfl⟩⟩
      have hrun : ∀ W : World, (Instr.index 108 (.agg #[.int .i64 x0, .int .i64 y0, .int .i64 x1, .int .i64 y1]) (.int .i64 (j : Int))).run Try.prog W = .ok (.agg #[.int .i64 X, .int .i64 Y]) W := fun W => by
        rcases (by omega : j = 0 ∨ j = 1) with h | h
        · rw [show (j : Int) = 0 by omega, (hX0 h).1, (hX0 h).2]; kernel_rfl
        · rw [show (j : Int) = 1 by omega, (hX1 h).1, (hX1 h).2]; kernel_rfl
      obtain ⟨P, hP⟩ : ∃ P : Nat → Bool, ∀ i, P i = (decide ((sF i).pl * Y ≤ X) == decide (j = 0)) := ⟨fun i => (decide ((sF i).pl * Y ≤ X) == decide (j = 0)), fun _ => rfl⟩
      obtain ⟨an, ad, ⟨ha0, hd0⟩, hstep, hbds, hank, hadk⟩ := half_sums (sTo k) sF k (fun i hi => HAT.out i hi) HFB.out P
      have hXY : (0 ≤ X ∧ X ≤ 600000000) ∧ 1 ≤ Y ∧ Y ≤ 120000 := by
        have hh := HXY.out
        rcases (by omega : j = 0 ∨ j = 1) with h | h
        · rw [(hX0 h).1, (hX0 h).2]; omega
        · rw [(hX1 h).1, (hX1 h).2]; omega
      have HE : Hid (an k * Y = X * ad k) := by
        unfold Hid
        rw [hank, hadk]
        rcases (by omega : j = 0 ∨ j = 1) with h | h
        · rw [(hX0 h).1, (hX0 h).2]
          exact HP0.out P fun i hi => by rw [hP i, (hX0 h).1, (hX0 h).2, h]; cases decide ((sF i).pl * y0 ≤ x0) <;> rfl
        · rw [(hX1 h).1, (hX1 h).2]
          exact HP1.out P fun i hi => by rw [hP i, (hX1 h).1, (hX1 h).2, h]; cases decide ((sF i).pl * y1 ≤ x1) <;> rfl
      have HPI := Lib.hid hP
      have HST := Lib.hid hstep
      have HBD := Lib.hid hbds
      have HA0 := Lib.hid (And.intro ha0 hd0)
      clear hX0 hX1 hP ha0 hd0 hstep hbds hank hadk
      go_upto_region 22 with fail
      go_wp2_with fail
      have QT : Hid (Blk ((wr.alloc (.cells #[.int .i64 X, .int .i64 Y] 77))) wr.heap.size 77 #[.int .i64 X, .int .i64 Y]) := Blk.new wr _ _ rfl
      have BT := Lib.hid (below_then BJ.out (below_self wr (.cells #[.int .i64 X, .int .i64 Y] 77)))
      have IT := Lib.hid (I1.out.below BT.out)
      generalize wr.alloc (.cells #[.int .i64 X, .int .i64 Y] 77) = wt at *
      generalize wr.heap.size = gt at *
      clear p1 p2 hrun
      go_loopw [27, 28, 29] (fun s27 s28 s29 W => ∃ i : Nat, i ≤ k ∧ s27 = .int .i64 (an i) ∧ s28 = .int .i64 (ad i) ∧ s29 = .int .i64 i ∧ Below wt.heap.size wt W) (fun _ _ s29 _ => k - (intOf s29).toNat)
      case atStart => exact ⟨0, Nat.zero_le _, by rw [HA0.out.1], by rw [HA0.out.2], rfl, Below.refl _ _⟩
      case round =>
        obtain ⟨i, hi, rfl, rfl, rfl, hbw⟩ := hrel
        rename_i wv
        have BW := Lib.hid hbw
        have IW := Lib.hid (IT.out.below BW.out)
        have QW := Lib.hid (blk_keep BW.out QT.out)
        clear hbw
        by_cases hlt2 : i < k
        · have hik : (i : Int) < k := by omega
          obtain ⟨b, off, hA, -, c0, c1, -, -, c4⟩ := IW.out.at_ hlt2
          rw [HAT.out i hlt2] at c0 c1 c4
          have q1 := HFB.out i
          have q2 := HST.out i hlt2
          have q3 := HPI.out i
          have q4 := HBD.out i hi
          subst hA
          have pq := pair_get QW.out
          generalize sF i = z at *
          obtain ⟨wl, wh, tl, th, pl⟩ := z
          simp only at q1 q2 q3 c0 c1 c4
          have hk11 := HN1.out
          have m1 := mul_bd (x := pl) (X := 1785) (y := Y) (Y := 120000) (by omega) (by omega) (by omega) (by omega)
          have m2 := mul_bd (x := wl) (X := 295) (y := pl) (Y := 1785) (by omega) (by omega) (by omega) (by omega)
          have m3 := mul_bd (x := wh) (X := 295) (y := pl) (Y := 1785) (by omega) (by omega) (by omega) (by omega)
          have u1 : IntKind.i64.wrap (pl * Y) = pl * Y := IntWalk.i64_in _ (by omega)
          have u2 : IntKind.i64.wrap (wl * pl) = wl * pl := IntWalk.i64_in _ (by omega)
          have u3 : IntKind.i64.wrap (wh * pl) = wh * pl := IntWalk.i64_in _ (by omega)
          have u4 : IntKind.i64.wrap (an i + wl * pl) = an i + wl * pl := IntWalk.i64_in _ (by omega)
          have u5 : IntKind.i64.wrap (an i + wh * pl) = an i + wh * pl := IntWalk.i64_in _ (by omega)
          have u6 : IntKind.i64.wrap (ad i + wl) = ad i + wl := IntWalk.i64_in _ (by omega)
          have u7 : IntKind.i64.wrap (ad i + wh) = ad i + wh := IntWalk.i64_in _ (by omega)
          have u8 : IntKind.i64.wrap ((i : Int) + 1) = (i : Int) + 1 := IntWalk.i64_in _ (by omega)
          have HQ2 := Lib.hid q2
          clear q1 q2 q4 m1 m2 m3
          by_cases hj0 : j = 0
          · have e1 : ((j : Int) == 0) = true := by simp; omega
            have e2 : ((j : Int) = 0) = True := eq_true (by omega)
            have e3 : (j = 0) = True := eq_true hj0
            rw [decide_eq_true hj0] at q3
            by_cases hc : pl * Y ≤ X
            · rw [decide_eq_true hc] at q3
              have HP := Lib.hid (show P i = true from q3.trans rfl)
              have HJ := Lib.hid hj0
              clear q3 hj0 e3
              go_upto_region 28 with fail
              go_quiet (fail)
              generalize hWN : World.drewN _ _ = wn
              have BN : Below wt.heap.size wt wn := by rw [← hWN]; exact below_drewN BW.out _
              have k0 : wn.cell? ⟨b, off + i * 5, none⟩ = some (.int .i64 wl) := by rw [← hWN]; exact c0
              have k1 : wn.cell? ⟨b, off + i * 5 + 1, none⟩ = some (.int .i64 wh) := by rw [← hWN]; exact c1
              have k4 : wn.cell? ⟨b, off + i * 5 + 4, none⟩ = some (.int .i64 pl) := by rw [← hWN]; exact c4
              have BM := Lib.hid BN
              clear hWN BN c0 c1 c4 pq BW IW QW
              go_wp2_with fail
              go_roundw
              case rel => exact ⟨i + 1, by omega, by rw [HQ2.out.1, HP.out, if_pos rfl], by rw [HQ2.out.2, HP.out, if_pos rfl], by go_num, BM.out⟩
              case measure => simp [intOf]; omega
            · rw [decide_eq_false hc] at q3
              have HP := Lib.hid (show P i = false from q3.trans rfl)
              have HJ := Lib.hid hj0
              clear q3 hj0 e3
              go_upto_region 28 with fail
              go_quiet (fail)
              generalize hWN : World.drewN _ _ = wn
              have BN : Below wt.heap.size wt wn := by rw [← hWN]; exact below_drewN BW.out _
              have k0 : wn.cell? ⟨b, off + i * 5, none⟩ = some (.int .i64 wl) := by rw [← hWN]; exact c0
              have k1 : wn.cell? ⟨b, off + i * 5 + 1, none⟩ = some (.int .i64 wh) := by rw [← hWN]; exact c1
              have k4 : wn.cell? ⟨b, off + i * 5 + 4, none⟩ = some (.int .i64 pl) := by rw [← hWN]; exact c4
              have BM := Lib.hid BN
              clear hWN BN c0 c1 c4 pq BW IW QW
              go_wp2_with fail
              go_roundw
              case rel => exact ⟨i + 1, by omega, by rw [HQ2.out.1, HP.out, if_neg (by simp)], by rw [HQ2.out.2, HP.out, if_neg (by simp)], by go_num, BM.out⟩
              case measure => simp [intOf]; omega
          · have e1 : ((j : Int) == 0) = false := by simp; omega
            have e2 : ((j : Int) = 0) = False := eq_false (by omega)
            have e3 : (j = 0) = False := eq_false hj0
            rw [decide_eq_false hj0] at q3
            by_cases hc : pl * Y ≤ X
            · rw [decide_eq_true hc] at q3
              have HP := Lib.hid (show P i = false from q3.trans rfl)
              have HJ := Lib.hid hj0
              clear q3 hj0
              go_upto_region 28 with fail
              go_quiet (fail)
              generalize hWN : World.drewN _ _ = wn
              have BN : Below wt.heap.size wt wn := by rw [← hWN]; exact below_drewN BW.out _
              have k0 : wn.cell? ⟨b, off + i * 5, none⟩ = some (.int .i64 wl) := by rw [← hWN]; exact c0
              have k1 : wn.cell? ⟨b, off + i * 5 + 1, none⟩ = some (.int .i64 wh) := by rw [← hWN]; exact c1
              have k4 : wn.cell? ⟨b, off + i * 5 + 4, none⟩ = some (.int .i64 pl) := by rw [← hWN]; exact c4
              have BM := Lib.hid BN
              clear hWN BN c0 c1 c4 pq BW IW QW
              go_wp2_with fail
              go_roundw
              case rel => exact ⟨i + 1, by omega, by rw [HQ2.out.1, HP.out, if_neg (by simp)], by rw [HQ2.out.2, HP.out, if_neg (by simp)], by go_num, BM.out⟩
              case measure => simp [intOf]; omega
            · rw [decide_eq_false hc] at q3
              have HP := Lib.hid (show P i = true from q3.trans rfl)
              have HJ := Lib.hid hj0
              clear q3 hj0
              go_upto_region 28 with fail
              go_quiet (fail)
              generalize hWN : World.drewN _ _ = wn
              have BN : Below wt.heap.size wt wn := by rw [← hWN]; exact below_drewN BW.out _
              have k0 : wn.cell? ⟨b, off + i * 5, none⟩ = some (.int .i64 wl) := by rw [← hWN]; exact c0
              have k1 : wn.cell? ⟨b, off + i * 5 + 1, none⟩ = some (.int .i64 wh) := by rw [← hWN]; exact c1
              have k4 : wn.cell? ⟨b, off + i * 5 + 4, none⟩ = some (.int .i64 pl) := by rw [← hWN]; exact c4
              have BM := Lib.hid BN
              clear hWN BN c0 c1 c4 pq BW IW QW
              go_wp2_with fail
              go_roundw
              case rel => exact ⟨i + 1, by omega, by rw [HQ2.out.1, HP.out, if_pos rfl], by rw [HQ2.out.2, HP.out, if_pos rfl], by go_num, BM.out⟩
              case measure => simp [intOf]; omega
        · obtain rfl : k = i := by omega
          have pq := pair_get QW.out
          have hbd := HBD.out k (Nat.le_refl _)
          have hk11 := HN1.out
          have m1 := mul_bd (x := an k) (X := 6000000) (y := Y) (Y := 120000) (by omega) (by omega) (by omega) (by omega)
          have m2 := mul_bd (x := X) (X := 600000000) (y := ad k) (Y := 4000) (by omega) (by omega) (by omega) (by omega)
          have u1 : IntKind.i64.wrap (an k * Y) = X * ad k := by rw [← HE.out]; exact IntWalk.i64_in _ (by omega)
          have u2 : IntKind.i64.wrap (X * ad k) = X * ad k := IntWalk.i64_in _ (by omega)
          have u3 : IntKind.i64.wrap ((j : Int) + 1) = (j : Int) + 1 := IntWalk.i64_in _ (by omega)
          clear hbd m1 m2
          go_wp2_with fail
          go_roundw
          case rel => exact ⟨j + 1, by omega, by go_num, below_then BT.out BW.out⟩
          case measure => simp [intOf]; omega
    · obtain rfl : j = 2 := by omega
      clear p1 p2
      have hdk := HDK.out
      have hfb := hf0.out
      have hk11 := HN1.out
      have HOW2 := Lib.hid (fun A2 c2 W (h : Stks W A2 k (sTo k)) => LawOwn_row (sTo k) A2 k c2 W h (by omega))
      unfold OwnTRes at HOW2
      have HBA2 := Lib.hid (fun A2 c2 W (h : Stks W A2 (k + 1) (sTo k ++ [stMore far (dP k)])) => Balance_any (sTo k ++ [stMore far (dP k)]) A2 (k + 1) c2 W h (by unfold maxLen; omega))
      obtain ⟨x2, y2, x3, y3, g2', g3', b2', b3', hle0, hle1⟩ := HF2.out
      have hbal : balR (sTo k ++ [stMore far (dP k)]) = ((x2, y2), (x3, y3), 0) := by
        unfold balR
        rw [if_pos (stk_err0 HMB.out), if_neg (by simp), g2', g3']
      rw [hbal] at HBA2
      clear hbal g2' g3' HF2
      have I2 := Lib.hid (I1.out.below BJ.out)
      have R2 := Lib.hid (blk_keep BJ.out R1.out)
      have S2 := Lib.hid (blk_keep BJ.out S1.out)
      have BV2 := Lib.hid (below_then BV.out BJ.out)
      have S5' := Lib.hid S2.out.lt
      have LW := Lib.hid BV2.out.size
      clear BJ I1 R1 S1 BV HAT HFB HP0 HP1
      unfold Byte at hfb
      have f1 : IntKind.i64.wrap far = far := IntWalk.i64_in _ (by omega)
      have f2 : IntKind.i64.wrap (1 + far) = 1 + far := IntWalk.i64_in _ (by omega)
      have f3 : IntKind.i64.wrap (dP k + far) = dP k + far := IntWalk.i64_in _ (by omega)
      clear hdk hfb
      go_wp2_with fail
      refine (HOW2.out _ _ _ I2.out).mono ?_
      rintro e w1 ⟨A3, c3, rfl, hO, b3⟩
      have O3 := Lib.hid hO
      have R3 := Lib.hid (blk_keep b3 R2.out)
      have S3 := Lib.hid (blk_keep b3 S2.out)
      have BV3 := Lib.hid (below_then BV2.out b3)
      have BN3 := Lib.hid b3.size
      clear hO b3 R2 S2 BV2 I2 HOW2
      go_wp2_with fail
      refine (HSP.out _ _ _).mono ?_
      rintro e w2 ⟨rfl, b3⟩
      have O4 := Lib.hid (ownsRow_below O3.out b3)
      have R4 := Lib.hid (blk_keep b3 R3.out)
      have S4 := Lib.hid (blk_keep b3 S3.out)
      have BV4 := Lib.hid (below_then BV3.out b3)
      have BN4 := Lib.hid (Nat.le_trans BN3.out b3.size)
      clear b3 O3 R3 S3 BV3 BN3
      go_wp2_with fail
      refine (HSP.out _ _ _).mono ?_
      rintro e w3 ⟨rfl, b3⟩
      have O5 := Lib.hid (ownsRow_below O4.out b3)
      have R5 := Lib.hid (blk_keep b3 R4.out)
      have S5 := Lib.hid (blk_keep b3 S4.out)
      have BV5 := Lib.hid (below_then BV4.out b3)
      have BN5 := Lib.hid (Nat.le_trans BN4.out b3.size)
      clear b3 O4 R4 S4 BV4 BN4
      go_wp2_with (at_builtin; refine wpList_append_any rfl _ _ 64 rfl wr.heap.size 106 i0 _ 5 40 Try.underlying64 hi hz0 hz1 hz2 rfl (by decide) _ k _ rfl (ownsRow_below O5.out (below_self _ _)) (some ⟨w3.heap.size, 0, none⟩) 1 1 (Stk.cells ⟨1, 1 + far, 1, 1, dP k + far⟩) rfl (stk_new w3 ⟨1, 1 + far, 1, 1, dP k + far⟩ _) (cellsT_one _) ?c1 ?c2 ?c3 ?_)
      case c1 => unfold maxLen; omega
      case c2 => omega
      case c3 => have := BN5.out; simp; omega
      intro v' W5 hown5 hgrow
      have O6 : Hid (W5.ownsRow wr.heap.size 106 5 v' (k + 1) (flatT (sTo k ++ [stMore far (dP k)]))) := by unfold Hid; rw [← flatT_snoc]; exact hown5
      obtain ⟨A6, c6, rfl⟩ := own_slice O6.out
      have LS := Lib.hid S5'.out
      have R6 := Lib.hid ((R5.out.alloc _).grown hgrow (fun e => by have := (O5.out.lt _ e).1; have := LS.out; omega))
      have S6 := Lib.hid ((S5.out.alloc _).grown hgrow (fun e => by have := (O5.out.lt _ e).1; have := LS.out; omega))
      have BV6 := Lib.hid ((below_alloc' BV5.out _).grown hgrow (by have := BV5.out.size; simp; omega) (fun g' e => by have := (O5.out.lt g' e.symm.symm).1; have := LW.out; omega))
      clear hown5 hgrow O5 R5 S5 BV5 BN5 HSP
      go_wp2_with fail
      refine (HBA2.out _ _ _ (stks_own O6.out)).mono ?_
      rintro e w7 ⟨rfl, b7⟩
      have R7 := Lib.hid (blk_keep b7 R6.out)
      have S7 := Lib.hid (blk_keep b7 S6.out)
      have BV7 := Lib.hid (below_then BV6.out b7)
      clear b7 O6 R6 S6 BV6 HBA2
      have R9 := Lib.hid (Blk.new w7 77 #[.int .i64 0, .int .i64 0] (g := w7.heap.size) rfl |>.alloc (.cells #[.int .i64 0, .int .i64 0] 77))
      have T3 := Lib.hid (T2.one w7 77 #[.int .i64 0, .int .i64 0] #[.int .i64 0, .int .i64 0] #[.int .i64 x2, .int .i64 y2])
      have T4 := Lib.hid (T3.out.two #[.int .i64 x3, .int .i64 y3])
      have r9 := pair_get (blk_keep T4.out.bel R7.out)
      have s9 := pair_get (blk_keep T4.out.bel S7.out)
      have p9 := pair_get T4.out.p
      have q9 := pair_get T4.out.q
      have BV9 := Lib.hid (below_then BV7.out T4.out.bel)
      clear R7 S7 BV7
      have hxy := HXY.out
      have m1 := mul_bd (x := x2) (X := 600000000) (y := y0) (Y := 120000) (by omega) (by omega) (by omega) (by omega)
      have m2 := mul_bd (x := x0) (X := 600000000) (y := y2) (Y := 120000) (by omega) (by omega) (by omega) (by omega)
      have m3 := mul_bd (x := x3) (X := 600000000) (y := y1) (Y := 120000) (by omega) (by omega) (by omega) (by omega)
      have m4 := mul_bd (x := x1) (X := 600000000) (y := y3) (Y := 120000) (by omega) (by omega) (by omega) (by omega)
      have u1 : IntKind.i64.wrap (x2 * y0) = x2 * y0 := IntWalk.i64_in _ (by omega)
      have u2 : IntKind.i64.wrap (x0 * y2) = x0 * y2 := IntWalk.i64_in _ (by omega)
      have u3 : IntKind.i64.wrap (x3 * y1) = x3 * y1 := IntWalk.i64_in _ (by omega)
      have u4 : IntKind.i64.wrap (x1 * y3) = x1 * y3 := IntWalk.i64_in _ (by omega)
      have t1 : 0 < y2 := by omega
      have t2 : 0 < y3 := by omega
      have t3 : y2 ≤ 1048576 := by omega
      have t4 : y3 ≤ 1048576 := by omega
      have t5 : 0 ≤ x2 := by omega
      have t6 : 0 ≤ x3 := by omega
      have t7 : x2 ≤ 2147483648 := by omega
      have t8 : x3 ≤ 2147483648 := by omega
      clear m1 m2 m3 m4 hxy b2' b3'
      go_upto_region 35 with (first | (refine wpList_store_row rfl 77 _ _ rfl w7.heap.size _ rfl rfl 77 _ R9.out (by kernel_rfl) rfl (by kernel_rfl) ?_) | (refine wpList_store_row rfl 77 _ _ rfl (w7.heap.size + 1) _ rfl rfl 77 _ T3.out.q (by kernel_rfl) rfl (by kernel_rfl) ?_))
      dsimp only [List.append_eq, List.cons_append, List.nil_append]
      generalize hW9 : World.setRow _ (w7.heap.size + 1) _ = w9 at *
      generalize w7.heap.size = g7 at *
      clear hW9 R9 T3 T4
      go_wp2_with (go_at_call 17; refine (HK.out _).mono ?_; rintro e w99 ⟨rfl, b99⟩)
      go_ret
      exact ⟨rfl, below_then BV9.out b99⟩
theorem RivetCentre_any (ys : List Int) (S : Option Addr) (n c : Nat) (xs : List Int) (B : Option Addr) (m dc : Nat) (far : Int) (w : World) (h0 : Hid (Fives w S n ys)) (hB0 : Hid (Bytes w B m xs)) (hn0 : Hid (n ≤ maxLen)) (hm0 : Hid (m ≤ maxLen)) (hf0 : Hid (Byte far)) :
    Calls Try.prog 16 #[.slice S n c, .slice B m dc, .int .u8 far] w fun e w' => e = .returned (.bool true) ∧ Below w.heap.size w w' :=
  (centre_1 ys S n c xs B m dc far w h0 hB0 hn0 hm0 hf0).2 ((centre_2 ys S n c xs B m dc far w h0 hB0 hn0 hm0 hf0).2 (centre_3 ys S n c xs B m dc far w h0 hB0 hn0 hm0 hf0))
end Go.Proofs.Ytdekickmplkdiaa
