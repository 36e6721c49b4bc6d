/- A round of the law of what never opens less. -/
import Derived.Test.YtdekickmplkdiaaWh
import Derived.Deep.CutRange
import Derived.Deep.CutBlock
namespace Go.Proofs.Ytdekickmplkdiaa
open Go.RowKit

set_option maxRecDepth 100000 in
set_option maxHeartbeats 8000000 in
theorem never_r3p (x : Fo) (xs : List Int) (B : Option Addr) (m dc : Nat) (b0 b1 b2 b3 : Int) (w : World) (h0 : Hid (x.At w)) (hB0 : Hid (Bytes w B m xs)) (hm0 : Hid (m ≤ maxLen)) (hc0 : Hid (Byte b0)) (hc1 : Hid (Byte b1)) (hc2 : Hid (Byte b2)) (hc3 : Hid (Byte b3)) : Lj (never_2 x xs B m dc b0 b1 b2 b3 w h0 hB0 hm0 hc0 hc1 hc2 hc3).2.2.2.2.2.2.2.1 := by
  refine ⟨?_⟩
  intro hb0 hb1 hb2 hb3 i0 hi hz0 hz1 hz2 HK n hn12 f HRM HHD HE HSP HLF s1 s2 HS1 HS2 fa fb fc fd HCF HA wb0 wb1 wb2 wb3 za0 w1 A c v0 za1 za2 za3 g za4 w2 A2 c2 w3 za5 za6 v gs FS FB FG FY FW wr u6 u11 u12 u13 u14 u15 u16 u17 u18 u29 u30 u31 u32 u33 u34 u35 u36 u37 u38 u39 u40 u41 u42 u43 u44 u45 u46 u47 u48 u49 u50 u51 u52 u53 u54 u55 u56 u57 u58 u59 u60 u61 u62 u63 u64 u65 u66 u67 u68 u69 u70 u71 u72 u73 u74 u75 u76 u77 u78 u79 u80 u81 u82 u83 u84 u85 u86 u87 u88 u89 u90 u91 u92 u93 u94 u95 u96 u97 u98 u99 u100 u101 u102 u103 u104 u105 u106 u107 u108 u109 u110 u111 u112 u113 u114 u115 u116 u117 u118 u119 u120 u121 u122 u123 u124 u125 u126 u127 u128 u129 u130 u131 u132 u133 u134 u135 u136 u137 u138 u139 u140 u141 u142 u143 u144 u145 u146 u147 u148 u149 u150 u151 u152 u153 u154 u155 u156 u157 u158 u159 u160 u161 u162 u163 u164 u165 u166 u167 u168 u169 u170 u171 u172 u173 u174 u175 u176 u177 u178 u179 u180 u181 u182 u183 u184 u185 u186 u187 u188 u189 u190 u191 u192 u193 u194 u195 u196 u197 u198 u199 u200 u201 u202 u203 u204 u205 u206 u207 u208 u209 u210 u211 u212 u213 u214 u215 u216 u217 u218 u219 u220 u221 u222 u223 u224 u225 u226 u227 u228 u229 u230 u231 u232 u233 u234 u235 u236 u237 u238 u239 u240 u241 u242 u243 u244 u245 u246 u247 u248 u249 u250 u251 u252 u253 u254 u255 u256 u257 u258 u259 u260 u261 u262 u263 u264 u265 u266 u267 u268 u269 u270 u271 u272 u273 u274 u275 u276 u277 u278 u279 u280 u281 u282 u283 u284 u285 u286 u287 u288 u289 u290 u291 u292 u293 u294 u295 u296 u297 u298 u299 u300 u301 u302 u303 u304 u305 u306 u307 u308 u309 u310 u311 u312 u313 u314 u315 u316 u317 u318 u319 u320 u321 u322 u323 k hk Bk hlt p8 y8 hmod wmod wnn hk0 h00
  have HKN := hk0
  clear hk0
  have HN0 := h00
  clear h00
  have hq3 : ((n : Int) == 0) = false := by have := HN0.out; simp; omega
  have hq4 : ((n : Int) = 0) = False := by have := HN0.out; simp; omega
  have hq5 : (n = 0) = False := by have := HN0.out; simp; omega
  go_wp2_with fail
  refine (HCF.out _ _ _ (FG.out.below Bk.out)).mono ?_
  rintro e w7 ⟨A7, c7, rfl, hO, b7⟩
  have Q7 := Lib.hid (PO.start (f := ⟨fa, fb, fc, fd, f.gs⟩) (c := c7) (own_gaps (own_less hO Bk.out.size)) (below_then Bk.out b7))
  have OW7 := Lib.hid (ownsRow_below (own_less hO Bk.out.size) (below_self w7 (.cells #[.int .i64 fa, .int .i64 fb, .int .i64 fc, .int .i64 fd, .slice A7 n c7] 26)))
  have hTLE := (below_then Bk.out b7).size
  clear hO b7 p8 y8 Bk
  simp only [fanA] at Q7
  have y9 := four_get (blk_keep Q7.out.b FY.out)
  have p9 := fan5_get Q7.out.bx
  go_upto_region 10 with fail
  generalize hWt : w7.alloc (.cells #[.int .i64 fa, .int .i64 fb, .int .i64 fc, .int .i64 fd, .slice A7 n c7] 26) = wt at *
  have TLE := Lib.hid hTLE
  clear hTLE
  generalize w7.heap.size = t at *
  clear hWt
  obtain ⟨nn, hnn⟩ : ∃ z, 1 + b1 % 20 = z := ⟨_, rfl⟩
  have HNN : Hid (1 ≤ nn ∧ nn ≤ 20) := by unfold Hid; omega
  rw [hnn]
  clear hnn hmod wmod wnn y9
  have e0 : ((k : Int) == 0) = false := by have := HKN.out; simp; omega
  have e1 : ((k : Int) == 1) = false := by have := HKN.out; simp; omega
  have e2 : ((k : Int) == 2) = false := by have := HKN.out; simp; omega
  have e3 : ((k : Int) == 3) = true := by have := HKN.out; simp; omega
  have NV := Lib.hid (nv_far (n := nn) HE.out (by have := HNN.out; omega) (by have := HHD.out; have := HNN.out; omega))
  have hb := (fanB_of HE.out).1
  have hnn := HNN.out
  have hq1 : 1 ≤ fa ∧ fa ≤ 5000 ∧ 1 ≤ fb ∧ fb ≤ 5000 := by
    have := hb.a1; have := hb.ab; have := hb.b5; have := hb.c1; have := hb.cd; have := hb.d5
    rw [← HA.out.1, ← HA.out.2.1]; omega
  have wl1 : IntKind.i64.wrap (fa + nn) = fa + nn := IntWalk.i64_in _ (by omega)
  have wl2 : IntKind.i64.wrap (fb + nn) = fb + nn := IntWalk.i64_in _ (by omega)
  clear hb hnn hq1
  have p8 := fan5f_get Q7.out.bx
  go_wp2_with fail
  refine (HSP.out _ _ _).mono ?_
  rintro e w21 ⟨rfl, b21⟩
  have Q9 := Lib.hid (Q7.out.below b21)
  have O9 := Lib.hid (ownsRow_below OW7.out b21)
  clear b21 Q7 OW7 p8
  have p8 := fan5f_get Q9.out.bx
  have B10 := (Q9.out.bx.set_ 0 (.int .i64 (fa + nn))).set_ 1 (.int .i64 (fb + nn))
  have O10 := own_setCell (i := 1) (own_setCell (i := 0) O9.out Q9.out.bx (by decide) (.int .i64 (fa + nn))) (Q9.out.bx.set_ 0 (.int .i64 (fa + nn))) (by decide) (.int .i64 (fb + nn))
  have L10 := (LK.setQ ⟨Q9.out.b, Q9.out.bx, TLE.out⟩ 0 (.int .i64 (fa + nn))).setQ 1 (.int .i64 (fb + nn))
  have HCUT := Lib.hid (TKE.mk (f := f) (v := v) (t := t) (k := k) (f.far nn) (A7) (n) (c7) (L10.bel) (by unfold fanA Fan.far; rw [HA.out.1, HA.out.2.1, HA.out.2.2.1, HA.out.2.2.2]; exact B10) ((own_gaps O10).1) (by omega) (by rw [HKN.out]; exact NV.out))
  obtain ⟨f', A8, n8, c8, hT, hNV⟩ := HCUT.out
  clear HCUT HNN
  have h13 := hT.n13
  have HCP := Lib.hid (fun A' c' W (hG : Gaps W A' n8 f'.gs) => copied_any f' A' n8 c' W hG (by omega))
  have HOP := Lib.hid (fun A' c' W (hG : Gaps W A' n8 f'.gs) => Opens_any f' A' n8 c' W hG (by unfold maxLen; omega))
  have HCM := Lib.hid (fun A' c' A2 c2 W (hG : Gaps W A' n8 f'.gs) (hG2 : Gaps W A2 n f.gs) => Compare_any f' f A' n8 c' A2 n c2 W hG hG2 (by unfold maxLen; omega) (by unfold maxLen; omega))
  unfold OwnRes at HCP
  have FFA : Hid (∀ A' m' c', fanA f A' m' c' = #[.int .i64 fa, .int .i64 fb, .int .i64 fc, .int .i64 fd, .slice A' m' c']) := fun _ _ _ => by unfold fanA; rw [HA.out.1, HA.out.2.1, HA.out.2.2.1, HA.out.2.2.2]
  simp only [FFA.out] at HCM
  have HN : Hid ((fanErr f' = 0 ∧ moreE f' f = 0 ∧ NVr s1 s2 (opensL f').1 (opensL f').2 (moreL f' f) k) ∨ (k = 4 ∧ fanErr f' = 3 ∧ moreE f' f = 3 ∧ f'.a ≤ f'.d)) := by
    rcases hNV with ⟨e, q⟩ | ⟨hk4, e, q⟩
    · rw [opens_val e]
      rw [HS1.out, HS2.out] at q
      exact Or.inl ⟨e, (more_val HE.out e).1, q⟩
    · exact Or.inr ⟨hk4, e, by unfold moreE; rw [if_neg (by omega)]; exact e, q⟩
  obtain ⟨o1, ho1⟩ : ∃ z, (opensL f').1 = z := ⟨_, rfl⟩
  obtain ⟨o2, ho2⟩ : ∃ z, (opensL f').2 = z := ⟨_, rfl⟩
  obtain ⟨er, her⟩ : ∃ z, fanErr f' = z := ⟨_, rfl⟩
  obtain ⟨me, hme⟩ : ∃ z, moreE f' f = z := ⟨_, rfl⟩
  obtain ⟨mm, hmm⟩ : ∃ z, moreL f' f = z := ⟨_, rfl⟩
  rw [ho1, ho2, her, hme, hmm] at HN
  simp only [ho1, ho2, her] at HOP
  simp only [hme, hmm] at HCM
  clear ho1 ho2 her hme hmm hNV FFA
  obtain ⟨ta, tb, tc, td, tgs⟩ := f'
  simp only [fanA] at HCP HOP HCM
  have T0 := Lib.hid hT
  clear hT
  have p26 := fan5_get (show Blk _ t 26 #[.int .i64 ta, .int .i64 tb, .int .i64 tc, .int .i64 td, .slice A8 n8 c8] from T0.out.bx)
  go_wp2_with fail
  refine (HCP.out _ _ _ T0.out.gp).mono ?_
  rintro e w25 ⟨A9, c9, rfl, hO, b25⟩
  have T1 : Hid (Below v.heap.size v w25 ∧ Blk w25 t 26 #[.int .i64 ta, .int .i64 tb, .int .i64 tc, .int .i64 td, .slice A8 n8 c8] ∧ Gaps w25 A8 n8 tgs) := ⟨below_then T0.out.bel b25, blk_keep b25 T0.out.bx, T0.out.gp.below b25⟩
  have G25 := Lib.hid hO.1
  clear b25 hO T0 p26
  go_wp2_with fail
  refine (HOP.out _ _ _ G25.out).mono ?_
  rintro e w26 ⟨rfl, b26⟩
  have B26 := Lib.hid (below_then b26 (below_self w26 (.cells #[.int .i64 o1, .int .i64 o2] 23)))
  have D6 : Hid (TB v (w26.alloc (.cells #[.int .i64 o1, .int .i64 o2] 23)) t g w26.heap.size #[.int .i64 ta, .int .i64 tb, .int .i64 tc, .int .i64 td, .slice A8 n8 c8] #[.int .i64 fa, .int .i64 fb, .int .i64 fc, .int .i64 fd, .slice A n c] #[.int .i64 o1, .int .i64 o2] A8 n8 tgs A n f.gs) :=
    ⟨below_then T1.out.1 B26.out, blk_keep B26.out T1.out.2.1, blk_keep B26.out (blk_keep T1.out.1 FB.out), Blk.new _ _ _ rfl, T1.out.2.2.below B26.out, FG.out.below (below_then T1.out.1 B26.out)⟩
  clear b26 B26 T1 G25 HOP
  go_wp2_with fail
  generalize w26.alloc (.cells #[.int .i64 o1, .int .i64 o2] 23) = W6 at *
  generalize w26.heap.size = gt at *
  refine wp_region_untl (S := S27 t g (.int .i64 ta) (.int .i64 tb) (.int .i64 tc) (.int .i64 td) (.slice A8 n8 c8) (.int .i64 fa) (.int .i64 fb) (.int .i64 fc) (.int .i64 fd) (.slice A n c)) [] (by kernel_rfl) (show S27 t g (.int .i64 ta) (.int .i64 tb) (.int .i64 tc) (.int .i64 td) (.slice A8 n8 c8) (.int .i64 fa) (.int .i64 fb) (.int .i64 fc) (.int .i64 fd) (.slice A n c) _ from ⟨fan5_get D6.out.bx, fan5_get D6.out.by_⟩) (fun s5 => ?_)
  have D7 := Lib.hid (D6.out.below (Below.refl _ _).drew)
  clear D6
  generalize W6.drew = v5 at *
  refine untlTake (i := 0) 185 (v := ?v1) rfl (by kernel_rfl) (by kernel_rfl) (by kernel_rfl) (by kernel_rfl) (by kernel_rfl) (by kernel_rfl) (fun _ _ _ h => h) (Or.inl ⟨by kernel_rfl, ?y1⟩) (by assumption) ?r1
  case y1 => (intro w hSw; obtain ⟨⟨g0, g1, g2, g3, g4⟩, h0, h1, h2, h3, h4⟩ := hSw; go_simp; try with_reducible rfl)
  refine untlTake (i := 2) 187 (v := ?v2) rfl (by kernel_rfl) (by kernel_rfl) (by kernel_rfl) (by kernel_rfl) (by kernel_rfl) (by kernel_rfl) (fun _ _ _ h => h) (Or.inl ⟨by kernel_rfl, ?y2⟩) (by assumption) ?r2
  case y2 => (intro w hSw; obtain ⟨⟨g0, g1, g2, g3, g4⟩, h0, h1, h2, h3, h4⟩ := hSw; go_simp; try with_reducible rfl)
  simp only [Act.put, List.setIfInBounds_toArray, List.set_cons_zero, List.set_cons_succ]
  refine untlStep (i := 1) (by kernel_rfl) rfl (fun K1 hK1 => ?_)
  rw [if_pos (by rfl)]
  go_simp
  refine (HCP.out _ _ _ D7.out.ga).mono ?_
  rintro e v6 ⟨A9, c9, rfl, hO, bz⟩
  have D8 := Lib.hid (D7.out.below bz)
  have G8 := Lib.hid hO.1
  have s6 : S27 t g (.int .i64 ta) (.int .i64 tb) (.int .i64 tc) (.int .i64 td) (.slice A8 n8 c8) (.int .i64 fa) (.int .i64 fb) (.int .i64 fc) (.int .i64 fd) (.slice A n c) v6 := ⟨fan5_get D8.out.bx, fan5_get D8.out.by_⟩
  clear bz D7 s5 hO
  refine hK1.out _ _ (.inr s6) ?_
  refine untlStep (i := 3) (by kernel_rfl) rfl (fun K3 hK3 => ?_)
  rw [if_pos (by rfl)]
  go_simp
  refine (HCF.out _ _ _ D8.out.gb).mono ?_
  rintro e v7 ⟨A10, c10, rfl, hO, bz⟩
  have D9 := Lib.hid (D8.out.below bz)
  have G9 := Lib.hid (G8.out.below bz)
  have H9 := Lib.hid (own_gaps hO).1
  have s7 : S27 t g (.int .i64 ta) (.int .i64 tb) (.int .i64 tc) (.int .i64 td) (.slice A8 n8 c8) (.int .i64 fa) (.int .i64 fb) (.int .i64 fc) (.int .i64 fd) (.slice A n c) v7 := ⟨fan5_get D9.out.bx, fan5_get D9.out.by_⟩
  clear bz D8 s6 hO G8
  refine hK3.out _ _ (.inr s7) ?_
  refine untlStep (i := 4) (by kernel_rfl) rfl (fun K4 hK4 => ?_)
  rw [if_pos (by rfl)]
  go_simp
  refine (HCM.out _ _ _ _ _ G9.out H9.out).mono ?_
  rintro e v8 ⟨rfl, bz⟩
  have D10 := Lib.hid (D9.out.below bz)
  have s8 : S27 t g (.int .i64 ta) (.int .i64 tb) (.int .i64 tc) (.int .i64 td) (.slice A8 n8 c8) (.int .i64 fa) (.int .i64 fb) (.int .i64 fc) (.int .i64 fd) (.slice A n c) v8 := ⟨fan5_get D10.out.bx, fan5_get D10.out.by_⟩
  clear bz D9 s7 G9 H9
  refine hK4.out _ _ (.inr s8) ?_
  refine untlTake (i := 5) 184 (v := ?v3) rfl (by kernel_rfl) (by kernel_rfl) (by kernel_rfl) (by kernel_rfl) (by kernel_rfl) (by kernel_rfl) (fun _ _ _ h => h) (Or.inl ⟨by kernel_rfl, ?y3⟩) (by assumption) ?r3
  case y3 => (intro w hSw; obtain ⟨⟨g0, g1, g2, g3, g4⟩, h0, h1, h2, h3, h4⟩ := hSw; go_simp; try with_reducible rfl)
  refine untlTake (i := 6) 190 (v := ?v4) rfl (by kernel_rfl) (by kernel_rfl) (by kernel_rfl) (by kernel_rfl) (by kernel_rfl) (by kernel_rfl) (fun _ _ _ h => h) (Or.inl ⟨by kernel_rfl, ?y4⟩) (by assumption) ?r4
  case y4 => (intro w hSw; obtain ⟨⟨g0, g1, g2, g3, g4⟩, h0, h1, h2, h3, h4⟩ := hSw; go_simp; try with_reducible rfl)
  refine untlTake (i := 7) 191 (v := ?v5) rfl (by kernel_rfl) (by kernel_rfl) (by kernel_rfl) (by kernel_rfl) (by kernel_rfl) (by kernel_rfl) (fun _ _ _ h => h) (Or.inl ⟨by kernel_rfl, ?y5⟩) (by assumption) ?r5
  case y5 => (intro w hSw; obtain ⟨⟨g0, g1, g2, g3, g4⟩, h0, h1, h2, h3, h4⟩ := hSw; go_simp; try with_reducible rfl)
  simp only [Act.put, List.setIfInBounds_toArray, List.set_cons_zero, List.set_cons_succ]
  refine untlTake (i := 8) 17 (v := ?v6) rfl (by kernel_rfl) (by kernel_rfl) (by kernel_rfl) (by kernel_rfl) (by kernel_rfl) (by kernel_rfl) (fun _ _ _ h => h) (Or.inl ⟨by kernel_rfl, ?y6⟩) (by assumption) ?r6
  case y6 => (intro w hSw; obtain ⟨⟨g0, g1, g2, g3, g4⟩, h0, h1, h2, h3, h4⟩ := hSw; go_simp; try with_reducible rfl)
  refine untlTake (i := 9) 18 (v := ?v7) rfl (by kernel_rfl) (by kernel_rfl) (by kernel_rfl) (by kernel_rfl) (by kernel_rfl) (by kernel_rfl) (fun _ _ _ h => h) (Or.inl ⟨by kernel_rfl, ?y7⟩) (by assumption) ?r7
  case y7 => (intro w hSw; obtain ⟨⟨g0, g1, g2, g3, g4⟩, h0, h1, h2, h3, h4⟩ := hSw; go_simp; try with_reducible rfl)
  refine untlDone (by kernel_rfl) ?_ _
  clear s8 HCP HCM
  have D9 := Lib.hid D10.out
  clear D10
  have q28 := span2_get D9.out.bz
  have z28 := span2_get (blk_keep D9.out.bel FS.out)
  have hs := HKN.out
  rcases HN.out with ⟨rfl, rfl, N⟩ | ⟨hk4, rfl, rfl, hle⟩
  · have n0 := N.lh
    have n1 : ¬ o1 > o2 := by omega
    have nb := N.b (by omega)
    have r1 : ¬ o1 > s1 := by omega
    have r2 : ¬ o2 > s2 := by omega
    have e3 : ((k : Int) == 3) = true := by simp; omega
    have e5 : ((k : Int) == 5) = false := by simp; omega
    have lt : ¬ (k : Int) < 3 := by omega
    rcases N.m3 with hm | hm | hm
    · exact absurd hm nb.2.2
    · have r3 : ¬ s1 < o2 := by have := N.m2 hm; omega
      subst hm
      clear N nb n0 hs HN HS1 HS2
      go_upto_region 31 with fail
      dsimp only [List.append_eq, List.cons_append, List.nil_append]
      go_wp2_with fail
      go_roundw
      case rel => exact ⟨k + 1, by omega, by go_num, D9.out.bel⟩
      case measure => simp [intOf]; omega
    · subst hm
      clear N nb n0 hs HN HS1 HS2
      go_upto_region 31 with fail
      dsimp only [List.append_eq, List.cons_append, List.nil_append]
      go_wp2_with fail
      go_roundw
      case rel => exact ⟨k + 1, by omega, by go_num, D9.out.bel⟩
      case measure => simp [intOf]; omega
  · omega
end Go.Proofs.Ytdekickmplkdiaa
