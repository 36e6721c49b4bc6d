/- A round of the law of what never opens less. -/
import Derived.Test.YtdekickmplkdiaaWh
import Derived.Deep.CutRange
import Derived.Deep.CutBlock
namespace Go.Proofs.Ytdekickmplkdiaa
open Go.RowKit

set_option maxRecDepth 100000 in
set_option maxHeartbeats 8000000 in
theorem never_r2z (x : Fo) (xs : List Int) (B : Option Addr) (m dc : Nat) (b0 b1 b2 b3 : Int) (w : World) (h0 : Hid (x.At w)) (hB0 : Hid (Bytes w B m xs)) (hm0 : Hid (m ≤ maxLen)) (hc0 : Hid (Byte b0)) (hc1 : Hid (Byte b1)) (hc2 : Hid (Byte b2)) (hc3 : Hid (Byte b3)) : Lj (never_2 x xs B m dc b0 b1 b2 b3 w h0 hB0 hm0 hc0 hc1 hc2 hc3).2.2.2.2.1 := by
  refine ⟨?_⟩
  intro hb0 hb1 hb2 hb3 i0 hi hz0 hz1 hz2 HK n hn12 f HRM HHD HE HSP HLF s1 s2 HS1 HS2 fa fb fc fd HCF HA wb0 wb1 wb2 wb3 za0 w1 A c v0 za1 za2 za3 g za4 w2 A2 c2 w3 za5 za6 v gs FS FB FG FY FW wr u6 u11 u12 u13 u14 u15 u16 u17 u18 u29 u30 u31 u32 u33 u34 u35 u36 u37 u38 u39 u40 u41 u42 u43 u44 u45 u46 u47 u48 u49 u50 u51 u52 u53 u54 u55 u56 u57 u58 u59 u60 u61 u62 u63 u64 u65 u66 u67 u68 u69 u70 u71 u72 u73 u74 u75 u76 u77 u78 u79 u80 u81 u82 u83 u84 u85 u86 u87 u88 u89 u90 u91 u92 u93 u94 u95 u96 u97 u98 u99 u100 u101 u102 u103 u104 u105 u106 u107 u108 u109 u110 u111 u112 u113 u114 u115 u116 u117 u118 u119 u120 u121 u122 u123 u124 u125 u126 u127 u128 u129 u130 u131 u132 u133 u134 u135 u136 u137 u138 u139 u140 u141 u142 u143 u144 u145 u146 u147 u148 u149 u150 u151 u152 u153 u154 u155 u156 u157 u158 u159 u160 u161 u162 u163 u164 u165 u166 u167 u168 u169 u170 u171 u172 u173 u174 u175 u176 u177 u178 u179 u180 u181 u182 u183 u184 u185 u186 u187 u188 u189 u190 u191 u192 u193 u194 u195 u196 u197 u198 u199 u200 u201 u202 u203 u204 u205 u206 u207 u208 u209 u210 u211 u212 u213 u214 u215 u216 u217 u218 u219 u220 u221 u222 u223 u224 u225 u226 u227 u228 u229 u230 u231 u232 u233 u234 u235 u236 u237 u238 u239 u240 u241 u242 u243 u244 u245 u246 u247 u248 u249 u250 u251 u252 u253 u254 u255 u256 u257 u258 u259 u260 u261 u262 u263 u264 u265 u266 u267 u268 u269 u270 u271 u272 u273 u274 u275 u276 u277 u278 u279 u280 u281 u282 u283 u284 u285 u286 u287 u288 u289 u290 u291 u292 u293 u294 u295 u296 u297 u298 u299 u300 u301 u302 u303 u304 u305 u306 u307 u308 u309 u310 u311 u312 u313 u314 u315 u316 u317 u318 u319 u320 u321 u322 u323 k hk Bk hlt p8 y8 hmod wmod wnn hk0 h00
  have HKN := hk0
  clear hk0
  have h00 := h00.out
  subst h00
  go_wp2_with fail
  refine (HCF.out _ _ _ (FG.out.below Bk.out)).mono ?_
  rintro e w7 ⟨A7, c7, rfl, hO, b7⟩
  have Q7 := Lib.hid (PO.start (f := ⟨fa, fb, fc, fd, f.gs⟩) (c := c7) (own_gaps (own_less hO Bk.out.size)) (below_then Bk.out b7))
  have OW7 := Lib.hid (ownsRow_below (own_less hO Bk.out.size) (below_self w7 (.cells #[.int .i64 fa, .int .i64 fb, .int .i64 fc, .int .i64 fd, .slice A7 0 c7] 26)))
  have hTLE := (below_then Bk.out b7).size
  clear hO b7 p8 y8 Bk
  simp only [fanA] at Q7
  have y9 := four_get (blk_keep Q7.out.b FY.out)
  have p9 := fan5_get Q7.out.bx
  go_upto_region 10 with fail
  generalize hWt : w7.alloc (.cells #[.int .i64 fa, .int .i64 fb, .int .i64 fc, .int .i64 fd, .slice A7 0 c7] 26) = wt at *
  have TLE := Lib.hid hTLE
  clear hTLE
  generalize w7.heap.size = t at *
  clear hWt
  obtain ⟨nn, hnn⟩ : ∃ z, 1 + b1 % 20 = z := ⟨_, rfl⟩
  have HNN : Hid (1 ≤ nn ∧ nn ≤ 20) := by unfold Hid; omega
  rw [hnn]
  clear hnn hmod wmod wnn y9
  have e0 : ((k : Int) == 0) = false := by have := HKN.out; simp; omega
  have e1 : ((k : Int) == 1) = false := by have := HKN.out; simp; omega
  have e2 : ((k : Int) == 2) = true := by have := HKN.out; simp; omega
  clear OW7 HNN
  go_wp2_with fail
  go_roundw
  case rel => exact ⟨k + 1, by omega, by go_num, Q7.out.b⟩
  case measure => simp [intOf]; omega
end Go.Proofs.Ytdekickmplkdiaa
