/- Walks: the law of what is enough: the gap that is widened; the law. -/
import Derived.Test.YtdekickmplkdiaaWe
namespace Go.Proofs.Ytdekickmplkdiaa
open Go.RowKit

set_option maxRecDepth 100000 in
set_option maxHeartbeats 8000000 in
theorem enough_3 (x : Fo) (wish b0 b1 : Int) (w : World) (h0 : Hid (x.At w)) (hw0 : Hid (0 ≤ wish ∧ wish ≤ 65535)) (hc0 : Hid (Byte b0)) (hc1 : Hid (Byte b1)) : Lk (enough_2 x wish b0 b1 w h0 hw0 hc0 hc1).1 := by
  refine ⟨?_⟩
  intro hb0 hb1 i0 hi hz0 hz1 hz2 HK n hn12 ww d hdd wd wb0 wb1 R R2 Q Q2 V V2 sn se pn pe wg wt we HW3 HSP HND fw HWN fa fb fc fd gs HCF HWI HGB HRM HLF HOW HWL y0 zz0 w1 A c v FG FY FW g FB w2 A2 c2 zz1 u46 u47 u48 u49 u50 u51 u52 u53 u54 u55 u56 u57 u58 u59 u60 u61 u62 u63 u64 u65 u66 u67 u68 u69 u70 u71 u72 zy0 zy1 u11 u12 u13 u14 u15 u16 u74 u75 u76 u77 u78 u79 u80 u81 u82 u83 u84 u85 u86 u87 u88 u89 u90 u91 u92 u93 u94 u95 u96 u97 u98 u99 u100 u101 u102 u103 u104 u105 u106 u107 u108 u109 u110 u111 u112 u113 u114 u115 u116 u117 u118 u119 u120 u121 u122 u123 u124 u125 u126 u127 u128 u129 u130 u131 u132 u133 w5 A5 c5 zy2 zy3 u141 u142 u143 u144 u145 u146 u147 u148 u149 u150 u151 u152 u153 u154 u155 u156 u157 u158 u159 u160 u161 zy4 zy5 wc u6 u19 u20 u21 u22 u23 u24 u163 u164 u165 u166 u167 u168 u169 u170 u171 u172 u173 u174 u175 u176 u177 u178 u179 u180 u181 u182 u183 u184 u185 u186 u187 u188 u189 u190 u191 u192 u193 u194 u195 u196 u197 u198 u199 u200 u201 u202 u203 u204 u205 u206 u207 u208 u209 u210 u211 u212 u213 B7
  have p4 := fan5_get (blk_keep B7.out FB.out)
  have y4 := span2_get (blk_keep B7.out FY.out)
  go_wp2_with fail
  refine (HCF.out _ _ _ (FG.out.below B7.out)).mono ?_
  rintro e w5 ⟨A5, c5, rfl, hO, _, b5⟩
  have G5 := Lib.hid hO.1
  have B5 := Lib.hid (below_then B7.out b5)
  clear hO b5 p4 y4 B7
  go_wp2_with fail
  refine (HWI.out _ _ _ G5.out).mono ?_
  rintro e w6 ⟨rfl, b6⟩
  have B6 := Lib.hid (below_then B5.out b6)
  clear b6 B5 G5 HWI
  have p6 := fan5_get (blk_keep B6.out FB.out)
  rcases HW3.out with ⟨rfl, rfl, rfl, rfl⟩ | ⟨hn0, K, hK, rfl, rfl, rfl, hbest⟩
  · clear HW3
    go_wp2_with fail
    refine (HK.out _).mono ?_
    rintro e w99 ⟨rfl, b99⟩
    go_wp2
    go_ret
    exact ⟨rfl, below_then (below_then FW.out B6.out) b99⟩
  · clear HW3
    have hq3 : ((n : Int) == 0) = false := by simp; omega
    have hq4 : ((n : Int) = 0) = False := by simp; omega
    have hq5 : (n = 0) = False := by simp; omega
    have hq6 : ¬ ((K : Int) < 0) := by omega
    have hq7 : ¬ ((K : Int) ≥ (n : Int)) := by omega
    have hq8 : ¬ n ≤ K := by omega
    have HB := Lib.hid hbest
    have HKN := Lib.hid hK
    clear hbest hK
    go_wp2_with fail
    clear p6 hq6 hq7 hq8
    go_loopw [29] (fun i wr => ∃ k : Nat, k ≤ 2 ∧ i = .int .i64 k ∧ Below v.heap.size v wr) (fun i _ => 2 - (intOf i).toNat)
    case atStart => exact ⟨0, Nat.zero_le _, rfl, B6.out⟩
    case round =>
      obtain ⟨k, hk, rfl, hBk⟩ := hrel
      have Bk := Lib.hid hBk
      clear hBk B6
      by_cases hlt : k < 2
      · obtain ⟨q1, hq1⟩ : ∃ q1 : Nat, (q1 : Int) = b1 % (n : Int) := ⟨(b1 % (n : Int)).toNat, by have := Int.emod_nonneg b1 (show (n : Int) ≠ 0 by omega); omega⟩
        have hq1n : q1 < n := by have := Int.emod_lt_of_pos b1 (show (0 : Int) < (n : Int) by omega); omega
        have t1 : b1.tmod (n : Int) = (q1 : Int) := by rw [Int.tmod_eq_emod_of_nonneg (by omega)]; omega
        have w1q : IntKind.i64.wrap (q1 : Int) = (q1 : Int) := IntWalk.i64_in _ (by omega)
        obtain ⟨q, hqa, hqb⟩ : ∃ q : Nat, (k = 0 → q = K) ∧ (k = 1 → q = q1) := by
          rcases (by omega : k = 0 ∨ k = 1) with h | h
          · exact ⟨K, fun _ => rfl, fun e => by omega⟩
          · exact ⟨q1, fun e => by omega, fun _ => rfl⟩
        have hrun : ∀ W : World, (Instr.index 101 (.agg #[Value.int .i64 (K : Int), .int .i64 (q1 : Int)]) (.int .i64 (k : Int))).run Try.prog W = .ok (.int .i64 (q : Int)) W := fun W => by
          rcases (by omega : k = 0 ∨ k = 1) with h | h
          · rw [show (k : Int) = 0 by omega, show q = K from hqa h]; kernel_rfl
          · rw [show (k : Int) = 1 by omega, show q = q1 from hqb h]; kernel_rfl
        have QN : Hid (q < n) := by
          unfold Hid
          rcases (by omega : k = 0 ∨ k = 1) with h | h
          · rw [hqa h]; exact HKN.out
          · rw [hqb h]; exact hq1n
        have HR5 : Hid ((((k : Int) == 0) = true ∧ q = K) ∨ (((k : Int) == 0) = false ∧ ¬ V q > V K ∧ (V q == V K) = false) ∨ (((k : Int) == 0) = false ∧ V q = V K ∧ ¬ (q : Int) < (K : Int))) := by
          unfold Hid
          rcases (by omega : k = 0 ∨ k = 1) with h | h
          · exact Or.inl ⟨by simp; omega, hqa h⟩
          · have := HB.out q QN.out
            rcases Decidable.em (V q = V K) with e | e
            · exact Or.inr (Or.inr ⟨by simp; omega, e, by have := this.2 e; omega⟩)
            · exact Or.inr (Or.inl ⟨by simp; omega, by omega, by simpa using e⟩)
        have FX0 := Lib.hid (flatG_at gs q 0 (by rw [HLF.out]; exact QN.out) (by omega))
        have FX1 := Lib.hid (flatG_at gs q 1 (by rw [HLF.out]; exact QN.out) (by omega))
        have FWL := Lib.hid (HWL.out q QN.out)
        have gb := HGB.out q QN.out
        have rm := HRM.out q QN.out
        have e : gs.getD q Gap.zero = gs[q]'(by rw [HLF.out]; exact QN.out) := by simp [List.getD, show q < gs.length from by rw [HLF.out]; exact QN.out]
        rw [← e] at FX0 FX1
        clear e hqa hqb hq1 hq1n
        generalize gs.getD q Gap.zero = yg at *
        obtain ⟨ll, lh, fl, fh⟩ := yg
        simp only at gb rm
        have FX0 : Hid ((flatG gs)[q * 4]? = some (.int .i64 ll)) := FX0.out
        have FX1 : Hid ((flatG gs)[q * 4 + 1]? = some (.int .i64 lh)) := FX1.out
        have FWL : Hid (flatG (fw q b0).gs = ((flatG gs).set (q * 4) (.int .i64 (ll + b0))).set (q * 4 + 1) (.int .i64 (lh + b0))) := FWL.out
        have wl1 : IntKind.i64.wrap (ll + b0) = ll + b0 := IntWalk.i64_in _ (by omega)
        have wl2 : IntKind.i64.wrap (lh + b0) = lh + b0 := IntWalk.i64_in _ (by omega)
        clear gb rm
        have p47 := span2_get (blk_keep Bk.out FY.out)
        have p12 := fan5_get (blk_keep Bk.out FB.out)
        go_wp2_with fail
        refine (HCF.out _ _ _ (FG.out.below Bk.out)).mono ?_
        rintro e w8 ⟨A8, c8, rfl, hO, hc, b8⟩
        have Q8 := Lib.hid (PO.start (f := ⟨fa, fb, fc, fd, gs⟩) (c := c8) (hO.less Bk.out.size) (below_then Bk.out b8))
        clear hO hc b8 p12 p47 Bk
        simp only [fanA] at Q8
        obtain ⟨r, rfl, _, _⟩ := Q8.out.o.2 hn0
        have p32 := fan5_get Q8.out.bx
        have hqn := QN.out
        have hqi : (q : Int) < (n : Int) := by omega
        have X0 := Lib.hid (fun (W : World) (hR : RB W r 42 (flatG gs)) => show W.cell? ⟨r, q * 4, none⟩ = some (.int .i64 ll) from hR.cell FX0.out)
        have X1 := Lib.hid (fun (W : World) (hR : RB W r 42 (flatG gs)) => show W.cell? ⟨r, q * 4 + 1, none⟩ = some (.int .i64 lh) from hR.cell FX1.out)
        go_wp2_with fail
        clear p32
        generalize hWt : w8.alloc (.cells #[.int .i64 fa, .int .i64 fb, .int .i64 fc, .int .i64 fd, .slice (some ⟨r, 0, none⟩) n c8] 26) = w9 at *
        generalize w8.heap.size = t at *
        clear hWt
        have QJ := Q8
        clear Q8
        refine wp_region_untl (S := S49 t r (q * 4) (.slice (some ⟨r, 0, none⟩) n c8) (.int .i64 ll) (.int .i64 lh)) [24] (by kernel_rfl) (show S49 t r (q * 4) (.slice (some ⟨r, 0, none⟩) n c8) (.int .i64 ll) (.int .i64 lh) _ from ⟨QJ.out.bx.cell 4, X0.out _ (QJ.out.row hn0), X1.out _ (QJ.out.row hn0)⟩) (fun s5 => ?_)
        have Q5 := Lib.hid (QJ.out.below (Below.refl _ _).drew)
        clear QJ
        generalize w9.drew = v5 at *
        refine untlTake (i := 0) 272 (v := ?v29) rfl (by kernel_rfl) (by kernel_rfl) (by kernel_rfl) (by kernel_rfl) (by kernel_rfl) (by kernel_rfl) (fun _ _ _ h => h) (Or.inl ⟨by kernel_rfl, ?y29⟩) (by assumption) ?r29
        case y29 => (intro w hSw; obtain ⟨g0, g1, g2⟩ := hSw; go_simp; try with_reducible rfl)
        refine untlTake (i := 1) 273 (v := ?v30) rfl (by kernel_rfl) (by kernel_rfl) (by kernel_rfl) (by kernel_rfl) (by kernel_rfl) (by kernel_rfl) (fun _ _ _ h => h) (Or.inl ⟨by kernel_rfl, ?y30⟩) (by assumption) ?r30
        case y30 => (intro w hSw; obtain ⟨g0, g1, g2⟩ := hSw; go_simp; try with_reducible rfl)
        refine untlTake (i := 2) 274 (v := ?v31) rfl (by kernel_rfl) (by kernel_rfl) (by kernel_rfl) (by kernel_rfl) (by kernel_rfl) (by kernel_rfl) (fun _ _ _ h => h) (Or.inl ⟨by kernel_rfl, ?y31⟩) (by assumption) ?r31
        case y31 => (intro w hSw; obtain ⟨g0, g1, g2⟩ := hSw; go_simp; try with_reducible rfl)
        simp only [Act.put, List.setIfInBounds_toArray, List.set_cons_zero, List.set_cons_succ]
        refine untlTake (i := 3) 275 (v := ?v32) rfl (by kernel_rfl) (by kernel_rfl) (by kernel_rfl) (by kernel_rfl) (by kernel_rfl) (by kernel_rfl) (fun _ _ _ h => h) (Or.inl ⟨by kernel_rfl, ?y32⟩) (by assumption) ?r32
        case y32 => (intro w hSw; obtain ⟨g0, g1, g2⟩ := hSw; go_simp; try with_reducible rfl)
        refine untlTake (i := 4) 276 (v := ?v33) rfl (by kernel_rfl) (by kernel_rfl) (by kernel_rfl) (by kernel_rfl) (by kernel_rfl) (by kernel_rfl) (fun _ _ _ h => h) (Or.inl ⟨by kernel_rfl, ?y33⟩) (by assumption) ?r33
        case y33 => (intro w hSw; obtain ⟨g0, g1, g2⟩ := hSw; go_simp; try with_reducible rfl)
        refine untlTake (i := 5) 277 (v := ?v34) rfl (by kernel_rfl) (by kernel_rfl) (by kernel_rfl) (by kernel_rfl) (by kernel_rfl) (by kernel_rfl) (fun _ _ _ h => h) (Or.inl ⟨by kernel_rfl, ?y34⟩) (by assumption) ?r34
        case y34 => (intro w hSw; obtain ⟨g0, g1, g2⟩ := hSw; go_simp; try with_reducible rfl)
        simp only [Act.put, List.setIfInBounds_toArray, List.set_cons_zero, List.set_cons_succ]
        refine untlTake (i := 6) 278 (v := ?v35) rfl (by kernel_rfl) (by kernel_rfl) (by kernel_rfl) (by kernel_rfl) (by kernel_rfl) (by kernel_rfl) (fun _ _ _ h => h) (Or.inl ⟨by kernel_rfl, ?y35⟩) (by assumption) ?r35
        case y35 => (intro w hSw; obtain ⟨g0, g1, g2⟩ := hSw; go_simp; try with_reducible rfl)
        refine untlTake (i := 7) 279 (v := ?v36) rfl (by kernel_rfl) (by kernel_rfl) (by kernel_rfl) (by kernel_rfl) (by kernel_rfl) (by kernel_rfl) (fun _ _ _ h => h) (Or.inl ⟨by kernel_rfl, ?y36⟩) (by assumption) ?r36
        case y36 => (intro w hSw; obtain ⟨g0, g1, g2⟩ := hSw; go_simp; try with_reducible rfl)
        refine untlTake (i := 8) 280 (v := ?v37) rfl (by kernel_rfl) (by kernel_rfl) (by kernel_rfl) (by kernel_rfl) (by kernel_rfl) (by kernel_rfl) (fun _ _ _ h => h) (Or.inl ⟨by kernel_rfl, ?y37⟩) (by assumption) ?r37
        case y37 => (intro w hSw; obtain ⟨g0, g1, g2⟩ := hSw; go_simp; try with_reducible rfl)
        simp only [Act.put, List.setIfInBounds_toArray, List.set_cons_zero, List.set_cons_succ]
        refine untlTake (i := 9) 281 (v := ?v38) rfl (by kernel_rfl) (by kernel_rfl) (by kernel_rfl) (by kernel_rfl) (by kernel_rfl) (by kernel_rfl) (fun _ _ _ h => h) (Or.inl ⟨by kernel_rfl, ?y38⟩) (by assumption) ?r38
        case y38 => (intro w hSw; obtain ⟨g0, g1, g2⟩ := hSw; go_simp; try with_reducible rfl)
        refine untlTake (i := 10) 282 (v := ?v39) rfl (by kernel_rfl) (by kernel_rfl) (by kernel_rfl) (by kernel_rfl) (by kernel_rfl) (by kernel_rfl) (fun _ _ _ h => h) (Or.inl ⟨by kernel_rfl, ?y39⟩) (by assumption) ?r39
        case y39 => (intro w hSw; obtain ⟨g0, g1, g2⟩ := hSw; go_simp; try with_reducible rfl)
        refine untlTake (i := 11) 283 (v := ?v40) rfl (by kernel_rfl) (by kernel_rfl) (by kernel_rfl) (by kernel_rfl) (by kernel_rfl) (by kernel_rfl) (fun _ _ _ h => h) (Or.inl ⟨by kernel_rfl, ?y40⟩) (by assumption) ?r40
        case y40 => (intro w hSw; obtain ⟨g0, g1, g2⟩ := hSw; go_simp; try with_reducible rfl)
        simp only [Act.put, List.setIfInBounds_toArray, List.set_cons_zero, List.set_cons_succ]
        refine untlTake (i := 12) 284 (v := ?v41) rfl (by kernel_rfl) (by kernel_rfl) (by kernel_rfl) (by kernel_rfl) (by kernel_rfl) (by kernel_rfl) (fun _ _ _ h => h) (Or.inl ⟨by kernel_rfl, ?y41⟩) (by assumption) ?r41
        case y41 => (intro w hSw; obtain ⟨g0, g1, g2⟩ := hSw; go_simp; try with_reducible rfl)
        refine untlTake (i := 13) 285 (v := ?v42) rfl (by kernel_rfl) (by kernel_rfl) (by kernel_rfl) (by kernel_rfl) (by kernel_rfl) (by kernel_rfl) (fun _ _ _ h => h) (Or.inl ⟨by kernel_rfl, ?y42⟩) (by assumption) ?r42
        case y42 => (intro w hSw; obtain ⟨g0, g1, g2⟩ := hSw; go_simp; try with_reducible rfl)
        refine untlTake (i := 14) 286 (v := ?v43) rfl (by kernel_rfl) (by kernel_rfl) (by kernel_rfl) (by kernel_rfl) (by kernel_rfl) (by kernel_rfl) (fun _ _ _ h => h) (Or.inl ⟨by kernel_rfl, ?y43⟩) (by assumption) ?r43
        case y43 => (intro w hSw; obtain ⟨g0, g1, g2⟩ := hSw; go_simp; try with_reducible rfl)
        simp only [Act.put, List.setIfInBounds_toArray, List.set_cons_zero, List.set_cons_succ]
        refine untlTake (i := 15) 287 (v := ?v44) rfl (by kernel_rfl) (by kernel_rfl) (by kernel_rfl) (by kernel_rfl) (by kernel_rfl) (by kernel_rfl) (fun _ _ _ h => h) (Or.inl ⟨by kernel_rfl, ?y44⟩) (by assumption) ?r44
        case y44 => (intro w hSw; obtain ⟨g0, g1, g2⟩ := hSw; go_simp; try with_reducible rfl)
        refine untlTake (i := 16) 288 (v := ?v45) rfl (by kernel_rfl) (by kernel_rfl) (by kernel_rfl) (by kernel_rfl) (by kernel_rfl) (by kernel_rfl) (fun _ _ _ h => h) (Or.inl ⟨by kernel_rfl, ?y45⟩) (by assumption) ?r45
        case y45 => (intro w hSw; obtain ⟨g0, g1, g2⟩ := hSw; go_simp; try with_reducible rfl)
        refine untlTake (i := 17) 289 (v := ?v46) rfl (by kernel_rfl) (by kernel_rfl) (by kernel_rfl) (by kernel_rfl) (by kernel_rfl) (by kernel_rfl) (fun _ _ _ h => h) (Or.inl ⟨by kernel_rfl, ?y46⟩) (by assumption) ?r46
        case y46 => (intro w hSw; obtain ⟨g0, g1, g2⟩ := hSw; go_simp; try with_reducible rfl)
        simp only [Act.put, List.setIfInBounds_toArray, List.set_cons_zero, List.set_cons_succ]
        refine untlTake (i := 18) 290 (v := ?v47) rfl (by kernel_rfl) (by kernel_rfl) (by kernel_rfl) (by kernel_rfl) (by kernel_rfl) (by kernel_rfl) (fun _ _ _ h => h) (Or.inl ⟨by kernel_rfl, ?y47⟩) (by assumption) ?r47
        case y47 => (intro w hSw; obtain ⟨g0, g1, g2⟩ := hSw; go_simp; try with_reducible rfl)
        refine untlTake (i := 19) 291 (v := ?v48) rfl (by kernel_rfl) (by kernel_rfl) (by kernel_rfl) (by kernel_rfl) (by kernel_rfl) (by kernel_rfl) (fun _ _ _ h => h) (Or.inl ⟨by kernel_rfl, ?y48⟩) (by assumption) ?r48
        case y48 => (intro w hSw; obtain ⟨g0, g1, g2⟩ := hSw; go_simp; try with_reducible rfl)
        refine untlTake (i := 20) 292 (v := ?v49) rfl (by kernel_rfl) (by kernel_rfl) (by kernel_rfl) (by kernel_rfl) (by kernel_rfl) (by kernel_rfl) (fun _ _ _ h => h) (Or.inl ⟨by kernel_rfl, ?y49⟩) (by assumption) ?r49
        case y49 => (intro w hSw; obtain ⟨g0, g1, g2⟩ := hSw; go_simp; try with_reducible rfl)
        simp only [Act.put, List.setIfInBounds_toArray, List.set_cons_zero, List.set_cons_succ]
        refine untlStep (i := 21) (by kernel_rfl) rfl (fun K21 hK21 => ?_)
        rw [if_pos (by rfl)]
        go_simp
        refine (HSP.out _ _ _).mono ?_
        rintro e v6 ⟨rfl, b6⟩
        have Q6 := Lib.hid (Q5.out.below b6)
        have s6 : S49 t r (q * 4) (.slice (some ⟨r, 0, none⟩) n c8) (.int .i64 ll) (.int .i64 lh) v6 := ⟨Q6.out.bx.cell 4, X0.out _ (Q6.out.row hn0), X1.out _ (Q6.out.row hn0)⟩
        clear b6 Q5 s5
        refine hK21.out _ _ (.inr s6) ?_
        refine untlTake (i := 22) 294 (v := ?v50) rfl (by kernel_rfl) (by kernel_rfl) (by kernel_rfl) (by kernel_rfl) (by kernel_rfl) (by kernel_rfl) (fun _ _ _ h => h) (Or.inl ⟨by kernel_rfl, ?y50⟩) (by assumption) ?r50
        case y50 => (intro w hSw; obtain ⟨g0, g1, g2⟩ := hSw; go_simp; try with_reducible rfl)
        refine untlTake (i := 23) 295 (v := ?v51) rfl (by kernel_rfl) (by kernel_rfl) (by kernel_rfl) (by kernel_rfl) (by kernel_rfl) (by kernel_rfl) (fun _ _ _ h => h) (Or.inl ⟨by kernel_rfl, ?y51⟩) (by assumption) ?r51
        case y51 => (intro w hSw; obtain ⟨g0, g1, g2⟩ := hSw; go_simp; try with_reducible rfl)
        simp only [Act.put, List.setIfInBounds_toArray, List.set_cons_zero, List.set_cons_succ]
        refine untlStep (i := 24) (by kernel_rfl) rfl (fun K24 hK24 => ?_)
        rw [if_pos (by rfl)]
        have hR6 := Q6.out.row hn0
        have x0 := X0.out _ hR6
        have x1 := X1.out _ hR6
        have z0 := hR6.frozen (q * 4)
        have z1 := hR6.frozen (q * 4 + 1)
        clear hR6
        go_simp
        refine hK24.out _ _ (.inl (by decide)) ?_
        refine untlDone (by kernel_rfl) ?_ _
        have Q9 := Lib.hid (Q6.out.put2 hn0 (i := q * 4) (u := .int .i64 (ll + b0)) (u' := .int .i64 (lh + b0)) (by rw [flatG_length, HLF.out]; omega) FWL.out.symm (HWN.out q))
        have CO := Lib.hid (HOW.out q hqn (some ⟨r, 0, none⟩) c8 _ Q9.out.o.1)
        clear Q6 s6 x0 x1 z0 z1
        have p50 := fan5_get Q9.out.bx
        go_wp2_with fail
        refine CO.out.mono ?_
        rintro e w17 ⟨rfl, b17⟩
        have B17 := Lib.hid (below_then (below_then Q9.out.b b17) (below_self w17 (.cells #[.int .i64 (V q), .int .i64 (V2 q)] 23)))
        clear b17 Q9 p50 CO
        have s17 := span2_get (Blk.new w17 23 #[.int .i64 (V q), .int .i64 (V2 q)] rfl)
        go_upto_region 51 with fail
        rcases HR5.out with ⟨hk1, rfl⟩ | ⟨hk1, hv1, hv2⟩ | ⟨hk1, hv1, hv2⟩
        · have hv1 : ¬ V q > V q := by omega
          have hv2 : ¬ (q : Int) < (q : Int) := by omega
          go_wp2_with fail
          go_roundw
          case rel => exact ⟨k + 1, by omega, by go_num, B17.out⟩
          case measure => simp [intOf]; omega
        · go_wp2_with fail
          go_roundw
          case rel => exact ⟨k + 1, by omega, by go_num, B17.out⟩
          case measure => simp [intOf]; omega
        · rw [hv1] at s17 B17 ⊢
          have hv3 : ¬ V K > V K := by omega
          go_wp2_with fail
          go_roundw
          case rel => exact ⟨k + 1, by omega, by go_num, B17.out⟩
          case measure => simp [intOf]; omega
      · obtain rfl : k = 2 := by omega
        go_wp2_with fail
        refine (HK.out _).mono ?_
        rintro e w99 ⟨rfl, b99⟩
        go_wp2
        go_ret
        exact ⟨rfl, below_then (below_then FW.out Bk.out) b99⟩
theorem RivetEnough_any (x : Fo) (wish b0 b1 : Int) (w : World) (h0 : Hid (x.At w)) (hw0 : Hid (0 ≤ wish ∧ wish ≤ 65535)) (hc0 : Hid (Byte b0)) (hc1 : Hid (Byte b1)) :
    Calls Try.prog 15 #[.agg x.cells, .int .u16 wish, .agg #[.int .u8 b0, .int .u8 b1]] w fun e w' => e = .returned (.bool true) ∧ Below w.heap.size w w' :=
  (enough_1 x wish b0 b1 w h0 hw0 hc0 hc1).2 ((enough_2 x wish b0 b1 w h0 hw0 hc0 hc1).2 (enough_3 x wish b0 b1 w h0 hw0 hc0 hc1))
end Go.Proofs.Ytdekickmplkdiaa
