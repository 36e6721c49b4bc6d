/- Walks: the law of what is seen: the last fan; the law. -/
import Derived.Test.YtdekickmplkdiaaQc
namespace Go.Proofs.Ytdekickmplkdiaa
open Go.RowKit

set_option maxRecDepth 100000 in
set_option maxHeartbeats 8000000 in
theorem seen_3 (x : Fo) (xs : List Int) (B : Option Addr) (m dc : Nat) (b0 b1 b2 : Int) (w : World) (h0 : Hid (x.At w)) (hB0 : Hid (Bytes w B m xs)) (hm0 : Hid (m ≤ maxLen)) (hc0 : Hid (Byte b0)) (hc1 : Hid (Byte b1)) (hc2 : Hid (Byte b2)) : Ls (seen_2 x xs B m dc b0 b1 b2 w h0 hB0 hm0 hc0 hc1 hc2).1 := by
  refine ⟨?_⟩
  intro i0 hi hz0 hz1 hz2 HK n f HSP D tn td c0 q0 c1 lo c2 zy0 a b hh HHH HER HLF HFB HN HBY HMX s1 s2 fa fb fc fd HA zy1 w1 A c v0 g w2 A2 c2' w3 zy2 u9 u38 u39 u40 u41 u42 u43 u44 u45 u46 u47 u48 u49 u50 u51 u52 u53 u54 u55 u56 u57 u58 u59 w8 w9 gq zy3 wc u76 u77 u78 u79 u80 u81 u82 AL cL zy4 zy5 zy6 zy7 w12 A12 c12 w13 v gs FB FG FQ FW G hnp r zy8 IL HG hr1 hrn HR u91 u92 u93 u94 u95 u96 u97 u98 u99 u100 u101 zy9 HRD HGM HGL HCG HOR HBM wr u6 u18 u19 u20 u21 u22 u23 u142 u143 u144 u145 u146 u147 u148 u149 u150 u151 u152 u153 u154 u155 u156 u157 u158 u159 u160 u161 u162 u163 u164 u165 u166 u167 u168 u169 u170 u171 u172 u173 u174 u175 u176 u177 u178 u179 u180 u181 u182 u183 u184 u185 u186 u187 u188 u189 u190 u191 u192 u193 u194 u195 u196 u197 u198 u199 u200 u201 u202 u203 u204 u205 u206 u207 u208 u209 u210 u211 u212 u213 u214 u215 u216 u217 u218 u219 u220 u221 u222 u223 u224 u225 u226 u227 u228 u229 u230 u231 u232 u233 u234 u235 u236 u237 u238 u239 u240 u241 u242 u243 u244 u245 u246 u247 u248 u249 u250 u251 u252 u253 BK kk wk HKK hkI zz0 zz1 zz2 zz3 zz4
  have HBO := Lib.hid (fun (q : Nat) (hq : q ≤ 1000000) W (hb : Below w.heap.size w W) => byteOf_any xs q B m dc W (HBY.out W hb) HMX.out hq)
  have HBB := Lib.hid (fun q => byteAt_bd (HBY.out w (Below.refl _ _)).2 q)
  obtain ⟨r1, hr1'⟩ : ∃ z : Nat, r - 1 = z := ⟨_, rfl⟩
  have hrr : (r : Int) - 1 = (r1 : Int) := by omega
  have wrr : IntKind.i64.wrap (r1 : Int) = (r1 : Int) := IntWalk.i64_in _ (by have := HN.out; omega)
  have HR1 : Hid (r = r1 + 1 ∧ r1 ≤ n) := by unfold Hid; omega
  obtain ⟨CT, hCT⟩ : ∃ z, (fun q => (chT xs n r1 q).2) = z := ⟨_, rfl⟩
  obtain ⟨SJ, hSJ⟩ : ∃ z, leftL f.gs xs n r1 = z := ⟨_, rfl⟩
  have HC0 : Hid (CT 0 = r1 ∧ SJ 0 = []) := by rw [← hCT, ← hSJ]; exact ⟨rfl, rfl⟩
  have HC1 : Hid (∀ q, CT (q + 1) = if (decide (0 < CT q) && (decide (byteAt xs q % 2 = 0) || decide (n ≤ q + CT q))) = true then CT q - 1 else CT q) := fun q => by
    rw [← hCT]
    show (chT xs n r1 (q + 1)).2 = _
    rw [chT]
    split <;> rfl
  have HS1 : Hid (∀ q, q < n → SJ (q + 1) = if (decide (0 < CT q) && (decide (byteAt xs q % 2 = 0) || decide (n ≤ q + CT q))) = true then SJ q else SJ q ++ [f.gs.getD q Gap.zero]) := fun q hq => by
    rw [← hSJ, ← hCT]
    exact left_succ f.gs xs n r1 q HR1.out.2 hq
  have HCB : Hid (∀ q, q ≤ n → CT q ≤ r1) := fun q hq => by
    rw [← hCT]
    have := (chT_spec xs n r1 HR1.out.2 q hq).1
    show (chT xs n r1 q).2 ≤ r1
    omega
  have HSL : Hid (∀ q, (SJ q).length ≤ q) := fun q => by rw [← hSJ]; exact someTo_len _ _ _
  have HSEE : Hid (1 < r → hh < degL false ⟨f.a, f.b, f.c, f.d, SJ n⟩) := fun h => by
    have q := seen_last (G := G) (by rw [HR.out]; exact HG.out.2.1) (fun L' z1 z2 z3 z4 => HG.out.2.2.2.2.2 L' z1 z2 z3 (by rw [HR.out] at z4; exact z4)) xs (by rw [HR.out]; exact h)
    rw [HR.out, HLF.out, hr1', hSJ] at q
    exact q
  have COR := Lib.hid (fun (A3 : Option Addr) (c3 : Nat) (W : World) (hG : Gaps W A3 (SJ n).length (SJ n)) => by
    have e : fanErr ⟨f.a, f.b, f.c, f.d, SJ n⟩ = 0 := by
      have q := left_err HER.out xs r1
      rw [HLF.out, hSJ] at q
      exact q
    have q := Opens_any ⟨f.a, f.b, f.c, f.d, SJ n⟩ A3 (SJ n).length c3 W hG (by have := HSL.out n; have := HN.out; unfold maxLen; omega)
    rw [opens_val e, e] at q
    exact q)
  simp only [fanA, HA.out.1, HA.out.2.1, HA.out.2.2.1, HA.out.2.2.2] at COR
  simp only [HA.out.1, HA.out.2.1, HA.out.2.2.1, HA.out.2.2.2] at HSEE
  clear hCT hSJ hr1'
  generalize degL false ⟨fa, fb, fc, fd, SJ n⟩ = R1 at *
  generalize degL true ⟨fa, fb, fc, fd, SJ n⟩ = R2 at *
  have pf := fan5_get (blk_keep BK.out FB.out)
  go_upto_region 38 with fail
  clear pf hrr wrr
  obtain ⟨vb, hvb⟩ : ∃ z, z = wr := ⟨_, rfl⟩
  have BV : Hid (Below v.heap.size v vb) := by rw [hvb]; exact BK.out
  have LK0 : Hid (LK vb (wr.alloc (.cells #[.int .i64 fa, .int .i64 fb, .int .i64 fc, .int .i64 fd, .slice none 0 0] 26)) wr.heap.size #[.int .i64 fa, .int .i64 fb, .int .i64 fc, .int .i64 fd, .slice none 0 0]) := LK.start (by rw [hvb]; exact Below.refl _ _) _
  clear hvb BK
  generalize wr.alloc (.cells #[.int .i64 fa, .int .i64 fb, .int .i64 fc, .int .i64 fd, .slice none 0 0] 26) = wt at *
  generalize wr.heap.size = t at *
  go_wp2_with fail
  go_loopw [26, 25] (fun i s25 W => ∃ (q li : Nat) (A3 : Option Addr) (c3 : Nat), q ≤ n ∧ i = .int .i64 q ∧ s25 = .int .i64 (CT q : Nat) ∧ li = (SJ q).length ∧ W.ownsRow vb.heap.size 42 4 (.slice A3 li c3) li (flatG (SJ q)) ∧ LK vb W t #[.int .i64 fa, .int .i64 fb, .int .i64 fc, .int .i64 fd, .slice A3 li c3]) (fun i _ _ => n - (intOf i).toNat)
  case atStart => exact ⟨0, 0, none, 0, Nat.zero_le _, rfl, by rw [HC0.out.1], by rw [HC0.out.2]; rfl, by rw [HC0.out.2]; exact World.ownsRow_nil _ _ _ _, LK0.out⟩
  case round =>
    obtain ⟨i, li, A3, c3, hi', rfl, rfl, hli, hown, hq⟩ := hrel
    have OJ := Lib.hid hown
    have EJ := Lib.hid hq
    have HLI := Lib.hid hli
    clear hown hq LK0 hli
    by_cases hin : i < n
    · have hiI : (i : Int) < n := by omega
      have hn12 := HN.out
      obtain ⟨bq, off, hA, _, q0, q1, q2, q3⟩ := FG.out.at_ hin
      subst hA
      have hc1 := HC1.out i
      have hs1 := HS1.out i hin
      have hSLi := HSL.out i
      have hcb := HCB.out i (by omega)
      have hr1n := HR1.out.2
      generalize hyy : f.gs.getD i Gap.zero = yy at *
      obtain ⟨ll, lh, fl, fh⟩ := yy
      simp only at q0 q1 q2 q3
      have q0 := Lib.hid q0
      have q1 := Lib.hid q1
      have q2 := Lib.hid q2
      have q3 := Lib.hid q3
      have HLB : Hid (li ≤ i) := by unfold Hid; rw [HLI.out]; exact hSLi
      obtain ⟨mq, hmq⟩ : ∃ z, CT i = z := ⟨_, rfl⟩
      rw [hmq] at hc1 hs1 hcb ⊢
      clear hyy hSLi hmq
      obtain ⟨z, hz⟩ : ∃ z, (decide (0 < mq) && (decide (byteAt xs i % 2 = 0) || decide (n ≤ i + mq))) = z := ⟨_, rfl⟩
      rw [hz] at hc1 hs1
      have HI1 := Lib.hid hs1
      have HI2 := Lib.hid hc1
      have HZ := Lib.hid hz
      clear hs1 hc1 hz
      have BVW := Lib.hid (below_then FW.out (below_then BV.out EJ.out.bel))
      have pf := (blk_keep (below_then BV.out EJ.out.bel) FB.out).cell 4
      have hbo := HBO.out i (by omega) wr BVW.out
      have hbb := HBB.out i
      generalize byteAt xs i = y at *
      have CBO := Lib.hid hbo
      clear hbo
      go_upto_region 41 with fail
      go_cut [286] from 269 to 286 (fun s W => s = .bool z ∧ wr = W)
      case first =>
        have y1 : y.tmod 2 = y % 2 := Int.tmod_eq_emod_of_nonneg hbb.1
        have y2 : IntKind.i64.wrap (y % 2) = y % 2 := IntWalk.i64_in _ (by omega)
        have y3 : IntKind.i64.wrap ((n : Int) - i) = (n : Int) - i := IntWalk.i64_in _ (by omega)
        clear hbb
        rcases Nat.eq_zero_or_pos mq with hm0 | hm0
        · have hz1 : z = false := by rw [← HZ.out]; simp [hm0]
          have x1 : ¬ (0 : Int) < (mq : Int) := by omega
          clear hm0 hcb
          go_wp2_with fail
          go_meet
          exact ⟨by rw [hz1], rfl⟩
        · have x1 : (0 : Int) < (mq : Int) := by omega
          by_cases hy : y % 2 = 0
          · have hz1 : z = true := by rw [← HZ.out]; simp [hm0, hy]
            have x2 : (y % 2 == 0) = true := by simp [hy]
            have HY := Lib.hid hy
            rw [hy] at y1 y2
            clear hm0 hcb hy
            go_wp2_with (go_at_call 56; refine CBO.out.mono ?_; rintro e w31 ⟨rfl, rfl⟩)
            go_meet
            exact ⟨by rw [hz1], rfl⟩
          · have x2 : (y % 2 == 0) = false := by simp [hy]
            have x3 : (y % 2 = 0) = False := by simp [hy]
            by_cases hnm : n ≤ i + mq
            · have hz1 : z = true := by rw [← HZ.out]; simp [hm0, hnm]
              have x4 : (n : Int) - i ≤ mq := by omega
              clear hm0 hcb hnm
              go_wp2_with (go_at_call 56; refine CBO.out.mono ?_; rintro e w31 ⟨rfl, rfl⟩)
              go_meet
              exact ⟨by rw [hz1], rfl⟩
            · have hz1 : z = false := by rw [← HZ.out]; simp [hm0, hnm, hy]
              have x4 : ¬ (n : Int) - i ≤ mq := by omega
              have x5 : decide ((n : Int) - i ≤ mq) = false := decide_eq_false x4
              clear hm0 hcb hnm
              go_wp2_with (go_at_call 56; refine CBO.out.mono ?_; rintro e w31 ⟨rfl, rfl⟩)
              go_meet
              exact ⟨by rw [hz1], rfl⟩
      case rest =>
        obtain ⟨rfl, rfl⟩ := hcut
        clear CBO hbb
        cases z
        case true =>
          have hm0 : 0 < mq := by
            have h := HZ.out
            rw [Bool.and_eq_true, decide_eq_true_eq] at h
            exact h.1
          have hmz : (mq : Int) - 1 = ((mq - 1 : Nat) : Int) := by omega
          have hmw : IntKind.i64.wrap ((mq : Int) - 1) = ((mq - 1 : Nat) : Int) := by rw [hmz]; exact IntWalk.i64_in _ (by omega)
          clear HZ
          go_wp2_with fail
          go_roundw
          case rel => exact ⟨i + 1, li, A3, c3, by omega, by go_num, by rw [HI2.out, if_pos rfl], by rw [HI1.out, if_pos rfl]; exact HLI.out, by rw [HI1.out, if_pos rfl]; exact OJ.out, EJ.out⟩
          case measure => simp [intOf]; omega
        case false =>
          generalize hsi : SJ i = Si at *
          clear hsi HZ hcb
          go_wp2_with fail
          have HS16 := Lib.hid (fun (W : World) (hE : LK vb W t #[.int .i64 fa, .int .i64 fb, .int .i64 fc, .int .i64 fd, .slice A3 li c3]) => show S33 t g bq (off + i * 4) (.slice A3 li c3) (.slice (some ⟨bq, off, none⟩) n c) (.int .i64 ll) (.int .i64 lh) (.int .i64 fl) (.int .i64 fh) W from ⟨⟨hE.q.cell 4, (blk_keep (below_then BV.out hE.bel) FB.out).cell 4⟩, ((below_then BV.out hE.bel).cell (lt_of_cell q0.out)).trans q0.out, ((below_then BV.out hE.bel).cell (lt_of_cell q1.out)).trans q1.out, ((below_then BV.out hE.bel).cell (lt_of_cell q2.out)).trans q2.out, ((below_then BV.out hE.bel).cell (lt_of_cell q3.out)).trans q3.out⟩)
          have E5 := Lib.hid EJ.out.drewd
          have O5 : Hid (wr.drew.ownsRow vb.heap.size 42 4 (.slice A3 li c3) li (flatG Si)) := OJ.out
          clear EJ OJ pf BVW
          refine wp_region_untl (S := S33 t g bq (off + i * 4) (.slice A3 li c3) (.slice (some ⟨bq, off, none⟩) n c) (.int .i64 ll) (.int .i64 lh) (.int .i64 fl) (.int .i64 fh)) [10] (by kernel_rfl) (HS16.out _ E5.out) (fun s5 => ?_)
          generalize wr.drew = v5 at *
          refine untlTake (i := 0) 289 (v := ?v1) rfl (by kernel_rfl) (by kernel_rfl) (by kernel_rfl) (by kernel_rfl) (by kernel_rfl) (by kernel_rfl) (fun _ _ _ h => h) (Or.inl ⟨by kernel_rfl, ?y1⟩) (by assumption) ?r1
          case y1 => (intro w hSw; obtain ⟨⟨g0, g1⟩, g2, g3, g4, g5⟩ := hSw; go_simp; try with_reducible rfl)
          refine untlTake (i := 1) 290 (v := ?v2) rfl (by kernel_rfl) (by kernel_rfl) (by kernel_rfl) (by kernel_rfl) (by kernel_rfl) (by kernel_rfl) (fun _ _ _ h => h) (Or.inl ⟨by kernel_rfl, ?y2⟩) (by assumption) ?r2
          case y2 => (intro w hSw; obtain ⟨⟨g0, g1⟩, g2, g3, g4, g5⟩ := hSw; go_simp; try with_reducible rfl)
          refine untlTake (i := 2) 291 (v := ?v3) rfl (by kernel_rfl) (by kernel_rfl) (by kernel_rfl) (by kernel_rfl) (by kernel_rfl) (by kernel_rfl) (fun _ _ _ h => h) (Or.inl ⟨by kernel_rfl, ?y3⟩) (by assumption) ?r3
          case y3 => (intro w hSw; obtain ⟨⟨g0, g1⟩, g2, g3, g4, g5⟩ := hSw; go_simp; try with_reducible rfl)
          simp only [Act.put, List.setIfInBounds_toArray, List.set_cons_zero, List.set_cons_succ]
          refine untlTake (i := 3) 292 (v := ?v4) rfl (by kernel_rfl) (by kernel_rfl) (by kernel_rfl) (by kernel_rfl) (by kernel_rfl) (by kernel_rfl) (fun _ _ _ h => h) (Or.inl ⟨by kernel_rfl, ?y4⟩) (by assumption) ?r4
          case y4 => (intro w hSw; obtain ⟨⟨g0, g1⟩, g2, g3, g4, g5⟩ := hSw; go_simp; try with_reducible rfl)
          refine untlTake (i := 4) 293 (v := ?v5) rfl (by kernel_rfl) (by kernel_rfl) (by kernel_rfl) (by kernel_rfl) (by kernel_rfl) (by kernel_rfl) (fun _ _ _ h => h) (Or.inl ⟨by kernel_rfl, ?y5⟩) (by assumption) ?r5
          case y5 => (intro w hSw; obtain ⟨⟨g0, g1⟩, g2, g3, g4, g5⟩ := hSw; go_simp; try with_reducible rfl)
          refine untlTake (i := 5) 294 (v := ?v6) rfl (by kernel_rfl) (by kernel_rfl) (by kernel_rfl) (by kernel_rfl) (by kernel_rfl) (by kernel_rfl) (fun _ _ _ h => h) (Or.inl ⟨by kernel_rfl, ?y6⟩) (by assumption) ?r6
          case y6 => (intro w hSw; obtain ⟨⟨g0, g1⟩, g2, g3, g4, g5⟩ := hSw; go_simp; try with_reducible rfl)
          simp only [Act.put, List.setIfInBounds_toArray, List.set_cons_zero, List.set_cons_succ]
          refine untlTake (i := 6) 295 (v := ?v7) rfl (by kernel_rfl) (by kernel_rfl) (by kernel_rfl) (by kernel_rfl) (by kernel_rfl) (by kernel_rfl) (fun _ _ _ h => h) (Or.inl ⟨by kernel_rfl, ?y7⟩) (by assumption) ?r7
          case y7 => (intro w hSw; obtain ⟨⟨g0, g1⟩, g2, g3, g4, g5⟩ := hSw; go_simp; try with_reducible rfl)
          simp only [Act.put, List.setIfInBounds_toArray, List.set_cons_zero, List.set_cons_succ]
          refine untlStep (i := 7) (by kernel_rfl) rfl (fun K6 hK6 => ?_)
          go_simp
          have E6 := Lib.hid (E5.out.alloc (.cells #[.int .i64 ll, .int .i64 lh, .int .i64 fl, .int .i64 fh] 42))
          have s6 := HS16.out _ E6.out
          clear s5
          refine hK6.out _ _ (.inr s6) ?_
          refine untlStep (i := 8) (by kernel_rfl) rfl (fun K7 hK7 => ?_)
          refine step_append_any rfl (.tmp 290) (.tmp 296) 24 rfl vb.heap.size 42 i0 _ 4 32 Try.underlying24 hi hz0 hz1 hz2 rfl (by decide) (.slice A3 li c3) li (flatG Si) (by rfl) (ownsRow_below O5.out (below_self _ _)) (some ⟨v5.heap.size, 0, none⟩) 1 1 (by rfl) (Gap.cells ⟨ll, lh, fl, fh⟩) (rep_new v5 ⟨ll, lh, fl, fh⟩ _) (cells_one _) (by have := HN.out; have := HLB.out; unfold maxLen; omega) (by have := HN.out; have := HLB.out; omega) E6.out.bel.size ?_
          intro u7 v7 hown hgrow
          rw [flatG_snoc] at hown
          obtain ⟨A4, c4, rfl⟩ := own_slice hown
          have E7 := Lib.hid (E6.out.grown (ownsRow_below O5.out (below_self _ _)) (by decide) (Nat.le_refl _) hgrow)
          have O7 := Lib.hid hown
          clear hown hgrow E6 s6 E5 O5
          have s7 := HS16.out _ E7.out
          refine hK7.out _ _ (.inr s7) ?_
          refine untlTake (i := 9) 298 (v := ?v8) rfl (by kernel_rfl) (by kernel_rfl) (by kernel_rfl) (by kernel_rfl) (by kernel_rfl) (by kernel_rfl) (fun _ _ _ h => h) (Or.inl ⟨by kernel_rfl, ?y8⟩) (by assumption) ?r8
          case y8 => (intro w hSw; obtain ⟨⟨g0, g1⟩, g2, g3, g4, g5⟩ := hSw; go_simp; try with_reducible rfl)
          refine untlStep (i := 10) (by kernel_rfl) rfl (fun K9 hK9 => ?_)
          rw [if_pos (by rfl)]
          have f7 := E7.out.q.frozen 4
          have y7 := E7.out.q.cell 4
          go_simp
          refine hK9.out _ _ (.inl (by decide)) ?_
          refine untlDone (by kernel_rfl) ?_ _
          have O9 := Lib.hid (own_setCell (i := 4) O7.out E7.out.q (by decide) (.slice A4 (li + 1) c4))
          have E9 := Lib.hid (E7.out.setQ 4 (.slice A4 (li + 1) c4))
          clear s7 f7 y7 E7 O7 HS16 K6 K7 K9 hK6 hK7 hK9
          go_wp2_with fail
          go_roundw
          case rel => exact ⟨i + 1, li + 1, A4, c4, by omega, by go_num, by rw [HI2.out, if_neg (by simp)], by rw [HI1.out, if_neg (by simp), List.length_append, List.length_singleton, HLI.out], by rw [HI1.out, if_neg (by simp)]; exact O9.out, E9.out⟩
          case measure => simp [intOf]; omega
    · obtain rfl : n = i := by omega
      have hGk : Gaps wr A3 li (SJ n) := own_gaps2 OJ.out
      have p34 := fan5_get EJ.out.q
      have CO := Lib.hid (COR.out A3 c3 wr (by rw [← HLI.out]; exact hGk))
      rw [← HLI.out] at CO
      have pf := (blk_keep (below_then BV.out EJ.out.bel) FB.out).cell 4
      clear hGk OJ
      go_wp2_with fail
      refine CO.out.mono ?_
      rintro e w17 ⟨rfl, b17⟩
      clear p34 CO pf
      have B17 := Lib.hid (below_alloc' (below_then (below_then BV.out EJ.out.bel) b17) (.cells #[.int .i64 R1, .int .i64 R2] 23))
      have s17 := spn_get (Blk.new w17 23 #[.int .i64 R1, .int .i64 R2] rfl)
      have q17 := spn_get (blk_keep B17.out FQ.out)
      clear b17 EJ
      go_upto_region 45 with fail
      generalize w17.alloc (.cells #[.int .i64 R1, .int .i64 R2] 23) = w18 at *
      generalize w17.heap.size = gt at *
      by_cases hr1' : r = 1
      · have x1 : ((r : Int) == 1) = true := by simp; omega
        have HRR := Lib.hid hr1'
        subst hr1'
        go_wp2_with (go_at_call 17; refine (HK.out _).mono ?_; rintro e w99 ⟨rfl, b99⟩)
        go_ret
        exact ⟨rfl, below_then FW.out (below_then B17.out b99)⟩
      · have x1 : ((r : Int) == 1) = false := by simp; omega
        have x2 : ((r : Int) = 1) = False := by simp; omega
        have x3 : (r = 1) = False := by simp; omega
        have x4 : hh < R1 := HSEE.out (by omega)
        go_wp2_with (go_at_call 17; refine (HK.out _).mono ?_; rintro e w99 ⟨rfl, b99⟩)
        go_ret
        exact ⟨rfl, below_then FW.out (below_then B17.out b99)⟩
theorem RivetSeen_any (x : Fo) (xs : List Int) (B : Option Addr) (m dc : Nat) (b0 b1 b2 : Int) (w : World) (h0 : Hid (x.At w)) (hB0 : Hid (Bytes w B m xs)) (hm0 : Hid (m ≤ maxLen)) (hc0 : Hid (Byte b0)) (hc1 : Hid (Byte b1)) (hc2 : Hid (Byte b2)) :
    Calls Try.prog 14 #[.agg x.cells, .slice B m dc, .agg #[.int .u8 b0, .int .u8 b1, .int .u8 b2]] w fun e w' => e = .returned (.bool true) ∧ Below w.heap.size w w' :=
  (seen_1 x xs B m dc b0 b1 b2 w h0 hB0 hm0 hc0 hc1 hc2).2 ((seen_2 x xs B m dc b0 b1 b2 w h0 hB0 hm0 hc0 hc1 hc2).2 (seen_3 x xs B m dc b0 b1 b2 w h0 hB0 hm0 hc0 hc1 hc2))
end Go.Proofs.Ytdekickmplkdiaa
