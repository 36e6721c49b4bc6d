/- Walks: the law of what is seen: the gaps that are wrong. -/
import Derived.Test.YtdekickmplkdiaaQb
namespace Go.Proofs.Ytdekickmplkdiaa
open Go.RowKit

set_option maxRecDepth 100000 in
set_option maxHeartbeats 8000000 in
noncomputable def seen_2 (x : Fo) (xs : List Int) (B : Option Addr) (m dc : Nat) (b0 b1 b2 : Int) (w : World) (h0 : Hid (x.At w)) (hB0 : Hid (Bytes w B m xs)) (hm0 : Hid (m ≤ maxLen)) (hc0 : Hid (Byte b0)) (hc1 : Hid (Byte b1)) (hc2 : Hid (Byte b2)) : PSigma fun G : Prop => Ls G → Ls (seen_1 x xs B m dc b0 b1 b2 w h0 hB0 hm0 hc0 hc1 hc2).1 := by
  apply PSigma.mk
  case snd =>
    intro kG
    refine ⟨?_⟩
    intro i0 hi hz0 hz1 hz2 HK n f HSP D tn td c0 q0 c1 lo c2 zy0 a b hh HHH HER HLF HFB HN HBY HMX s1 s2 fa fb fc fd HA zy1 w1 A c v0 g w2 A2 c2' w3 zy2 u9 u38 u39 u40 u41 u42 u43 u44 u45 u46 u47 u48 u49 u50 u51 u52 u53 u54 u55 u56 u57 u58 u59 w8 w9 gq zy3 wc u76 u77 u78 u79 u80 u81 u82 AL cL zy4 zy5 zy6 zy7 w12 A12 c12 w13 v gs FB FG FQ FW G hnp r zy8 IL HG hr1 hrn HR u91 u92 u93 u94 u95 u96 u97 u98 u99 u100 u101 zy9 zy10 zy11 zy12
    have HRD := Lib.hid (fun j hj => seen_round HG.out.2.2.1 HG.out.2.2.2.1 HG.out.2.2.2.2.1 (fun L' z1 z2 z3 z4 => HG.out.2.2.2.2.2 L' z1 z2 z3 (by rw [HR.out] at z4; exact z4)) j hj)
    have HGM : Hid (∀ q, q < r → G.getD q 0 < n) := fun q hq => by
      have hq' : q < G.length := by rw [HR.out]; exact hq
      have e : G.getD q 0 = G[q] := by simp [List.getD, hq']
      have h1 := HG.out.2.2.2.1 _ (List.getElem_mem hq')
      rw [e]; have := HLF.out; omega
    have HGL : Hid (∀ q, 1 ≤ q → q < r → G.getD (q - 1) 0 < G.getD q 0) := fun q h1 hq => getD_lt HG.out.2.2.1 (by omega) (by rw [HR.out]; exact hq)
    have HCG : Hid (∀ q, q < r → (castL G).getD q 0 = ((G.getD q 0 : Nat) : Int)) := fun q hq => by
      have hq' : q < G.length := by rw [HR.out]; exact hq
      simp [castL, List.getD, hq']
    have HOR := Lib.hid (fun (L : List Int) (A3 : Option Addr) (c3 : Nat) (W : World) (hG : Gaps W A3 (f.some L).gs.length (f.some L).gs) => by
      have e := some_err HER.out L
      have q := Opens_any (f.some L) A3 (f.some L).gs.length c3 W hG (by have := someTo_len f.gs L f.gs.length; have := HN.out; have := HLF.out; have h : (f.some L).gs = someTo f.gs L f.gs.length := rfl; rw [h]; unfold maxLen; omega)
      rw [opens_val e, e] at q
      exact q)
    have HFF : Hid (∀ L A' m' c', fanA (f.some L) A' m' c' = #[.int .i64 f.a, .int .i64 f.b, .int .i64 f.c, .int .i64 f.d, .slice A' m' c']) := fun _ _ _ _ => rfl
    simp only [HFF.out, HA.out.1, HA.out.2.1, HA.out.2.2.1, HA.out.2.2.2] at HOR
    have HBM := Lib.hid (fun kk p => bR_mem HG.out.2.2.1 kk p)
    rw [HR.out] at HBM HRD
    clear HFF
    go_wp2_with fail
    go_loopw [17] (fun i wr => ∃ j : Nat, j ≤ r + 1 ∧ i = .int .i64 ((j : Int) - 1) ∧ Below v.heap.size v wr) (fun i _ => ((r : Int) - intOf i).toNat)
    case atStart => exact ⟨0, Nat.zero_le _, rfl, Below.refl _ _⟩
    case round =>
      obtain ⟨j, hj, rfl, hBk⟩ := hrel
      have BK := Lib.hid hBk
      clear hBk
      obtain ⟨kk, hkk⟩ : ∃ z : Int, (j : Int) - 1 = z := ⟨_, rfl⟩
      rw [hkk]
      have HKK := Lib.hid hkk
      have HJ := Lib.hid hj
      have wk : IntKind.i64.wrap (kk + 1) = kk + 1 := IntWalk.i64_in _ (by have := HN.out; omega)
      by_cases hlt : j < r + 1
      · have hkI : kk < (r : Int) := by omega
        have HJL := Lib.hid hlt
        clear hkk hj hlt
        go_upto_region 22 with fail
        have W0 : Hid (Blk (wr.alloc (.cells #[.bool false, .bool false, .bool false, .bool false, .bool false, .bool false, .bool false, .bool false, .bool false, .bool false, .bool false, .bool false] 97)) wr.heap.size 97 (bl (bR G kk 0))) := Blk.new wr _ _ rfl
        have B1 := Lib.hid (below_alloc' BK.out (.cells #[.bool false, .bool false, .bool false, .bool false, .bool false, .bool false, .bool false, .bool false, .bool false, .bool false, .bool false, .bool false] 97))
        have gwl := Lib.hid BK.out.size
        generalize wr.alloc (.cells #[.bool false, .bool false, .bool false, .bool false, .bool false, .bool false, .bool false, .bool false, .bool false, .bool false, .bool false, .bool false] 97) = wa at *
        generalize wr.heap.size = gw at *
        clear BK
        go_wp2_with fail
        go_loopw [19] (fun i W => ∃ q : Nat, q ≤ r ∧ i = .int .i64 q ∧ Below v.heap.size v W ∧ Blk W gw 97 (bl (bR G kk q))) (fun i _ => r - (intOf i).toNat)
        case atStart => exact ⟨0, Nat.zero_le _, rfl, B1.out, W0.out⟩
        case round =>
          obtain ⟨q, hq, rfl, hb, hw⟩ := hrel
          have BQ := Lib.hid hb
          have WQ := Lib.hid hw
          clear hb hw W0 B1
          by_cases hqr : q < r
          · obtain ⟨ba, oa, eA, -, ca⟩ := (IL.out.below BQ.out).at_ hqr
            subst eA
            rw [HCG.out q hqr] at ca
            have hy := HGM.out q hqr
            have hn12 := HN.out
            have hpre : 1 ≤ q → wr.cell? ⟨ba, oa + (q - 1), none⟩ = some (.int .i64 ((G.getD (q - 1) 0 : Nat) : Int)) ∧ G.getD (q - 1) 0 < G.getD q 0 := fun h1 => by
              obtain ⟨ba', oa', eA, -, cb⟩ := (IL.out.below BQ.out).at_ (k := q - 1) (by omega)
              simp only [Option.some.injEq, Addr.mk.injEq, and_true] at eA
              obtain ⟨rfl, rfl⟩ := eA
              rw [HCG.out _ (by omega)] at cb
              exact ⟨cb, HGL.out q h1 hqr⟩
            have HPRE := Lib.hid hpre
            clear hpre
            have HYY : Hid (bR G kk (q + 1) = fun p => if p = G.getD q 0 then !(decide ((q : Int) = kk)) else bR G kk q p) := rfl
            generalize hyy : G.getD q 0 = y at *
            clear hyy
            have hqI : (q : Int) < r := by omega
            have hyn : ¬ ((n : Int) ≤ y) := by omega
            have hy0 : ¬ ((y : Int) < 0) := by omega
            have hy12 : (y : Int) < 12 := by omega
            have d1 : ((y : Int) < 0) = False := eq_false (by omega)
            have d2 : (n ≤ y) = False := eq_false (by omega)
            have d3 : ((n : Int) ≤ (y : Int)) = False := eq_false (by omega)
            have d4 : decide ((y : Int) < 0) = false := decide_eq_false (by omega)
            have d5 : decide (n ≤ y) = false := decide_eq_false (by omega)
            have pf := fan5_get (blk_keep BQ.out FB.out)
            go_upto_region 25 with fail
            go_cut [185] from 155 to 185 (fun s W => s = .bool false ∧ Below v.heap.size v W ∧ Blk W gw 97 (bl (bR G kk q)) ∧ W.cell? ⟨ba, oa + q, none⟩ = some (.int .i64 (y : Int)))
            case first =>
              have CA := Lib.hid ca
              rcases Nat.eq_zero_or_pos q with hq0 | hq0
              · have hz1 : ¬ (0 : Int) < (q : Int) := by omega
                have hz2 : (0 < q) = False := eq_false (by omega)
                have hz3 : decide (0 < q) = false := decide_eq_false (by omega)
                have hz4 : ((0 : Int) < (q : Int)) = False := eq_false (by omega)
                have hz5 : decide ((0 : Int) < (q : Int)) = false := decide_eq_false (by omega)
                have HQ0 := Lib.hid hq0
                clear hq0
                go_wp2_with fail
                go_quiet (first | fail)
                go_wp2_with fail
                go_meet
                exact ⟨rfl, below_drewN BQ.out _, WQ.out.drewN _, CA.out⟩
              · have hz1 : (0 : Int) < (q : Int) := by omega
                obtain ⟨cb, hlt2⟩ := HPRE.out hq0
                generalize G.getD (q - 1) 0 = y1 at *
                have hz2 : ¬ ((y : Int) ≤ (y1 : Int)) := by omega
                have hz8 : (y ≤ y1) = False := eq_false (by omega)
                have hz9 : decide (y ≤ y1) = false := decide_eq_false (by omega)
                have hz10 : ((y : Int) ≤ (y1 : Int)) = False := eq_false (by omega)
                have hz3 : IntKind.i64.wrap ((q : Int) - 1) = (q : Int) - 1 := IntWalk.i64_in _ (by omega)
                have hz4 : (0 : Int) ≤ (q : Int) - 1 := by omega
                have hz5 : (q : Int) - 1 < (r : Int) := by omega
                have hz6 : ((q : Int) - 1).toNat = q - 1 := by omega
                have hz7 : (1 : Int) ≤ (q : Int) := by omega
                go_wp2_with fail
                go_quiet (first | fail)
                go_wp2_with fail
                go_meet
                exact ⟨rfl, below_drewN BQ.out _, WQ.out.drewN _, CA.out⟩
            case rest =>
              obtain ⟨rfl, hb, hw, ca⟩ := hcut
              have BQ := Lib.hid hb
              have WQ := Lib.hid hw
              clear hb hw pf HPRE
              have wf := WQ.out.frozen y
              have wc' := WQ.out.cell y
              rw [bl_at _ _ (by omega)] at wc'
              generalize bR G kk q y = b' at wc'
              have S1 : Hid (∀ W, Blk W gw 97 (bl (bR G kk q)) → Blk (W.setCell ⟨gw, y, none⟩ (.bool !(decide ((q : Int) = kk)))) gw 97 (bl (bR G kk (q + 1)))) := fun W h => by
                rw [HYY.out]
                have h2 := h.set_ y (.bool !(decide ((q : Int) = kk)))
                rw [bl_set _ _ _ (by omega)] at h2
                exact h2
              clear HYY
              by_cases hik : (q : Int) = kk
              · have e0 : decide ((q : Int) = kk) = true := decide_eq_true hik
                rw [e0] at S1
                have e1 : ((q : Int) == kk) = true := by simp [hik]
                have e2 : ((q : Int) != kk) = false := by simp [hik]
                have HIK := Lib.hid hik
                clear hik
                go_wp2_with fail
                go_roundw
                case rel => exact ⟨q + 1, by omega, by go_num, BQ.out.setCell (p := ⟨gw, y, none⟩) gwl.out _, S1.out _ WQ.out⟩
                case measure => simp [intOf]; omega
              · have e0 : decide ((q : Int) = kk) = false := decide_eq_false hik
                rw [e0] at S1
                have e1 : ((q : Int) == kk) = false := by simp [hik]
                have e2 : ((q : Int) != kk) = true := by simp [hik]
                have e3 : ((q : Int) = kk) = False := by simp [hik]
                go_wp2_with fail
                go_roundw
                case rel => exact ⟨q + 1, by omega, by go_num, BQ.out.setCell (p := ⟨gw, y, none⟩) gwl.out _, S1.out _ WQ.out⟩
                case measure => simp [intOf]; omega
          · obtain rfl : r = q := by omega
            have p28 := fan5_get (blk_keep BQ.out FB.out)
            go_upto_region 29 with fail
            clear p28 hqr hq
            obtain ⟨vb, hvb⟩ : ∃ z, z = wr := ⟨_, rfl⟩
            have BV : Hid (Below v.heap.size v vb) := by rw [hvb]; exact BQ.out
            have WB : Hid (Blk vb gw 97 (bl (bR G kk r))) := by rw [hvb]; exact WQ.out
            have LK0 : Hid (LK vb (wr.alloc (.cells #[.int .i64 fa, .int .i64 fb, .int .i64 fc, .int .i64 fd, .slice none 0 0] 26)) wr.heap.size #[.int .i64 fa, .int .i64 fb, .int .i64 fc, .int .i64 fd, .slice none 0 0]) := LK.start (by rw [hvb]; exact Below.refl _ _) _
            clear hvb BQ WQ
            generalize wr.alloc (.cells #[.int .i64 fa, .int .i64 fb, .int .i64 fc, .int .i64 fd, .slice none 0 0] 26) = wt at *
            generalize wr.heap.size = t at *
            obtain ⟨L, hL⟩ : ∃ z, castL (butL G kk) = z := ⟨_, rfl⟩
            obtain ⟨SJ, hSJ⟩ : ∃ z, someTo f.gs L = z := ⟨_, rfl⟩
            obtain ⟨bb, hbb⟩ : ∃ z, bR G kk r = z := ⟨_, rfl⟩
            have HS0 : Hid (SJ 0 = []) := by rw [← hSJ]; exact rfl
            have HS1 : Hid (∀ i, SJ (i + 1) = if bb i = true then SJ i else SJ i ++ [f.gs.getD i Gap.zero]) := fun i => by
              rw [← hSJ, ← hbb, HBM.out, ← hL, someTo, mem_castL]
            have HSL : Hid (∀ i, (SJ i).length ≤ i) := fun i => by rw [← hSJ]; exact someTo_len _ _ _
            have HSN : Hid ((f.some L).gs = SJ n) := by unfold Hid; rw [← hSJ]; show someTo f.gs L f.gs.length = _; rw [HLF.out]
            have HRJ : Hid ((j = 0 → degL false (f.some L) ≤ hh) ∧ (1 ≤ j → 1 < r → hh < degL false (f.some L))) := by
              have h := HRD.out j HJL.out
              rw [HKK.out, hL] at h
              exact h
            rw [hbb] at WB
            have COR := Lib.hid (HOR.out L)
            rw [HSN.out] at COR
            clear hSJ hbb hL HSN
            go_wp2_with fail
            go_loopw [21] (fun i W => ∃ (q li : Nat) (A3 : Option Addr) (c3 : Nat), q ≤ n ∧ i = .int .i64 q ∧ li = (SJ q).length ∧ W.ownsRow vb.heap.size 42 4 (.slice A3 li c3) li (flatG (SJ q)) ∧ LK vb W t #[.int .i64 fa, .int .i64 fb, .int .i64 fc, .int .i64 fd, .slice A3 li c3]) (fun i _ => n - (intOf i).toNat)
            case atStart => exact ⟨0, 0, none, 0, Nat.zero_le _, rfl, by rw [HS0.out]; rfl, by rw [HS0.out]; exact World.ownsRow_nil _ _ _ _, LK0.out⟩
            case round =>
              obtain ⟨i, li, A3, c3, hi', rfl, hli, hown, hq⟩ := hrel
              have OJ := Lib.hid hown
              have EJ := Lib.hid hq
              have HLI := Lib.hid hli
              clear hown hq LK0 hli
              by_cases hin : i < n
              · have hiI : (i : Int) < n := by omega
                obtain ⟨bq, off, hA, _, q0, q1, q2, q3⟩ := FG.out.at_ hin
                subst hA
                have hs1 := HS1.out i
                have hSLi := HSL.out i
                generalize hyy : f.gs.getD i Gap.zero = yy at *
                obtain ⟨ll, lh, fl, fh⟩ := yy
                simp only at q0 q1 q2 q3
                have q0 := Lib.hid q0
                have q1 := Lib.hid q1
                have q2 := Lib.hid q2
                have q3 := Lib.hid q3
                have BVW := Lib.hid (below_then BV.out EJ.out.bel)
                have pf := (blk_keep BVW.out FB.out).cell 4
                have pb := (blk_keep EJ.out.bel WB.out).cell i
                rw [bl_at _ _ (by have := HN.out; omega)] at pb
                have hi12 : (i : Int) < 12 := by have := HN.out; omega
                generalize bb i = z at *
                have HI1 := Lib.hid hs1
                have HLB : Hid (li ≤ i) := by unfold Hid; rw [HLI.out]; exact hSLi
                clear hs1 hSLi hyy
                cases z
                case true =>
                  go_wp2_with fail
                  go_roundw
                  case rel => exact ⟨i + 1, li, A3, c3, by omega, by go_num, by rw [HI1.out, if_pos rfl]; exact HLI.out, by rw [HI1.out, if_pos rfl]; exact OJ.out, EJ.out⟩
                  case measure => simp [intOf]; omega
                case false =>
                  generalize hsi : SJ i = Si at *
                  clear hsi
                  go_wp2_with fail
                  have HS16 := Lib.hid (fun (W : World) (hE : LK vb W t #[.int .i64 fa, .int .i64 fb, .int .i64 fc, .int .i64 fd, .slice A3 li c3]) => show S33 t g bq (off + i * 4) (.slice A3 li c3) (.slice (some ⟨bq, off, none⟩) n c) (.int .i64 ll) (.int .i64 lh) (.int .i64 fl) (.int .i64 fh) W from ⟨⟨hE.q.cell 4, (blk_keep (below_then BV.out hE.bel) FB.out).cell 4⟩, ((below_then BV.out hE.bel).cell (lt_of_cell q0.out)).trans q0.out, ((below_then BV.out hE.bel).cell (lt_of_cell q1.out)).trans q1.out, ((below_then BV.out hE.bel).cell (lt_of_cell q2.out)).trans q2.out, ((below_then BV.out hE.bel).cell (lt_of_cell q3.out)).trans q3.out⟩)
                  have E5 := Lib.hid EJ.out.drewd
                  have O5 : Hid (wr.drew.ownsRow vb.heap.size 42 4 (.slice A3 li c3) li (flatG Si)) := OJ.out
                  clear EJ OJ pf pb BVW
                  refine wp_region_untl (S := S33 t g bq (off + i * 4) (.slice A3 li c3) (.slice (some ⟨bq, off, none⟩) n c) (.int .i64 ll) (.int .i64 lh) (.int .i64 fl) (.int .i64 fh)) [10] (by kernel_rfl) (HS16.out _ E5.out) (fun s5 => ?_)
                  generalize wr.drew = v5 at *
                  refine untlTake (i := 0) 210 (v := ?v1) rfl (by kernel_rfl) (by kernel_rfl) (by kernel_rfl) (by kernel_rfl) (by kernel_rfl) (by kernel_rfl) (fun _ _ _ h => h) (Or.inl ⟨by kernel_rfl, ?y1⟩) (by assumption) ?r1
                  case y1 => (intro w hSw; obtain ⟨⟨g0, g1⟩, g2, g3, g4, g5⟩ := hSw; go_simp; try with_reducible rfl)
                  refine untlTake (i := 1) 211 (v := ?v2) rfl (by kernel_rfl) (by kernel_rfl) (by kernel_rfl) (by kernel_rfl) (by kernel_rfl) (by kernel_rfl) (fun _ _ _ h => h) (Or.inl ⟨by kernel_rfl, ?y2⟩) (by assumption) ?r2
                  case y2 => (intro w hSw; obtain ⟨⟨g0, g1⟩, g2, g3, g4, g5⟩ := hSw; go_simp; try with_reducible rfl)
                  refine untlTake (i := 2) 212 (v := ?v3) rfl (by kernel_rfl) (by kernel_rfl) (by kernel_rfl) (by kernel_rfl) (by kernel_rfl) (by kernel_rfl) (fun _ _ _ h => h) (Or.inl ⟨by kernel_rfl, ?y3⟩) (by assumption) ?r3
                  case y3 => (intro w hSw; obtain ⟨⟨g0, g1⟩, g2, g3, g4, g5⟩ := hSw; go_simp; try with_reducible rfl)
                  simp only [Act.put, List.setIfInBounds_toArray, List.set_cons_zero, List.set_cons_succ]
                  refine untlTake (i := 3) 213 (v := ?v4) rfl (by kernel_rfl) (by kernel_rfl) (by kernel_rfl) (by kernel_rfl) (by kernel_rfl) (by kernel_rfl) (fun _ _ _ h => h) (Or.inl ⟨by kernel_rfl, ?y4⟩) (by assumption) ?r4
                  case y4 => (intro w hSw; obtain ⟨⟨g0, g1⟩, g2, g3, g4, g5⟩ := hSw; go_simp; try with_reducible rfl)
                  refine untlTake (i := 4) 214 (v := ?v5) rfl (by kernel_rfl) (by kernel_rfl) (by kernel_rfl) (by kernel_rfl) (by kernel_rfl) (by kernel_rfl) (fun _ _ _ h => h) (Or.inl ⟨by kernel_rfl, ?y5⟩) (by assumption) ?r5
                  case y5 => (intro w hSw; obtain ⟨⟨g0, g1⟩, g2, g3, g4, g5⟩ := hSw; go_simp; try with_reducible rfl)
                  refine untlTake (i := 5) 215 (v := ?v6) rfl (by kernel_rfl) (by kernel_rfl) (by kernel_rfl) (by kernel_rfl) (by kernel_rfl) (by kernel_rfl) (fun _ _ _ h => h) (Or.inl ⟨by kernel_rfl, ?y6⟩) (by assumption) ?r6
                  case y6 => (intro w hSw; obtain ⟨⟨g0, g1⟩, g2, g3, g4, g5⟩ := hSw; go_simp; try with_reducible rfl)
                  simp only [Act.put, List.setIfInBounds_toArray, List.set_cons_zero, List.set_cons_succ]
                  refine untlTake (i := 6) 216 (v := ?v7) rfl (by kernel_rfl) (by kernel_rfl) (by kernel_rfl) (by kernel_rfl) (by kernel_rfl) (by kernel_rfl) (fun _ _ _ h => h) (Or.inl ⟨by kernel_rfl, ?y7⟩) (by assumption) ?r7
                  case y7 => (intro w hSw; obtain ⟨⟨g0, g1⟩, g2, g3, g4, g5⟩ := hSw; go_simp; try with_reducible rfl)
                  simp only [Act.put, List.setIfInBounds_toArray, List.set_cons_zero, List.set_cons_succ]
                  refine untlStep (i := 7) (by kernel_rfl) rfl (fun K6 hK6 => ?_)
                  go_simp
                  have E6 := Lib.hid (E5.out.alloc (.cells #[.int .i64 ll, .int .i64 lh, .int .i64 fl, .int .i64 fh] 42))
                  have s6 := HS16.out _ E6.out
                  clear s5
                  refine hK6.out _ _ (.inr s6) ?_
                  refine untlStep (i := 8) (by kernel_rfl) rfl (fun K7 hK7 => ?_)
                  refine step_append_any rfl (.tmp 211) (.tmp 217) 24 rfl vb.heap.size 42 i0 _ 4 32 Try.underlying24 hi hz0 hz1 hz2 rfl (by decide) (.slice A3 li c3) li (flatG Si) (by rfl) (ownsRow_below O5.out (below_self _ _)) (some ⟨v5.heap.size, 0, none⟩) 1 1 (by rfl) (Gap.cells ⟨ll, lh, fl, fh⟩) (rep_new v5 ⟨ll, lh, fl, fh⟩ _) (cells_one _) (by have := HN.out; have := HLB.out; unfold maxLen; omega) (by have := HN.out; have := HLB.out; omega) E6.out.bel.size ?_
                  intro u7 v7 hown hgrow
                  rw [flatG_snoc] at hown
                  obtain ⟨A4, c4, rfl⟩ := own_slice hown
                  have E7 := Lib.hid (E6.out.grown (ownsRow_below O5.out (below_self _ _)) (by decide) (Nat.le_refl _) hgrow)
                  have O7 := Lib.hid hown
                  clear hown hgrow E6 s6 E5 O5
                  have s7 := HS16.out _ E7.out
                  refine hK7.out _ _ (.inr s7) ?_
                  refine untlTake (i := 9) 219 (v := ?v8) rfl (by kernel_rfl) (by kernel_rfl) (by kernel_rfl) (by kernel_rfl) (by kernel_rfl) (by kernel_rfl) (fun _ _ _ h => h) (Or.inl ⟨by kernel_rfl, ?y8⟩) (by assumption) ?r8
                  case y8 => (intro w hSw; obtain ⟨⟨g0, g1⟩, g2, g3, g4, g5⟩ := hSw; go_simp; try with_reducible rfl)
                  refine untlStep (i := 10) (by kernel_rfl) rfl (fun K9 hK9 => ?_)
                  rw [if_pos (by rfl)]
                  have f7 := E7.out.q.frozen 4
                  have y7 := E7.out.q.cell 4
                  go_simp
                  refine hK9.out _ _ (.inl (by decide)) ?_
                  refine untlDone (by kernel_rfl) ?_ _
                  have O9 := Lib.hid (own_setCell (i := 4) O7.out E7.out.q (by decide) (.slice A4 (li + 1) c4))
                  have E9 := Lib.hid (E7.out.setQ 4 (.slice A4 (li + 1) c4))
                  clear s7 f7 y7 E7 O7 HS16 K6 K7 K9 hK6 hK7 hK9
                  go_wp2_with fail
                  go_roundw
                  case rel => exact ⟨i + 1, li + 1, A4, c4, by omega, by go_num, by rw [HI1.out, if_neg (by simp), List.length_append, List.length_singleton, HLI.out], by rw [HI1.out, if_neg (by simp)]; exact O9.out, E9.out⟩
                  case measure => simp [intOf]; omega
              · obtain rfl : n = i := by omega
                have hGk : Gaps wr A3 li (SJ n) := own_gaps2 OJ.out
                have p34 := fan5_get EJ.out.q
                have CO := Lib.hid (COR.out A3 c3 wr (by rw [← HLI.out]; exact hGk))
                rw [← HLI.out] at CO
                have pf := (blk_keep (below_then BV.out EJ.out.bel) FB.out).cell 4
                clear hGk OJ
                go_wp2_with fail
                refine CO.out.mono ?_
                rintro e w17 ⟨rfl, b17⟩
                clear p34 CO pf
                generalize degL false (f.some L) = R1 at *
                generalize degL true (f.some L) = R2 at *
                have B17 := Lib.hid (below_alloc' (below_then (below_then BV.out EJ.out.bel) b17) (.cells #[.int .i64 R1, .int .i64 R2] 23))
                have s17 := spn_get (Blk.new w17 23 #[.int .i64 R1, .int .i64 R2] rfl)
                have q17 := spn_get (blk_keep B17.out FQ.out)
                clear b17 EJ
                go_upto_region 35 with fail
                generalize w17.alloc (.cells #[.int .i64 R1, .int .i64 R2] 23) = w18 at *
                generalize w17.heap.size = gt at *
                go_cut [253] from 225 to 253 (fun s W => s = .bool false ∧ w18 = W)
                case first =>
                  have hrj := HRJ.out
                  have hkj := HKK.out
                  rcases Nat.eq_zero_or_pos j with hj0 | hj0
                  · have x1 : kk < 0 := by omega
                    have x2 : ¬ hh < R1 := by have := hrj.1 hj0; omega
                    have x3 : ¬ 0 ≤ kk := by omega
                    clear hrj hkj hj0
                    go_wp2_with fail
                    go_meet
                    exact ⟨rfl, rfl⟩
                  · have x1 : ¬ kk < 0 := by omega
                    have x3 : 0 ≤ kk := by omega
                    by_cases hr1' : 1 < r
                    · have x2 : ¬ R1 ≤ hh := by have := hrj.2 hj0 hr1'; omega
                      have x4 : (1 : Int) < r := by omega
                      clear hrj hkj hj0
                      go_wp2_with fail
                      go_meet
                      exact ⟨rfl, rfl⟩
                    · have x4 : ¬ (1 : Int) < r := by omega
                      clear hrj hkj hj0
                      go_wp2_with fail
                      go_meet
                      exact ⟨rfl, rfl⟩
                case rest =>
                  obtain ⟨rfl, rfl⟩ := hcut
                  clear s17 q17 HRJ
                  have hj1 := HJL.out
                  go_wp2_with fail
                  go_roundw
                  case rel => exact ⟨j + 1, by omega, by rw [← HKK.out]; congr 1; omega, B17.out⟩
                  case measure => have := HKK.out; simp [intOf]; omega
      · obtain rfl : j = r + 1 := by omega
        have hkI : ¬ kk < (r : Int) := by omega
        clear hkk hj hlt HJ
        go_upto_region 37 with fail
        rename_i zz0 zz1 zz2 zz3 zz4
        revert i0 hi hz0 hz1 hz2 HK n f HSP D tn td c0 q0 c1 lo c2 zy0 a b hh HHH HER HLF HFB HN HBY HMX s1 s2 fa fb fc fd HA zy1 w1 A c v0 g w2 A2 c2' w3 zy2 u9 u38 u39 u40 u41 u42 u43 u44 u45 u46 u47 u48 u49 u50 u51 u52 u53 u54 u55 u56 u57 u58 u59 w8 w9 gq zy3 wc u76 u77 u78 u79 u80 u81 u82 AL cL zy4 zy5 zy6 zy7 w12 A12 c12 w13 v gs FB FG FQ FW G hnp r zy8 IL HG hr1 hrn HR u91 u92 u93 u94 u95 u96 u97 u98 u99 u100 u101 zy9 HRD HGM HGL HCG HOR HBM wr u6 u18 u19 u20 u21 u22 u23 u142 u143 u144 u145 u146 u147 u148 u149 u150 u151 u152 u153 u154 u155 u156 u157 u158 u159 u160 u161 u162 u163 u164 u165 u166 u167 u168 u169 u170 u171 u172 u173 u174 u175 u176 u177 u178 u179 u180 u181 u182 u183 u184 u185 u186 u187 u188 u189 u190 u191 u192 u193 u194 u195 u196 u197 u198 u199 u200 u201 u202 u203 u204 u205 u206 u207 u208 u209 u210 u211 u212 u213 u214 u215 u216 u217 u218 u219 u220 u221 u222 u223 u224 u225 u226 u227 u228 u229 u230 u231 u232 u233 u234 u235 u236 u237 u238 u239 u240 u241 u242 u243 u244 u245 u246 u247 u248 u249 u250 u251 u252 u253 BK kk wk HKK hkI zz0 zz1 zz2 zz3 zz4
        exact kG.out
end Go.Proofs.Ytdekickmplkdiaa
