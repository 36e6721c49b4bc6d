/- Walks: the blade of a tusk: its cracks. -/
import Derived.Test.YtiflhimmieflpaaW86
namespace Go.Proofs.Ytiflhimmieflpaa
open Go.RowKit Go.Maps

set_option maxRecDepth 100000 in
set_option maxHeartbeats 8000000 in
theorem blade_two (T : Tk) (w : World) (h0 : Hid (T.At w)) : Lk (blade_cut T w h0).1 := by
  refine ⟨?_⟩
  intro i0 hi hz0 hz1 hz2 HLI HHI HCB HAT hn1 HL W0 W1 g1 c1 g2 c2 CB K0 a0 W3 gT gB CS wr u11 u12 u13 u28 u29 u30 u31 u32 u33 u34 u35 u36 u37 u38 u39 u40 u41 u42 u43 u44 u45 u46 u47 u48 u49 u50 u51 u52 u53 u54 u55 u56 u57 u58 u59 u60 u61 u62 u63 u64 u65 u66 u67 u68 u69 u70 u71 u72 u73 u74 u75 u76 u77 u78 u79 u80 u81 u82 u83 u84 u85 u86 u87 u88 u89 u90 u91 u92 u93 u94 u95 u96 u97 u98 u99 u100 u101 u102 u103 u104 u105 u106 u107 u108 u109 u110 u111 u112 u113 u114 u115 u116 u117 u118 u119 u120 u121 u122 u123 u124 u125 u126 u127 u128 u129 u130 u131 u132 u133 u1 u2 HT
  have HJ0 : Hid (BJ w T 0 gB gT g1 c1 g2 c2 u1 u2 (.slice none 0 0) (.slice none 0 0) wr) := ⟨HT.out.x, HT.out.p1, HT.out.p2, HT.out.sep, World.ownsRow_nil _ _ _ _, World.ownsRow_nil _ _ _ _⟩
  clear HT
  go_upto_region 11 with (fail)
  go_wp2_with fail
  go_loopw [14] (fun iv wr => ∃ (j : Nat) (v1 v2 : Value), j ≤ T.m ∧ j ≤ 3 ∧ iv = .int .i64 j ∧ BJ w T j gB gT g1 c1 g2 c2 u1 u2 v1 v2 wr) (fun iv _ => 3 - (intOf iv).toNat)
  case atStart => exact ⟨0, _, _, by omega, by omega, rfl, HJ0.out⟩
  case round =>
    obtain ⟨j, v1, v2, hjm, hj3, rfl, hbj⟩ := hrel
    have HT := Lib.hid hbj
    clear hbj HJ0
    have b1 := HT.out.x.box.cell
    go_upto_region 12 with (fail)
    go_cut [142] from 134 to 164 (fun s W => s = .bool (decide (j < T.m ∧ j < 3)) ∧ W = wr)
    case first =>
      by_cases hm : j < T.m
      · have hm' : (j : Int) < (T.m : Int) := by omega
        by_cases h3 : j < 3
        · have h3' : (j : Int) < 3 := by omega
          have HE : Hid (decide (j < T.m ∧ j < 3) = true) := by unfold Hid; rw [decide_eq_true_eq]; omega
          clear hm h3
          go_wp2_with fail
          go_meet
          exact ⟨by rw [HE.out], rfl⟩
        · have h3' : ¬ (j : Int) < 3 := by omega
          have HE : Hid (decide (j < T.m ∧ j < 3) = false) := by unfold Hid; rw [decide_eq_false_iff_not]; omega
          clear hm h3
          go_wp2_with fail
          go_meet
          exact ⟨by rw [HE.out], rfl⟩
      · have hm' : ¬ (j : Int) < (T.m : Int) := by omega
        have HE : Hid (decide (j < T.m ∧ j < 3) = false) := by unfold Hid; rw [decide_eq_false_iff_not]; omega
        clear hm
        go_wp2_with fail
        go_meet
        exact ⟨by rw [HE.out], rfl⟩
    case rest =>
      obtain ⟨rfl, rfl⟩ := hcut
      by_cases hlt2 : j < T.m ∧ j < 3
      · have hd : decide (j < T.m ∧ j < 3) = true := by rw [decide_eq_true_eq]; exact hlt2
        rw [hd]
        clear b1
        have HCK := Lib.hid (fun W hb => crack_any T j T.len W (HAT.out.below hb) hlt2.1 (by have := HL.out; omega) (by have := HL.out; omega))
        unfold Tk.val at HCK
        have b1 := HT.out.x.box.cell
        go_upto_region 14 with (fail)
        go_wp2_with fail
        refine (HCK.out _ HT.out.x.bel).mono ?_
        rintro e W1 ⟨rfl, b2⟩
        have HT1 := Lib.hid (HT.out.below b2)
        clear b1 b2 HCK HT
        have X0 : Hid (Blk ((W1.alloc (.cells #[.int .i64 0, .int .i64 0, .int .i64 0, .int .i64 0, .int .i64 0, .int .i64 0] 111)).alloc (.cells #[.int .i64 0, .int .i64 0, .int .i64 0] 150)) W1.heap.size 111 #[.int .i64 0, .int .i64 0, .int .i64 0, .int .i64 0, .int .i64 0, .int .i64 0]) := (Blk.new _ _ _ rfl).alloc _
        have X1 : Hid (Blk ((W1.alloc (.cells #[.int .i64 0, .int .i64 0, .int .i64 0, .int .i64 0, .int .i64 0, .int .i64 0] 111)).alloc (.cells #[.int .i64 0, .int .i64 0, .int .i64 0] 150)) (W1.heap.size + 1) 150 #[.int .i64 0, .int .i64 0, .int .i64 0]) := Blk.new _ _ _ (by simp)
        have X1' := Lib.hid (X1.out.setRow_far (g' := W1.heap.size) (by omega) #[.int .i64 (T.crackL j T.len).cl, .int .i64 (T.crackL j T.len).ch, .int .i64 (T.crackL j T.len).fl, .int .i64 (T.crackL j T.len).fh, .int .i64 (T.crackL j T.len).tl, .int .i64 (T.crackL j T.len).th])
        have HT2 : Hid (BJ w T j gB gT g1 c1 g2 c2 u1 u2 v1 v2 ((((W1.alloc (.cells #[.int .i64 0, .int .i64 0, .int .i64 0, .int .i64 0, .int .i64 0, .int .i64 0] 111)).alloc (.cells #[.int .i64 0, .int .i64 0, .int .i64 0] 150)).setRow W1.heap.size #[.int .i64 (T.crackL j T.len).cl, .int .i64 (T.crackL j T.len).ch, .int .i64 (T.crackL j T.len).fl, .int .i64 (T.crackL j T.len).fh, .int .i64 (T.crackL j T.len).tl, .int .i64 (T.crackL j T.len).th]).setRow (W1.heap.size + 1) #[.int .i64 (T.realL j T.len).1, .int .i64 (T.realL j T.len).2.1, .int .i64 (T.realL j T.len).2.2])) :=
          HT1.out.below (below_setR (below_setR (below_alloc' (below_self _ _) _) (Nat.le_refl _) _) (by omega) _)
        have Y0 : Hid (Blk ((((W1.alloc (.cells #[.int .i64 0, .int .i64 0, .int .i64 0, .int .i64 0, .int .i64 0, .int .i64 0] 111)).alloc (.cells #[.int .i64 0, .int .i64 0, .int .i64 0] 150)).setRow W1.heap.size #[.int .i64 (T.crackL j T.len).cl, .int .i64 (T.crackL j T.len).ch, .int .i64 (T.crackL j T.len).fl, .int .i64 (T.crackL j T.len).fh, .int .i64 (T.crackL j T.len).tl, .int .i64 (T.crackL j T.len).th]).setRow (W1.heap.size + 1) #[.int .i64 (T.realL j T.len).1, .int .i64 (T.realL j T.len).2.1, .int .i64 (T.realL j T.len).2.2]) W1.heap.size 111 #[.int .i64 (T.crackL j T.len).cl, .int .i64 (T.crackL j T.len).ch, .int .i64 (T.crackL j T.len).fl, .int .i64 (T.crackL j T.len).fh, .int .i64 (T.crackL j T.len).tl, .int .i64 (T.crackL j T.len).th]) := (X0.out.setRow _).setRow_far (by omega) _
        have Y1 : Hid (Blk ((((W1.alloc (.cells #[.int .i64 0, .int .i64 0, .int .i64 0, .int .i64 0, .int .i64 0, .int .i64 0] 111)).alloc (.cells #[.int .i64 0, .int .i64 0, .int .i64 0] 150)).setRow W1.heap.size #[.int .i64 (T.crackL j T.len).cl, .int .i64 (T.crackL j T.len).ch, .int .i64 (T.crackL j T.len).fl, .int .i64 (T.crackL j T.len).fh, .int .i64 (T.crackL j T.len).tl, .int .i64 (T.crackL j T.len).th]).setRow (W1.heap.size + 1) #[.int .i64 (T.realL j T.len).1, .int .i64 (T.realL j T.len).2.1, .int .i64 (T.realL j T.len).2.2]) (W1.heap.size + 1) 150 #[.int .i64 (T.realL j T.len).1, .int .i64 (T.realL j T.len).2.1, .int .i64 (T.realL j T.len).2.2]) := X1'.out.setRow _
        have HGT : Hid (gT < W1.heap.size) := HT1.out.x.tr.lt
        have HV : Hid (v1.ownBlock ≠ some W1.heap.size ∧ v2.ownBlock ≠ some (W1.heap.size + 1)) := ⟨own_not HT1.out.q1 (Nat.le_refl _), own_not HT1.out.q2 (by omega)⟩
        have HJ := Lib.hid hlt2
        go_wp2_with (first
          | refine wpList_store_row rfl 111 _ _ rfl W1.heap.size _ rfl rfl 111 _ X0.out (by kernel_rfl) rfl (by kernel_rfl) ?_
          | refine wpList_store_row rfl 150 _ _ rfl (W1.heap.size + 1) _ rfl rfl 150 _ X1'.out (by kernel_rfl) rfl (by kernel_rfl) ?_)
        clear X0 X1 X1' HT1
        generalize (((W1.alloc (.cells #[.int .i64 0, .int .i64 0, .int .i64 0, .int .i64 0, .int .i64 0, .int .i64 0] 111)).alloc (.cells #[.int .i64 0, .int .i64 0, .int .i64 0] 150)).setRow W1.heap.size #[.int .i64 (T.crackL j T.len).cl, .int .i64 (T.crackL j T.len).ch, .int .i64 (T.crackL j T.len).fl, .int .i64 (T.crackL j T.len).fh, .int .i64 (T.crackL j T.len).tl, .int .i64 (T.crackL j T.len).th]).setRow (W1.heap.size + 1) #[.int .i64 (T.realL j T.len).1, .int .i64 (T.realL j T.len).2.1, .int .i64 (T.realL j T.len).2.2] = W2 at *
        generalize W1.heap.size + 1 = ge at *
        generalize W1.heap.size = gc at *
        go_upto_region 15 with (fail)
        have hsn1 := Lib.hid (flat6_range (fun i => T.crackL i T.len) j)
        have hsn2 := Lib.hid (flat3_range (fun i => T.realL i T.len) j)
        generalize (T.crackL j T.len).cl = x0 at *
        generalize (T.crackL j T.len).ch = x1 at *
        generalize (T.crackL j T.len).fl = x2 at *
        generalize (T.crackL j T.len).fh = x3 at *
        generalize (T.crackL j T.len).tl = x4 at *
        generalize (T.crackL j T.len).th = x5 at *
        generalize (T.realL j T.len).1 = y0 at *
        generalize (T.realL j T.len).2.1 = y1 at *
        generalize (T.realL j T.len).2.2 = y2 at *
        obtain ⟨j0, hj, hy0, hy1, hy2⟩ := info_parts Try.infoCrack
        obtain ⟨k0, hkk, hx0, hx1, hx2⟩ := info_parts Try.infoThree
        have HSX : Hid (∀ W, BY w T gB gT g1 c1 g2 c2 u1 u2 v1 v2 W → Blk W gc 111 #[.int .i64 x0, .int .i64 x1, .int .i64 x2, .int .i64 x3, .int .i64 x4, .int .i64 x5] → Blk W ge 150 #[.int .i64 y0, .int .i64 y1, .int .i64 y2] → S15 gB gT gc ge v1 v2 x0 x1 x2 x3 x4 x5 y0 y1 y2 W) :=
          fun W hW hc he => ⟨hW.bl.cell 3, hW.tr.cell 2, hc.cell 0, hc.cell 1, hc.cell 2, hc.cell 3, hc.cell 4, hc.cell 5, he.cell 0, he.cell 1, he.cell 2⟩
        have bd : Below W2.heap.size W2 W2.drew := (Below.refl _ _).drew
        have X_0 := Lib.hid (HT2.out.x.below bd)
        have P1_0 := Lib.hid (ownsRow_below HT2.out.p1 bd)
        have P2_0 := Lib.hid (ownsRow_below HT2.out.p2 bd)
        have Q1_0 := Lib.hid (ownsRow_below HT2.out.q1 bd)
        have Q2_0 := Lib.hid (ownsRow_below HT2.out.q2 bd)
        have SEP := Lib.hid HT2.out.sep
        have C_0 := Lib.hid (blk_keep bd Y0.out)
        have E_0 := Lib.hid (blk_keep bd Y1.out)
        have S0 := HSX.out _ X_0.out C_0.out E_0.out
        clear bd HT2 Y0 Y1 hlt2
        refine wp_region_untl (S := S15 gB gT gc ge v1 v2 x0 x1 x2 x3 x4 x5 y0 y1 y2) [11, 12, 13] (by kernel_rfl) S0 (fun _ => ?_)
        generalize W2.drew = W3 at *
        refine untlTake (i := 0) 153 (v := ?v3034) rfl (by kernel_rfl) (by kernel_rfl) (by kernel_rfl) (by kernel_rfl) (by kernel_rfl) (by kernel_rfl) (fun _ _ _ h => h) (Or.inl ⟨by rfl, ?y3034⟩) (by assumption) ?r3034
        case y3034 => (intro w hSw; obtain ⟨g0, g1, g2, g3, g4, g5, g6, g7, g8, g9, g10⟩ := hSw; go_simp; try with_reducible rfl)
        refine untlTake (i := 1) 154 (v := ?v3035) rfl (by kernel_rfl) (by kernel_rfl) (by kernel_rfl) (by kernel_rfl) (by kernel_rfl) (by kernel_rfl) (fun _ _ _ h => h) (Or.inl ⟨by rfl, ?y3035⟩) (by assumption) ?r3035
        case y3035 => (intro w hSw; obtain ⟨g0, g1, g2, g3, g4, g5, g6, g7, g8, g9, g10⟩ := hSw; go_simp; try with_reducible rfl)
        refine untlTake (i := 2) 155 (v := ?v3036) rfl (by kernel_rfl) (by kernel_rfl) (by kernel_rfl) (by kernel_rfl) (by kernel_rfl) (by kernel_rfl) (fun _ _ _ h => h) (Or.inl ⟨by rfl, ?y3036⟩) (by assumption) ?r3036
        case y3036 => (intro w hSw; obtain ⟨g0, g1, g2, g3, g4, g5, g6, g7, g8, g9, g10⟩ := hSw; go_simp; try with_reducible rfl)
        refine untlTake (i := 5) 158 (v := ?v3037) rfl (by kernel_rfl) (by kernel_rfl) (by kernel_rfl) (by kernel_rfl) (by kernel_rfl) (by kernel_rfl) (fun _ _ _ h => h) (Or.inl ⟨by rfl, ?y3037⟩) (by assumption) ?r3037
        case y3037 => (intro w hSw; obtain ⟨g0, g1, g2, g3, g4, g5, g6, g7, g8, g9, g10⟩ := hSw; go_simp; try with_reducible rfl)
        refine untlTake (i := 6) 159 (v := ?v3038) rfl (by kernel_rfl) (by kernel_rfl) (by kernel_rfl) (by kernel_rfl) (by kernel_rfl) (by kernel_rfl) (fun _ _ _ h => h) (Or.inl ⟨by rfl, ?y3038⟩) (by assumption) ?r3038
        case y3038 => (intro w hSw; obtain ⟨g0, g1, g2, g3, g4, g5, g6, g7, g8, g9, g10⟩ := hSw; go_simp; try with_reducible rfl)
        refine untlTake (i := 7) 160 (v := ?v3039) rfl (by kernel_rfl) (by kernel_rfl) (by kernel_rfl) (by kernel_rfl) (by kernel_rfl) (by kernel_rfl) (fun _ _ _ h => h) (Or.inl ⟨by rfl, ?y3039⟩) (by assumption) ?r3039
        case y3039 => (intro w hSw; obtain ⟨g0, g1, g2, g3, g4, g5, g6, g7, g8, g9, g10⟩ := hSw; go_simp; try with_reducible rfl)
        simp only [Act.put, List.setIfInBounds_toArray, List.set_cons_zero, List.set_cons_succ]
        refine untlReady (rs := [3, 8]) (by kernel_rfl) (by simp) ?_
        refine UReady.cons rfl (fun K5001 hK5001 => ?_) ?_
        · go_simp
          have b_5002 : Below W3.heap.size W3 (W3.alloc (.cells #[.int .i64 x0, .int .i64 x1, .int .i64 x2, .int .i64 x3, .int .i64 x4, .int .i64 x5] 111)) := below_self _ _
          have X_5002 := Lib.hid (X_0.out.below b_5002)
          have P1_5002 := Lib.hid (ownsRow_below P1_0.out b_5002)
          have P2_5002 := Lib.hid (ownsRow_below P2_0.out b_5002)
          have Q1_5002 := Lib.hid (ownsRow_below Q1_0.out b_5002)
          have Q2_5002 := Lib.hid (ownsRow_below Q2_0.out b_5002)
          have C_5002 := Lib.hid (blk_keep b_5002 C_0.out)
          have E_5002 := Lib.hid (blk_keep b_5002 E_0.out)
          have N3_5002 := Lib.hid (Blk.new W3 111 #[.int .i64 x0, .int .i64 x1, .int .i64 x2, .int .i64 x3, .int .i64 x4, .int .i64 x5] (g := W3.heap.size) rfl)
          refine hK5001.out _ _ (.inr (HSX.out _ X_5002.out C_5002.out E_5002.out)) ?_
          generalize hV_5002 : W3.alloc (.cells #[.int .i64 x0, .int .i64 x1, .int .i64 x2, .int .i64 x3, .int .i64 x4, .int .i64 x5] 111) = V_5002 at *
          have a_5002 : W3.heap.size < V_5002.heap.size := by rw [← hV_5002]; simp
          clear hV_5002 b_5002
          generalize W3.heap.size = aN3_5002 at *
          refine untlReady (rs := [4, 8]) (by kernel_rfl) (by simp) ?_
          refine UReady.cons rfl (fun K5003 hK5003 => ?_) ?_
          · refine step_append_lies _ rfl (.tmp 154) (.tmp 156) 23 rfl (w.heap.size + 1 + 1 + 1 + 1) 111 j0 _ 6 48 Try.underlying23 hj hy0 hy1 hy2 rfl (by decide) v1 j _ (by rfl) Q1_5002.out ⟨aN3_5002, 0, none⟩ 1 1 [.int .i64 x0, .int .i64 x1, .int .i64 x2, .int .i64 x3, .int .i64 x4, .int .i64 x5] (by rfl) rfl (World.news_of_block N3_5002.out) ?ca5004 (by decide) ?cb5004 ?cc5004 ?cd5004 V_5002.heap.size rfl ?_
            case ca5004 => intro u hu; simp only [List.mem_cons, List.not_mem_nil, or_false] at hu; rcases hu with rfl | rfl | rfl | rfl | rfl | rfl <;> rfl
            case cb5004 => have := HJ.out; unfold maxLen; omega
            case cc5004 => have := HJ.out; omega
            case cd5004 => have := X_5002.out.r3.lt; omega
            intro ga_5004 ca_5004 V_5004 hown hgrow hor hlt
            have X_5004 := Lib.hid (X_5002.out.grownE Q1_5002.out hgrow (by decide) (by decide) (by decide) (by decide) (by decide))
            have P1_5004 := Lib.hid (P1_5002.out.kept hgrow (own_apart P1_5002.out Q1_5002.out (by decide)))
            have P2_5004 := Lib.hid (P2_5002.out.kept hgrow (own_apart P2_5002.out Q1_5002.out (by decide)))
            have Q2_5004 := Lib.hid (Q2_5002.out.kept hgrow (own_apart Q2_5002.out Q1_5002.out (by decide)))
            have Q1_5004 := Lib.hid hown
            have C_5004 := Lib.hid (C_5002.out.grown hgrow HV.out.1)
            have E_5004 := Lib.hid (E_5002.out.grown hgrow (own_blk_ne Q1_5002.out E_5002.out (by decide)))
            clear hown hgrow hor hlt
            have s_5004 := HSX.out _ X_5004.out C_5004.out E_5004.out
            refine hK5003.out _ _ (.inr s_5004) ?_
            refine untlTake (i := 10) 163 (v := ?v3040) rfl (by kernel_rfl) (by kernel_rfl) (by kernel_rfl) (by kernel_rfl) (by kernel_rfl) (by kernel_rfl) (fun _ _ _ h => h) (Or.inl ⟨by rfl, ?y3040⟩) (by assumption) ?r3040
            case y3040 => (intro w hSw; obtain ⟨g0, g1, g2, g3, g4, g5, g6, g7, g8, g9, g10⟩ := hSw; go_simp; try with_reducible rfl)
            simp only [Act.put, List.setIfInBounds_toArray]
            refine untlReady (rs := [8]) (by kernel_rfl) (by simp) ?_
            refine UReady.cons rfl (fun K5005 hK5005 => ?_) UReady.nil
            go_simp
            have b_5006 : Below V_5004.heap.size V_5004 (V_5004.alloc (.cells #[.int .i64 y0, .int .i64 y1, .int .i64 y2] 150)) := below_self _ _
            have X_5006 := Lib.hid (X_5004.out.below b_5006)
            have P1_5006 := Lib.hid (ownsRow_below P1_5004.out b_5006)
            have P2_5006 := Lib.hid (ownsRow_below P2_5004.out b_5006)
            have Q1_5006 := Lib.hid (ownsRow_below Q1_5004.out b_5006)
            have Q2_5006 := Lib.hid (ownsRow_below Q2_5004.out b_5006)
            have C_5006 := Lib.hid (blk_keep b_5006 C_5004.out)
            have E_5006 := Lib.hid (blk_keep b_5006 E_5004.out)
            have N8_5006 := Lib.hid (Blk.new V_5004 150 #[.int .i64 y0, .int .i64 y1, .int .i64 y2] (g := V_5004.heap.size) rfl)
            refine hK5005.out _ _ (.inr (HSX.out _ X_5006.out C_5006.out E_5006.out)) ?_
            generalize hV_5006 : V_5004.alloc (.cells #[.int .i64 y0, .int .i64 y1, .int .i64 y2] 150) = V_5006 at *
            have a_5006 : V_5004.heap.size < V_5006.heap.size := by rw [← hV_5006]; simp
            clear hV_5006 b_5006
            generalize V_5004.heap.size = aN8_5006 at *
            refine untlReady (rs := [9]) (by kernel_rfl) (by simp) ?_
            refine UReady.cons rfl (fun K5007 hK5007 => ?_) UReady.nil
            refine step_append_lies _ rfl (.tmp 159) (.tmp 161) 84 rfl (w.heap.size + 1 + 1 + 1 + 1) 150 k0 _ 3 24 Try.underlying84 hkk hx0 hx1 hx2 rfl (by decide) v2 j _ (by rfl) Q2_5006.out ⟨aN8_5006, 0, none⟩ 1 1 [.int .i64 y0, .int .i64 y1, .int .i64 y2] (by rfl) rfl (World.news_of_block N8_5006.out) ?ca5008 (by decide) ?cb5008 ?cc5008 ?cd5008 V_5006.heap.size rfl ?_
            case ca5008 => intro u hu; simp only [List.mem_cons, List.not_mem_nil, or_false] at hu; rcases hu with rfl | rfl | rfl <;> rfl
            case cb5008 => have := HJ.out; unfold maxLen; omega
            case cc5008 => have := HJ.out; omega
            case cd5008 => have := X_5006.out.r3.lt; omega
            intro ga_5008 ca_5008 V_5008 hown hgrow hor hlt
            have X_5008 := Lib.hid (X_5006.out.grownE Q2_5006.out hgrow (by decide) (by decide) (by decide) (by decide) (by decide))
            have P1_5008 := Lib.hid (P1_5006.out.kept hgrow (own_apart P1_5006.out Q2_5006.out (by decide)))
            have P2_5008 := Lib.hid (P2_5006.out.kept hgrow (own_apart P2_5006.out Q2_5006.out (by decide)))
            have Q1_5008 := Lib.hid (Q1_5006.out.kept hgrow (own_apart Q1_5006.out Q2_5006.out (by decide)))
            have Q2_5008 := Lib.hid hown
            have C_5008 := Lib.hid (C_5006.out.grown hgrow (own_blk_ne Q2_5006.out C_5006.out (by decide)))
            have E_5008 := Lib.hid (E_5006.out.grown hgrow HV.out.2)
            clear hown hgrow hor hlt
            have s_5008 := HSX.out _ X_5008.out C_5008.out E_5008.out
            refine hK5007.out _ _ (.inr s_5008) ?_
            have cE := X_5008.out.bl.cell
            have fE := X_5008.out.bl.frozen 3
            refine untlStep (i := 11) (by kernel_rfl) rfl (fun KE hKE => ?_)
            go_simp
            have XE := Lib.hid (X_5008.out.setC (.slice (some ⟨ga_5004, 0, none⟩) (j + 1) ca_5004))
            have P1E := Lib.hid (own_setCell P1_5008.out X_5008.out.bl (by decide) 3 (.slice (some ⟨ga_5004, 0, none⟩) (j + 1) ca_5004))
            have P2E := Lib.hid (own_setCell P2_5008.out X_5008.out.bl (by decide) 3 (.slice (some ⟨ga_5004, 0, none⟩) (j + 1) ca_5004))
            have Q1E := Lib.hid (own_setCell Q1_5008.out X_5008.out.bl (by decide) 3 (.slice (some ⟨ga_5004, 0, none⟩) (j + 1) ca_5004))
            have Q2E := Lib.hid (own_setCell Q2_5008.out X_5008.out.bl (by decide) 3 (.slice (some ⟨ga_5004, 0, none⟩) (j + 1) ca_5004))
            clear cE fE X_5008 P1_5008 P2_5008 Q1_5008 Q2_5008
            refine hKE.out _ _ (.inl (by decide)) ?_
            refine untlStep (i := 12) (by kernel_rfl) rfl (fun KF hKF => ?_)
            go_simp
            refine hKF.out _ _ (.inl (by decide)) ?_
            have cF := XE.out.tr.cell
            have fF := XE.out.tr.frozen 2
            refine untlStep (i := 13) (by kernel_rfl) rfl (fun KG hKG => ?_)
            go_simp
            have HFIN : Hid (BJ w T (j + 1) gB gT g1 c1 g2 c2 u1 u2 (.slice (some ⟨ga_5004, 0, none⟩) (j + 1) ca_5004) (.slice (some ⟨ga_5008, 0, none⟩) (j + 1) ca_5008) ((V_5008.setCell ⟨gB, 3, none⟩ (.slice (some ⟨ga_5004, 0, none⟩) (j + 1) ca_5004)).setCell ⟨gT, 2, none⟩ (.slice (some ⟨ga_5008, 0, none⟩) (j + 1) ca_5008))) := by
              refine ⟨XE.out.setR (.slice (some ⟨ga_5008, 0, none⟩) (j + 1) ca_5008), own_setCell P1E.out XE.out.tr (by decide) 2 (.slice (some ⟨ga_5008, 0, none⟩) (j + 1) ca_5008), own_setCell P2E.out XE.out.tr (by decide) 2 (.slice (some ⟨ga_5008, 0, none⟩) (j + 1) ca_5008), SEP.out, ?_, ?_⟩
              · rw [hsn1.out]; exact own_setCell Q1E.out XE.out.tr (by decide) 2 (.slice (some ⟨ga_5008, 0, none⟩) (j + 1) ca_5008)
              · rw [hsn2.out]; exact own_setCell Q2E.out XE.out.tr (by decide) 2 (.slice (some ⟨ga_5008, 0, none⟩) (j + 1) ca_5008)
            clear cF fF XE P1E P2E Q1E Q2E
            refine hKG.out _ _ (.inl (by decide)) ?_
            refine untlDone (by kernel_rfl) ?_ _
            go_wp2
            go_roundw
            case rel => exact ⟨j + 1, _, _, by have := HJ.out; omega, by have := HJ.out; omega, by go_num, HFIN.out⟩
            case measure => have := HJ.out; simp [intOf]; omega
          refine UReady.cons rfl (fun K5003 hK5003 => ?_) UReady.nil
          go_simp
          have b_5009 : Below V_5002.heap.size V_5002 (V_5002.alloc (.cells #[.int .i64 y0, .int .i64 y1, .int .i64 y2] 150)) := below_self _ _
          have X_5009 := Lib.hid (X_5002.out.below b_5009)
          have P1_5009 := Lib.hid (ownsRow_below P1_5002.out b_5009)
          have P2_5009 := Lib.hid (ownsRow_below P2_5002.out b_5009)
          have Q1_5009 := Lib.hid (ownsRow_below Q1_5002.out b_5009)
          have Q2_5009 := Lib.hid (ownsRow_below Q2_5002.out b_5009)
          have C_5009 := Lib.hid (blk_keep b_5009 C_5002.out)
          have E_5009 := Lib.hid (blk_keep b_5009 E_5002.out)
          have N3_5009 := Lib.hid (blk_keep b_5009 N3_5002.out)
          have N8_5009 := Lib.hid (Blk.new V_5002 150 #[.int .i64 y0, .int .i64 y1, .int .i64 y2] (g := V_5002.heap.size) rfl)
          refine hK5003.out _ _ (.inr (HSX.out _ X_5009.out C_5009.out E_5009.out)) ?_
          generalize hV_5009 : V_5002.alloc (.cells #[.int .i64 y0, .int .i64 y1, .int .i64 y2] 150) = V_5009 at *
          have a_5009 : V_5002.heap.size < V_5009.heap.size := by rw [← hV_5009]; simp
          clear hV_5009 b_5009
          generalize V_5002.heap.size = aN8_5009 at *
          refine untlReady (rs := [4]) (by kernel_rfl) (by simp) ?_
          refine UReady.cons rfl (fun K5010 hK5010 => ?_) UReady.nil
          refine step_append_lies _ rfl (.tmp 154) (.tmp 156) 23 rfl (w.heap.size + 1 + 1 + 1 + 1) 111 j0 _ 6 48 Try.underlying23 hj hy0 hy1 hy2 rfl (by decide) v1 j _ (by rfl) Q1_5009.out ⟨aN3_5002, 0, none⟩ 1 1 [.int .i64 x0, .int .i64 x1, .int .i64 x2, .int .i64 x3, .int .i64 x4, .int .i64 x5] (by rfl) rfl (World.news_of_block N3_5009.out) ?ca5011 (by decide) ?cb5011 ?cc5011 ?cd5011 V_5009.heap.size rfl ?_
          case ca5011 => intro u hu; simp only [List.mem_cons, List.not_mem_nil, or_false] at hu; rcases hu with rfl | rfl | rfl | rfl | rfl | rfl <;> rfl
          case cb5011 => have := HJ.out; unfold maxLen; omega
          case cc5011 => have := HJ.out; omega
          case cd5011 => have := X_5009.out.r3.lt; omega
          intro ga_5011 ca_5011 V_5011 hown hgrow hor hlt
          have X_5011 := Lib.hid (X_5009.out.grownE Q1_5009.out hgrow (by decide) (by decide) (by decide) (by decide) (by decide))
          have P1_5011 := Lib.hid (P1_5009.out.kept hgrow (own_apart P1_5009.out Q1_5009.out (by decide)))
          have P2_5011 := Lib.hid (P2_5009.out.kept hgrow (own_apart P2_5009.out Q1_5009.out (by decide)))
          have Q2_5011 := Lib.hid (Q2_5009.out.kept hgrow (own_apart Q2_5009.out Q1_5009.out (by decide)))
          have Q1_5011 := Lib.hid hown
          have C_5011 := Lib.hid (C_5009.out.grown hgrow HV.out.1)
          have E_5011 := Lib.hid (E_5009.out.grown hgrow (own_blk_ne Q1_5009.out E_5009.out (by decide)))
          have N8_5011 := Lib.hid (N8_5009.out.grown hgrow (own_blk_ne Q1_5009.out N8_5009.out (by decide)))
          clear hown hgrow hor hlt
          have s_5011 := HSX.out _ X_5011.out C_5011.out E_5011.out
          refine hK5010.out _ _ (.inr s_5011) ?_
          refine untlTake (i := 10) 163 (v := ?v3041) rfl (by kernel_rfl) (by kernel_rfl) (by kernel_rfl) (by kernel_rfl) (by kernel_rfl) (by kernel_rfl) (fun _ _ _ h => h) (Or.inl ⟨by rfl, ?y3041⟩) (by assumption) ?r3041
          case y3041 => (intro w hSw; obtain ⟨g0, g1, g2, g3, g4, g5, g6, g7, g8, g9, g10⟩ := hSw; go_simp; try with_reducible rfl)
          simp only [Act.put, List.setIfInBounds_toArray]
          refine untlReady (rs := [9]) (by kernel_rfl) (by simp) ?_
          refine UReady.cons rfl (fun K5012 hK5012 => ?_) UReady.nil
          refine step_append_lies _ rfl (.tmp 159) (.tmp 161) 84 rfl (w.heap.size + 1 + 1 + 1 + 1) 150 k0 _ 3 24 Try.underlying84 hkk hx0 hx1 hx2 rfl (by decide) v2 j _ (by rfl) Q2_5011.out ⟨aN8_5009, 0, none⟩ 1 1 [.int .i64 y0, .int .i64 y1, .int .i64 y2] (by rfl) rfl (World.news_of_block N8_5011.out) ?ca5013 (by decide) ?cb5013 ?cc5013 ?cd5013 V_5011.heap.size rfl ?_
          case ca5013 => intro u hu; simp only [List.mem_cons, List.not_mem_nil, or_false] at hu; rcases hu with rfl | rfl | rfl <;> rfl
          case cb5013 => have := HJ.out; unfold maxLen; omega
          case cc5013 => have := HJ.out; omega
          case cd5013 => have := X_5011.out.r3.lt; omega
          intro ga_5013 ca_5013 V_5013 hown hgrow hor hlt
          have X_5013 := Lib.hid (X_5011.out.grownE Q2_5011.out hgrow (by decide) (by decide) (by decide) (by decide) (by decide))
          have P1_5013 := Lib.hid (P1_5011.out.kept hgrow (own_apart P1_5011.out Q2_5011.out (by decide)))
          have P2_5013 := Lib.hid (P2_5011.out.kept hgrow (own_apart P2_5011.out Q2_5011.out (by decide)))
          have Q1_5013 := Lib.hid (Q1_5011.out.kept hgrow (own_apart Q1_5011.out Q2_5011.out (by decide)))
          have Q2_5013 := Lib.hid hown
          have C_5013 := Lib.hid (C_5011.out.grown hgrow (own_blk_ne Q2_5011.out C_5011.out (by decide)))
          have E_5013 := Lib.hid (E_5011.out.grown hgrow HV.out.2)
          clear hown hgrow hor hlt
          have s_5013 := HSX.out _ X_5013.out C_5013.out E_5013.out
          refine hK5012.out _ _ (.inr s_5013) ?_
          have cE := X_5013.out.bl.cell
          have fE := X_5013.out.bl.frozen 3
          refine untlStep (i := 11) (by kernel_rfl) rfl (fun KE hKE => ?_)
          go_simp
          have XE := Lib.hid (X_5013.out.setC (.slice (some ⟨ga_5011, 0, none⟩) (j + 1) ca_5011))
          have P1E := Lib.hid (own_setCell P1_5013.out X_5013.out.bl (by decide) 3 (.slice (some ⟨ga_5011, 0, none⟩) (j + 1) ca_5011))
          have P2E := Lib.hid (own_setCell P2_5013.out X_5013.out.bl (by decide) 3 (.slice (some ⟨ga_5011, 0, none⟩) (j + 1) ca_5011))
          have Q1E := Lib.hid (own_setCell Q1_5013.out X_5013.out.bl (by decide) 3 (.slice (some ⟨ga_5011, 0, none⟩) (j + 1) ca_5011))
          have Q2E := Lib.hid (own_setCell Q2_5013.out X_5013.out.bl (by decide) 3 (.slice (some ⟨ga_5011, 0, none⟩) (j + 1) ca_5011))
          clear cE fE X_5013 P1_5013 P2_5013 Q1_5013 Q2_5013
          refine hKE.out _ _ (.inl (by decide)) ?_
          refine untlStep (i := 12) (by kernel_rfl) rfl (fun KF hKF => ?_)
          go_simp
          refine hKF.out _ _ (.inl (by decide)) ?_
          have cF := XE.out.tr.cell
          have fF := XE.out.tr.frozen 2
          refine untlStep (i := 13) (by kernel_rfl) rfl (fun KG hKG => ?_)
          go_simp
          have HFIN : Hid (BJ w T (j + 1) gB gT g1 c1 g2 c2 u1 u2 (.slice (some ⟨ga_5011, 0, none⟩) (j + 1) ca_5011) (.slice (some ⟨ga_5013, 0, none⟩) (j + 1) ca_5013) ((V_5013.setCell ⟨gB, 3, none⟩ (.slice (some ⟨ga_5011, 0, none⟩) (j + 1) ca_5011)).setCell ⟨gT, 2, none⟩ (.slice (some ⟨ga_5013, 0, none⟩) (j + 1) ca_5013))) := by
            refine ⟨XE.out.setR (.slice (some ⟨ga_5013, 0, none⟩) (j + 1) ca_5013), own_setCell P1E.out XE.out.tr (by decide) 2 (.slice (some ⟨ga_5013, 0, none⟩) (j + 1) ca_5013), own_setCell P2E.out XE.out.tr (by decide) 2 (.slice (some ⟨ga_5013, 0, none⟩) (j + 1) ca_5013), SEP.out, ?_, ?_⟩
            · rw [hsn1.out]; exact own_setCell Q1E.out XE.out.tr (by decide) 2 (.slice (some ⟨ga_5013, 0, none⟩) (j + 1) ca_5013)
            · rw [hsn2.out]; exact own_setCell Q2E.out XE.out.tr (by decide) 2 (.slice (some ⟨ga_5013, 0, none⟩) (j + 1) ca_5013)
          clear cF fF XE P1E P2E Q1E Q2E
          refine hKG.out _ _ (.inl (by decide)) ?_
          refine untlDone (by kernel_rfl) ?_ _
          go_wp2
          go_roundw
          case rel => exact ⟨j + 1, _, _, by have := HJ.out; omega, by have := HJ.out; omega, by go_num, HFIN.out⟩
          case measure => have := HJ.out; simp [intOf]; omega
        refine UReady.cons rfl (fun K5001 hK5001 => ?_) UReady.nil
        go_simp
        have b_5014 : Below W3.heap.size W3 (W3.alloc (.cells #[.int .i64 y0, .int .i64 y1, .int .i64 y2] 150)) := below_self _ _
        have X_5014 := Lib.hid (X_0.out.below b_5014)
        have P1_5014 := Lib.hid (ownsRow_below P1_0.out b_5014)
        have P2_5014 := Lib.hid (ownsRow_below P2_0.out b_5014)
        have Q1_5014 := Lib.hid (ownsRow_below Q1_0.out b_5014)
        have Q2_5014 := Lib.hid (ownsRow_below Q2_0.out b_5014)
        have C_5014 := Lib.hid (blk_keep b_5014 C_0.out)
        have E_5014 := Lib.hid (blk_keep b_5014 E_0.out)
        have N8_5014 := Lib.hid (Blk.new W3 150 #[.int .i64 y0, .int .i64 y1, .int .i64 y2] (g := W3.heap.size) rfl)
        refine hK5001.out _ _ (.inr (HSX.out _ X_5014.out C_5014.out E_5014.out)) ?_
        generalize hV_5014 : W3.alloc (.cells #[.int .i64 y0, .int .i64 y1, .int .i64 y2] 150) = V_5014 at *
        have a_5014 : W3.heap.size < V_5014.heap.size := by rw [← hV_5014]; simp
        clear hV_5014 b_5014
        generalize W3.heap.size = aN8_5014 at *
        refine untlReady (rs := [3]) (by kernel_rfl) (by simp) ?_
        refine UReady.cons rfl (fun K5015 hK5015 => ?_) UReady.nil
        go_simp
        have b_5016 : Below V_5014.heap.size V_5014 (V_5014.alloc (.cells #[.int .i64 x0, .int .i64 x1, .int .i64 x2, .int .i64 x3, .int .i64 x4, .int .i64 x5] 111)) := below_self _ _
        have X_5016 := Lib.hid (X_5014.out.below b_5016)
        have P1_5016 := Lib.hid (ownsRow_below P1_5014.out b_5016)
        have P2_5016 := Lib.hid (ownsRow_below P2_5014.out b_5016)
        have Q1_5016 := Lib.hid (ownsRow_below Q1_5014.out b_5016)
        have Q2_5016 := Lib.hid (ownsRow_below Q2_5014.out b_5016)
        have C_5016 := Lib.hid (blk_keep b_5016 C_5014.out)
        have E_5016 := Lib.hid (blk_keep b_5016 E_5014.out)
        have N8_5016 := Lib.hid (blk_keep b_5016 N8_5014.out)
        have N3_5016 := Lib.hid (Blk.new V_5014 111 #[.int .i64 x0, .int .i64 x1, .int .i64 x2, .int .i64 x3, .int .i64 x4, .int .i64 x5] (g := V_5014.heap.size) rfl)
        refine hK5015.out _ _ (.inr (HSX.out _ X_5016.out C_5016.out E_5016.out)) ?_
        generalize hV_5016 : V_5014.alloc (.cells #[.int .i64 x0, .int .i64 x1, .int .i64 x2, .int .i64 x3, .int .i64 x4, .int .i64 x5] 111) = V_5016 at *
        have a_5016 : V_5014.heap.size < V_5016.heap.size := by rw [← hV_5016]; simp
        clear hV_5016 b_5016
        generalize V_5014.heap.size = aN3_5016 at *
        refine untlReady (rs := [4]) (by kernel_rfl) (by simp) ?_
        refine UReady.cons rfl (fun K5017 hK5017 => ?_) UReady.nil
        refine step_append_lies _ rfl (.tmp 154) (.tmp 156) 23 rfl (w.heap.size + 1 + 1 + 1 + 1) 111 j0 _ 6 48 Try.underlying23 hj hy0 hy1 hy2 rfl (by decide) v1 j _ (by rfl) Q1_5016.out ⟨aN3_5016, 0, none⟩ 1 1 [.int .i64 x0, .int .i64 x1, .int .i64 x2, .int .i64 x3, .int .i64 x4, .int .i64 x5] (by rfl) rfl (World.news_of_block N3_5016.out) ?ca5018 (by decide) ?cb5018 ?cc5018 ?cd5018 V_5016.heap.size rfl ?_
        case ca5018 => intro u hu; simp only [List.mem_cons, List.not_mem_nil, or_false] at hu; rcases hu with rfl | rfl | rfl | rfl | rfl | rfl <;> rfl
        case cb5018 => have := HJ.out; unfold maxLen; omega
        case cc5018 => have := HJ.out; omega
        case cd5018 => have := X_5016.out.r3.lt; omega
        intro ga_5018 ca_5018 V_5018 hown hgrow hor hlt
        have X_5018 := Lib.hid (X_5016.out.grownE Q1_5016.out hgrow (by decide) (by decide) (by decide) (by decide) (by decide))
        have P1_5018 := Lib.hid (P1_5016.out.kept hgrow (own_apart P1_5016.out Q1_5016.out (by decide)))
        have P2_5018 := Lib.hid (P2_5016.out.kept hgrow (own_apart P2_5016.out Q1_5016.out (by decide)))
        have Q2_5018 := Lib.hid (Q2_5016.out.kept hgrow (own_apart Q2_5016.out Q1_5016.out (by decide)))
        have Q1_5018 := Lib.hid hown
        have C_5018 := Lib.hid (C_5016.out.grown hgrow HV.out.1)
        have E_5018 := Lib.hid (E_5016.out.grown hgrow (own_blk_ne Q1_5016.out E_5016.out (by decide)))
        have N8_5018 := Lib.hid (N8_5016.out.grown hgrow (own_blk_ne Q1_5016.out N8_5016.out (by decide)))
        clear hown hgrow hor hlt
        have s_5018 := HSX.out _ X_5018.out C_5018.out E_5018.out
        refine hK5017.out _ _ (.inr s_5018) ?_
        refine untlTake (i := 10) 163 (v := ?v3042) rfl (by kernel_rfl) (by kernel_rfl) (by kernel_rfl) (by kernel_rfl) (by kernel_rfl) (by kernel_rfl) (fun _ _ _ h => h) (Or.inl ⟨by rfl, ?y3042⟩) (by assumption) ?r3042
        case y3042 => (intro w hSw; obtain ⟨g0, g1, g2, g3, g4, g5, g6, g7, g8, g9, g10⟩ := hSw; go_simp; try with_reducible rfl)
        simp only [Act.put, List.setIfInBounds_toArray]
        refine untlReady (rs := [9]) (by kernel_rfl) (by simp) ?_
        refine UReady.cons rfl (fun K5019 hK5019 => ?_) UReady.nil
        refine step_append_lies _ rfl (.tmp 159) (.tmp 161) 84 rfl (w.heap.size + 1 + 1 + 1 + 1) 150 k0 _ 3 24 Try.underlying84 hkk hx0 hx1 hx2 rfl (by decide) v2 j _ (by rfl) Q2_5018.out ⟨aN8_5014, 0, none⟩ 1 1 [.int .i64 y0, .int .i64 y1, .int .i64 y2] (by rfl) rfl (World.news_of_block N8_5018.out) ?ca5020 (by decide) ?cb5020 ?cc5020 ?cd5020 V_5018.heap.size rfl ?_
        case ca5020 => intro u hu; simp only [List.mem_cons, List.not_mem_nil, or_false] at hu; rcases hu with rfl | rfl | rfl <;> rfl
        case cb5020 => have := HJ.out; unfold maxLen; omega
        case cc5020 => have := HJ.out; omega
        case cd5020 => have := X_5018.out.r3.lt; omega
        intro ga_5020 ca_5020 V_5020 hown hgrow hor hlt
        have X_5020 := Lib.hid (X_5018.out.grownE Q2_5018.out hgrow (by decide) (by decide) (by decide) (by decide) (by decide))
        have P1_5020 := Lib.hid (P1_5018.out.kept hgrow (own_apart P1_5018.out Q2_5018.out (by decide)))
        have P2_5020 := Lib.hid (P2_5018.out.kept hgrow (own_apart P2_5018.out Q2_5018.out (by decide)))
        have Q1_5020 := Lib.hid (Q1_5018.out.kept hgrow (own_apart Q1_5018.out Q2_5018.out (by decide)))
        have Q2_5020 := Lib.hid hown
        have C_5020 := Lib.hid (C_5018.out.grown hgrow (own_blk_ne Q2_5018.out C_5018.out (by decide)))
        have E_5020 := Lib.hid (E_5018.out.grown hgrow HV.out.2)
        clear hown hgrow hor hlt
        have s_5020 := HSX.out _ X_5020.out C_5020.out E_5020.out
        refine hK5019.out _ _ (.inr s_5020) ?_
        have cE := X_5020.out.bl.cell
        have fE := X_5020.out.bl.frozen 3
        refine untlStep (i := 11) (by kernel_rfl) rfl (fun KE hKE => ?_)
        go_simp
        have XE := Lib.hid (X_5020.out.setC (.slice (some ⟨ga_5018, 0, none⟩) (j + 1) ca_5018))
        have P1E := Lib.hid (own_setCell P1_5020.out X_5020.out.bl (by decide) 3 (.slice (some ⟨ga_5018, 0, none⟩) (j + 1) ca_5018))
        have P2E := Lib.hid (own_setCell P2_5020.out X_5020.out.bl (by decide) 3 (.slice (some ⟨ga_5018, 0, none⟩) (j + 1) ca_5018))
        have Q1E := Lib.hid (own_setCell Q1_5020.out X_5020.out.bl (by decide) 3 (.slice (some ⟨ga_5018, 0, none⟩) (j + 1) ca_5018))
        have Q2E := Lib.hid (own_setCell Q2_5020.out X_5020.out.bl (by decide) 3 (.slice (some ⟨ga_5018, 0, none⟩) (j + 1) ca_5018))
        clear cE fE X_5020 P1_5020 P2_5020 Q1_5020 Q2_5020
        refine hKE.out _ _ (.inl (by decide)) ?_
        refine untlStep (i := 12) (by kernel_rfl) rfl (fun KF hKF => ?_)
        go_simp
        refine hKF.out _ _ (.inl (by decide)) ?_
        have cF := XE.out.tr.cell
        have fF := XE.out.tr.frozen 2
        refine untlStep (i := 13) (by kernel_rfl) rfl (fun KG hKG => ?_)
        go_simp
        have HFIN : Hid (BJ w T (j + 1) gB gT g1 c1 g2 c2 u1 u2 (.slice (some ⟨ga_5018, 0, none⟩) (j + 1) ca_5018) (.slice (some ⟨ga_5020, 0, none⟩) (j + 1) ca_5020) ((V_5020.setCell ⟨gB, 3, none⟩ (.slice (some ⟨ga_5018, 0, none⟩) (j + 1) ca_5018)).setCell ⟨gT, 2, none⟩ (.slice (some ⟨ga_5020, 0, none⟩) (j + 1) ca_5020))) := by
          refine ⟨XE.out.setR (.slice (some ⟨ga_5020, 0, none⟩) (j + 1) ca_5020), own_setCell P1E.out XE.out.tr (by decide) 2 (.slice (some ⟨ga_5020, 0, none⟩) (j + 1) ca_5020), own_setCell P2E.out XE.out.tr (by decide) 2 (.slice (some ⟨ga_5020, 0, none⟩) (j + 1) ca_5020), SEP.out, ?_, ?_⟩
          · rw [hsn1.out]; exact own_setCell Q1E.out XE.out.tr (by decide) 2 (.slice (some ⟨ga_5020, 0, none⟩) (j + 1) ca_5020)
          · rw [hsn2.out]; exact own_setCell Q2E.out XE.out.tr (by decide) 2 (.slice (some ⟨ga_5020, 0, none⟩) (j + 1) ca_5020)
        clear cF fF XE P1E P2E Q1E Q2E
        refine hKG.out _ _ (.inl (by decide)) ?_
        refine untlDone (by kernel_rfl) ?_ _
        go_wp2
        go_roundw
        case rel => exact ⟨j + 1, _, _, by have := HJ.out; omega, by have := HJ.out; omega, by go_num, HFIN.out⟩
        case measure => have := HJ.out; simp [intOf]; omega
      · skip
        have hd : decide (j < T.m ∧ j < 3) = false := by rw [decide_eq_false_iff_not]; exact hlt2
        rw [hd]
        have hjm2 : Hid (j = min T.m 3) := by unfold Hid; omega
        clear b1 hlt2 hd
        go_upto_region 16 with (fail)
        obtain ⟨A, ca, rfl⟩ := own_slice HT.out.p1
        obtain ⟨A', ca', rfl⟩ := own_slice HT.out.p2
        obtain ⟨K, cd, rfl⟩ := own_slice HT.out.q1
        obtain ⟨K', cd', rfl⟩ := own_slice HT.out.q2
        have y0 := HAT.out.g0
        have y1 := HAT.out.g1
        have y2 := HAT.out.g2
        have y3 := HAT.out.g3
        unfold Byte at y0 y1 y2 y3
        have w0 : IntKind.i64.wrap T.s0 = T.s0 := IntWalk.i64_in _ (by omega)
        obtain ⟨f0, q0⟩ : ∃ t, t = T.s0 % 4 := ⟨_, rfl⟩
        have t0 : (T.s0).tmod 4 = f0 := by rw [q0]; exact Int.tmod_eq_emod_of_nonneg (by omega)
        have o0 : IntKind.i64.wrap f0 = f0 := IntWalk.i64_in _ (by omega)
        obtain ⟨z0, qz0⟩ : ∃ t, t = 1 + f0 := ⟨_, rfl⟩
        have p0 : IntKind.i64.wrap (1 + f0) = z0 := by rw [qz0]; exact IntWalk.i64_in _ (by omega)
        have HZ0 : Hid (z0 = 1 + T.s0 % 4) := by unfold Hid; omega
        clear q0 qz0
        have w1 : IntKind.i64.wrap T.s1 = T.s1 := IntWalk.i64_in _ (by omega)
        obtain ⟨f1, q1⟩ : ∃ t, t = T.s1 % 40 := ⟨_, rfl⟩
        have t1 : (T.s1).tmod 40 = f1 := by rw [q1]; exact Int.tmod_eq_emod_of_nonneg (by omega)
        have o1 : IntKind.i64.wrap f1 = f1 := IntWalk.i64_in _ (by omega)
        obtain ⟨z1, qz1⟩ : ∃ t, t = 8 + f1 := ⟨_, rfl⟩
        have p1 : IntKind.i64.wrap (8 + f1) = z1 := by rw [qz1]; exact IntWalk.i64_in _ (by omega)
        have HZ1 : Hid (z1 = 8 + T.s1 % 40) := by unfold Hid; omega
        clear q1 qz1
        have w2 : IntKind.i64.wrap T.s2 = T.s2 := IntWalk.i64_in _ (by omega)
        obtain ⟨f2, q2⟩ : ∃ t, t = T.s2 % 6 := ⟨_, rfl⟩
        have t2 : (T.s2).tmod 6 = f2 := by rw [q2]; exact Int.tmod_eq_emod_of_nonneg (by omega)
        have o2 : IntKind.i64.wrap f2 = f2 := IntWalk.i64_in _ (by omega)
        have HZ2 : Hid (f2 = T.s2 % 6) := q2
        clear q2
        generalize f2 = z2 at *
        have w3 : IntKind.i64.wrap T.s3 = T.s3 := IntWalk.i64_in _ (by omega)
        obtain ⟨f3, q3⟩ : ∃ t, t = T.s3 % 3 := ⟨_, rfl⟩
        have t3 : (T.s3).tmod 3 = f3 := by rw [q3]; exact Int.tmod_eq_emod_of_nonneg (by omega)
        have o3 : IntKind.i64.wrap f3 = f3 := IntWalk.i64_in _ (by omega)
        have HZ3 : Hid (f3 = T.s3 % 3) := q3
        clear q3
        generalize f3 = z3 at *
        clear y0 y1 y2 y3
        have bd : ∀ W : World, Below W.heap.size W W.drew := fun W => (Below.refl _ _).drew
        have XX := Lib.hid (HT.out.x.below (bd _))
        have BX_0 := Lib.hid XX.out.box
        have R1_0 := Lib.hid XX.out.r1
        have R2_0 := Lib.hid XX.out.r2
        have R3_0 := Lib.hid XX.out.r3
        have BL_0 := Lib.hid XX.out.bl
        have TR_0 := Lib.hid XX.out.tr
        have E1_0 := Lib.hid XX.out.e1
        have E2_0 := Lib.hid XX.out.e2
        have P1_0 := Lib.hid (ownsRow_below HT.out.p1 (bd _))
        have P2_0 := Lib.hid (ownsRow_below HT.out.p2 (bd _))
        have Q1_0 := Lib.hid (ownsRow_below HT.out.q1 (bd _))
        have Q2_0 := Lib.hid (ownsRow_below HT.out.q2 (bd _))
        have HLB := Lib.hid (And.intro XX.out.lB XX.out.lT)
        have BE_0 := Lib.hid XX.out.bel
        have S12 := Lib.hid XX.out.sep12
        have SEP := Lib.hid HT.out.sep
        have HS16 : Hid (∀ W, Blk W w.heap.size 83 #[.slice T.A T.n T.c, .int .u8 T.bend, .slice T.K T.m T.d, .int .u8 T.s0, .int .u8 T.s1, .int .u8 T.s2, .int .u8 T.s3] → Blk W gB 25 #[.slice A T.len ca, .slice A' T.len ca', .int .i64 T.bd, .slice K j cd] → Blk W gT 86 #[.slice (some ⟨g1, 0, none⟩) T.len c1, .slice (some ⟨g2, 0, none⟩) T.len c2, .slice K' j cd'] → S16 w.heap.size gB gT T.s0 T.s1 T.s2 T.s3 (.slice A T.len ca) (.slice A' T.len ca') (.int .i64 T.bd) (.slice K j cd) (.slice (some ⟨g1, 0, none⟩) T.len c1) (.slice (some ⟨g2, 0, none⟩) T.len c2) (.slice K' j cd') W) :=
          fun W hb hl ht => ⟨hb.cell 3, hb.cell 4, hb.cell 5, hb.cell 6, hl.cell 0, hl.cell 1, hl.cell 2, hl.cell 3, ht.cell 0, ht.cell 1, ht.cell 2⟩
        have S0 := HS16.out _ BX_0.out BL_0.out TR_0.out
        clear bd XX HT
        refine wp_region_held_drew (S := S16 w.heap.size gB gT T.s0 T.s1 T.s2 T.s3 (.slice A T.len ca) (.slice A' T.len ca') (.int .i64 T.bd) (.slice K j cd) (.slice (some ⟨g1, 0, none⟩) T.len c1) (.slice (some ⟨g2, 0, none⟩) T.len c2) (.slice K' j cd')) (by kernel_rfl) S0 (fun _ => ?_)
        refine heldTake (i := 0) 165 (v := ?v2053) rfl (by kernel_rfl) (by kernel_rfl) (by kernel_rfl) (by kernel_rfl) (fun _ _ _ h => h) (Or.inl ⟨by rfl, ?y2053⟩) (by assumption) ?r2053
        case y2053 => (intro w hSw; obtain ⟨g0, g1, g2, g3, g4, g5, g6, g7, g8, g9, g10⟩ := hSw; go_simp; try with_reducible rfl)
        refine heldTake (i := 1) 166 (v := ?v2054) rfl (by kernel_rfl) (by kernel_rfl) (by kernel_rfl) (by kernel_rfl) (fun _ _ _ h => h) (Or.inl ⟨by rfl, ?y2054⟩) (by assumption) ?r2054
        case y2054 => (intro w hSw; obtain ⟨g0, g1, g2, g3, g4, g5, g6, g7, g8, g9, g10⟩ := hSw; go_simp; try with_reducible rfl)
        refine heldTake (i := 2) 167 (v := ?v2055) rfl (by kernel_rfl) (by kernel_rfl) (by kernel_rfl) (by kernel_rfl) (fun _ _ _ h => h) (Or.inl ⟨by rfl, ?y2055⟩) (by assumption) ?r2055
        case y2055 => (intro w hSw; obtain ⟨g0, g1, g2, g3, g4, g5, g6, g7, g8, g9, g10⟩ := hSw; go_simp; try with_reducible rfl)
        refine heldTake (i := 3) 168 (v := ?v2056) rfl (by kernel_rfl) (by kernel_rfl) (by kernel_rfl) (by kernel_rfl) (fun _ _ _ h => h) (Or.inl ⟨by rfl, ?y2056⟩) (by assumption) ?r2056
        case y2056 => (intro w hSw; obtain ⟨g0, g1, g2, g3, g4, g5, g6, g7, g8, g9, g10⟩ := hSw; go_simp; try with_reducible rfl)
        refine heldTake (i := 4) 169 (v := ?v2057) rfl (by kernel_rfl) (by kernel_rfl) (by kernel_rfl) (by kernel_rfl) (fun _ _ _ h => h) (Or.inl ⟨by rfl, ?y2057⟩) (by assumption) ?r2057
        case y2057 => (intro w hSw; obtain ⟨g0, g1, g2, g3, g4, g5, g6, g7, g8, g9, g10⟩ := hSw; go_simp; try with_reducible rfl)
        refine heldTake (i := 5) 170 (v := ?v2058) rfl (by kernel_rfl) (by kernel_rfl) (by kernel_rfl) (by kernel_rfl) (fun _ _ _ h => h) (Or.inl ⟨by rfl, ?y2058⟩) (by assumption) ?r2058
        case y2058 => (intro w hSw; obtain ⟨g0, g1, g2, g3, g4, g5, g6, g7, g8, g9, g10⟩ := hSw; go_simp; try with_reducible rfl)
        refine heldTake (i := 6) 171 (v := ?v2059) rfl (by kernel_rfl) (by kernel_rfl) (by kernel_rfl) (by kernel_rfl) (fun _ _ _ h => h) (Or.inl ⟨by rfl, ?y2059⟩) (by assumption) ?r2059
        case y2059 => (intro w hSw; obtain ⟨g0, g1, g2, g3, g4, g5, g6, g7, g8, g9, g10⟩ := hSw; go_simp; try with_reducible rfl)
        refine heldTake (i := 7) 172 (v := ?v2060) rfl (by kernel_rfl) (by kernel_rfl) (by kernel_rfl) (by kernel_rfl) (fun _ _ _ h => h) (Or.inl ⟨by rfl, ?y2060⟩) (by assumption) ?r2060
        case y2060 => (intro w hSw; obtain ⟨g0, g1, g2, g3, g4, g5, g6, g7, g8, g9, g10⟩ := hSw; go_simp; try with_reducible rfl)
        refine heldTake (i := 8) 173 (v := ?v2061) rfl (by kernel_rfl) (by kernel_rfl) (by kernel_rfl) (by kernel_rfl) (fun _ _ _ h => h) (Or.inl ⟨by rfl, ?y2061⟩) (by assumption) ?r2061
        case y2061 => (intro w hSw; obtain ⟨g0, g1, g2, g3, g4, g5, g6, g7, g8, g9, g10⟩ := hSw; go_simp; try with_reducible rfl)
        refine heldTake (i := 9) 174 (v := ?v2062) rfl (by kernel_rfl) (by kernel_rfl) (by kernel_rfl) (by kernel_rfl) (fun _ _ _ h => h) (Or.inl ⟨by rfl, ?y2062⟩) (by assumption) ?r2062
        case y2062 => (intro w hSw; obtain ⟨g0, g1, g2, g3, g4, g5, g6, g7, g8, g9, g10⟩ := hSw; go_simp; try with_reducible rfl)
        refine heldTake (i := 10) 175 (v := ?v2063) rfl (by kernel_rfl) (by kernel_rfl) (by kernel_rfl) (by kernel_rfl) (fun _ _ _ h => h) (Or.inl ⟨by rfl, ?y2063⟩) (by assumption) ?r2063
        case y2063 => (intro w hSw; obtain ⟨g0, g1, g2, g3, g4, g5, g6, g7, g8, g9, g10⟩ := hSw; go_simp; try with_reducible rfl)
        refine heldTake (i := 11) 176 (v := ?v2064) rfl (by kernel_rfl) (by kernel_rfl) (by kernel_rfl) (by kernel_rfl) (fun _ _ _ h => h) (Or.inl ⟨by rfl, ?y2064⟩) (by assumption) ?r2064
        case y2064 => (intro w hSw; obtain ⟨g0, g1, g2, g3, g4, g5, g6, g7, g8, g9, g10⟩ := hSw; go_simp; try with_reducible rfl)
        refine heldTake (i := 12) 177 (v := ?v2065) rfl (by kernel_rfl) (by kernel_rfl) (by kernel_rfl) (by kernel_rfl) (fun _ _ _ h => h) (Or.inl ⟨by rfl, ?y2065⟩) (by assumption) ?r2065
        case y2065 => (intro w hSw; obtain ⟨g0, g1, g2, g3, g4, g5, g6, g7, g8, g9, g10⟩ := hSw; go_simp; try with_reducible rfl)
        refine heldTake (i := 13) 178 (v := ?v2066) rfl (by kernel_rfl) (by kernel_rfl) (by kernel_rfl) (by kernel_rfl) (fun _ _ _ h => h) (Or.inl ⟨by rfl, ?y2066⟩) (by assumption) ?r2066
        case y2066 => (intro w hSw; obtain ⟨g0, g1, g2, g3, g4, g5, g6, g7, g8, g9, g10⟩ := hSw; go_simp; try with_reducible rfl)
        refine heldTake (i := 14) 179 (v := ?v2067) rfl (by kernel_rfl) (by kernel_rfl) (by kernel_rfl) (by kernel_rfl) (fun _ _ _ h => h) (Or.inl ⟨by rfl, ?y2067⟩) (by assumption) ?r2067
        case y2067 => (intro w hSw; obtain ⟨g0, g1, g2, g3, g4, g5, g6, g7, g8, g9, g10⟩ := hSw; go_simp; try with_reducible rfl)
        refine heldTake (i := 15) 180 (v := ?v2068) rfl (by kernel_rfl) (by kernel_rfl) (by kernel_rfl) (by kernel_rfl) (fun _ _ _ h => h) (Or.inl ⟨by rfl, ?y2068⟩) (by assumption) ?r2068
        case y2068 => (intro w hSw; obtain ⟨g0, g1, g2, g3, g4, g5, g6, g7, g8, g9, g10⟩ := hSw; go_simp; try with_reducible rfl)
        refine heldTake (i := 16) 181 (v := ?v2069) rfl (by kernel_rfl) (by kernel_rfl) (by kernel_rfl) (by kernel_rfl) (fun _ _ _ h => h) (Or.inl ⟨by rfl, ?y2069⟩) (by assumption) ?r2069
        case y2069 => (intro w hSw; obtain ⟨g0, g1, g2, g3, g4, g5, g6, g7, g8, g9, g10⟩ := hSw; go_simp; try with_reducible rfl)
        refine heldTake (i := 17) 182 (v := ?v2070) rfl (by kernel_rfl) (by kernel_rfl) (by kernel_rfl) (by kernel_rfl) (fun _ _ _ h => h) (Or.inl ⟨by rfl, ?y2070⟩) (by assumption) ?r2070
        case y2070 => (intro w hSw; obtain ⟨g0, g1, g2, g3, g4, g5, g6, g7, g8, g9, g10⟩ := hSw; go_simp; try with_reducible rfl)
        refine heldTake (i := 18) 183 (v := ?v2071) rfl (by kernel_rfl) (by kernel_rfl) (by kernel_rfl) (by kernel_rfl) (fun _ _ _ h => h) (Or.inl ⟨by rfl, ?y2071⟩) (by assumption) ?r2071
        case y2071 => (intro w hSw; obtain ⟨g0, g1, g2, g3, g4, g5, g6, g7, g8, g9, g10⟩ := hSw; go_simp; try with_reducible rfl)
        refine heldTake (i := 19) 184 (v := ?v2072) rfl (by kernel_rfl) (by kernel_rfl) (by kernel_rfl) (by kernel_rfl) (fun _ _ _ h => h) (Or.inl ⟨by rfl, ?y2072⟩) (by assumption) ?r2072
        case y2072 => (intro w hSw; obtain ⟨g0, g1, g2, g3, g4, g5, g6, g7, g8, g9, g10⟩ := hSw; go_simp; try with_reducible rfl)
        refine heldTake (i := 20) 185 (v := ?v2073) rfl (by kernel_rfl) (by kernel_rfl) (by kernel_rfl) (by kernel_rfl) (fun _ _ _ h => h) (Or.inl ⟨by rfl, ?y2073⟩) (by assumption) ?r2073
        case y2073 => (intro w hSw; obtain ⟨g0, g1, g2, g3, g4, g5, g6, g7, g8, g9, g10⟩ := hSw; go_simp; try with_reducible rfl)
        refine heldTake (i := 21) 186 (v := ?v2074) rfl (by kernel_rfl) (by kernel_rfl) (by kernel_rfl) (by kernel_rfl) (fun _ _ _ h => h) (Or.inl ⟨by rfl, ?y2074⟩) (by assumption) ?r2074
        case y2074 => (intro w hSw; obtain ⟨g0, g1, g2, g3, g4, g5, g6, g7, g8, g9, g10⟩ := hSw; go_simp; try with_reducible rfl)
        refine heldTake (i := 22) 187 (v := ?v2075) rfl (by kernel_rfl) (by kernel_rfl) (by kernel_rfl) (by kernel_rfl) (fun _ _ _ h => h) (Or.inl ⟨by rfl, ?y2075⟩) (by assumption) ?r2075
        case y2075 => (intro w hSw; obtain ⟨g0, g1, g2, g3, g4, g5, g6, g7, g8, g9, g10⟩ := hSw; go_simp; try with_reducible rfl)
        refine heldTake (i := 23) 188 (v := ?v2076) rfl (by kernel_rfl) (by kernel_rfl) (by kernel_rfl) (by kernel_rfl) (fun _ _ _ h => h) (Or.inl ⟨by rfl, ?y2076⟩) (by assumption) ?r2076
        case y2076 => (intro w hSw; obtain ⟨g0, g1, g2, g3, g4, g5, g6, g7, g8, g9, g10⟩ := hSw; go_simp; try with_reducible rfl)
        refine heldTake (i := 24) 189 (v := ?v2077) rfl (by kernel_rfl) (by kernel_rfl) (by kernel_rfl) (by kernel_rfl) (fun _ _ _ h => h) (Or.inl ⟨by rfl, ?y2077⟩) (by assumption) ?r2077
        case y2077 => (intro w hSw; obtain ⟨g0, g1, g2, g3, g4, g5, g6, g7, g8, g9, g10⟩ := hSw; go_simp; try with_reducible rfl)
        simp only [Act.put, List.setIfInBounds_toArray, List.set_cons_zero, List.set_cons_succ]
        refine wpAnyH_ready (rs := [25]) (by kernel_rfl) (by simp) ?_
        refine AllReadyH.cons rfl (fun KZ1 hKZ1 => ?_) AllReadyH.nil
        rw [if_pos (by rfl)]
        refine wp_store_rowN rfl _ _ _ rfl _ _ rfl rfl _ _ R1_0.out (by kernel_rfl) rfl (by kernel_rfl) ?_
        have BX_1 := Lib.hid (BX_0.out.setRow_far (g' := w.heap.size + 1) (by have := HLB.out; omega) #[.slice A T.len ca, .slice A' T.len ca', .int .i64 T.bd, .slice K j cd])
        have R1_1 := Lib.hid (R1_0.out.setRow #[.slice A T.len ca, .slice A' T.len ca', .int .i64 T.bd, .slice K j cd])
        have R2_1 := Lib.hid (R2_0.out.setRow_far (g' := w.heap.size + 1) (by have := HLB.out; omega) #[.slice A T.len ca, .slice A' T.len ca', .int .i64 T.bd, .slice K j cd])
        have R3_1 := Lib.hid (R3_0.out.setRow_far (g' := w.heap.size + 1) (by have := HLB.out; omega) #[.slice A T.len ca, .slice A' T.len ca', .int .i64 T.bd, .slice K j cd])
        have BL_1 := Lib.hid (BL_0.out.setRow_far (g' := w.heap.size + 1) (by have := HLB.out; omega) #[.slice A T.len ca, .slice A' T.len ca', .int .i64 T.bd, .slice K j cd])
        have TR_1 := Lib.hid (TR_0.out.setRow_far (g' := w.heap.size + 1) (by have := HLB.out; omega) #[.slice A T.len ca, .slice A' T.len ca', .int .i64 T.bd, .slice K j cd])
        have E1_1 := Lib.hid (own_setRow E1_0.out R1_0.out (by decide) #[.slice A T.len ca, .slice A' T.len ca', .int .i64 T.bd, .slice K j cd])
        have E2_1 := Lib.hid (own_setRow E2_0.out R1_0.out (by decide) #[.slice A T.len ca, .slice A' T.len ca', .int .i64 T.bd, .slice K j cd])
        have P1_1 := Lib.hid (own_setRow P1_0.out R1_0.out (by decide) #[.slice A T.len ca, .slice A' T.len ca', .int .i64 T.bd, .slice K j cd])
        have P2_1 := Lib.hid (own_setRow P2_0.out R1_0.out (by decide) #[.slice A T.len ca, .slice A' T.len ca', .int .i64 T.bd, .slice K j cd])
        have Q1_1 := Lib.hid (own_setRow Q1_0.out R1_0.out (by decide) #[.slice A T.len ca, .slice A' T.len ca', .int .i64 T.bd, .slice K j cd])
        have Q2_1 := Lib.hid (own_setRow Q2_0.out R1_0.out (by decide) #[.slice A T.len ca, .slice A' T.len ca', .int .i64 T.bd, .slice K j cd])
        have BE_1 := Lib.hid (below_setR BE_0.out (g := w.heap.size + 1) (by omega) #[.slice A T.len ca, .slice A' T.len ca', .int .i64 T.bd, .slice K j cd])
        refine hKZ1.out _ _ (HS16.out _ BX_1.out BL_1.out TR_1.out) (fun _ => ?_)
        refine wpAnyH_ready (rs := [26]) (by kernel_rfl) (by simp) ?_
        refine AllReadyH.cons rfl (fun KZ2 hKZ2 => ?_) AllReadyH.nil
        rw [if_pos (by rfl)]
        refine wp_store_rowN rfl _ _ _ rfl _ _ rfl rfl _ _ R2_1.out (by kernel_rfl) rfl (ones4 _ _ _ _) ?_
        have BX_2 := Lib.hid (BX_1.out.setRow_far (g' := w.heap.size + 1 + 1) (by have := HLB.out; omega) #[.int .i64 z0, .int .i64 z1, .int .i64 z2, .int .i64 z3])
        have R1_2 := Lib.hid (R1_1.out.setRow_far (g' := w.heap.size + 1 + 1) (by have := HLB.out; omega) #[.int .i64 z0, .int .i64 z1, .int .i64 z2, .int .i64 z3])
        have R2_2 := Lib.hid (R2_1.out.setRow #[.int .i64 z0, .int .i64 z1, .int .i64 z2, .int .i64 z3])
        have R3_2 := Lib.hid (R3_1.out.setRow_far (g' := w.heap.size + 1 + 1) (by have := HLB.out; omega) #[.int .i64 z0, .int .i64 z1, .int .i64 z2, .int .i64 z3])
        have BL_2 := Lib.hid (BL_1.out.setRow_far (g' := w.heap.size + 1 + 1) (by have := HLB.out; omega) #[.int .i64 z0, .int .i64 z1, .int .i64 z2, .int .i64 z3])
        have TR_2 := Lib.hid (TR_1.out.setRow_far (g' := w.heap.size + 1 + 1) (by have := HLB.out; omega) #[.int .i64 z0, .int .i64 z1, .int .i64 z2, .int .i64 z3])
        have E1_2 := Lib.hid (own_setRow E1_1.out R2_1.out (by decide) #[.int .i64 z0, .int .i64 z1, .int .i64 z2, .int .i64 z3])
        have E2_2 := Lib.hid (own_setRow E2_1.out R2_1.out (by decide) #[.int .i64 z0, .int .i64 z1, .int .i64 z2, .int .i64 z3])
        have P1_2 := Lib.hid (own_setRow P1_1.out R2_1.out (by decide) #[.int .i64 z0, .int .i64 z1, .int .i64 z2, .int .i64 z3])
        have P2_2 := Lib.hid (own_setRow P2_1.out R2_1.out (by decide) #[.int .i64 z0, .int .i64 z1, .int .i64 z2, .int .i64 z3])
        have Q1_2 := Lib.hid (own_setRow Q1_1.out R2_1.out (by decide) #[.int .i64 z0, .int .i64 z1, .int .i64 z2, .int .i64 z3])
        have Q2_2 := Lib.hid (own_setRow Q2_1.out R2_1.out (by decide) #[.int .i64 z0, .int .i64 z1, .int .i64 z2, .int .i64 z3])
        have BE_2 := Lib.hid (below_setR BE_1.out (g := w.heap.size + 1 + 1) (by omega) #[.int .i64 z0, .int .i64 z1, .int .i64 z2, .int .i64 z3])
        refine hKZ2.out _ _ (HS16.out _ BX_2.out BL_2.out TR_2.out) (fun _ => ?_)
        refine wpAnyH_ready (rs := [27]) (by kernel_rfl) (by simp) ?_
        refine AllReadyH.cons rfl (fun KZ3 hKZ3 => ?_) AllReadyH.nil
        rw [if_pos (by rfl)]
        refine wp_store_rowN rfl _ _ _ rfl _ _ rfl rfl _ _ R3_2.out (by kernel_rfl) rfl (by kernel_rfl) ?_
        have BX_3 := Lib.hid (BX_2.out.setRow_far (g' := w.heap.size + 1 + 1 + 1) (by have := HLB.out; omega) #[.slice (some ⟨g1, 0, none⟩) T.len c1, .slice (some ⟨g2, 0, none⟩) T.len c2, .slice K' j cd'])
        have R1_3 := Lib.hid (R1_2.out.setRow_far (g' := w.heap.size + 1 + 1 + 1) (by have := HLB.out; omega) #[.slice (some ⟨g1, 0, none⟩) T.len c1, .slice (some ⟨g2, 0, none⟩) T.len c2, .slice K' j cd'])
        have R2_3 := Lib.hid (R2_2.out.setRow_far (g' := w.heap.size + 1 + 1 + 1) (by have := HLB.out; omega) #[.slice (some ⟨g1, 0, none⟩) T.len c1, .slice (some ⟨g2, 0, none⟩) T.len c2, .slice K' j cd'])
        have R3_3 := Lib.hid (R3_2.out.setRow #[.slice (some ⟨g1, 0, none⟩) T.len c1, .slice (some ⟨g2, 0, none⟩) T.len c2, .slice K' j cd'])
        have BL_3 := Lib.hid (BL_2.out.setRow_far (g' := w.heap.size + 1 + 1 + 1) (by have := HLB.out; omega) #[.slice (some ⟨g1, 0, none⟩) T.len c1, .slice (some ⟨g2, 0, none⟩) T.len c2, .slice K' j cd'])
        have TR_3 := Lib.hid (TR_2.out.setRow_far (g' := w.heap.size + 1 + 1 + 1) (by have := HLB.out; omega) #[.slice (some ⟨g1, 0, none⟩) T.len c1, .slice (some ⟨g2, 0, none⟩) T.len c2, .slice K' j cd'])
        have E1_3 := Lib.hid (own_setRow E1_2.out R3_2.out (by decide) #[.slice (some ⟨g1, 0, none⟩) T.len c1, .slice (some ⟨g2, 0, none⟩) T.len c2, .slice K' j cd'])
        have E2_3 := Lib.hid (own_setRow E2_2.out R3_2.out (by decide) #[.slice (some ⟨g1, 0, none⟩) T.len c1, .slice (some ⟨g2, 0, none⟩) T.len c2, .slice K' j cd'])
        have P1_3 := Lib.hid (own_setRow P1_2.out R3_2.out (by decide) #[.slice (some ⟨g1, 0, none⟩) T.len c1, .slice (some ⟨g2, 0, none⟩) T.len c2, .slice K' j cd'])
        have P2_3 := Lib.hid (own_setRow P2_2.out R3_2.out (by decide) #[.slice (some ⟨g1, 0, none⟩) T.len c1, .slice (some ⟨g2, 0, none⟩) T.len c2, .slice K' j cd'])
        have Q1_3 := Lib.hid (own_setRow Q1_2.out R3_2.out (by decide) #[.slice (some ⟨g1, 0, none⟩) T.len c1, .slice (some ⟨g2, 0, none⟩) T.len c2, .slice K' j cd'])
        have Q2_3 := Lib.hid (own_setRow Q2_2.out R3_2.out (by decide) #[.slice (some ⟨g1, 0, none⟩) T.len c1, .slice (some ⟨g2, 0, none⟩) T.len c2, .slice K' j cd'])
        have BE_3 := Lib.hid (below_setR BE_2.out (g := w.heap.size + 1 + 1 + 1) (by omega) #[.slice (some ⟨g1, 0, none⟩) T.len c1, .slice (some ⟨g2, 0, none⟩) T.len c2, .slice K' j cd'])
        refine hKZ3.out _ _ (HS16.out _ BX_3.out BL_3.out TR_3.out) (fun _ => ?_)
        refine wpAnyH_done (by kernel_rfl) ?_ _
        go_wp2_with fail
        exact bodyPost_ret (results_ccc rfl _ _ _ _ _ _ _ _ _ rfl (run_loadVar_row _ _ _ _ _ (0, 0) _ R1_3.out Try.underlying25 rfl (by kernel_rfl)) rfl (run_loadVar_row _ _ _ _ _ (0, 0) _ R2_3.out Try.underlying37 rfl (by kernel_rfl)) rfl (run_loadVar_row _ _ _ _ _ (0, 0) _ R3_3.out Try.underlying86 rfl (by kernel_rfl))) rfl
          ⟨A, A', K, K', ca, ca', cd, cd', j, g1, g2, c1, c2, by rw [← HZ0.out, ← HZ1.out, ← HZ2.out, ← HZ3.out]; rfl, hjm2.out, P1_3.out, P2_3.out, SEP.out, Q1_3.out, Q2_3.out, E1_3.out, E2_3.out, S12.out, BE_3.out⟩
theorem tusk_blade (T : Tk) (w : World) (h : T.At w) : Calls Try.prog 51 #[T.val] w (TuskRes w T) := (blade_cut T w (Lib.hid h)).2 (blade_two T w (Lib.hid h))
end Go.Proofs.Ytiflhimmieflpaa
