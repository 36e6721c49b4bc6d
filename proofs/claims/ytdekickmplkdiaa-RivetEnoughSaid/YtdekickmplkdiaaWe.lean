/- Walks: the law of what is enough: its arcs. -/
import Derived.Test.YtdekickmplkdiaaWc
namespace Go.Proofs.Ytdekickmplkdiaa
open Go.RowKit

set_option maxRecDepth 100000 in
set_option maxHeartbeats 8000000 in
noncomputable def enough_2 (x : Fo) (wish b0 b1 : Int) (w : World) (h0 : Hid (x.At w)) (hw0 : Hid (0 ≤ wish ∧ wish ≤ 65535)) (hc0 : Hid (Byte b0)) (hc1 : Hid (Byte b1)) : PSigma fun G : Prop => Lk G → Lk (enough_1 x wish b0 b1 w h0 hw0 hc0 hc1).1 := by
  apply PSigma.mk
  case snd =>
    intro kG
    refine ⟨?_⟩
    intro hb0 hb1 i0 hi hz0 hz1 hz2 HK n hn12 ww d hdd wd wb0 wb1 R R2 Q Q2 V V2 sn se pn pe HP3 wg wt we HW3 HSP HND fw HWN fa fb fc fd gs HCF HOP HPL HWI HGB HRM HPS HPZ HPA HPN HLF HOW HWL y0 zz0 w1 A c v FG FY FW g FB w2 A2 c2 zz1 u46 u47 u48 u49 u50 u51 u52 u53 u54 u55 u56 u57 u58 u59 u60 u61 u62 u63 u64 u65 u66 u67 u68 u69 u70 u71 u72 zz2 zz3 wc u6 u11 u12 u13 u14 u15 u16 u74 u75 u76 u77 u78 u79 u80 u81 u82 u83 u84 u85 u86 u87 u88 u89 u90 u91 u92 u93 u94 u95 u96 u97 u98 u99 u100 u101 u102 u103 u104 u105 u106 u107 u108 u109 u110 u111 u112 u113 u114 u115 u116 u117 u118 u119 u120 u121 u122 u123 u124 u125 u126 u127 u128 u129 u130 u131 u132 u133 B4
    have p4 := fan5_get (blk_keep B4.out FB.out)
    go_wp2_with fail
    refine (HCF.out _ _ _ (FG.out.below B4.out)).mono ?_
    rintro e w5 ⟨A5, c5, rfl, hO, _, b5⟩
    have G5 := Lib.hid hO.1
    have B5 := Lib.hid (below_then B4.out b5)
    clear hO b5 p4 B4
    go_wp2_with fail
    refine (HPL.out _ _ _ G5.out).mono ?_
    rintro e w6 ⟨rfl, b6⟩
    have B6 := Lib.hid (below_then B5.out b6)
    clear b6 B5 G5 HPL
    go_upto_region 21 with fail
    go_cut [162] from 141 to 162 (fun s W => s = .bool false ∧ W = w6)
    case first =>
      rcases HP3.out with ⟨rfl, rfl, _⟩ | ⟨k, hk, rfl, rfl, _⟩
      · go_wp2_with fail
        go_meet
        exact ⟨rfl, rfl⟩
      · have hq1 : ¬ ((k : Int) < 0) := by omega
        have hq2 : ¬ ((k : Int) > 1000) := by omega
        have hq2' : ¬ ((1000 : Int) < (k : Int)) := by omega
        go_wp2_with fail
        go_meet
        exact ⟨rfl, rfl⟩
    case rest =>
      obtain ⟨rfl, rfl⟩ := hcut
      go_upto_block 4 with fail
      go_cut [6, 19, 20, 21, 22, 23, 24] from 163 to 213 (fun _ _ _ _ _ _ _ W => Below v.heap.size v W)
      case first =>
        rcases HP3.out with ⟨z1, rfl, z2⟩ | ⟨K, hK, z1, rfl, z2, z3⟩
        · clear HP3
          have hsn : Hid (pn = 0) := z1
          clear z1
          go_wp2_with fail
          go_loopw [19] (fun i wr => ∃ k : Nat, k ≤ 2 ∧ i = .int .i64 k ∧ Below v.heap.size v wr) (fun i _ => 2 - (intOf i).toNat)
          case atStart => exact ⟨0, Nat.zero_le _, rfl, B6.out⟩
          case round =>
            obtain ⟨k, hk, rfl, hBk⟩ := hrel
            have Bk := Lib.hid hBk
            clear hBk B6
            by_cases hlt : k < 2
            · obtain ⟨G, hG0, hG1⟩ : ∃ G : Int, (k = 0 → G = pn - 1) ∧ (k = 1 → G = pn) := by
                rcases (by omega : k = 0 ∨ k = 1) with h | h
                · exact ⟨_, fun _ => rfl, fun e => by omega⟩
                · exact ⟨_, fun e => by omega, fun _ => rfl⟩
              have hrun : ∀ W : World, (Instr.index 101 (.agg #[Value.int .i64 (pn - 1), .int .i64 (pn)]) (.int .i64 (k : Int))).run Try.prog W = .ok (.int .i64 G) W := fun W => by
                rcases (by omega : k = 0 ∨ k = 1) with h | h
                · rw [show (k : Int) = 0 by omega, show G = pn - 1 from hG0 h]; kernel_rfl
                · rw [show (k : Int) = 1 by omega, show G = pn from hG1 h]; kernel_rfl
              have ws1 : IntKind.i64.wrap (pn - 1) = pn - 1 := IntWalk.i64_in _ (by have := hsn.out; omega)
              have hkk : ((k : Int) == 1) = true ∨ ((k : Int) == 1) = false := by cases ((k : Int) == 1) <;> simp
              clear hG0 hG1
              obtain ⟨m, hm⟩ : ∃ m : Nat, m = 1000 := ⟨_, rfl⟩
              have hmz : (1000 : Int) = (m : Int) := by omega
              have h40 : Hid (Q m < d) := by unfold Hid; rw [hm]; exact z2
              have hm1 : Hid (m ≤ 1000) := Nat.le_of_eq hm
              have hmz := Lib.hid hmz
              have hm0 := Lib.hid (show ¬ (m : Int) < 0 by omega)
              clear z2 hm
              go_upto_region 29 with fail
              rw [hmz.out]
              clear hmz
              have hm0 := hm0.out
              have p12 := fan5_get (blk_keep Bk.out FB.out)
              go_wp2_with fail
              refine (HCF.out _ _ _ (FG.out.below Bk.out)).mono ?_
              rintro e w7 ⟨A7, c7, rfl, hO, hc, b7⟩
              have Q7 := Lib.hid (PO.start (f := ⟨fa, fb, fc, fd, gs⟩) (c := c7) (hO.less Bk.out.size) (below_then Bk.out b7))
              clear hO hc b7 p12 Bk
              simp only [fanA] at Q7
              go_wp2_with fail
              generalize hWt : w7.alloc (.cells #[.int .i64 fa, .int .i64 fb, .int .i64 fc, .int .i64 fd, .slice A7 n c7] 26) = wt at *
              generalize w7.heap.size = t at *
              clear hWt
              have Q7 : Hid (PO v wt ⟨fa, fb, fc, fd, gs⟩ A7 n c7 t (plL (m : Int) 0 gs)) := by unfold Hid; rw [HPZ.out]; exact Q7.out
              go_wp2_with fail
              go_loopw [22] (fun i wr => ∃ j : Nat, j ≤ n ∧ i = .int .i64 j ∧ PO v wr ⟨fa, fb, fc, fd, gs⟩ A7 n c7 t (plL (m : Int) j gs)) (fun i _ => n - (intOf i).toNat)
              case atStart => exact ⟨0, Nat.zero_le _, rfl, Q7.out⟩
              case round =>
                obtain ⟨j, hj, rfl, hq⟩ := hrel
                have QJ := Lib.hid hq
                clear hq Q7
                by_cases hjn : j < n
                · obtain ⟨r, rfl, _, _⟩ := QJ.out.o.2 (by omega)
                  have hn0 : 0 < n := by omega
                  have p32 := fan5_get QJ.out.bx
                  go_wp2_with fail
                  clear p32
                  refine wp_region_untl (S := S34 t (.slice (some ⟨r, 0, none⟩) n c7)) [8] (by kernel_rfl) (show S34 t (.slice (some ⟨r, 0, none⟩) n c7) _ from ⟨QJ.out.bx.cell 4, trivial⟩) (fun s5 => ?_)
                  have Q5 := Lib.hid (QJ.out.below (Below.refl _ _).drew)
                  clear QJ
                  generalize wr.drew = v5 at *
                  refine untlTake (i := 0) 186 (v := ?v15) rfl (by kernel_rfl) (by kernel_rfl) (by kernel_rfl) (by kernel_rfl) (by kernel_rfl) (by kernel_rfl) (fun _ _ _ h => h) (Or.inl ⟨by kernel_rfl, ?y15⟩) (by assumption) ?r15
                  case y15 => (intro w hSw; obtain ⟨g0, _⟩ := hSw; go_simp; try with_reducible rfl)
                  refine untlTake (i := 1) 187 (v := ?v16) rfl (by kernel_rfl) (by kernel_rfl) (by kernel_rfl) (by kernel_rfl) (by kernel_rfl) (by kernel_rfl) (fun _ _ _ h => h) (Or.inl ⟨by kernel_rfl, ?y16⟩) (by assumption) ?r16
                  case y16 => (intro w hSw; obtain ⟨g0, _⟩ := hSw; go_simp; try with_reducible rfl)
                  refine untlTake (i := 2) 188 (v := ?v17) rfl (by kernel_rfl) (by kernel_rfl) (by kernel_rfl) (by kernel_rfl) (by kernel_rfl) (by kernel_rfl) (fun _ _ _ h => h) (Or.inl ⟨by kernel_rfl, ?y17⟩) (by assumption) ?r17
                  case y17 => (intro w hSw; obtain ⟨g0, _⟩ := hSw; go_simp; try with_reducible rfl)
                  refine untlTake (i := 3) 189 (v := ?v18) rfl (by kernel_rfl) (by kernel_rfl) (by kernel_rfl) (by kernel_rfl) (by kernel_rfl) (by kernel_rfl) (fun _ _ _ h => h) (Or.inl ⟨by kernel_rfl, ?y18⟩) (by assumption) ?r18
                  case y18 => (intro w hSw; obtain ⟨g0, _⟩ := hSw; go_simp; try with_reducible rfl)
                  refine untlTake (i := 4) 190 (v := ?v19) rfl (by kernel_rfl) (by kernel_rfl) (by kernel_rfl) (by kernel_rfl) (by kernel_rfl) (by kernel_rfl) (fun _ _ _ h => h) (Or.inl ⟨by kernel_rfl, ?y19⟩) (by assumption) ?r19
                  case y19 => (intro w hSw; obtain ⟨g0, _⟩ := hSw; go_simp; try with_reducible rfl)
                  simp only [Act.put, List.setIfInBounds_toArray, List.set_cons_zero, List.set_cons_succ]
                  refine untlStep (i := 5) (by kernel_rfl) rfl (fun K5 hK5 => ?_)
                  rw [if_pos (by rfl)]
                  go_simp
                  refine (HSP.out _ _ _).mono ?_
                  rintro e v6 ⟨rfl, b6⟩
                  have Q6 := Lib.hid (Q5.out.below b6)
                  have s6 : S34 t (.slice (some ⟨r, 0, none⟩) n c7) v6 := ⟨Q6.out.bx.cell 4, trivial⟩
                  clear b6 Q5 s5
                  refine hK5.out _ _ (.inr s6) ?_
                  refine untlTake (i := 6) 192 (v := ?v20) rfl (by kernel_rfl) (by kernel_rfl) (by kernel_rfl) (by kernel_rfl) (by kernel_rfl) (by kernel_rfl) (fun _ _ _ h => h) (Or.inl ⟨by kernel_rfl, ?y20⟩) (by assumption) ?r20
                  case y20 => (intro w hSw; obtain ⟨g0, _⟩ := hSw; go_simp; try with_reducible rfl)
                  refine untlTake (i := 7) 193 (v := ?v21) rfl (by kernel_rfl) (by kernel_rfl) (by kernel_rfl) (by kernel_rfl) (by kernel_rfl) (by kernel_rfl) (fun _ _ _ h => h) (Or.inl ⟨by kernel_rfl, ?y21⟩) (by assumption) ?r21
                  case y21 => (intro w hSw; obtain ⟨g0, _⟩ := hSw; go_simp; try with_reducible rfl)
                  simp only [Act.put, List.setIfInBounds_toArray, List.set_cons_zero, List.set_cons_succ]
                  refine untlStep (i := 8) (by kernel_rfl) rfl (fun K8 hK8 => ?_)
                  rw [if_pos (by rfl)]
                  have hR6 := Q6.out.row hn0
                  have x0 := hR6.cell (List.getElem?_eq_getElem (show j * 4 < (flatG (plL (m : Int) j gs)).length from by rw [flatG_length, HPN.out]; omega))
                  have x1 := hR6.cell (List.getElem?_eq_getElem (show j * 4 + 1 < (flatG (plL (m : Int) j gs)).length from by rw [flatG_length, HPN.out]; omega))
                  have z0 := hR6.frozen (j * 4)
                  have z1 := hR6.frozen (j * 4 + 1)
                  clear hR6
                  generalize (flatG (plL (m : Int) j gs))[j * 4]'(by rw [flatG_length, HPN.out]; omega) = y0 at x0
                  generalize (flatG (plL (m : Int) j gs))[j * 4 + 1]'(by rw [flatG_length, HPN.out]; omega) = y1 at x1
                  go_simp
                  refine hK8.out _ _ (.inl (by decide)) ?_
                  refine untlDone (by kernel_rfl) ?_ _
                  have Q9 := Lib.hid (Q6.out.leaf hn0 (j := j) (u := .int .i64 (m : Int)) (by rw [flatG_length, HPN.out]; omega) (HPS.out _ j hjn) (HPN.out _ _))
                  clear Q6 s6 x0 x1 z0 z1
                  go_wp2_with fail
                  go_roundw
                  case rel => exact ⟨j + 1, by omega, by go_num, Q9.out⟩
                  case measure => simp [intOf]; omega
                · obtain rfl : j = n := by omega
                  have hG := QJ.out.o.1
                  rw [HPA.out] at hG
                  have CO := Lib.hid (HOP.out m hm1.out A7 c7 wr hG)
                  have p32 := fan5_get QJ.out.bx
                  clear hG
                  go_wp2_with fail
                  refine CO.out.mono ?_
                  rintro e w17 ⟨rfl, b17⟩
                  have B17 := Lib.hid (below_then (below_then QJ.out.b b17) (below_self w17 (.cells #[.int .i64 (Q m), .int .i64 (Q2 m)] 23)))
                  clear b17 QJ p32 CO
                  have s17 := span2_get (Blk.new w17 23 #[.int .i64 (Q m), .int .i64 (Q2 m)] rfl)
                  go_upto_region 36 with fail
                  have hge : ¬ Q m ≥ d := by have := h40.out; omega
                  rcases hkk with hk1 | hk1
                  · go_wp2_with fail
                    go_roundw
                    case rel => exact ⟨k + 1, by omega, by go_num, B17.out⟩
                    case measure => simp [intOf]; omega
                  · go_wp2_with fail
                    go_roundw
                    case rel => exact ⟨k + 1, by omega, by go_num, B17.out⟩
                    case measure => simp [intOf]; omega
            · obtain rfl : k = 2 := by omega
              go_wp2_with fail
              go_meet
              exact Bk.out
        · clear HP3
          have HZ1 := Lib.hid z1
          have HZ2 := Lib.hid z2
          have HZ3 := Lib.hid z3
          have HKK := Lib.hid hK
          clear z1 z2 z3 hK
          go_wp2_with fail
          go_loopw [19] (fun i wr => ∃ k : Nat, k ≤ 2 ∧ i = .int .i64 k ∧ Below v.heap.size v wr) (fun i _ => 2 - (intOf i).toNat)
          case atStart => exact ⟨0, Nat.zero_le _, rfl, B6.out⟩
          case round =>
            obtain ⟨k, hk, rfl, hBk⟩ := hrel
            have Bk := Lib.hid hBk
            clear hBk B6
            by_cases hlt : k < 2
            · have z1 := HZ1.out
              have hK := HKK.out
              obtain ⟨G, hG0, hG1⟩ : ∃ G : Int, (k = 0 → G = pn - 1) ∧ (k = 1 → G = pn) := by
                rcases (by omega : k = 0 ∨ k = 1) with h | h
                · exact ⟨_, fun _ => rfl, fun e => by omega⟩
                · exact ⟨_, fun e => by omega, fun _ => rfl⟩
              have hrun : ∀ W : World, (Instr.index 101 (.agg #[Value.int .i64 (pn - 1), .int .i64 (pn)]) (.int .i64 (k : Int))).run Try.prog W = .ok (.int .i64 G) W := fun W => by
                rcases (by omega : k = 0 ∨ k = 1) with h | h
                · rw [show (k : Int) = 0 by omega, show G = pn - 1 from hG0 h]; kernel_rfl
                · rw [show (k : Int) = 1 by omega, show G = pn from hG1 h]; kernel_rfl
              have ws1 : IntKind.i64.wrap (pn - 1) = pn - 1 := IntWalk.i64_in _ (by have := z1; omega)
              by_cases hG : G < 0
              · clear z1 hK
                have hG0 := Lib.hid hG0
                have hG1 := Lib.hid hG1
                go_wp2_with fail
                go_roundw
                case rel => exact ⟨k + 1, by omega, by go_num, Bk.out⟩
                case measure => simp [intOf]; omega
              · obtain ⟨m, rfl⟩ : ∃ m : Nat, G = (m : Int) := ⟨G.toNat, by omega⟩
                have hm1 : m ≤ 1000 := by
                  rcases (by omega : k = 0 ∨ k = 1) with h | h
                  · have := hG0 h; omega
                  · have := hG1 h; omega
                have hR3 : (((k : Int) == 1) = true ∧ k = 1 ∧ Q m ≥ d) ∨ (((k : Int) == 1) = false ∧ k = 0 ∧ ¬ Q m ≥ d) := by
                  rcases (by omega : k = 0 ∨ k = 1) with h | h
                  · refine Or.inr ⟨by simp; omega, h, ?_⟩
                    have := hG0 h
                    have := HZ3.out m (by omega)
                    omega
                  · refine Or.inl ⟨by simp; omega, h, ?_⟩
                    have := hG1 h
                    obtain rfl : m = K := by omega
                    exact HZ2.out
                clear z1 hK hG0 hG1 HZ1 HZ2 HZ3 HKK
                have hm1 := Lib.hid hm1
                have hR3 := Lib.hid hR3
                have p12 := fan5_get (blk_keep Bk.out FB.out)
                go_wp2_with fail
                refine (HCF.out _ _ _ (FG.out.below Bk.out)).mono ?_
                rintro e w7 ⟨A7, c7, rfl, hO, hc, b7⟩
                have Q7 := Lib.hid (PO.start (f := ⟨fa, fb, fc, fd, gs⟩) (c := c7) (hO.less Bk.out.size) (below_then Bk.out b7))
                clear hO hc b7 p12 Bk
                simp only [fanA] at Q7
                go_wp2_with fail
                generalize hWt : w7.alloc (.cells #[.int .i64 fa, .int .i64 fb, .int .i64 fc, .int .i64 fd, .slice A7 n c7] 26) = wt at *
                generalize w7.heap.size = t at *
                clear hWt
                have Q7 : Hid (PO v wt ⟨fa, fb, fc, fd, gs⟩ A7 n c7 t (plL (m : Int) 0 gs)) := by unfold Hid; rw [HPZ.out]; exact Q7.out
                go_wp2_with fail
                go_loopw [22] (fun i wr => ∃ j : Nat, j ≤ n ∧ i = .int .i64 j ∧ PO v wr ⟨fa, fb, fc, fd, gs⟩ A7 n c7 t (plL (m : Int) j gs)) (fun i _ => n - (intOf i).toNat)
                case atStart => exact ⟨0, Nat.zero_le _, rfl, Q7.out⟩
                case round =>
                  obtain ⟨j, hj, rfl, hq⟩ := hrel
                  have QJ := Lib.hid hq
                  clear hq Q7
                  by_cases hjn : j < n
                  · obtain ⟨r, rfl, _, _⟩ := QJ.out.o.2 (by omega)
                    have hn0 : 0 < n := by omega
                    have p32 := fan5_get QJ.out.bx
                    go_wp2_with fail
                    clear p32
                    refine wp_region_untl (S := S34 t (.slice (some ⟨r, 0, none⟩) n c7)) [8] (by kernel_rfl) (show S34 t (.slice (some ⟨r, 0, none⟩) n c7) _ from ⟨QJ.out.bx.cell 4, trivial⟩) (fun s5 => ?_)
                    have Q5 := Lib.hid (QJ.out.below (Below.refl _ _).drew)
                    clear QJ
                    generalize wr.drew = v5 at *
                    refine untlTake (i := 0) 186 (v := ?v22) rfl (by kernel_rfl) (by kernel_rfl) (by kernel_rfl) (by kernel_rfl) (by kernel_rfl) (by kernel_rfl) (fun _ _ _ h => h) (Or.inl ⟨by kernel_rfl, ?y22⟩) (by assumption) ?r22
                    case y22 => (intro w hSw; obtain ⟨g0, _⟩ := hSw; go_simp; try with_reducible rfl)
                    refine untlTake (i := 1) 187 (v := ?v23) rfl (by kernel_rfl) (by kernel_rfl) (by kernel_rfl) (by kernel_rfl) (by kernel_rfl) (by kernel_rfl) (fun _ _ _ h => h) (Or.inl ⟨by kernel_rfl, ?y23⟩) (by assumption) ?r23
                    case y23 => (intro w hSw; obtain ⟨g0, _⟩ := hSw; go_simp; try with_reducible rfl)
                    refine untlTake (i := 2) 188 (v := ?v24) rfl (by kernel_rfl) (by kernel_rfl) (by kernel_rfl) (by kernel_rfl) (by kernel_rfl) (by kernel_rfl) (fun _ _ _ h => h) (Or.inl ⟨by kernel_rfl, ?y24⟩) (by assumption) ?r24
                    case y24 => (intro w hSw; obtain ⟨g0, _⟩ := hSw; go_simp; try with_reducible rfl)
                    refine untlTake (i := 3) 189 (v := ?v25) rfl (by kernel_rfl) (by kernel_rfl) (by kernel_rfl) (by kernel_rfl) (by kernel_rfl) (by kernel_rfl) (fun _ _ _ h => h) (Or.inl ⟨by kernel_rfl, ?y25⟩) (by assumption) ?r25
                    case y25 => (intro w hSw; obtain ⟨g0, _⟩ := hSw; go_simp; try with_reducible rfl)
                    refine untlTake (i := 4) 190 (v := ?v26) rfl (by kernel_rfl) (by kernel_rfl) (by kernel_rfl) (by kernel_rfl) (by kernel_rfl) (by kernel_rfl) (fun _ _ _ h => h) (Or.inl ⟨by kernel_rfl, ?y26⟩) (by assumption) ?r26
                    case y26 => (intro w hSw; obtain ⟨g0, _⟩ := hSw; go_simp; try with_reducible rfl)
                    simp only [Act.put, List.setIfInBounds_toArray, List.set_cons_zero, List.set_cons_succ]
                    refine untlStep (i := 5) (by kernel_rfl) rfl (fun K5 hK5 => ?_)
                    rw [if_pos (by rfl)]
                    go_simp
                    refine (HSP.out _ _ _).mono ?_
                    rintro e v6 ⟨rfl, b6⟩
                    have Q6 := Lib.hid (Q5.out.below b6)
                    have s6 : S34 t (.slice (some ⟨r, 0, none⟩) n c7) v6 := ⟨Q6.out.bx.cell 4, trivial⟩
                    clear b6 Q5 s5
                    refine hK5.out _ _ (.inr s6) ?_
                    refine untlTake (i := 6) 192 (v := ?v27) rfl (by kernel_rfl) (by kernel_rfl) (by kernel_rfl) (by kernel_rfl) (by kernel_rfl) (by kernel_rfl) (fun _ _ _ h => h) (Or.inl ⟨by kernel_rfl, ?y27⟩) (by assumption) ?r27
                    case y27 => (intro w hSw; obtain ⟨g0, _⟩ := hSw; go_simp; try with_reducible rfl)
                    refine untlTake (i := 7) 193 (v := ?v28) rfl (by kernel_rfl) (by kernel_rfl) (by kernel_rfl) (by kernel_rfl) (by kernel_rfl) (by kernel_rfl) (fun _ _ _ h => h) (Or.inl ⟨by kernel_rfl, ?y28⟩) (by assumption) ?r28
                    case y28 => (intro w hSw; obtain ⟨g0, _⟩ := hSw; go_simp; try with_reducible rfl)
                    simp only [Act.put, List.setIfInBounds_toArray, List.set_cons_zero, List.set_cons_succ]
                    refine untlStep (i := 8) (by kernel_rfl) rfl (fun K8 hK8 => ?_)
                    rw [if_pos (by rfl)]
                    have hR6 := Q6.out.row hn0
                    have x0 := hR6.cell (List.getElem?_eq_getElem (show j * 4 < (flatG (plL (m : Int) j gs)).length from by rw [flatG_length, HPN.out]; omega))
                    have x1 := hR6.cell (List.getElem?_eq_getElem (show j * 4 + 1 < (flatG (plL (m : Int) j gs)).length from by rw [flatG_length, HPN.out]; omega))
                    have z0 := hR6.frozen (j * 4)
                    have z1 := hR6.frozen (j * 4 + 1)
                    clear hR6
                    generalize (flatG (plL (m : Int) j gs))[j * 4]'(by rw [flatG_length, HPN.out]; omega) = y0 at x0
                    generalize (flatG (plL (m : Int) j gs))[j * 4 + 1]'(by rw [flatG_length, HPN.out]; omega) = y1 at x1
                    go_simp
                    refine hK8.out _ _ (.inl (by decide)) ?_
                    refine untlDone (by kernel_rfl) ?_ _
                    have Q9 := Lib.hid (Q6.out.leaf hn0 (j := j) (u := .int .i64 (m : Int)) (by rw [flatG_length, HPN.out]; omega) (HPS.out _ j hjn) (HPN.out _ _))
                    clear Q6 s6 x0 x1 z0 z1
                    go_wp2_with fail
                    go_roundw
                    case rel => exact ⟨j + 1, by omega, by go_num, Q9.out⟩
                    case measure => simp [intOf]; omega
                  · obtain rfl : j = n := by omega
                    have hG := QJ.out.o.1
                    rw [HPA.out] at hG
                    have CO := Lib.hid (HOP.out m hm1.out A7 c7 wr hG)
                    have p32 := fan5_get QJ.out.bx
                    clear hG
                    go_wp2_with fail
                    refine CO.out.mono ?_
                    rintro e w17 ⟨rfl, b17⟩
                    have B17 := Lib.hid (below_then (below_then QJ.out.b b17) (below_self w17 (.cells #[.int .i64 (Q m), .int .i64 (Q2 m)] 23)))
                    clear b17 QJ p32 CO
                    have s17 := span2_get (Blk.new w17 23 #[.int .i64 (Q m), .int .i64 (Q2 m)] rfl)
                    go_upto_region 36 with fail
                    rcases hR3.out with ⟨hk1, hk2, hge⟩ | ⟨hk1, hk2, hge⟩
                    · go_wp2_with fail
                      go_roundw
                      case rel => exact ⟨k + 1, by omega, by go_num, B17.out⟩
                      case measure => simp [intOf]; omega
                    · go_wp2_with fail
                      go_roundw
                      case rel => exact ⟨k + 1, by omega, by go_num, B17.out⟩
                      case measure => simp [intOf]; omega
            · obtain rfl : k = 2 := by omega
              go_wp2_with fail
              go_meet
              exact Bk.out
      case rest =>
        have B7 := Lib.hid hcut
        clear hcut B6 HP3 HOP HPS HPZ HPA HPN
        rename_i zy0 zy1 zy2 zy3 zy4 zy5
        revert hb0 hb1 i0 hi hz0 hz1 hz2 HK n hn12 ww d hdd wd wb0 wb1 R R2 Q Q2 V V2 sn se pn pe wg wt we HW3 HSP HND fw HWN fa fb fc fd gs HCF HWI HGB HRM HLF HOW HWL y0 zz0 w1 A c v FG FY FW g FB w2 A2 c2 zz1 u46 u47 u48 u49 u50 u51 u52 u53 u54 u55 u56 u57 u58 u59 u60 u61 u62 u63 u64 u65 u66 u67 u68 u69 u70 u71 u72 zy0 zy1 u11 u12 u13 u14 u15 u16 u74 u75 u76 u77 u78 u79 u80 u81 u82 u83 u84 u85 u86 u87 u88 u89 u90 u91 u92 u93 u94 u95 u96 u97 u98 u99 u100 u101 u102 u103 u104 u105 u106 u107 u108 u109 u110 u111 u112 u113 u114 u115 u116 u117 u118 u119 u120 u121 u122 u123 u124 u125 u126 u127 u128 u129 u130 u131 u132 u133 w5 A5 c5 zy2 zy3 u141 u142 u143 u144 u145 u146 u147 u148 u149 u150 u151 u152 u153 u154 u155 u156 u157 u158 u159 u160 u161 zy4 zy5 wc u6 u19 u20 u21 u22 u23 u24 u163 u164 u165 u166 u167 u168 u169 u170 u171 u172 u173 u174 u175 u176 u177 u178 u179 u180 u181 u182 u183 u184 u185 u186 u187 u188 u189 u190 u191 u192 u193 u194 u195 u196 u197 u198 u199 u200 u201 u202 u203 u204 u205 u206 u207 u208 u209 u210 u211 u212 u213 B7
        exact kG.out
end Go.Proofs.Ytdekickmplkdiaa
