/- Walks: the law ToothCurves. -/
import Derived.Test.YtiflhimmieflpaaM6
namespace Go.Proofs.Ytiflhimmieflpaa
open Go.RowKit Go.Maps

/-- The law's answer: true, and nothing that was there has changed. -/
def Yes (w : World) (e : Ending) (w' : World) : Prop := e = .returned (.bool true) ∧ Below w.heap.size w w'
theorem Bl.Like.cerr {B B' : Bl} (h : B.Like B') : B'.cerr = B.cerr := by unfold Bl.cerr; rw [h.n, h.n', h.m, h.bend, h.bot, h.top, h.cr]
theorem cerr_bent {B : Bl} (h : B.cerr = 0) : bentOk B.bot B.bend = true ∧ bentOk B.top B.bend = true := by
  unfold Bl.cerr curveErr at h
  split at h
  · omega
  split at h
  · omega
  split at h
  · omega
  split at h
  · omega
  split at h
  · omega
  split at h
  · omega
  split at h
  · omega
  rename_i h1 h2
  exact ⟨by simpa using h1, by simpa using h2⟩
theorem RefCurve_ok (A : Option Addr) (n c : Nat) (xs : List (Int × Int)) (bend : Int) (w : World) (h : Pairs w A n xs) (hn : n ≤ 1000) (hx : ∀ s ∈ xs, InR s) (b0 : 0 ≤ bend) (b3 : bend ≤ 300) (hok : bentOk xs bend = true) :
    Calls Try.prog 25 #[.slice A n c, .int .i64 bend] w fun e w' => ∃ TA tc, e = .returned (.slice TA n tc) ∧ NR w.heap.size w' 2 TA n (flat2 (bentL xs bend)) ∧ Below w.heap.size w w' := by
  refine (RefCurve_any A n c xs bend w h hn hx b0 b3).mono ?_
  rintro e w2 ⟨tv, rfl, hown, b2⟩
  have hl : (refCurveL xs bend).length = n := by rw [refCurve_ok hx b0 hok, bentL_length, h.len]
  rw [hl] at hown
  obtain ⟨TA, tc, rfl⟩ := own_slice0 hown
  rw [refCurve_ok hx b0 hok] at hown
  exact ⟨TA, tc, rfl, reads_of_own hown, b2⟩
theorem Curve_top (B : Bl) (w : World) (h : B.At w) : Calls Try.prog 21 #[B.val] w (CurveOut w B.n B.n' B.m B.bend B.bot B.top B.cr) :=
  Curve_any B.A B.A' B.K B.n B.c B.n' B.c' B.m B.d B.bend B.bot B.top B.cr w h.hb h.ht h.hk h.n1 h.n2 h.n3
theorem Check_top (B : Bl) (w : World) (h : B.At w) : Calls Try.prog 20 #[B.val] w fun e w' => e = .returned (.int .i64 B.cerr) ∧ Below w.heap.size w w' :=
  check_any B.A B.A' B.K B.n B.c B.n' B.c' B.m B.d B.bend B.bot B.top B.cr w h.hb h.ht h.hk h.n1 h.n2 h.n3
abbrev Bl.cells (B : Bl) : Array Value := #[.slice B.A B.n B.c, .slice B.A' B.n' B.c', .int .i64 B.bend, .slice B.K B.m B.d]

set_option maxRecDepth 100000 in
set_option maxHeartbeats 4000000 in
theorem ToothCurves_any (B : Bl) (w : World) (h : B.At w) : Calls Try.prog 3 #[B.val] w (Yes w) := by
  have B0 := Lib.hid (below_self w (.cells #[.slice B.A B.n B.c, .slice B.A' B.n' B.c', .int .i64 B.bend, .slice B.K B.m B.d] 25))
  have S0 := Lib.hid (Blk.new w 25 #[.slice B.A B.n B.c, .slice B.A' B.n' B.c', .int .i64 B.bend, .slice B.K B.m B.d] rfl)
  have H := Lib.hid h
  have HLG := Lib.hid (large_any B (w.alloc (.cells #[.slice B.A B.n B.c, .slice B.A' B.n' B.c', .int .i64 B.bend, .slice B.K B.m B.d] 25)))
  have HKN := Lib.hid (fun W => known_any W)
  clear h
  unfold Bl.val at *
  go_enter Try.func3, Try.ntmps3
  go_wp2_with fail
  refine HLG.out.mono ?_
  rintro e w1 ⟨rfl, b1⟩
  have D1 := Lib.hid (below_then B0.out b1)
  have S1 := Lib.hid (blk_keep b1 S0.out)
  have s1 := S1.out.cell
  clear b1 HLG S0
  cases hlg : largeB B.n B.n' B.m
  case true =>
    clear hlg
    go_wp2_with fail
    refine (HKN.out _).mono ?_
    rintro e w2 ⟨rfl, b2⟩
    have D2 := Lib.hid (below_then D1.out b2)
    clear b2
    go_wp2
    go_ret
    exact ⟨rfl, D2.out⟩
  obtain ⟨l1, l2, l3⟩ := large_no hlg
  clear hlg
  have HCP := Lib.hid (RefCopy_any B _ (H.out.below D1.out) (by omega) (by omega) (by omega))
  unfold Bl.val at HCP
  go_wp2_with fail
  refine HCP.out.mono ?_
  rintro e w2 ⟨B', rfl, hlike, hat, b2⟩
  have D2 := Lib.hid (below_then D1.out b2)
  have S2 := Lib.hid (blk_keep b2 S1.out)
  have HL := Lib.hid hlike
  have HA := Lib.hid hat
  clear b2 HCP hlike hat s1
  have E2 := Lib.hid (below_self w2 (.cells #[.slice B'.A B'.n B'.c, .slice B'.A' B'.n' B'.c', .int .i64 B'.bend, .slice B'.K B'.m B'.d] 25))
  have X2 := Lib.hid (Blk.new w2 25 #[.slice B'.A B'.n B'.c, .slice B'.A' B'.n' B'.c', .int .i64 B'.bend, .slice B'.K B'.m B'.d] rfl)
  have S2a := Lib.hid (S2.out.alloc (.cells #[.slice B'.A B'.n B'.c, .slice B'.A' B'.n' B'.c', .int .i64 B'.bend, .slice B'.K B'.m B'.d] 25))
  have D2a := Lib.hid (below_then D2.out E2.out)
  have HCK := Lib.hid (Check_top B' _ (HA.out.below E2.out))
  have HCV := Lib.hid (fun W (hb : Below w2.heap.size w2 W) => Curve_top B' W (HA.out.below hb))
  have HRC := Lib.hid (fun W (hb : Below w.heap.size w W) => RefCheck_any B W (H.out.below hb) (by omega) (by omega) (by omega))
  have HSM := Lib.hid (fun W (hb : Below w2.heap.size w2 W) (hb2 : Below w.heap.size w W) => RefSame_any B B' W (H.out.below hb2) (HA.out.below hb) HL.out)
  rw [HL.out.cerr] at HCK
  unfold CurveOut at HCV
  rw [HL.out.n, HL.out.n', HL.out.m, HL.out.bend, HL.out.bot, HL.out.top, HL.out.cr] at HCV
  have HCE : Hid (curveErr B.n B.n' B.m B.bend B.bot B.top B.cr = B.cerr) := rfl
  rw [HCE.out] at HCV
  clear HCE
  unfold Bl.val at *
  go_wp2_with fail
  refine HCK.out.mono ?_
  rintro e w3 ⟨rfl, b3⟩
  have E3 := Lib.hid (below_then E2.out b3)
  have D3 := Lib.hid (below_then D2a.out b3)
  have S3 := Lib.hid (blk_keep b3 S2a.out)
  have X3 := Lib.hid (blk_keep b3 X2.out)
  have s3 := S3.out.cell
  have x3 := X3.out.cell
  have HCV3 := Lib.hid (HCV.out _ E3.out)
  clear b3 E2 S2 S2a X2 D2 D2a HCK HCV
  go_wp2_with fail
  refine HCV3.out.mono ?_
  rintro e w4 ⟨b4, hcv⟩
  have E4 := Lib.hid (below_then E3.out b4)
  have D4 := Lib.hid (below_then D3.out b4)
  have S4 := Lib.hid (blk_keep b4 S3.out)
  have X4 := Lib.hid (blk_keep b4 X3.out)
  have HRC4 := Lib.hid (HRC.out _ D4.out)
  clear b4 s3 x3 E3 D3 S3 X3 HCV3 HRC
  have s4 := S4.out.cell
  have x4 := X4.out.cell
  rcases hcv with ⟨herr, rfl⟩ | ⟨hok, g, cap, g', cap', rfl, P, P'⟩
  · have hz : (B.cerr == 0) = false := by simpa using herr
    have hz2 : (B.cerr != 0) = true := by simpa using herr
    have hz3 : (B.cerr != B.cerr) = false := by simp
    generalize B.cerr = E at *
    clear herr
    go_wp2_with fail
    refine HRC4.out.mono ?_
    rintro e w5 ⟨rfl, b5⟩
    have E5 := Lib.hid (below_then E4.out b5)
    have D5 := Lib.hid (below_then D4.out b5)
    have S5 := Lib.hid (blk_keep b5 S4.out)
    have X5 := Lib.hid (blk_keep b5 X4.out)
    have s5 := S5.out.cell
    have x5 := X5.out.cell
    have HSM5 := Lib.hid (HSM.out _ E5.out D5.out)
    clear b5 s4 x4 E4 D4 S4 X4 HRC4 HSM
    go_wp2_with fail
    refine HSM5.out.mono ?_
    rintro e w6 ⟨rfl, b6⟩
    have D6 := Lib.hid (below_then D5.out b6)
    clear b6 s5 x5
    go_wp2_with fail
    refine (HKN.out _).mono ?_
    rintro e w7 ⟨rfl, b7⟩
    have D7 := Lib.hid (below_then D6.out b7)
    clear b7
    go_wp2
    go_ret
    exact ⟨rfl, D7.out⟩
  · have Hok := Lib.hid hok
    rw [hok] at HRC4
    have hBO := curveErr_ok hok
    have HBO := Lib.hid hBO
    have HBE := Lib.hid (cerr_bent hok)
    have HP := Lib.hid P
    have HP' := Lib.hid P'
    rw [hok]
    clear hok P P' hBO
    go_wp2_with fail
    refine HRC4.out.mono ?_
    rintro e w5 ⟨rfl, b5⟩
    have E5 := Lib.hid (below_then E4.out b5)
    have D5 := Lib.hid (below_then D4.out b5)
    have S5 := Lib.hid (blk_keep b5 S4.out)
    have X5 := Lib.hid (blk_keep b5 X4.out)
    have s5 := S5.out.cell
    have x5 := X5.out.cell
    have HSM5 := Lib.hid (HSM.out _ E5.out D5.out)
    have P5 := Lib.hid (Reads.below HP.out b5)
    have P5' := Lib.hid (Reads.below HP'.out b5)
    clear b5 s4 x4 E4 D4 S4 X4 HRC4 HSM HP HP'
    go_wp2_with fail
    refine HSM5.out.mono ?_
    rintro e w6 ⟨rfl, b6⟩
    have D6 := Lib.hid (below_then D5.out b6)
    have S6 := Lib.hid (blk_keep b6 S5.out)
    have s6 := S6.out.cell
    have P6 := Lib.hid (Reads.below P5.out b6)
    have P6' := Lib.hid (Reads.below P5'.out b6)
    have HC1 := Lib.hid (RefCurve_ok B.A B.n B.c B.bot B.bend w6 (H.out.hb.below D6.out) (by omega) HBO.out.bot HBO.out.b0 HBO.out.b3 HBE.out.1)
    clear b6 s5 x5 S5 X5 E5 D5 P5 P5' HSM5
    go_wp2_with fail
    refine HC1.out.mono ?_
    rintro e w7 ⟨TA, tc, rfl, hT, b7⟩
    have D7 := Lib.hid (below_then D6.out b7)
    have S7 := Lib.hid (blk_keep b7 S6.out)
    have s7 := S7.out.cell
    have P7' := Lib.hid (Reads.below P6'.out b7)
    have HQ1 := Lib.hid (RefSpans_eq _ TA B.n cap tc _ _ (Reads.below P6.out b7) hT.r H.out.n1)
    clear b7 s6 hT S6 D6 P6 P6' HC1
    go_wp2_with fail
    refine HQ1.out.mono ?_
    rintro e w8 ⟨rfl, b8⟩
    have D8 := Lib.hid (below_then D7.out b8)
    have S8 := Lib.hid (blk_keep b8 S7.out)
    have s8 := S8.out.cell
    have P8' := Lib.hid (Reads.below P7'.out b8)
    have HC2 := Lib.hid (RefCurve_ok B.A' B.n' B.c' B.top B.bend w8 (H.out.ht.below D8.out) (by omega) HBO.out.top HBO.out.b0 HBO.out.b3 HBE.out.2)
    have hnn := HBO.out.nn
    have HNN := Lib.hid hnn
    clear b8 s7 S7 D7 P7' HQ1 hnn
    go_wp2_with fail
    refine HC2.out.mono ?_
    rintro e w9 ⟨TB, td, rfl, hT, b9⟩
    have D9 := Lib.hid (below_then D8.out b9)
    rw [HNN.out] at hT
    have HQ2 : Hid (Calls Try.prog 24 #[.slice (some ⟨g', 0, none⟩) B.n cap', .slice TB B.n' td] w9 fun e w' => e = .returned (.bool true) ∧ Below w9.heap.size w9 w') := by
      unfold Hid; rw [HNN.out]; exact RefSpans_eq _ TB B.n cap' td _ _ (Reads.below P8'.out b9) hT.r H.out.n1
    clear b9 s8 hT S8 D8 P8' HC2
    go_wp2_with fail
    refine HQ2.out.mono ?_
    rintro e wa ⟨rfl, ba⟩
    have Da := Lib.hid (below_then D9.out ba)
    clear ba HQ2
    go_wp2_with fail
    refine (HKN.out _).mono ?_
    rintro e wb ⟨rfl, bb⟩
    have Db := Lib.hid (below_then Da.out bb)
    clear bb
    go_wp2
    go_ret
    exact ⟨rfl, Db.out⟩
end Go.Proofs.Ytiflhimmieflpaa
