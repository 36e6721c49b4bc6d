/- Walks: the reference's Block. -/
import Derived.Test.YtiflhimmieflpaaW44
import Derived.StillTailTactics
namespace Go.Proofs.Ytiflhimmieflpaa
open Go.RowKit Go.Maps

def fineV (V : Vw) (s : Sw) (x : Nat) (y : Nat) : Bool := soundV V s x y
def stV (s : Sw) : Nat := s.wide.toNat + s.kerf.toNat
def refBlockL (V : Vw) (s : Sw) (x : Nat) : List Int := (gl (fineV V s x) (stV s) 0).map fun y : Nat => (y : Int)
def OwnInts (w : World) (xs : List Int) (e : Ending) (w' : World) : Prop := ∃ v, e = .returned v ∧ w'.ownsRow w.heap.size 3 1 v xs.length (xs.map (Value.int .i64)) ∧ Below w.heap.size w w'

set_option maxRecDepth 100000 in
set_option maxHeartbeats 8000000 in
theorem RefBlock_any (V : Vw) (s : Sw) (x : Nat) (w : World) (h : V.At w) (hs : s.Ok) (hx : (x : Int) + s.long ≤ V.n) :
    Calls Try.prog 33 #[V.val, s.val, .int .i64 x] w (OwnInts w (refBlockL V s x)) := by
  obtain ⟨i0, hi, hz0, hz1, hz2⟩ := info_parts Try.infoInt
  obtain ⟨W, hW⟩ := Int.eq_ofNat_of_zero_le (show 0 ≤ s.wide by have := hs.w1; omega)
  obtain ⟨K, hK⟩ := Int.eq_ofNat_of_zero_le hs.k1
  have w1 := hs.w1
  have w2 := hs.w2
  have k2 := hs.k2
  rw [hW] at w1 w2
  rw [hK] at k2
  have hst : stV s = W + K := by unfold stV; rw [hW, hK]; simp
  have HRB : Hid (refBlockL V s x = (gl (fineV V s x) (W + K) 0).map fun y : Nat => (y : Int)) := by unfold Hid refBlockL; rw [hst]
  have HSND := Lib.hid (fun (Y : Nat) (hY : Y ≤ 300) X (hX : Below w.heap.size w X) => Sound_any V s x Y X (h.below hX) hs hx (by omega) (by omega))
  have HFN : Hid (∀ Y : Nat, soundV V s x Y = fineV V s x Y) := fun Y => rfl
  have HG1 := Lib.hid (fun Y (hY : Y ≤ 300) hf => gcount_max (fine := fineV V s x) (st := W + K) (by omega) (y := Y) hY hf)
  have HG2 := Lib.hid (fun Y (hY : Y ≤ 300) hf => gcount_no (fine := fineV V s x) (st := W + K) (by omega) (y := Y) hY hf)
  have HG3 := Lib.hid (fun Y => gcount_le (fine := fineV V s x) (st := W + K) (by omega) Y)
  have HG4 := Lib.hid (fun Y (hY : Y ≤ 300) hf => gl_yes (fine := fineV V s x) (st := W + K) (by omega) (y := Y) hY hf)
  have HG5 := Lib.hid (fun Y (hY : Y ≤ 300) hf => gl_no (fine := fineV V s x) (st := W + K) (by omega) (y := Y) hY hf)
  have HG6 := Lib.hid (fun Y (hY : 300 < Y) => gl_end (fine := fineV V s x) (st := W + K) (y := Y) hY)
  have HG7 := Lib.hid (fun Y (hY : Y ≤ 300) hf => gcount_yes (fine := fineV V s x) (st := W + K) (by omega) (y := Y) hY hf)
  have HG8 := Lib.hid (fun Y (hY : 300 < Y) => gcount_end (fine := fineV V s x) (st := W + K) (y := Y) hY)
  obtain ⟨FR, hFR⟩ : ∃ FR : Array Value, FR = madeCells #[.bool false] 301 := ⟨_, rfl⟩
  have hmk2 : ∀ W, (Instr.makeSlice 115 (.int .i64 301) (.int .i64 301)).run Try.prog W = .ok (.slice (some ⟨W.heap.size, 0, none⟩) 301 301) (W.alloc (.cells FR 4)) := fun W => by
    rw [hFR]; exact run_make_row' (P := Try.prog) 115 4 (.bool false) 1 Try.underlying115 Try.infoBool rfl .i64 .i64 301 (by omega) (by omega) W
  have HR2 : Hid (∀ W : World, (W.alloc (.cells FR 4)).rowIs W.heap.size 4 301 (fun _ => .bool false)) := fun W => by rw [hFR]; exact World.rowIs_made W _ _ _
  have hmk := fun X => run_make_row' (P := Try.prog) 44 3 (.int .i64 0) 8 Try.underlying44 Try.infoInt rfl .i64 .i64 (301 + W + K) (by omega) (by omega) X
  have ec : ((301 + W + K : Nat) : Int) = (301 : Int) + (W : Int) + (K : Int) := by omega
  rw [ec] at hmk
  clear ec hFR hst
  have HVA := Lib.hid ((Blk.new w 46 #[.slice V.A V.n V.c, .slice V.A' V.n V.c', .slice V.K V.m V.d] rfl).alloc (.cells #[.int .i64 s.long, .int .i64 W, .int .i64 K, .int .i64 s.across] 37))
  have HSA := Lib.hid (Blk.new (w.alloc (.cells #[.slice V.A V.n V.c, .slice V.A' V.n V.c', .slice V.K V.m V.d] 46)) 37 #[.int .i64 s.long, .int .i64 W, .int .i64 K, .int .i64 s.across] (g := w.heap.size + 1) (by simp))
  have E0 : Hid (Below w.heap.size w ((w.alloc (.cells #[.slice V.A V.n V.c, .slice V.A' V.n V.c', .slice V.K V.m V.d] 46)).alloc (.cells #[.int .i64 s.long, .int .i64 W, .int .i64 K, .int .i64 s.across] 37))) := below_alloc' (below_self _ _) _
  unfold Vw.val Sw.val at *
  rw [hW, hK] at HSND
  rw [hW, hK]
  clear h hs hx
  go_enter Try.func33, Try.ntmps33
  go_wp2_with fail
  generalize hwb : (w.alloc (.cells #[.slice V.A V.n V.c, .slice V.A' V.n V.c', .slice V.K V.m V.d] 46)).alloc (.cells #[.int .i64 s.long, .int .i64 W, .int .i64 K, .int .i64 s.across] 37) = wb at *
  have hwz : wb.heap.size = w.heap.size + 1 + 1 := by rw [← hwb]; simp
  have HWZ := Lib.hid hwz
  have RM0 : Hid (((wb.alloc (.cells (madeCells #[.int .i64 0] (301 + W + K)) 3)).alloc (.cells FR 4)).rowIs (w.heap.size + 1 + 1) 3 (301 + W + K) (fun i => .int .i64 (if 301 ≤ i then (gcount (fineV V s x) (W + K) i : Int) else 0))) := by
    have := (World.rowIs_made wb (.int .i64 0) (301 + W + K) 3).alloc (.cells FR 4)
    rw [hwz] at this
    exact this.congr (fun i _ => by
      by_cases e : 301 ≤ i
      · rw [if_pos e, HG8.out i (by omega)]; rfl
      · rw [if_neg e])
  have RF0 : Hid (((wb.alloc (.cells (madeCells #[.int .i64 0] (301 + W + K)) 3)).alloc (.cells FR 4)).rowIs (w.heap.size + 1 + 1 + 1) 4 301 (fun i => .bool (decide (301 ≤ i) && fineV V s x i))) := by
    have := HR2.out (wb.alloc (.cells (madeCells #[.int .i64 0] (301 + W + K)) 3))
    rw [show (wb.alloc (.cells (madeCells #[.int .i64 0] (301 + W + K)) 3)).heap.size = w.heap.size + 1 + 1 + 1 from by simp [hwz]] at this
    exact this.congr (fun i hi => by rw [decide_eq_false (by omega)]; rfl)
  have BL0 : Hid (Below (w.heap.size + 1 + 1) wb ((wb.alloc (.cells (madeCells #[.int .i64 0] (301 + W + K)) 3)).alloc (.cells FR 4))) := by
    rw [← hwz]; exact below_alloc' (below_self _ _) _
  clear hwb hwz hmk hmk2 HR2
  go_loopw [9] (fun yv wr => ∃ (j : Nat) (y : Int), j ≤ 301 ∧ yv = .int .i64 y ∧ y = 300 - (j : Int) ∧ wr.rowIs (w.heap.size + 1 + 1) 3 (301 + W + K) (fun i => .int .i64 (if 301 - j ≤ i then (gcount (fineV V s x) (W + K) i : Int) else 0)) ∧
    wr.rowIs (w.heap.size + 1 + 1 + 1) 4 301 (fun i => .bool (decide (301 - j ≤ i) && fineV V s x i)) ∧ Below (w.heap.size + 1 + 1) wb wr) (fun yv _ => (intOf yv + 1).toNat)
  case atStart => exact ⟨0, _, by omega, rfl, by omega, RM0.out, RF0.out, BL0.out⟩
  case round =>
    obtain ⟨j, y, hj, rfl, hy, hrm, hrf, hbel⟩ := hrel
    have HRM := Lib.hid hrm
    have HRF := Lib.hid hrf
    have Hbel := Lib.hid hbel
    have VA := Lib.hid (HVA.out.below hbel (by omega))
    have SA := Lib.hid (HSA.out.below hbel (by omega))
    have HwX := Lib.hid (E0.out.trans (hbel.mono (by omega)))
    have va := VA.out.cell
    have sa := SA.out.cell
    clear RM0 RF0 BL0
    by_cases hge : 0 ≤ y
    · obtain ⟨Y, rfl⟩ := Int.eq_ofNat_of_zero_le hge
      have hY : Y + j = 300 := by omega
      have HY := Lib.hid hY
      have hY3 : Y ≤ 300 := by omega
      obtain ⟨z0, q0⟩ : ∃ z, wr.cell? ⟨w.heap.size + 1 + 1, Y, none⟩ = some (.int .i64 z) := ⟨_, hrm.cell (by omega)⟩
      have q1 : wr.cell? ⟨w.heap.size + 1 + 1, Y + 1, none⟩ = some (.int .i64 (gcount (fineV V s x) (W + K) (Y + 1))) := by
        have := hrm.cell (i := Y + 1) (by omega)
        rwa [if_pos (by omega)] at this
      have f0 := hrm.frozen Y
      have hg1 := HG3.out (Y + 1)
      have HM1 := Lib.hid (hrm.set Y (.int .i64 (gcount (fineV V s x) (W + K) (Y + 1))))
      have HF1 := Lib.hid (hrf.setOther (a := ⟨w.heap.size + 1 + 1, Y, none⟩) (by simp) (.int .i64 (gcount (fineV V s x) (W + K) (Y + 1))))
      have HB1 := Lib.hid (hbel.setCell (p := ⟨w.heap.size + 1 + 1, Y, none⟩) (Nat.le_refl _) (.int .i64 (gcount (fineV V s x) (W + K) (Y + 1))))
      have HV1 := Lib.hid (VA.out.far (p := ⟨w.heap.size + 1 + 1, Y, none⟩) (by simp; omega) (.int .i64 (gcount (fineV V s x) (W + K) (Y + 1))))
      have HS1 := Lib.hid (SA.out.far (p := ⟨w.heap.size + 1 + 1, Y, none⟩) (by simp) (.int .i64 (gcount (fineV V s x) (W + K) (Y + 1))))
      have HW1 := Lib.hid (HwX.out.setCell (p := ⟨w.heap.size + 1 + 1, Y, none⟩) (by simp; omega) (.int .i64 (gcount (fineV V s x) (W + K) (Y + 1))))
      have k1 : IntKind.i64.wrap ((Y : Int) + 1) = (Y : Int) + 1 := IntWalk.i64_in _ (by omega)
      have k5 : ((Y : Int) + 1).toNat = Y + 1 := by omega
      have hYN : (Y : Int) < (301 : Int) + (W : Int) + (K : Int) := by omega
      have hYN1 : (Y : Int) + 1 < (301 : Int) + (W : Int) + (K : Int) := by omega
      have hSND := Lib.hid (HSND.out Y hY3)
      rw [HFN.out] at hSND
      clear hrm hrf hbel hy hY
      go_wp2_with fail
      refine (hSND.out _ HW1.out).mono ?_
      rintro e w5 ⟨rfl, b5⟩
      have HM5 := Lib.hid (rowIs_below HM1.out b5)
      have HF5 := Lib.hid (rowIs_below HF1.out b5)
      have HV5 := Lib.hid (blk_keep b5 HV1.out)
      have HS5 := Lib.hid (blk_keep b5 HS1.out)
      have HB5 := Lib.hid (HB1.out.trans (b5.mono (Nat.le_of_lt HM1.out.lt)))
      have HW5 := Lib.hid (below_then HW1.out b5)
      clear q0 q1 f0 va sa HM1 HF1 HB1 HV1 HS1 HW1 VA SA b5 hSND
      generalize wr.setCell ⟨w.heap.size + 1 + 1, Y, none⟩ (.int .i64 (gcount (fineV V s x) (W + K) (Y + 1))) = wq at *
      have r0 := HF5.out.cell (i := Y) (by omega)
      have r1 := HF5.out.frozen Y
      have HM6 := Lib.hid (HM5.out.setOther (a := ⟨w.heap.size + 1 + 1 + 1, Y, none⟩) (by simp) (.bool (fineV V s x Y)))
      have HF6 : Hid ((w5.setCell ⟨w.heap.size + 1 + 1 + 1, Y, none⟩ (.bool (fineV V s x Y))).rowIs (w.heap.size + 1 + 1 + 1) 4 301 (fun i => .bool (decide (301 - (j + 1) ≤ i) && fineV V s x i))) := by
        refine (HF5.out.set Y _).congr (fun i hi => ?_)
        have := HY.out
        by_cases e : i = Y
        · subst e; rw [if_pos rfl, decide_eq_true (by omega)]; rfl
        · rw [if_neg e, decide_eq_decide.2 (show 301 - j ≤ i ↔ 301 - (j + 1) ≤ i by omega)]
      have HV6 := Lib.hid (HV5.out.far (p := ⟨w.heap.size + 1 + 1 + 1, Y, none⟩) (by simp; omega) (.bool (fineV V s x Y)))
      have HS6 := Lib.hid (HS5.out.far (p := ⟨w.heap.size + 1 + 1 + 1, Y, none⟩) (by simp) (.bool (fineV V s x Y)))
      have HB6 := Lib.hid (HB5.out.setCell (p := ⟨w.heap.size + 1 + 1 + 1, Y, none⟩) (by simp) (.bool (fineV V s x Y)))
      clear HM5 HF5 HV5 HS5 HB5 HW5
      cases hfy : fineV V s x Y
      · have HE : Hid (gcount (fineV V s x) (W + K) (Y + 1) = gcount (fineV V s x) (W + K) Y) := (HG2.out Y hY3 hfy).symm
        rw [hfy] at HM6 HF6 HV6 HS6 HB6
        have HM7 : Hid ((w5.setCell ⟨w.heap.size + 1 + 1 + 1, Y, none⟩ (.bool false)).rowIs (w.heap.size + 1 + 1) 3 (301 + W + K) (fun i => .int .i64 (if 301 - (j + 1) ≤ i then (gcount (fineV V s x) (W + K) i : Int) else 0))) := by
          refine HM6.out.congr (fun i hi => ?_)
          have := HY.out
          by_cases e : i = Y
          · subst e; rw [if_pos rfl, if_pos (by omega), HE.out]
          · rw [if_neg e]
            by_cases e2 : 301 - j ≤ i
            · rw [if_pos e2, if_pos (by omega)]
            · rw [if_neg e2, if_neg (by omega)]
        clear hfy
        go_wp2
        go_roundw
        case rel => exact ⟨j + 1, _, by have := HY.out; omega, rfl, by have := HY.out; omega, HM7.out, HF6.out, HB6.out⟩
        case measure => simp [intOf]
      · rw [hfy] at HM6 HF6 HV6 HS6 HB6
        have HE := Lib.hid (HG1.out Y hY3 hfy)
        have s6 := HS6.out.cell
        have m0 : (w5.setCell ⟨w.heap.size + 1 + 1 + 1, Y, none⟩ (.bool true)).cell? ⟨w.heap.size + 1 + 1, Y, none⟩ = some (.int .i64 (gcount (fineV V s x) (W + K) (Y + 1))) := by
          have := HM6.out.cell (i := Y) (by omega)
          rwa [if_pos rfl] at this
        have m1 : (w5.setCell ⟨w.heap.size + 1 + 1 + 1, Y, none⟩ (.bool true)).cell? ⟨w.heap.size + 1 + 1, Y + W + K, none⟩ = some (.int .i64 (gcount (fineV V s x) (W + K) (Y + (W + K)))) := by
          have := HM6.out.cell (i := Y + W + K) (by omega)
          rw [if_neg (by omega), if_pos (by have := HY.out; omega)] at this
          rw [this, Nat.add_assoc]
        have mf := HM6.out.frozen Y
        have hg2 := HG3.out (Y + (W + K))
        have V1 : Hid ((if (gcount (fineV V s x) (W + K) (Y + 1) : Int) < 1 + (gcount (fineV V s x) (W + K) (Y + (W + K)) : Int) then 1 + (gcount (fineV V s x) (W + K) (Y + (W + K)) : Int) else (gcount (fineV V s x) (W + K) (Y + 1) : Int)) = (gcount (fineV V s x) (W + K) Y : Int)) := by
          unfold Hid; rw [HE.out]; split <;> omega
        have HM8 : Hid (∀ X : World, X.rowIs (w.heap.size + 1 + 1) 3 (301 + W + K) (fun k => if k = Y then .int .i64 (gcount (fineV V s x) (W + K) (Y + 1)) else (fun i => .int .i64 (if 301 - j ≤ i then (gcount (fineV V s x) (W + K) i : Int) else 0)) k) →
            (X.setCell ⟨w.heap.size + 1 + 1, Y, none⟩ (.int .i64 (gcount (fineV V s x) (W + K) Y))).rowIs (w.heap.size + 1 + 1) 3 (301 + W + K) (fun i => .int .i64 (if 301 - (j + 1) ≤ i then (gcount (fineV V s x) (W + K) i : Int) else 0))) := fun X hX => by
          refine (hX.set Y _).congr (fun i hi => ?_)
          have := HY.out
          by_cases e : i = Y
          · subst e; rw [if_pos rfl, if_pos (by omega)]
          · rw [if_neg e, if_neg e]
            by_cases e2 : 301 - j ≤ i
            · simp only [if_pos e2, if_pos (show 301 - (j + 1) ≤ i by omega)]
            · simp only [if_neg e2, if_neg (show ¬ 301 - (j + 1) ≤ i by omega)]
        clear hfy HE
        go_wp2_with fail
        clear r0 r1
        generalize w5.setCell ⟨w.heap.size + 1 + 1 + 1, Y, none⟩ (.bool true) = w6 at *
        generalize gcount (fineV V s x) (W + K) (Y + 1) = g1 at *
        generalize gcount (fineV V s x) (W + K) (Y + (W + K)) = g2 at *
        have j2 : IntKind.i64.wrap ((Y : Int) + (W : Int)) = (Y : Int) + (W : Int) := IntWalk.i64_in _ (by omega)
        have j3 : IntKind.i64.wrap ((Y : Int) + (W : Int) + (K : Int)) = (Y : Int) + (W : Int) + (K : Int) := IntWalk.i64_in _ (by omega)
        have j4 : IntKind.i64.wrap (1 + (g2 : Int)) = 1 + (g2 : Int) := IntWalk.i64_in _ (by omega)
        have j6 : ((Y : Int) + (W : Int) + (K : Int)).toNat = Y + W + K := by omega
        have j8 : 0 ≤ (Y : Int) + (W : Int) + (K : Int) := by omega
        have j10 : (Y : Int) + (W : Int) + (K : Int) < (301 : Int) + (W : Int) + (K : Int) := by omega
        go_still_tail 19, (by kernel_rfl)
        clear j2 j3 j4 j6 j8 j10 m0 m1 mf s6
        change wpList _ _ _ _ _ w6.drew
        rw [V1.out]
        have HM9 := Lib.hid (HM8.out _ HM6.out)
        have HF9 := Lib.hid (HF6.out.setOther (a := ⟨w.heap.size + 1 + 1, Y, none⟩) (by simp) (.int .i64 (gcount (fineV V s x) (W + K) Y)))
        have HB9 := Lib.hid (HB6.out.setCell (p := ⟨w.heap.size + 1 + 1, Y, none⟩) (Nat.le_refl _) (.int .i64 (gcount (fineV V s x) (W + K) Y)))
        have HM9' : Hid (((w6.setCell ⟨w.heap.size + 1 + 1, Y, none⟩ (.int .i64 (gcount (fineV V s x) (W + K) Y))).drew).rowIs (w.heap.size + 1 + 1) 3 (301 + W + K) (fun i => .int .i64 (if 301 - (j + 1) ≤ i then (gcount (fineV V s x) (W + K) i : Int) else 0))) := HM9.out.drew
        have HF9' : Hid (((w6.setCell ⟨w.heap.size + 1 + 1, Y, none⟩ (.int .i64 (gcount (fineV V s x) (W + K) Y))).drew).rowIs (w.heap.size + 1 + 1 + 1) 4 301 (fun i => .bool (decide (301 - (j + 1) ≤ i) && fineV V s x i))) := HF9.out.drew
        have HB9' := Lib.hid HB9.out.drew
        have mc := HM6.out.cell (i := Y) (by omega)
        rw [if_pos rfl] at mc
        have mf := HM6.out.frozen Y
        clear HM8 HM9 HF9 HB9 HM6 HF6 HB6 HV6 HS6 V1
        generalize (gcount (fineV V s x) (W + K) Y : Int) = gy at *
        go_wp2
        go_roundw
        case rel => exact ⟨j + 1, _, by have := HY.out; omega, rfl, by have := HY.out; omega, HM9'.out, HF9'.out, HB9'.out⟩
        case measure => simp [intOf]
    · obtain rfl : j = 301 := by omega
      have HRM2 : Hid (wr.rowIs (w.heap.size + 1 + 1) 3 (301 + W + K) (fun i => .int .i64 (gcount (fineV V s x) (W + K) i))) := hrm.congr (fun i _ => by rw [if_pos (by omega)])
      have HRF2 : Hid (wr.rowIs (w.heap.size + 1 + 1 + 1) 4 301 (fun i => .bool (fineV V s x i))) := hrf.congr (fun i _ => by rw [decide_eq_true (by omega)]; rfl)
      have O0 := Lib.hid (own_empty wr 3 1 (g := wr.heap.size) rfl)
      have OB := Lib.hid (below_self wr (.cells #[] 3))
      clear hrm hrf hbel HRM HRF Hbel HVA HSA HSND HFN HG1 HG2
      go_wp2_with fail
      obtain ⟨w7, rfl⟩ : ∃ w7 : World, w7 = wr := ⟨_, rfl⟩
      have HLEN : Hid ((gl (fineV V s x) (W + K) 0).length ≤ 301) := HG3.out 0
      go_loopw [10, 11] (fun v yv wr => ∃ (y : Nat) (acc : List Nat), yv = .int .i64 y ∧ acc ++ gl (fineV V s x) (W + K) y = gl (fineV V s x) (W + K) 0 ∧ y ≤ 651 ∧ wr.ownsRow w7.heap.size 3 1 v acc.length (acc.map fun z : Nat => Value.int .i64 z) ∧ Below w7.heap.size w7 wr) (fun _ yv _ => (301 - intOf yv).toNat)
      case atStart => exact ⟨0, [], rfl, rfl, by omega, O0.out, OB.out⟩
      case round =>
        obtain ⟨y, acc, rfl, hacc, hy6, hown, hbel⟩ := hrel
        have Hacc := Lib.hid hacc
        have Hown := Lib.hid hown
        have Hbel := Lib.hid hbel
        have hal : acc.length ≤ 301 := by
          have h1 := HLEN.out
          rw [← hacc, List.length_append] at h1; omega
        have SB := Lib.hid (blk_keep hbel SA.out)
        have sb := SB.out.cell
        clear sa va hacc hown
        by_cases hle : (y : Int) ≤ 300
        · have hy3 : y ≤ 300 := by omega
          have rm := fun i (hi : i < 301 + W + K) => (rowIs_below HRM2.out hbel).cell hi
          have f1 := (rowIs_below HRF2.out hbel).cell (i := y) (by omega)
          have q0 := rm y (by omega)
          have q1 := rm (y + W + K) (by omega)
          rw [Nat.add_assoc y W K] at q1
          have hyn : (y : Int) < (301 : Int) + (W : Int) + (K : Int) := by omega
          clear rm hbel
          cases hf : fineV V s x y
          · have HE : Hid (acc ++ gl (fineV V s x) (W + K) (y + 1) = gl (fineV V s x) (W + K) 0) := by unfold Hid; rw [← HG5.out y hy3 hf]; exact Hacc.out
            rw [hf] at f1
            clear hf q0 q1
            go_wp2_with fail
            go_quiet (fail)
            go_wp2
            go_roundw
            case rel => exact ⟨y + 1, acc, by go_num, HE.out, by omega, Hown.out, below_drewN Hbel.out _⟩
            case measure => simp [intOf]; omega
          · have HE : Hid ((acc ++ [y]) ++ gl (fineV V s x) (W + K) (y + (W + K)) = gl (fineV V s x) (W + K) 0) := by
              unfold Hid; rw [← Hacc.out, HG4.out y hy3 hf]; simp
            have h7 := HG7.out y hy3 hf
            have h71 := HG3.out y
            have hq : ((1 + (gcount (fineV V s x) (W + K) (y + (W + K)) : Int)) == (gcount (fineV V s x) (W + K) y : Int)) = true := by
              rw [beq_iff_eq]; omega
            have hq2 : (gcount (fineV V s x) (W + K) (y + (W + K)) : Int) ≤ 301 := by omega
            have hq3 : 0 ≤ (gcount (fineV V s x) (W + K) (y + (W + K)) : Int) := by omega
            rw [hf] at f1
            clear hf h7 h71
            generalize (gcount (fineV V s x) (W + K) (y + (W + K)) : Int) = g2 at *
            generalize (gcount (fineV V s x) (W + K) y : Int) = gy at *
            have j2 : IntKind.i64.wrap ((y : Int) + (W : Int)) = (y : Int) + (W : Int) := IntWalk.i64_in _ (by omega)
            have j3 : IntKind.i64.wrap ((y : Int) + (W : Int) + (K : Int)) = (y : Int) + (W : Int) + (K : Int) := IntWalk.i64_in _ (by omega)
            have j4 : IntKind.i64.wrap (1 + g2) = 1 + g2 := IntWalk.i64_in _ (by omega)
            have j6 : ((y : Int) + (W : Int) + (K : Int)).toNat = y + (W + K) := by omega
            have j8 : 0 ≤ (y : Int) + (W : Int) + (K : Int) := by omega
            have j10 : (y : Int) + (W : Int) + (K : Int) < (301 : Int) + (W : Int) + (K : Int) := by omega
            go_wp2_with fail
            go_quiet (fail)
            clear j2 j3 j4 j6 j8 j10 q0 q1 f1 hq hq2 hq3 sb
            have SQ : Hid (Blk (wr.drewN nq) (w.heap.size + 1) 37 #[.int .i64 s.long, .int .i64 W, .int .i64 K, .int .i64 s.across]) := SB.out
            have HOQ : Hid ((wr.drewN nq).ownsRow w7.heap.size 3 1 u10 acc.length (acc.map fun z : Nat => Value.int .i64 z)) := Hown.out
            have HBQ := Lib.hid (below_drewN Hbel.out nq)
            clear SB Hown Hbel
            generalize wr.drewN nq = wq at *
            have Hnew := Lib.hid (cell_one_at wq (.int .i64 y) 3)
            have SQ2 := Lib.hid (SQ.out.alloc (.cells #[.int .i64 y] 3))
            have HOQ2 := Lib.hid (HOQ.out.alloc (.cells #[.int .i64 y] 3))
            go_wp2_with (at_builtin; refine wpList_append_own _ rfl _ _ 44 rfl w7.heap.size 3 i0 (.int .i64 0) 1 8 Try.underlying44 hi hz0 hz1 hz2 rfl (by decide) _ _ _ rfl HOQ2.out ⟨wq.heap.size, 0, none⟩ 1 1 [.int .i64 y] rfl rfl Hnew.out ?c2 ?c3 ?c4 ?c5 ?_)
            case c2 => first | rfl | (intro u hu; simp only [List.mem_cons, List.not_mem_nil, or_false] at hu; subst hu; rfl)
            case c3 => unfold maxLen; omega
            case c4 => omega
            case c5 => have := HBQ.out.size; first | omega | (simp; omega)
            intro v' w4 hown4 hgrow _
            have B4 := Lib.hid ((HBQ.out.alloc HBQ.out.size _).grown hgrow (by have := HBQ.out.size; simp; omega) (fun q hq => (HOQ.out.lt q hq).1))
            have S4 := Lib.hid (SQ2.out.grown hgrow (own_blk_ne HOQ2.out SQ2.out (by decide)))
            have s4 := S4.out.cell
            have hown5 : Hid (w4.ownsRow w7.heap.size 3 1 v' (acc ++ [y]).length ((acc ++ [y]).map fun z : Nat => Value.int .i64 z)) := by
              unfold Hid; simpa using hown4
            clear hown4 hgrow
            go_wp2
            go_roundw
            case rel => exact ⟨y + (W + K), acc ++ [y], by go_num, HE.out, by omega, hown5.out, B4.out⟩
            case measure => simp [intOf]; omega
        · have HE : Hid (acc = gl (fineV V s x) (W + K) 0) := by
            unfold Hid; rw [← Hacc.out, HG6.out y (by omega)]; simp
          have HF : Hid (wr.ownsRow w.heap.size 3 1 u10 (refBlockL V s x).length ((refBlockL V s x).map (Value.int .i64))) := by
            unfold Hid
            rw [HRB.out, ← HE.out]
            have := own_base Hown.out HwX.out.size
            simpa [List.map_map, Function.comp_def] using this
          have HB := Lib.hid (below_then HwX.out hbel)
          clear hbel
          go_wp2
          go_ret
          exact ⟨_, rfl, HF.out, HB.out⟩
end Go.Proofs.Ytiflhimmieflpaa
