/- Walks: the blade of a tusk, up to its cracks. -/
import Derived.Test.YtiflhimmieflpaaW84
namespace Go.Proofs.Ytiflhimmieflpaa
open Go.RowKit Go.Maps

set_option maxRecDepth 100000 in
set_option maxHeartbeats 8000000 in
noncomputable def blade_cut (T : Tk) (w : World) (h0 : Hid (T.At w)) : PSigma fun G : Prop => Lk G → Calls Try.prog 51 #[T.val] w (TuskRes w T) := by
  apply PSigma.mk
  case snd =>
    intro kG
    have h := h0.out
    obtain ⟨i0, hi, hz0, hz1, hz2⟩ := info_parts Try.infoSpan
    have HLI := Lib.hid (Tk.low_in h.bc)
    have HHI := Lib.hid (Tk.high_in h.bc)
    have HCB := Lib.hid (fun i j => Tk.col_byte h.bc i j)
    have HAT := Lib.hid h
    have hn1 := h.n1
    unfold maxLen at hn1
    have HL := Lib.hid T.len_in
    have HTR := Lib.hid (fun W hb => truth_any T W (h.below hb))
    have B0 := Lib.hid ((((Blk.new w 83 #[.slice T.A T.n T.c, .int .u8 T.bend, .slice T.K T.m T.d, .int .u8 T.s0, .int .u8 T.s1, .int .u8 T.s2, .int .u8 T.s3] (g := w.heap.size) rfl).alloc (.cells #[.slice none 0 0, .slice none 0 0, .int .i64 0, .slice none 0 0] 25)).alloc (.cells #[.int .i64 0, .int .i64 0, .int .i64 0, .int .i64 0] 37)).alloc (.cells #[.slice none 0 0, .slice none 0 0, .slice none 0 0] 86))
    have B1 : Hid (Blk ((((w.alloc (.cells #[.slice T.A T.n T.c, .int .u8 T.bend, .slice T.K T.m T.d, .int .u8 T.s0, .int .u8 T.s1, .int .u8 T.s2, .int .u8 T.s3] 83)).alloc (.cells #[.slice none 0 0, .slice none 0 0, .int .i64 0, .slice none 0 0] 25)).alloc (.cells #[.int .i64 0, .int .i64 0, .int .i64 0, .int .i64 0] 37)).alloc (.cells #[.slice none 0 0, .slice none 0 0, .slice none 0 0] 86)) (w.heap.size + 1) 25 #[.slice none 0 0, .slice none 0 0, .int .i64 0, .slice none 0 0]) := ((Blk.new _ _ _ (by simp)).alloc _).alloc _
    have B2 : Hid (Blk ((((w.alloc (.cells #[.slice T.A T.n T.c, .int .u8 T.bend, .slice T.K T.m T.d, .int .u8 T.s0, .int .u8 T.s1, .int .u8 T.s2, .int .u8 T.s3] 83)).alloc (.cells #[.slice none 0 0, .slice none 0 0, .int .i64 0, .slice none 0 0] 25)).alloc (.cells #[.int .i64 0, .int .i64 0, .int .i64 0, .int .i64 0] 37)).alloc (.cells #[.slice none 0 0, .slice none 0 0, .slice none 0 0] 86)) (w.heap.size + 1 + 1) 37 #[.int .i64 0, .int .i64 0, .int .i64 0, .int .i64 0]) := (Blk.new _ _ _ (by simp)).alloc _
    have B3 : Hid (Blk ((((w.alloc (.cells #[.slice T.A T.n T.c, .int .u8 T.bend, .slice T.K T.m T.d, .int .u8 T.s0, .int .u8 T.s1, .int .u8 T.s2, .int .u8 T.s3] 83)).alloc (.cells #[.slice none 0 0, .slice none 0 0, .int .i64 0, .slice none 0 0] 25)).alloc (.cells #[.int .i64 0, .int .i64 0, .int .i64 0, .int .i64 0] 37)).alloc (.cells #[.slice none 0 0, .slice none 0 0, .slice none 0 0] 86)) (w.heap.size + 1 + 1 + 1) 86 #[.slice none 0 0, .slice none 0 0, .slice none 0 0]) := Blk.new _ _ _ (by simp)
    have BB : Hid (Below w.heap.size w ((((w.alloc (.cells #[.slice T.A T.n T.c, .int .u8 T.bend, .slice T.K T.m T.d, .int .u8 T.s0, .int .u8 T.s1, .int .u8 T.s2, .int .u8 T.s3] 83)).alloc (.cells #[.slice none 0 0, .slice none 0 0, .int .i64 0, .slice none 0 0] 25)).alloc (.cells #[.int .i64 0, .int .i64 0, .int .i64 0, .int .i64 0] 37)).alloc (.cells #[.slice none 0 0, .slice none 0 0, .slice none 0 0] 86))) := below_alloc' (below_alloc' (below_alloc' (below_self _ _) _) _) _
    have HS0 : Hid (((((w.alloc (.cells #[.slice T.A T.n T.c, .int .u8 T.bend, .slice T.K T.m T.d, .int .u8 T.s0, .int .u8 T.s1, .int .u8 T.s2, .int .u8 T.s3] 83)).alloc (.cells #[.slice none 0 0, .slice none 0 0, .int .i64 0, .slice none 0 0] 25)).alloc (.cells #[.int .i64 0, .int .i64 0, .int .i64 0, .int .i64 0] 37)).alloc (.cells #[.slice none 0 0, .slice none 0 0, .slice none 0 0] 86)).heap.size = w.heap.size + 1 + 1 + 1 + 1) := by unfold Hid; simp
    clear h
    unfold Tk.val at *
    have b0 := B0.out.cell
    go_enter Try.func51, Try.ntmps51
    go_wp2_with fail
    generalize ((((w.alloc (.cells #[.slice T.A T.n T.c, .int .u8 T.bend, .slice T.K T.m T.d, .int .u8 T.s0, .int .u8 T.s1, .int .u8 T.s2, .int .u8 T.s3] 83)).alloc (.cells #[.slice none 0 0, .slice none 0 0, .int .i64 0, .slice none 0 0] 25)).alloc (.cells #[.int .i64 0, .int .i64 0, .int .i64 0, .int .i64 0] 37)).alloc (.cells #[.slice none 0 0, .slice none 0 0, .slice none 0 0] 86)) = W0 at *
    clear b0
    refine (HTR.out _ BB.out).mono ?_
    rintro e W1 ⟨g1, c1, g2, c2, rfl, o1, o2, hne, b1⟩
    clear HTR
    have E1 : Hid (W1.ownsRow (w.heap.size + 1 + 1 + 1 + 1) 3 1 (.slice (some ⟨g1, 0, none⟩) T.len c1) T.len (((List.range T.len).map T.low).map (Value.int .i64))) := own_base o1 (by rw [HS0.out]; exact Nat.le_refl _)
    have E2 : Hid (W1.ownsRow (w.heap.size + 1 + 1 + 1 + 1) 3 1 (.slice (some ⟨g2, 0, none⟩) T.len c2) T.len (((List.range T.len).map T.high).map (Value.int .i64))) := own_base o2 (by rw [HS0.out]; exact Nat.le_refl _)
    have C0 := Lib.hid (blk_keep b1 B0.out)
    have C1 := Lib.hid (blk_keep b1 B1.out)
    have C2 := Lib.hid (blk_keep b1 B2.out)
    have C3 := Lib.hid (blk_keep b1 B3.out)
    have CB := Lib.hid (below_then BB.out b1)
    have HNE := Lib.hid hne
    have CS := Lib.hid C3.out.lt
    clear o1 o2 hne b1 B0 B1 B2 B3 BB HS0
    have X0 : Hid (Blk ((W1.alloc (.cells #[.slice none 0 0, .slice none 0 0, .int .i64 0, .slice none 0 0] 25)).alloc (.cells #[.slice none 0 0, .slice none 0 0, .slice none 0 0] 86)) W1.heap.size 25 #[.slice none 0 0, .slice none 0 0, .int .i64 0, .slice none 0 0]) := (Blk.new _ _ _ rfl).alloc _
    have X1 : Hid (Blk ((W1.alloc (.cells #[.slice none 0 0, .slice none 0 0, .int .i64 0, .slice none 0 0] 25)).alloc (.cells #[.slice none 0 0, .slice none 0 0, .slice none 0 0] 86)) (W1.heap.size + 1) 86 #[.slice none 0 0, .slice none 0 0, .slice none 0 0]) := Blk.new _ _ _ (by simp)
    have X1' := Lib.hid (X1.out.setRow_far (g' := W1.heap.size) (by omega) #[.slice none 0 0, .slice none 0 0, .int .i64 T.bd, .slice none 0 0])
    have HB0 : Hid (BI w T 0 W1.heap.size (W1.heap.size + 1) g1 c1 g2 c2 (.slice none 0 0) (.slice none 0 0) ((((W1.alloc (.cells #[.slice none 0 0, .slice none 0 0, .int .i64 0, .slice none 0 0] 25)).alloc (.cells #[.slice none 0 0, .slice none 0 0, .slice none 0 0] 86)).setRow W1.heap.size #[.slice none 0 0, .slice none 0 0, .int .i64 T.bd, .slice none 0 0]).setRow (W1.heap.size + 1) #[.slice (some ⟨g1, 0, none⟩) T.len c1, .slice (some ⟨g2, 0, none⟩) T.len c2, .slice none 0 0])) := by
      have cs := CS.out
      have far : ∀ {g : Nat} {t : TypeId} {cs : Array Value}, Blk W1 g t cs → Blk ((((W1.alloc (.cells #[.slice none 0 0, .slice none 0 0, .int .i64 0, .slice none 0 0] 25)).alloc (.cells #[.slice none 0 0, .slice none 0 0, .slice none 0 0] 86)).setRow W1.heap.size #[.slice none 0 0, .slice none 0 0, .int .i64 T.bd, .slice none 0 0]).setRow (W1.heap.size + 1) #[.slice (some ⟨g1, 0, none⟩) T.len c1, .slice (some ⟨g2, 0, none⟩) T.len c2, .slice none 0 0]) g t cs := fun {g t cs} hg => by
        have l := hg.lt
        exact (((hg.alloc _).alloc _).setRow_far (by omega) _).setRow_far (by omega) _
      have b2 : Below W1.heap.size W1 ((W1.alloc (.cells #[.slice none 0 0, .slice none 0 0, .int .i64 0, .slice none 0 0] 25)).alloc (.cells #[.slice none 0 0, .slice none 0 0, .slice none 0 0] 86)) := below_alloc' (below_self _ _) _
      refine ⟨far C0.out, far C1.out, far C2.out, far C3.out, own_setRow (own_setRow (ownsRow_below E1.out b2) X0.out (by decide) _) X1'.out (by decide) _, own_setRow (own_setRow (ownsRow_below E2.out b2) X0.out (by decide) _) X1'.out (by decide) _, HNE.out, (X0.out.setRow _).setRow_far (by omega) _, X1'.out.setRow _, World.ownsRow_nil _ _ _ _, World.ownsRow_nil _ _ _ _, .inl rfl, cs, by omega, below_setR (below_setR (below_then CB.out b2) (by omega) _) (by omega) _⟩
    go_wp2_with (first
      | refine wpList_store_row rfl 25 _ _ rfl W1.heap.size _ rfl rfl 25 _ X0.out (by kernel_rfl) rfl (by kernel_rfl) ?_
      | refine wpList_store_row rfl 86 _ _ rfl (W1.heap.size + 1) _ rfl rfl 86 _ X1'.out (by kernel_rfl) rfl (by kernel_rfl) ?_)
    generalize (((W1.alloc (.cells #[.slice none 0 0, .slice none 0 0, .int .i64 0, .slice none 0 0] 25)).alloc (.cells #[.slice none 0 0, .slice none 0 0, .slice none 0 0] 86)).setRow W1.heap.size #[.slice none 0 0, .slice none 0 0, .int .i64 T.bd, .slice none 0 0]).setRow (W1.heap.size + 1) #[.slice (some ⟨g1, 0, none⟩) T.len c1, .slice (some ⟨g2, 0, none⟩) T.len c2, .slice none 0 0] = W3 at *
    clear X0 X1 X1' C0 C1 C2 C3 E1 E2 HNE
    generalize W1.heap.size + 1 = gT at *
    generalize W1.heap.size = gB at *
    go_loopw [10] (fun iv wr => ∃ (k : Nat) (u1 u2 : Value), k ≤ T.len ∧ iv = .int .i64 k ∧ BI w T k gB gT g1 c1 g2 c2 u1 u2 wr) (fun iv _ => T.len - (intOf iv).toNat)
    case atStart => exact ⟨0, _, _, Nat.zero_le _, rfl, HB0.out⟩
    case round =>
      obtain ⟨k, u1, u2, hk, rfl, hbi⟩ := hrel
      have HT := Lib.hid hbi
      clear hbi HB0
      have hlen := HL.out
      by_cases hlt : k < T.len
      · have hlt' : (k : Int) < (T.len : Int) := by omega
        have HT2 := Lib.hid (HT.out.alloc (.cells #[.int .u8 3, .int .u8 3] 149))
        have V2 := Lib.hid (Blk.new wr 149 #[.int .u8 3, .int .u8 3] (g := wr.heap.size) rfl)
        have HWZ : Hid (gT < wr.heap.size) := HT.out.tr.lt
        have b2 := HT2.out.box.cell
        go_upto_if 39 with (fail)
        generalize wr.alloc (.cells #[.int .u8 3, .int .u8 3] 149) = wd at *
        generalize wr.heap.size = V at *
        go_cut [] from 28 to 133 (fun W => BI w T k gB gT g1 c1 g2 c2 u1 u2 W ∧ Blk W V 149 #[.int .u8 (T.col k 2), .int .u8 (T.col k 3)])
        case first =>
          by_cases hn : k < T.n
          · have hn' : (k : Int) < (T.n : Int) := by omega
            obtain ⟨cb, co, hA, hcb, hq⟩ := HAT.out.at_ hn
            have HSX : Hid (∀ W, BI w T k gB gT g1 c1 g2 c2 u1 u2 W → S8 w.heap.size cb (co + k * 4) (some ⟨cb, co, none⟩) T.n T.c (T.col k 2) (T.col k 3) W) :=
              fun W hW => ⟨by rw [← hA]; exact hW.box.cell 0, (hW.bel.cell hcb).trans (hq 2 (by omega)), (hW.bel.cell hcb).trans (hq 3 (by omega))⟩
            have HX := Lib.hid HT2.out.drewd
            have VX := Lib.hid (blk_keep (Below.refl _ _).drew V2.out)
            have HY := Lib.hid (HX.out.setRow VX.out (by decide) (by decide) HWZ.out #[.int .u8 (T.col k 2), .int .u8 (T.col k 3)])
            have VY := Lib.hid (VX.out.setRow #[.int .u8 (T.col k 2), .int .u8 (T.col k 3)])
            clear hq hA b2 hlen HT HT2 V2
            go_upto_region 8 with (fail)
            have HS8 := Lib.hid (HSX.out _ HX.out)
            have hs8 := HS8.out
            refine wp_region_held_drew (S := S8 w.heap.size cb (co + k * 4) (some ⟨cb, co, none⟩) T.n T.c (T.col k 2) (T.col k 3)) (by kernel_rfl) HS8.out (fun _ => ?_)
            refine heldTake (i := 0) 40 (v := ?v2001) rfl (by kernel_rfl) (by kernel_rfl) (by kernel_rfl) (by kernel_rfl) (fun _ _ _ h => h) (Or.inl ⟨by rfl, ?y2001⟩) (by assumption) ?r2001
            case y2001 => (intro w hSw; obtain ⟨g0, g1, g2⟩ := hSw; go_simp; try with_reducible rfl)
            refine heldTake (i := 1) 41 (v := ?v2002) rfl (by kernel_rfl) (by kernel_rfl) (by kernel_rfl) (by kernel_rfl) (fun _ _ _ h => h) (Or.inl ⟨by rfl, ?y2002⟩) (by assumption) ?r2002
            case y2002 => (intro w hSw; obtain ⟨g0, g1, g2⟩ := hSw; go_simp; try with_reducible rfl)
            refine heldTake (i := 2) 42 (v := ?v2003) rfl (by kernel_rfl) (by kernel_rfl) (by kernel_rfl) (by kernel_rfl) (fun _ _ _ h => h) (Or.inl ⟨by rfl, ?y2003⟩) (by assumption) ?r2003
            case y2003 => (intro w hSw; obtain ⟨g0, g1, g2⟩ := hSw; go_simp; try with_reducible rfl)
            refine heldTake (i := 3) 43 (v := ?v2004) rfl (by kernel_rfl) (by kernel_rfl) (by kernel_rfl) (by kernel_rfl) (fun _ _ _ h => h) (Or.inl ⟨by rfl, ?y2004⟩) (by assumption) ?r2004
            case y2004 => (intro w hSw; obtain ⟨g0, g1, g2⟩ := hSw; go_simp; try with_reducible rfl)
            refine heldTake (i := 4) 44 (v := ?v2005) rfl (by kernel_rfl) (by kernel_rfl) (by kernel_rfl) (by kernel_rfl) (fun _ _ _ h => h) (Or.inl ⟨by rfl, ?y2005⟩) (by assumption) ?r2005
            case y2005 => (intro w hSw; obtain ⟨g0, g1, g2⟩ := hSw; go_simp; try with_reducible rfl)
            refine heldTake (i := 5) 45 (v := ?v2006) rfl (by kernel_rfl) (by kernel_rfl) (by kernel_rfl) (by kernel_rfl) (fun _ _ _ h => h) (Or.inl ⟨by rfl, ?y2006⟩) (by assumption) ?r2006
            case y2006 => (intro w hSw; obtain ⟨g0, g1, g2⟩ := hSw; go_simp; try with_reducible rfl)
            refine heldTake (i := 6) 46 (v := ?v2007) rfl (by kernel_rfl) (by kernel_rfl) (by kernel_rfl) (by kernel_rfl) (fun _ _ _ h => h) (Or.inl ⟨by rfl, ?y2007⟩) (by assumption) ?r2007
            case y2007 => (intro w hSw; obtain ⟨g0, g1, g2⟩ := hSw; go_simp; try with_reducible rfl)
            refine heldTake (i := 7) 47 (v := ?v2008) rfl (by kernel_rfl) (by kernel_rfl) (by kernel_rfl) (by kernel_rfl) (fun _ _ _ h => h) (Or.inl ⟨by rfl, ?y2008⟩) (by assumption) ?r2008
            case y2008 => (intro w hSw; obtain ⟨g0, g1, g2⟩ := hSw; go_simp; try with_reducible rfl)
            refine heldTake (i := 8) 48 (v := ?v2009) rfl (by kernel_rfl) (by kernel_rfl) (by kernel_rfl) (by kernel_rfl) (fun _ _ _ h => h) (Or.inl ⟨by rfl, ?y2009⟩) (by assumption) ?r2009
            case y2009 => (intro w hSw; obtain ⟨g0, g1, g2⟩ := hSw; go_simp; try with_reducible rfl)
            refine heldTake (i := 9) 49 (v := ?v2010) rfl (by kernel_rfl) (by kernel_rfl) (by kernel_rfl) (by kernel_rfl) (fun _ _ _ h => h) (Or.inl ⟨by rfl, ?y2010⟩) (by assumption) ?r2010
            case y2010 => (intro w hSw; obtain ⟨g0, g1, g2⟩ := hSw; go_simp; try with_reducible rfl)
            refine heldTake (i := 10) 50 (v := ?v2011) rfl (by kernel_rfl) (by kernel_rfl) (by kernel_rfl) (by kernel_rfl) (fun _ _ _ h => h) (Or.inl ⟨by rfl, ?y2011⟩) (by assumption) ?r2011
            case y2011 => (intro w hSw; obtain ⟨g0, g1, g2⟩ := hSw; go_simp; try with_reducible rfl)
            refine heldTake (i := 11) 51 (v := ?v2012) rfl (by kernel_rfl) (by kernel_rfl) (by kernel_rfl) (by kernel_rfl) (fun _ _ _ h => h) (Or.inl ⟨by rfl, ?y2012⟩) (by assumption) ?r2012
            case y2012 => (intro w hSw; obtain ⟨g0, g1, g2⟩ := hSw; go_simp; try with_reducible rfl)
            refine heldTake (i := 12) 52 (v := ?v2013) rfl (by kernel_rfl) (by kernel_rfl) (by kernel_rfl) (by kernel_rfl) (fun _ _ _ h => h) (Or.inl ⟨by rfl, ?y2013⟩) (by assumption) ?r2013
            case y2013 => (intro w hSw; obtain ⟨g0, g1, g2⟩ := hSw; go_simp; try with_reducible rfl)
            simp only [Act.put, List.setIfInBounds_toArray, List.set_cons_zero, List.set_cons_succ]
            refine wpAnyH_ready (rs := [13]) (by kernel_rfl) (by simp) ?_
            refine AllReadyH.cons rfl (fun K hK => ?_) AllReadyH.nil
            rw [if_pos (by rfl)]
            refine wp_store_rowN rfl _ _ _ rfl _ _ rfl rfl _ _ VX.out (by kernel_rfl) rfl (by kernel_rfl) ?_
            refine hK.out _ _ (HSX.out _ HY.out) (fun _ => ?_)
            refine wpAnyH_done (by kernel_rfl) ?_ _
            go_wp2_with fail
            go_meet
            exact ⟨HY.out, VY.out⟩
          · have hn' : ¬ (k : Int) < (T.n : Int) := by omega
            have HV : Hid (T.col k 2 = 3 ∧ T.col k 3 = 3) := by unfold Hid Tk.col; rw [if_neg hn, if_neg hn]; exact ⟨rfl, rfl⟩
            go_wp2_with fail
            go_meet
            exact ⟨HT2.out, by rw [HV.out.1, HV.out.2]; exact V2.out⟩
        case rest =>
          obtain ⟨hti, hvv⟩ := hcut
          have HT3 := Lib.hid hti
          have V3 := Lib.hid hvv
          clear hti hvv HT2 V2 b2
          have HSX9 : Hid (∀ W, BI w T k gB gT g1 c1 g2 c2 u1 u2 W → Blk W V 149 #[.int .u8 (T.col k 2), .int .u8 (T.col k 3)] → S9 g1 g2 V k (T.low k) (T.high k) (T.col k 2) (T.col k 3) W) :=
            fun W hW hV => ⟨range_cell hW.e1 hlt, range_cell hW.e2 hlt, hV.cell 0, hV.cell 1⟩
          have hl := HLI.out k
          have hh := HHI.out k
          have hx := HCB.out k 2
          have hy := HCB.out k 3
          unfold Byte at hx hy
          have HBS : Hid (T.botS k = (max 0 (T.low k - T.col k 2 % 9), min 65 (T.low k + T.col k 2 / 16))) := rfl
          have HTS : Hid (T.topS k = (max 66 (T.high k - T.col k 3 % 9), T.high k + T.col k 3 / 16)) := rfl
          have hLO : Hid (∃ lo, lo = T.low k) := ⟨_, rfl⟩
          have hHG : Hid (∃ hg, hg = T.high k) := ⟨_, rfl⟩
          obtain ⟨lo, qlo⟩ := hLO.out
          obtain ⟨hg, qhg⟩ := hHG.out
          clear hLO hHG
          have hLO : Hid (lo = T.low k) := qlo
          have hHG : Hid (hg = T.high k) := qhg
          rw [← qlo] at HSX9 HBS hl
          rw [← qhg] at HSX9 HTS hh
          clear qlo qhg
          generalize T.col k 2 = x at *
          generalize T.col k 3 = y at *
          have wx : IntKind.i64.wrap x = x := IntWalk.i64_in _ (by omega)
          have wy : IntKind.i64.wrap y = y := IntWalk.i64_in _ (by omega)
          have mx : x.tmod 9 = x % 9 := Int.tmod_eq_emod_of_nonneg (by omega)
          have my : y.tmod 9 = y % 9 := Int.tmod_eq_emod_of_nonneg (by omega)
          have dx : x.tdiv 16 = x / 16 := Int.tdiv_eq_ediv_of_nonneg (by omega)
          have dy : y.tdiv 16 = y / 16 := Int.tdiv_eq_ediv_of_nonneg (by omega)
          have ra1 : 0 ≤ x % 9 ∧ x % 9 ≤ 8 := by omega
          have ra2 : 0 ≤ y % 9 ∧ y % 9 ≤ 8 := by omega
          have rb1 : 0 ≤ x / 16 ∧ x / 16 ≤ 15 := by omega
          have rb2 : 0 ≤ y / 16 ∧ y / 16 ≤ 15 := by omega
          generalize x % 9 = a1 at *
          generalize y % 9 = a2 at *
          generalize x / 16 = b1 at *
          generalize y / 16 = b2 at *
          have wa1 : IntKind.i64.wrap a1 = a1 := IntWalk.i64_in _ (by omega)
          have wa2 : IntKind.i64.wrap a2 = a2 := IntWalk.i64_in _ (by omega)
          have wb1 : IntKind.i64.wrap b1 = b1 := IntWalk.i64_in _ (by omega)
          have wb2 : IntKind.i64.wrap b2 = b2 := IntWalk.i64_in _ (by omega)
          obtain ⟨l1, ql1⟩ : ∃ t, t = lo - a1 := ⟨_, rfl⟩
          obtain ⟨l2, ql2⟩ : ∃ t, t = lo + b1 := ⟨_, rfl⟩
          obtain ⟨l3, ql3⟩ : ∃ t, t = hg - a2 := ⟨_, rfl⟩
          obtain ⟨l4, ql4⟩ : ∃ t, t = hg + b2 := ⟨_, rfl⟩
          have n1 : IntKind.i64.wrap (lo - a1) = l1 := by rw [ql1]; exact IntWalk.i64_in _ (by omega)
          have n2 : IntKind.i64.wrap (lo + b1) = l2 := by rw [ql2]; exact IntWalk.i64_in _ (by omega)
          have n3 : IntKind.i64.wrap (hg - a2) = l3 := by rw [ql3]; exact IntWalk.i64_in _ (by omega)
          have n4 : IntKind.i64.wrap (hg + b2) = l4 := by rw [ql4]; exact IntWalk.i64_in _ (by omega)
          rw [← ql1, ← ql2] at HBS
          rw [← ql3, ← ql4] at HTS
          have e1 : l1 ≤ lo ∧ lo ≤ l2 ∧ l3 ≤ hg ∧ hg ≤ l4 ∧ l4 ≤ 200 := by omega
          clear ql1 ql2 ql3 ql4 ra1 ra2 rb1 rb2
          obtain ⟨p1, qp1⟩ : ∃ t, t = max 0 l1 := ⟨_, rfl⟩
          obtain ⟨p2, qp2⟩ : ∃ t, t = min 65 l2 := ⟨_, rfl⟩
          obtain ⟨p3, qp3⟩ : ∃ t, t = max 66 l3 := ⟨_, rfl⟩
          have v1 : (if 0 < l1 then l1 else 0) = p1 := by rw [qp1]; split <;> omega
          have v2 : (if l2 < 65 then l2 else 65) = p2 := by rw [qp2]; split <;> omega
          have v3 : (if 66 < l3 then l3 else 66) = p3 := by rw [qp3]; split <;> omega
          rw [← qp1, ← qp2] at HBS
          rw [← qp3] at HTS
          have e2 : 0 ≤ p1 ∧ p1 ≤ lo ∧ lo ≤ p2 ∧ p2 ≤ 65 ∧ 66 ≤ p3 ∧ p3 ≤ hg := by omega
          have HR := Lib.hid (And.intro e1.2.2.2 e2)
          have HLH := Lib.hid (And.intro hl hh)
          clear qp1 qp2 qp3 e1 e2 hl hh hx hy hlen
          go_upto_region 9 with (fail)
          go_cut [12, 13] from 28 to 133 (fun s12 s13 W => ∃ ga gb : Nat, s12 = .pointer (some ⟨ga, 0, none⟩) ∧ s13 = .pointer (some ⟨gb, 0, none⟩) ∧ ga ≠ gb ∧ BI w T k gB gT g1 c1 g2 c2 u1 u2 W ∧ Blk W ga 98 #[.int .i64 p1, .int .i64 p2] ∧ Blk W gb 98 #[.int .i64 p3, .int .i64 l4] ∧ gT < ga ∧ gT < gb ∧ u1.ownBlock ≠ some ga ∧ u1.ownBlock ≠ some gb ∧ u2.ownBlock ≠ some ga ∧ u2.ownBlock ≠ some gb)
          case first =>
            have HSP := Lib.hid (fun a b W => lawSpan_any a b W)
            have D0 : Hid (Below wc.heap.size wc wc.drew) := (Below.refl _ _).drew
            have S0 := HSX9.out _ (HT3.out.below D0.out) (blk_keep D0.out V3.out)
            refine wp_region_held_drew (S := S9 g1 g2 V k lo hg x y) (by kernel_rfl) S0 (fun _ => ?_)
            refine heldTake (i := 0) 53 (v := ?v2014) rfl (by kernel_rfl) (by kernel_rfl) (by kernel_rfl) (by kernel_rfl) (fun _ _ _ h => h) (Or.inl ⟨by rfl, ?y2014⟩) (by assumption) ?r2014
            case y2014 => (intro w hSw; obtain ⟨g0, g1, g2, g3⟩ := hSw; go_simp; try with_reducible rfl)
            refine heldTake (i := 1) 54 (v := ?v2015) rfl (by kernel_rfl) (by kernel_rfl) (by kernel_rfl) (by kernel_rfl) (fun _ _ _ h => h) (Or.inl ⟨by rfl, ?y2015⟩) (by assumption) ?r2015
            case y2015 => (intro w hSw; obtain ⟨g0, g1, g2, g3⟩ := hSw; go_simp; try with_reducible rfl)
            refine heldTake (i := 2) 55 (v := ?v2016) rfl (by kernel_rfl) (by kernel_rfl) (by kernel_rfl) (by kernel_rfl) (fun _ _ _ h => h) (Or.inl ⟨by rfl, ?y2016⟩) (by assumption) ?r2016
            case y2016 => (intro w hSw; obtain ⟨g0, g1, g2, g3⟩ := hSw; go_simp; try with_reducible rfl)
            refine heldTake (i := 3) 56 (v := ?v2017) rfl (by kernel_rfl) (by kernel_rfl) (by kernel_rfl) (by kernel_rfl) (fun _ _ _ h => h) (Or.inl ⟨by rfl, ?y2017⟩) (by assumption) ?r2017
            case y2017 => (intro w hSw; obtain ⟨g0, g1, g2, g3⟩ := hSw; go_simp; try with_reducible rfl)
            refine heldTake (i := 4) 57 (v := ?v2018) rfl (by kernel_rfl) (by kernel_rfl) (by kernel_rfl) (by kernel_rfl) (fun _ _ _ h => h) (Or.inl ⟨by rfl, ?y2018⟩) (by assumption) ?r2018
            case y2018 => (intro w hSw; obtain ⟨g0, g1, g2, g3⟩ := hSw; go_simp; try with_reducible rfl)
            refine heldTake (i := 5) 58 (v := ?v2019) rfl (by kernel_rfl) (by kernel_rfl) (by kernel_rfl) (by kernel_rfl) (fun _ _ _ h => h) (Or.inl ⟨by rfl, ?y2019⟩) (by assumption) ?r2019
            case y2019 => (intro w hSw; obtain ⟨g0, g1, g2, g3⟩ := hSw; go_simp; try with_reducible rfl)
            refine heldTake (i := 6) 59 (v := ?v2020) rfl (by kernel_rfl) (by kernel_rfl) (by kernel_rfl) (by kernel_rfl) (fun _ _ _ h => h) (Or.inl ⟨by rfl, ?y2020⟩) (by assumption) ?r2020
            case y2020 => (intro w hSw; obtain ⟨g0, g1, g2, g3⟩ := hSw; go_simp; try with_reducible rfl)
            refine heldTake (i := 7) 60 (v := ?v2021) rfl (by kernel_rfl) (by kernel_rfl) (by kernel_rfl) (by kernel_rfl) (fun _ _ _ h => h) (Or.inl ⟨by rfl, ?y2021⟩) (by assumption) ?r2021
            case y2021 => (intro w hSw; obtain ⟨g0, g1, g2, g3⟩ := hSw; go_simp; try with_reducible rfl)
            refine heldTake (i := 8) 61 (v := ?v2022) rfl (by kernel_rfl) (by kernel_rfl) (by kernel_rfl) (by kernel_rfl) (fun _ _ _ h => h) (Or.inl ⟨by rfl, ?y2022⟩) (by assumption) ?r2022
            case y2022 => (intro w hSw; obtain ⟨g0, g1, g2, g3⟩ := hSw; go_simp; try with_reducible rfl)
            refine heldTake (i := 9) 62 (v := ?v2023) rfl (by kernel_rfl) (by kernel_rfl) (by kernel_rfl) (by kernel_rfl) (fun _ _ _ h => h) (Or.inl ⟨by rfl, ?y2023⟩) (by assumption) ?r2023
            case y2023 => (intro w hSw; obtain ⟨g0, g1, g2, g3⟩ := hSw; go_simp; try with_reducible rfl)
            refine heldTake (i := 10) 63 (v := ?v2024) rfl (by kernel_rfl) (by kernel_rfl) (by kernel_rfl) (by kernel_rfl) (fun _ _ _ h => h) (Or.inl ⟨by rfl, ?y2024⟩) (by assumption) ?r2024
            case y2024 => (intro w hSw; obtain ⟨g0, g1, g2, g3⟩ := hSw; go_simp; try with_reducible rfl)
            refine heldTake (i := 11) 64 (v := ?v2025) rfl (by kernel_rfl) (by kernel_rfl) (by kernel_rfl) (by kernel_rfl) (fun _ _ _ h => h) (Or.inl ⟨by rfl, ?y2025⟩) (by assumption) ?r2025
            case y2025 => (intro w hSw; obtain ⟨g0, g1, g2, g3⟩ := hSw; go_simp; try with_reducible rfl)
            refine heldTake (i := 12) 65 (v := ?v2026) rfl (by kernel_rfl) (by kernel_rfl) (by kernel_rfl) (by kernel_rfl) (fun _ _ _ h => h) (Or.inl ⟨by rfl, ?y2026⟩) (by assumption) ?r2026
            case y2026 => (intro w hSw; obtain ⟨g0, g1, g2, g3⟩ := hSw; go_simp; try with_reducible rfl)
            refine heldTake (i := 13) 66 (v := ?v2027) rfl (by kernel_rfl) (by kernel_rfl) (by kernel_rfl) (by kernel_rfl) (fun _ _ _ h => h) (Or.inl ⟨by rfl, ?y2027⟩) (by assumption) ?r2027
            case y2027 => (intro w hSw; obtain ⟨g0, g1, g2, g3⟩ := hSw; go_simp; try with_reducible rfl)
            refine heldTake (i := 14) 67 (v := ?v2028) rfl (by kernel_rfl) (by kernel_rfl) (by kernel_rfl) (by kernel_rfl) (fun _ _ _ h => h) (Or.inl ⟨by rfl, ?y2028⟩) (by assumption) ?r2028
            case y2028 => (intro w hSw; obtain ⟨g0, g1, g2, g3⟩ := hSw; go_simp; try with_reducible rfl)
            refine heldTake (i := 15) 68 (v := ?v2029) rfl (by kernel_rfl) (by kernel_rfl) (by kernel_rfl) (by kernel_rfl) (fun _ _ _ h => h) (Or.inl ⟨by rfl, ?y2029⟩) (by assumption) ?r2029
            case y2029 => (intro w hSw; obtain ⟨g0, g1, g2, g3⟩ := hSw; go_simp; try with_reducible rfl)
            refine heldTake (i := 16) 69 (v := ?v2030) rfl (by kernel_rfl) (by kernel_rfl) (by kernel_rfl) (by kernel_rfl) (fun _ _ _ h => h) (Or.inl ⟨by rfl, ?y2030⟩) (by assumption) ?r2030
            case y2030 => (intro w hSw; obtain ⟨g0, g1, g2, g3⟩ := hSw; go_simp; try with_reducible rfl)
            refine heldTake (i := 17) 70 (v := ?v2031) rfl (by kernel_rfl) (by kernel_rfl) (by kernel_rfl) (by kernel_rfl) (fun _ _ _ h => h) (Or.inl ⟨by rfl, ?y2031⟩) (by assumption) ?r2031
            case y2031 => (intro w hSw; obtain ⟨g0, g1, g2, g3⟩ := hSw; go_simp; try with_reducible rfl)
            refine heldTake (i := 18) 71 (v := ?v2032) rfl (by kernel_rfl) (by kernel_rfl) (by kernel_rfl) (by kernel_rfl) (fun _ _ _ h => h) (Or.inl ⟨by rfl, ?y2032⟩) (by assumption) ?r2032
            case y2032 => (intro w hSw; obtain ⟨g0, g1, g2, g3⟩ := hSw; go_simp; try with_reducible rfl)
            refine heldTake (i := 19) 72 (v := ?v2033) rfl (by kernel_rfl) (by kernel_rfl) (by kernel_rfl) (by kernel_rfl) (fun _ _ _ h => h) (Or.inl ⟨by rfl, ?y2033⟩) (by assumption) ?r2033
            case y2033 => (intro w hSw; obtain ⟨g0, g1, g2, g3⟩ := hSw; go_simp; try with_reducible rfl)
            refine heldTake (i := 21) 74 (v := ?v2034) rfl (by kernel_rfl) (by kernel_rfl) (by kernel_rfl) (by kernel_rfl) (fun _ _ _ h => h) (Or.inl ⟨by rfl, ?y2034⟩) (by assumption) ?r2034
            case y2034 => (intro w hSw; obtain ⟨g0, g1, g2, g3⟩ := hSw; go_simp; try with_reducible rfl)
            refine heldTake (i := 22) 75 (v := ?v2035) rfl (by kernel_rfl) (by kernel_rfl) (by kernel_rfl) (by kernel_rfl) (fun _ _ _ h => h) (Or.inl ⟨by rfl, ?y2035⟩) (by assumption) ?r2035
            case y2035 => (intro w hSw; obtain ⟨g0, g1, g2, g3⟩ := hSw; go_simp; try with_reducible rfl)
            refine heldTake (i := 23) 76 (v := ?v2036) rfl (by kernel_rfl) (by kernel_rfl) (by kernel_rfl) (by kernel_rfl) (fun _ _ _ h => h) (Or.inl ⟨by rfl, ?y2036⟩) (by assumption) ?r2036
            case y2036 => (intro w hSw; obtain ⟨g0, g1, g2, g3⟩ := hSw; go_simp; try with_reducible rfl)
            refine heldTake (i := 24) 77 (v := ?v2037) rfl (by kernel_rfl) (by kernel_rfl) (by kernel_rfl) (by kernel_rfl) (fun _ _ _ h => h) (Or.inl ⟨by rfl, ?y2037⟩) (by assumption) ?r2037
            case y2037 => (intro w hSw; obtain ⟨g0, g1, g2, g3⟩ := hSw; go_simp; try with_reducible rfl)
            refine heldTake (i := 25) 78 (v := ?v2038) rfl (by kernel_rfl) (by kernel_rfl) (by kernel_rfl) (by kernel_rfl) (fun _ _ _ h => h) (Or.inl ⟨by rfl, ?y2038⟩) (by assumption) ?r2038
            case y2038 => (intro w hSw; obtain ⟨g0, g1, g2, g3⟩ := hSw; go_simp; try with_reducible rfl)
            refine heldTake (i := 26) 79 (v := ?v2039) rfl (by kernel_rfl) (by kernel_rfl) (by kernel_rfl) (by kernel_rfl) (fun _ _ _ h => h) (Or.inl ⟨by rfl, ?y2039⟩) (by assumption) ?r2039
            case y2039 => (intro w hSw; obtain ⟨g0, g1, g2, g3⟩ := hSw; go_simp; try with_reducible rfl)
            refine heldTake (i := 27) 80 (v := ?v2040) rfl (by kernel_rfl) (by kernel_rfl) (by kernel_rfl) (by kernel_rfl) (fun _ _ _ h => h) (Or.inl ⟨by rfl, ?y2040⟩) (by assumption) ?r2040
            case y2040 => (intro w hSw; obtain ⟨g0, g1, g2, g3⟩ := hSw; go_simp; try with_reducible rfl)
            refine heldTake (i := 28) 81 (v := ?v2041) rfl (by kernel_rfl) (by kernel_rfl) (by kernel_rfl) (by kernel_rfl) (fun _ _ _ h => h) (Or.inl ⟨by rfl, ?y2041⟩) (by assumption) ?r2041
            case y2041 => (intro w hSw; obtain ⟨g0, g1, g2, g3⟩ := hSw; go_simp; try with_reducible rfl)
            refine heldTake (i := 29) 82 (v := ?v2042) rfl (by kernel_rfl) (by kernel_rfl) (by kernel_rfl) (by kernel_rfl) (fun _ _ _ h => h) (Or.inl ⟨by rfl, ?y2042⟩) (by assumption) ?r2042
            case y2042 => (intro w hSw; obtain ⟨g0, g1, g2, g3⟩ := hSw; go_simp; try with_reducible rfl)
            refine heldTake (i := 30) 83 (v := ?v2043) rfl (by kernel_rfl) (by kernel_rfl) (by kernel_rfl) (by kernel_rfl) (fun _ _ _ h => h) (Or.inl ⟨by rfl, ?y2043⟩) (by assumption) ?r2043
            case y2043 => (intro w hSw; obtain ⟨g0, g1, g2, g3⟩ := hSw; go_simp; try with_reducible rfl)
            refine heldTake (i := 31) 84 (v := ?v2044) rfl (by kernel_rfl) (by kernel_rfl) (by kernel_rfl) (by kernel_rfl) (fun _ _ _ h => h) (Or.inl ⟨by rfl, ?y2044⟩) (by assumption) ?r2044
            case y2044 => (intro w hSw; obtain ⟨g0, g1, g2, g3⟩ := hSw; go_simp; try with_reducible rfl)
            refine heldTake (i := 32) 85 (v := ?v2045) rfl (by kernel_rfl) (by kernel_rfl) (by kernel_rfl) (by kernel_rfl) (fun _ _ _ h => h) (Or.inl ⟨by rfl, ?y2045⟩) (by assumption) ?r2045
            case y2045 => (intro w hSw; obtain ⟨g0, g1, g2, g3⟩ := hSw; go_simp; try with_reducible rfl)
            refine heldTake (i := 33) 86 (v := ?v2046) rfl (by kernel_rfl) (by kernel_rfl) (by kernel_rfl) (by kernel_rfl) (fun _ _ _ h => h) (Or.inl ⟨by rfl, ?y2046⟩) (by assumption) ?r2046
            case y2046 => (intro w hSw; obtain ⟨g0, g1, g2, g3⟩ := hSw; go_simp; try with_reducible rfl)
            refine heldTake (i := 34) 87 (v := ?v2047) rfl (by kernel_rfl) (by kernel_rfl) (by kernel_rfl) (by kernel_rfl) (fun _ _ _ h => h) (Or.inl ⟨by rfl, ?y2047⟩) (by assumption) ?r2047
            case y2047 => (intro w hSw; obtain ⟨g0, g1, g2, g3⟩ := hSw; go_simp; try with_reducible rfl)
            refine heldTake (i := 35) 88 (v := ?v2048) rfl (by kernel_rfl) (by kernel_rfl) (by kernel_rfl) (by kernel_rfl) (fun _ _ _ h => h) (Or.inl ⟨by rfl, ?y2048⟩) (by assumption) ?r2048
            case y2048 => (intro w hSw; obtain ⟨g0, g1, g2, g3⟩ := hSw; go_simp; try with_reducible rfl)
            refine heldTake (i := 36) 89 (v := ?v2049) rfl (by kernel_rfl) (by kernel_rfl) (by kernel_rfl) (by kernel_rfl) (fun _ _ _ h => h) (Or.inl ⟨by rfl, ?y2049⟩) (by assumption) ?r2049
            case y2049 => (intro w hSw; obtain ⟨g0, g1, g2, g3⟩ := hSw; go_simp; try with_reducible rfl)
            refine heldTake (i := 37) 90 (v := ?v2050) rfl (by kernel_rfl) (by kernel_rfl) (by kernel_rfl) (by kernel_rfl) (fun _ _ _ h => h) (Or.inl ⟨by rfl, ?y2050⟩) (by assumption) ?r2050
            case y2050 => (intro w hSw; obtain ⟨g0, g1, g2, g3⟩ := hSw; go_simp; try with_reducible rfl)
            refine heldTake (i := 38) 91 (v := ?v2051) rfl (by kernel_rfl) (by kernel_rfl) (by kernel_rfl) (by kernel_rfl) (fun _ _ _ h => h) (Or.inl ⟨by rfl, ?y2051⟩) (by assumption) ?r2051
            case y2051 => (intro w hSw; obtain ⟨g0, g1, g2, g3⟩ := hSw; go_simp; try with_reducible rfl)
            refine heldTake (i := 39) 92 (v := ?v2052) rfl (by kernel_rfl) (by kernel_rfl) (by kernel_rfl) (by kernel_rfl) (fun _ _ _ h => h) (Or.inl ⟨by rfl, ?y2052⟩) (by assumption) ?r2052
            case y2052 => (intro w hSw; obtain ⟨g0, g1, g2, g3⟩ := hSw; go_simp; try with_reducible rfl)
            simp only [Act.put, List.setIfInBounds_toArray, List.set_cons_zero, List.set_cons_succ]
            refine wpAnyH_ready (rs := [20, 41, 42]) (by kernel_rfl) (by simp) ?_
            refine AllReadyH.cons rfl (fun K1 hK1 => ?_) ?_
            · go_simp
              refine (HSP.out _ _ _).mono ?_
              rintro e W2 ⟨rfl, b2⟩
              have D2 := Lib.hid (below_then D0.out b2)
              clear b2 S0
              have s2 := HSX9.out _ (HT3.out.below D2.out) (blk_keep D2.out V3.out)
              refine hK1.out _ _ s2 (fun _ => ?_)
              refine wpAnyH_ready (rs := [40, 41, 42]) (by kernel_rfl) (by simp) ?_
              refine AllReadyH.cons rfl (fun K3 hK3 => ?_) ?_
              · go_simp
                refine (HSP.out _ _ _).mono ?_
                rintro e W4 ⟨rfl, b4⟩
                have D4 := Lib.hid (below_then D2.out b4)
                clear b4 s2
                have s4 := HSX9.out _ (HT3.out.below D4.out) (blk_keep D4.out V3.out)
                refine hK3.out _ _ s4 (fun _ => ?_)
                refine wpAnyH_ready (rs := [41, 42]) (by kernel_rfl) (by simp) ?_
                refine AllReadyH.cons rfl (fun K5 hK5 => ?_) ?_
                · go_simp
                  have A41_6 : Hid (Blk (W4.alloc (.cells #[.int .i64 0, .int .i64 0] 98)) (W4.heap.size) 98 #[.int .i64 0, .int .i64 0]) := Blk.new _ _ _ (by simp)
                  have D6 : Hid (Below wc.heap.size wc (W4.alloc (.cells #[.int .i64 0, .int .i64 0] 98))) := below_then D4.out (below_self _ _)
                  have L41 : Hid (wc.heap.size ≤ W4.heap.size) := (by have := D4.out.size; (try simp at this); unfold Hid; omega)
                  refine hK5.out _ _ (show S9 g1 g2 V k lo hg x y _ from HSX9.out _ (HT3.out.below D6.out) (blk_keep D6.out V3.out)) (fun s6 => ?_)
                  refine wpAnyH_ready (rs := [42]) (by kernel_rfl) (by simp) ?_
                  refine AllReadyH.cons rfl (fun K7 hK7 => ?_) AllReadyH.nil
                  go_simp
                  have A42_8 : Hid (Blk ((W4.alloc (.cells #[.int .i64 0, .int .i64 0] 98)).alloc (.cells #[.int .i64 0, .int .i64 0] 98)) (W4.heap.size + 1) 98 #[.int .i64 0, .int .i64 0]) := Blk.new _ _ _ (by simp)
                  have D8 : Hid (Below wc.heap.size wc ((W4.alloc (.cells #[.int .i64 0, .int .i64 0] 98)).alloc (.cells #[.int .i64 0, .int .i64 0] 98))) := below_then D6.out (below_self _ _)
                  have N8 : Hid (W4.heap.size ≠ W4.heap.size + 1) := (by have := A41_6.out.lt; (try simp at this); unfold Hid; omega)
                  have A41_8 := Lib.hid (A41_6.out.alloc (.cells #[.int .i64 0, .int .i64 0] 98))
                  have L42 : Hid (wc.heap.size ≤ W4.heap.size + 1) := (by have := D6.out.size; (try simp at this); unfold Hid; omega)
                  refine hK7.out _ _ (show S9 g1 g2 V k lo hg x y _ from HSX9.out _ (HT3.out.below D8.out) (blk_keep D8.out V3.out)) (fun s8 => ?_)
                  refine wpAnyH_ready (rs := [43]) (by kernel_rfl) (by simp) ?_
                  refine AllReadyH.cons rfl (fun K9 hK9 => ?_) AllReadyH.nil
                  rw [if_pos (by rfl)]
                  refine wp_store_rowN rfl _ _ _ rfl _ _ rfl rfl _ _ A41_8.out (by kernel_rfl) rfl (onesT2 _ _) ?_
                  have D10 := Lib.hid (below_setR D8.out L41.out #[.int .i64 p1, .int .i64 p2])
                  have A41_10 := Lib.hid (A41_8.out.setRow #[.int .i64 p1, .int .i64 p2])
                  have A42_10 := Lib.hid (A42_8.out.setRow_far (g' := W4.heap.size) (by have := N8.out; omega) #[.int .i64 p1, .int .i64 p2])
                  refine hK9.out _ _ (show S9 g1 g2 V k lo hg x y _ from HSX9.out _ (HT3.out.below D10.out) (blk_keep D10.out V3.out)) (fun s10 => ?_)
                  refine wpAnyH_ready (rs := [44]) (by kernel_rfl) (by simp) ?_
                  refine AllReadyH.cons rfl (fun K11 hK11 => ?_) AllReadyH.nil
                  rw [if_pos (by rfl)]
                  refine wp_store_rowN rfl _ _ _ rfl _ _ rfl rfl _ _ A42_10.out (by kernel_rfl) rfl (onesT2 _ _) ?_
                  have D12 := Lib.hid (below_setR D10.out L42.out #[.int .i64 p3, .int .i64 l4])
                  have A42_12 := Lib.hid (A42_10.out.setRow #[.int .i64 p3, .int .i64 l4])
                  have A41_12 := Lib.hid (A41_10.out.setRow_far (g' := W4.heap.size + 1) (by have := N8.out; omega) #[.int .i64 p3, .int .i64 l4])
                  refine hK11.out _ _ (show S9 g1 g2 V k lo hg x y _ from HSX9.out _ (HT3.out.below D12.out) (blk_keep D12.out V3.out)) (fun s12 => ?_)
                  refine wpAnyH_done (by kernel_rfl) ?_ _
                  go_wp2_with fail
                  go_meet
                  exact ⟨_, _, rfl, rfl, (by have := N8.out; omega), HT3.out.below D12.out, A41_12.out, A42_12.out, Nat.lt_of_lt_of_le HT3.out.tr.lt L41.out, Nat.lt_of_lt_of_le HT3.out.tr.lt L42.out, own_not HT3.out.p1 L41.out, own_not HT3.out.p1 L42.out, own_not HT3.out.p2 L41.out, own_not HT3.out.p2 L42.out⟩
                refine AllReadyH.cons rfl (fun K5 hK5 => ?_) AllReadyH.nil
                go_simp
                have A42_13 : Hid (Blk (W4.alloc (.cells #[.int .i64 0, .int .i64 0] 98)) (W4.heap.size) 98 #[.int .i64 0, .int .i64 0]) := Blk.new _ _ _ (by simp)
                have D13 : Hid (Below wc.heap.size wc (W4.alloc (.cells #[.int .i64 0, .int .i64 0] 98))) := below_then D4.out (below_self _ _)
                have L42 : Hid (wc.heap.size ≤ W4.heap.size) := (by have := D4.out.size; (try simp at this); unfold Hid; omega)
                refine hK5.out _ _ (show S9 g1 g2 V k lo hg x y _ from HSX9.out _ (HT3.out.below D13.out) (blk_keep D13.out V3.out)) (fun s13 => ?_)
                refine wpAnyH_ready (rs := [41]) (by kernel_rfl) (by simp) ?_
                refine AllReadyH.cons rfl (fun K14 hK14 => ?_) AllReadyH.nil
                go_simp
                have A41_15 : Hid (Blk ((W4.alloc (.cells #[.int .i64 0, .int .i64 0] 98)).alloc (.cells #[.int .i64 0, .int .i64 0] 98)) (W4.heap.size + 1) 98 #[.int .i64 0, .int .i64 0]) := Blk.new _ _ _ (by simp)
                have D15 : Hid (Below wc.heap.size wc ((W4.alloc (.cells #[.int .i64 0, .int .i64 0] 98)).alloc (.cells #[.int .i64 0, .int .i64 0] 98))) := below_then D13.out (below_self _ _)
                have N15 : Hid (W4.heap.size ≠ W4.heap.size + 1) := (by have := A42_13.out.lt; (try simp at this); unfold Hid; omega)
                have A42_15 := Lib.hid (A42_13.out.alloc (.cells #[.int .i64 0, .int .i64 0] 98))
                have L41 : Hid (wc.heap.size ≤ W4.heap.size + 1) := (by have := D13.out.size; (try simp at this); unfold Hid; omega)
                refine hK14.out _ _ (show S9 g1 g2 V k lo hg x y _ from HSX9.out _ (HT3.out.below D15.out) (blk_keep D15.out V3.out)) (fun s15 => ?_)
                refine wpAnyH_ready (rs := [43]) (by kernel_rfl) (by simp) ?_
                refine AllReadyH.cons rfl (fun K16 hK16 => ?_) AllReadyH.nil
                rw [if_pos (by rfl)]
                refine wp_store_rowN rfl _ _ _ rfl _ _ rfl rfl _ _ A41_15.out (by kernel_rfl) rfl (onesT2 _ _) ?_
                have D17 := Lib.hid (below_setR D15.out L41.out #[.int .i64 p1, .int .i64 p2])
                have A41_17 := Lib.hid (A41_15.out.setRow #[.int .i64 p1, .int .i64 p2])
                have A42_17 := Lib.hid (A42_15.out.setRow_far (g' := W4.heap.size + 1) (by have := N15.out; omega) #[.int .i64 p1, .int .i64 p2])
                refine hK16.out _ _ (show S9 g1 g2 V k lo hg x y _ from HSX9.out _ (HT3.out.below D17.out) (blk_keep D17.out V3.out)) (fun s17 => ?_)
                refine wpAnyH_ready (rs := [44]) (by kernel_rfl) (by simp) ?_
                refine AllReadyH.cons rfl (fun K18 hK18 => ?_) AllReadyH.nil
                rw [if_pos (by rfl)]
                refine wp_store_rowN rfl _ _ _ rfl _ _ rfl rfl _ _ A42_17.out (by kernel_rfl) rfl (onesT2 _ _) ?_
                have D19 := Lib.hid (below_setR D17.out L42.out #[.int .i64 p3, .int .i64 l4])
                have A42_19 := Lib.hid (A42_17.out.setRow #[.int .i64 p3, .int .i64 l4])
                have A41_19 := Lib.hid (A41_17.out.setRow_far (g' := W4.heap.size) (by have := N15.out; omega) #[.int .i64 p3, .int .i64 l4])
                refine hK18.out _ _ (show S9 g1 g2 V k lo hg x y _ from HSX9.out _ (HT3.out.below D19.out) (blk_keep D19.out V3.out)) (fun s19 => ?_)
                refine wpAnyH_done (by kernel_rfl) ?_ _
                go_wp2_with fail
                go_meet
                exact ⟨_, _, rfl, rfl, (by have := N15.out; omega), HT3.out.below D19.out, A41_19.out, A42_19.out, Nat.lt_of_lt_of_le HT3.out.tr.lt L41.out, Nat.lt_of_lt_of_le HT3.out.tr.lt L42.out, own_not HT3.out.p1 L41.out, own_not HT3.out.p1 L42.out, own_not HT3.out.p2 L41.out, own_not HT3.out.p2 L42.out⟩
              refine AllReadyH.cons rfl (fun K3 hK3 => ?_) ?_
              · go_simp
                have A41_20 : Hid (Blk (W2.alloc (.cells #[.int .i64 0, .int .i64 0] 98)) (W2.heap.size) 98 #[.int .i64 0, .int .i64 0]) := Blk.new _ _ _ (by simp)
                have D20 : Hid (Below wc.heap.size wc (W2.alloc (.cells #[.int .i64 0, .int .i64 0] 98))) := below_then D2.out (below_self _ _)
                have L41 : Hid (wc.heap.size ≤ W2.heap.size) := (by have := D2.out.size; (try simp at this); unfold Hid; omega)
                refine hK3.out _ _ (show S9 g1 g2 V k lo hg x y _ from HSX9.out _ (HT3.out.below D20.out) (blk_keep D20.out V3.out)) (fun s20 => ?_)
                refine wpAnyH_ready (rs := [40, 42]) (by kernel_rfl) (by simp) ?_
                refine AllReadyH.cons rfl (fun K21 hK21 => ?_) ?_
                · go_simp
                  refine (HSP.out _ _ _).mono ?_
                  rintro e W22 ⟨rfl, b22⟩
                  have D22 := Lib.hid (below_then D20.out b22)
                  have A41_22 := Lib.hid (blk_keep b22 A41_20.out)
                  clear b22 s20
                  have s22 := HSX9.out _ (HT3.out.below D22.out) (blk_keep D22.out V3.out)
                  refine hK21.out _ _ s22 (fun _ => ?_)
                  refine wpAnyH_ready (rs := [42]) (by kernel_rfl) (by simp) ?_
                  refine AllReadyH.cons rfl (fun K23 hK23 => ?_) AllReadyH.nil
                  go_simp
                  have A42_24 : Hid (Blk (W22.alloc (.cells #[.int .i64 0, .int .i64 0] 98)) (W22.heap.size) 98 #[.int .i64 0, .int .i64 0]) := Blk.new _ _ _ (by simp)
                  have D24 : Hid (Below wc.heap.size wc (W22.alloc (.cells #[.int .i64 0, .int .i64 0] 98))) := below_then D22.out (below_self _ _)
                  have N24 : Hid (W2.heap.size ≠ W22.heap.size) := (by have := A41_22.out.lt; (try simp at this); unfold Hid; omega)
                  have A41_24 := Lib.hid (A41_22.out.alloc (.cells #[.int .i64 0, .int .i64 0] 98))
                  have L42 : Hid (wc.heap.size ≤ W22.heap.size) := (by have := D22.out.size; (try simp at this); unfold Hid; omega)
                  refine hK23.out _ _ (show S9 g1 g2 V k lo hg x y _ from HSX9.out _ (HT3.out.below D24.out) (blk_keep D24.out V3.out)) (fun s24 => ?_)
                  refine wpAnyH_ready (rs := [43]) (by kernel_rfl) (by simp) ?_
                  refine AllReadyH.cons rfl (fun K25 hK25 => ?_) AllReadyH.nil
                  rw [if_pos (by rfl)]
                  refine wp_store_rowN rfl _ _ _ rfl _ _ rfl rfl _ _ A41_24.out (by kernel_rfl) rfl (onesT2 _ _) ?_
                  have D26 := Lib.hid (below_setR D24.out L41.out #[.int .i64 p1, .int .i64 p2])
                  have A41_26 := Lib.hid (A41_24.out.setRow #[.int .i64 p1, .int .i64 p2])
                  have A42_26 := Lib.hid (A42_24.out.setRow_far (g' := W2.heap.size) (by have := N24.out; omega) #[.int .i64 p1, .int .i64 p2])
                  refine hK25.out _ _ (show S9 g1 g2 V k lo hg x y _ from HSX9.out _ (HT3.out.below D26.out) (blk_keep D26.out V3.out)) (fun s26 => ?_)
                  refine wpAnyH_ready (rs := [44]) (by kernel_rfl) (by simp) ?_
                  refine AllReadyH.cons rfl (fun K27 hK27 => ?_) AllReadyH.nil
                  rw [if_pos (by rfl)]
                  refine wp_store_rowN rfl _ _ _ rfl _ _ rfl rfl _ _ A42_26.out (by kernel_rfl) rfl (onesT2 _ _) ?_
                  have D28 := Lib.hid (below_setR D26.out L42.out #[.int .i64 p3, .int .i64 l4])
                  have A42_28 := Lib.hid (A42_26.out.setRow #[.int .i64 p3, .int .i64 l4])
                  have A41_28 := Lib.hid (A41_26.out.setRow_far (g' := W22.heap.size) (by have := N24.out; omega) #[.int .i64 p3, .int .i64 l4])
                  refine hK27.out _ _ (show S9 g1 g2 V k lo hg x y _ from HSX9.out _ (HT3.out.below D28.out) (blk_keep D28.out V3.out)) (fun s28 => ?_)
                  refine wpAnyH_done (by kernel_rfl) ?_ _
                  go_wp2_with fail
                  go_meet
                  exact ⟨_, _, rfl, rfl, (by have := N24.out; omega), HT3.out.below D28.out, A41_28.out, A42_28.out, Nat.lt_of_lt_of_le HT3.out.tr.lt L41.out, Nat.lt_of_lt_of_le HT3.out.tr.lt L42.out, own_not HT3.out.p1 L41.out, own_not HT3.out.p1 L42.out, own_not HT3.out.p2 L41.out, own_not HT3.out.p2 L42.out⟩
                refine AllReadyH.cons rfl (fun K21 hK21 => ?_) AllReadyH.nil
                go_simp
                have A42_29 : Hid (Blk ((W2.alloc (.cells #[.int .i64 0, .int .i64 0] 98)).alloc (.cells #[.int .i64 0, .int .i64 0] 98)) (W2.heap.size + 1) 98 #[.int .i64 0, .int .i64 0]) := Blk.new _ _ _ (by simp)
                have D29 : Hid (Below wc.heap.size wc ((W2.alloc (.cells #[.int .i64 0, .int .i64 0] 98)).alloc (.cells #[.int .i64 0, .int .i64 0] 98))) := below_then D20.out (below_self _ _)
                have N29 : Hid (W2.heap.size ≠ W2.heap.size + 1) := (by have := A41_20.out.lt; (try simp at this); unfold Hid; omega)
                have A41_29 := Lib.hid (A41_20.out.alloc (.cells #[.int .i64 0, .int .i64 0] 98))
                have L42 : Hid (wc.heap.size ≤ W2.heap.size + 1) := (by have := D20.out.size; (try simp at this); unfold Hid; omega)
                refine hK21.out _ _ (show S9 g1 g2 V k lo hg x y _ from HSX9.out _ (HT3.out.below D29.out) (blk_keep D29.out V3.out)) (fun s29 => ?_)
                refine wpAnyH_ready (rs := [40]) (by kernel_rfl) (by simp) ?_
                refine AllReadyH.cons rfl (fun K30 hK30 => ?_) AllReadyH.nil
                go_simp
                refine (HSP.out _ _ _).mono ?_
                rintro e W31 ⟨rfl, b31⟩
                have D31 := Lib.hid (below_then D29.out b31)
                have A41_31 := Lib.hid (blk_keep b31 A41_29.out)
                have A42_31 := Lib.hid (blk_keep b31 A42_29.out)
                clear b31 s29
                have s31 := HSX9.out _ (HT3.out.below D31.out) (blk_keep D31.out V3.out)
                refine hK30.out _ _ s31 (fun _ => ?_)
                refine wpAnyH_ready (rs := [43]) (by kernel_rfl) (by simp) ?_
                refine AllReadyH.cons rfl (fun K32 hK32 => ?_) AllReadyH.nil
                rw [if_pos (by rfl)]
                refine wp_store_rowN rfl _ _ _ rfl _ _ rfl rfl _ _ A41_31.out (by kernel_rfl) rfl (onesT2 _ _) ?_
                have D33 := Lib.hid (below_setR D31.out L41.out #[.int .i64 p1, .int .i64 p2])
                have A41_33 := Lib.hid (A41_31.out.setRow #[.int .i64 p1, .int .i64 p2])
                have A42_33 := Lib.hid (A42_31.out.setRow_far (g' := W2.heap.size) (by have := N29.out; omega) #[.int .i64 p1, .int .i64 p2])
                refine hK32.out _ _ (show S9 g1 g2 V k lo hg x y _ from HSX9.out _ (HT3.out.below D33.out) (blk_keep D33.out V3.out)) (fun s33 => ?_)
                refine wpAnyH_ready (rs := [44]) (by kernel_rfl) (by simp) ?_
                refine AllReadyH.cons rfl (fun K34 hK34 => ?_) AllReadyH.nil
                rw [if_pos (by rfl)]
                refine wp_store_rowN rfl _ _ _ rfl _ _ rfl rfl _ _ A42_33.out (by kernel_rfl) rfl (onesT2 _ _) ?_
                have D35 := Lib.hid (below_setR D33.out L42.out #[.int .i64 p3, .int .i64 l4])
                have A42_35 := Lib.hid (A42_33.out.setRow #[.int .i64 p3, .int .i64 l4])
                have A41_35 := Lib.hid (A41_33.out.setRow_far (g' := W2.heap.size + 1) (by have := N29.out; omega) #[.int .i64 p3, .int .i64 l4])
                refine hK34.out _ _ (show S9 g1 g2 V k lo hg x y _ from HSX9.out _ (HT3.out.below D35.out) (blk_keep D35.out V3.out)) (fun s35 => ?_)
                refine wpAnyH_done (by kernel_rfl) ?_ _
                go_wp2_with fail
                go_meet
                exact ⟨_, _, rfl, rfl, (by have := N29.out; omega), HT3.out.below D35.out, A41_35.out, A42_35.out, Nat.lt_of_lt_of_le HT3.out.tr.lt L41.out, Nat.lt_of_lt_of_le HT3.out.tr.lt L42.out, own_not HT3.out.p1 L41.out, own_not HT3.out.p1 L42.out, own_not HT3.out.p2 L41.out, own_not HT3.out.p2 L42.out⟩
              refine AllReadyH.cons rfl (fun K3 hK3 => ?_) AllReadyH.nil
              go_simp
              have A42_36 : Hid (Blk (W2.alloc (.cells #[.int .i64 0, .int .i64 0] 98)) (W2.heap.size) 98 #[.int .i64 0, .int .i64 0]) := Blk.new _ _ _ (by simp)
              have D36 : Hid (Below wc.heap.size wc (W2.alloc (.cells #[.int .i64 0, .int .i64 0] 98))) := below_then D2.out (below_self _ _)
              have L42 : Hid (wc.heap.size ≤ W2.heap.size) := (by have := D2.out.size; (try simp at this); unfold Hid; omega)
              refine hK3.out _ _ (show S9 g1 g2 V k lo hg x y _ from HSX9.out _ (HT3.out.below D36.out) (blk_keep D36.out V3.out)) (fun s36 => ?_)
              refine wpAnyH_ready (rs := [40, 41]) (by kernel_rfl) (by simp) ?_
              refine AllReadyH.cons rfl (fun K37 hK37 => ?_) ?_
              · go_simp
                refine (HSP.out _ _ _).mono ?_
                rintro e W38 ⟨rfl, b38⟩
                have D38 := Lib.hid (below_then D36.out b38)
                have A42_38 := Lib.hid (blk_keep b38 A42_36.out)
                clear b38 s36
                have s38 := HSX9.out _ (HT3.out.below D38.out) (blk_keep D38.out V3.out)
                refine hK37.out _ _ s38 (fun _ => ?_)
                refine wpAnyH_ready (rs := [41]) (by kernel_rfl) (by simp) ?_
                refine AllReadyH.cons rfl (fun K39 hK39 => ?_) AllReadyH.nil
                go_simp
                have A41_40 : Hid (Blk (W38.alloc (.cells #[.int .i64 0, .int .i64 0] 98)) (W38.heap.size) 98 #[.int .i64 0, .int .i64 0]) := Blk.new _ _ _ (by simp)
                have D40 : Hid (Below wc.heap.size wc (W38.alloc (.cells #[.int .i64 0, .int .i64 0] 98))) := below_then D38.out (below_self _ _)
                have N40 : Hid (W2.heap.size ≠ W38.heap.size) := (by have := A42_38.out.lt; (try simp at this); unfold Hid; omega)
                have A42_40 := Lib.hid (A42_38.out.alloc (.cells #[.int .i64 0, .int .i64 0] 98))
                have L41 : Hid (wc.heap.size ≤ W38.heap.size) := (by have := D38.out.size; (try simp at this); unfold Hid; omega)
                refine hK39.out _ _ (show S9 g1 g2 V k lo hg x y _ from HSX9.out _ (HT3.out.below D40.out) (blk_keep D40.out V3.out)) (fun s40 => ?_)
                refine wpAnyH_ready (rs := [43]) (by kernel_rfl) (by simp) ?_
                refine AllReadyH.cons rfl (fun K41 hK41 => ?_) AllReadyH.nil
                rw [if_pos (by rfl)]
                refine wp_store_rowN rfl _ _ _ rfl _ _ rfl rfl _ _ A41_40.out (by kernel_rfl) rfl (onesT2 _ _) ?_
                have D42 := Lib.hid (below_setR D40.out L41.out #[.int .i64 p1, .int .i64 p2])
                have A41_42 := Lib.hid (A41_40.out.setRow #[.int .i64 p1, .int .i64 p2])
                have A42_42 := Lib.hid (A42_40.out.setRow_far (g' := W38.heap.size) (by have := N40.out; omega) #[.int .i64 p1, .int .i64 p2])
                refine hK41.out _ _ (show S9 g1 g2 V k lo hg x y _ from HSX9.out _ (HT3.out.below D42.out) (blk_keep D42.out V3.out)) (fun s42 => ?_)
                refine wpAnyH_ready (rs := [44]) (by kernel_rfl) (by simp) ?_
                refine AllReadyH.cons rfl (fun K43 hK43 => ?_) AllReadyH.nil
                rw [if_pos (by rfl)]
                refine wp_store_rowN rfl _ _ _ rfl _ _ rfl rfl _ _ A42_42.out (by kernel_rfl) rfl (onesT2 _ _) ?_
                have D44 := Lib.hid (below_setR D42.out L42.out #[.int .i64 p3, .int .i64 l4])
                have A42_44 := Lib.hid (A42_42.out.setRow #[.int .i64 p3, .int .i64 l4])
                have A41_44 := Lib.hid (A41_42.out.setRow_far (g' := W2.heap.size) (by have := N40.out; omega) #[.int .i64 p3, .int .i64 l4])
                refine hK43.out _ _ (show S9 g1 g2 V k lo hg x y _ from HSX9.out _ (HT3.out.below D44.out) (blk_keep D44.out V3.out)) (fun s44 => ?_)
                refine wpAnyH_done (by kernel_rfl) ?_ _
                go_wp2_with fail
                go_meet
                exact ⟨_, _, rfl, rfl, (by have := N40.out; omega), HT3.out.below D44.out, A41_44.out, A42_44.out, Nat.lt_of_lt_of_le HT3.out.tr.lt L41.out, Nat.lt_of_lt_of_le HT3.out.tr.lt L42.out, own_not HT3.out.p1 L41.out, own_not HT3.out.p1 L42.out, own_not HT3.out.p2 L41.out, own_not HT3.out.p2 L42.out⟩
              refine AllReadyH.cons rfl (fun K37 hK37 => ?_) AllReadyH.nil
              go_simp
              have A41_45 : Hid (Blk ((W2.alloc (.cells #[.int .i64 0, .int .i64 0] 98)).alloc (.cells #[.int .i64 0, .int .i64 0] 98)) (W2.heap.size + 1) 98 #[.int .i64 0, .int .i64 0]) := Blk.new _ _ _ (by simp)
              have D45 : Hid (Below wc.heap.size wc ((W2.alloc (.cells #[.int .i64 0, .int .i64 0] 98)).alloc (.cells #[.int .i64 0, .int .i64 0] 98))) := below_then D36.out (below_self _ _)
              have N45 : Hid (W2.heap.size ≠ W2.heap.size + 1) := (by have := A42_36.out.lt; (try simp at this); unfold Hid; omega)
              have A42_45 := Lib.hid (A42_36.out.alloc (.cells #[.int .i64 0, .int .i64 0] 98))
              have L41 : Hid (wc.heap.size ≤ W2.heap.size + 1) := (by have := D36.out.size; (try simp at this); unfold Hid; omega)
              refine hK37.out _ _ (show S9 g1 g2 V k lo hg x y _ from HSX9.out _ (HT3.out.below D45.out) (blk_keep D45.out V3.out)) (fun s45 => ?_)
              refine wpAnyH_ready (rs := [40]) (by kernel_rfl) (by simp) ?_
              refine AllReadyH.cons rfl (fun K46 hK46 => ?_) AllReadyH.nil
              go_simp
              refine (HSP.out _ _ _).mono ?_
              rintro e W47 ⟨rfl, b47⟩
              have D47 := Lib.hid (below_then D45.out b47)
              have A42_47 := Lib.hid (blk_keep b47 A42_45.out)
              have A41_47 := Lib.hid (blk_keep b47 A41_45.out)
              clear b47 s45
              have s47 := HSX9.out _ (HT3.out.below D47.out) (blk_keep D47.out V3.out)
              refine hK46.out _ _ s47 (fun _ => ?_)
              refine wpAnyH_ready (rs := [43]) (by kernel_rfl) (by simp) ?_
              refine AllReadyH.cons rfl (fun K48 hK48 => ?_) AllReadyH.nil
              rw [if_pos (by rfl)]
              refine wp_store_rowN rfl _ _ _ rfl _ _ rfl rfl _ _ A41_47.out (by kernel_rfl) rfl (onesT2 _ _) ?_
              have D49 := Lib.hid (below_setR D47.out L41.out #[.int .i64 p1, .int .i64 p2])
              have A41_49 := Lib.hid (A41_47.out.setRow #[.int .i64 p1, .int .i64 p2])
              have A42_49 := Lib.hid (A42_47.out.setRow_far (g' := W2.heap.size + 1) (by have := N45.out; omega) #[.int .i64 p1, .int .i64 p2])
              refine hK48.out _ _ (show S9 g1 g2 V k lo hg x y _ from HSX9.out _ (HT3.out.below D49.out) (blk_keep D49.out V3.out)) (fun s49 => ?_)
              refine wpAnyH_ready (rs := [44]) (by kernel_rfl) (by simp) ?_
              refine AllReadyH.cons rfl (fun K50 hK50 => ?_) AllReadyH.nil
              rw [if_pos (by rfl)]
              refine wp_store_rowN rfl _ _ _ rfl _ _ rfl rfl _ _ A42_49.out (by kernel_rfl) rfl (onesT2 _ _) ?_
              have D51 := Lib.hid (below_setR D49.out L42.out #[.int .i64 p3, .int .i64 l4])
              have A42_51 := Lib.hid (A42_49.out.setRow #[.int .i64 p3, .int .i64 l4])
              have A41_51 := Lib.hid (A41_49.out.setRow_far (g' := W2.heap.size) (by have := N45.out; omega) #[.int .i64 p3, .int .i64 l4])
              refine hK50.out _ _ (show S9 g1 g2 V k lo hg x y _ from HSX9.out _ (HT3.out.below D51.out) (blk_keep D51.out V3.out)) (fun s51 => ?_)
              refine wpAnyH_done (by kernel_rfl) ?_ _
              go_wp2_with fail
              go_meet
              exact ⟨_, _, rfl, rfl, (by have := N45.out; omega), HT3.out.below D51.out, A41_51.out, A42_51.out, Nat.lt_of_lt_of_le HT3.out.tr.lt L41.out, Nat.lt_of_lt_of_le HT3.out.tr.lt L42.out, own_not HT3.out.p1 L41.out, own_not HT3.out.p1 L42.out, own_not HT3.out.p2 L41.out, own_not HT3.out.p2 L42.out⟩
            refine AllReadyH.cons rfl (fun K1 hK1 => ?_) ?_
            · go_simp
              have A41_52 : Hid (Blk (wc.alloc (.cells #[.int .i64 0, .int .i64 0] 98)) (wc.heap.size) 98 #[.int .i64 0, .int .i64 0]) := Blk.new _ _ _ (by simp)
              have U52 : Hid (Below wc.heap.size wc (wc.alloc (.cells #[.int .i64 0, .int .i64 0] 98))) := (below_self wc (.cells #[.int .i64 0, .int .i64 0] 98))
              have D52 : Hid (Below wc.heap.size wc (wc.alloc (.cells #[.int .i64 0, .int .i64 0] 98)).drew) := U52.out.drew
              have L41 : Hid (wc.heap.size ≤ wc.heap.size) := (by unfold Hid; omega)
              have B41_52 := Lib.hid (blk_keep (Below.refl _ _).drew A41_52.out)
              refine hK1.out _ _ (show S9 g1 g2 V k lo hg x y _ from HSX9.out _ (HT3.out.below D52.out) (blk_keep D52.out V3.out)) (fun s52 => ?_)
              refine wpAnyH_ready (rs := [20, 42]) (by kernel_rfl) (by simp) ?_
              refine AllReadyH.cons rfl (fun K53 hK53 => ?_) ?_
              · go_simp
                refine (HSP.out _ _ _).mono ?_
                rintro e W54 ⟨rfl, b54⟩
                have D54 := Lib.hid (below_then D52.out b54)
                have A41_54 := Lib.hid (blk_keep b54 B41_52.out)
                clear b54 s52
                have s54 := HSX9.out _ (HT3.out.below D54.out) (blk_keep D54.out V3.out)
                refine hK53.out _ _ s54 (fun _ => ?_)
                refine wpAnyH_ready (rs := [40, 42]) (by kernel_rfl) (by simp) ?_
                refine AllReadyH.cons rfl (fun K55 hK55 => ?_) ?_
                · go_simp
                  refine (HSP.out _ _ _).mono ?_
                  rintro e W56 ⟨rfl, b56⟩
                  have D56 := Lib.hid (below_then D54.out b56)
                  have A41_56 := Lib.hid (blk_keep b56 A41_54.out)
                  clear b56 s54
                  have s56 := HSX9.out _ (HT3.out.below D56.out) (blk_keep D56.out V3.out)
                  refine hK55.out _ _ s56 (fun _ => ?_)
                  refine wpAnyH_ready (rs := [42]) (by kernel_rfl) (by simp) ?_
                  refine AllReadyH.cons rfl (fun K57 hK57 => ?_) AllReadyH.nil
                  go_simp
                  have A42_58 : Hid (Blk (W56.alloc (.cells #[.int .i64 0, .int .i64 0] 98)) (W56.heap.size) 98 #[.int .i64 0, .int .i64 0]) := Blk.new _ _ _ (by simp)
                  have D58 : Hid (Below wc.heap.size wc (W56.alloc (.cells #[.int .i64 0, .int .i64 0] 98))) := below_then D56.out (below_self _ _)
                  have N58 : Hid (wc.heap.size ≠ W56.heap.size) := (by have := A41_56.out.lt; (try simp at this); unfold Hid; omega)
                  have A41_58 := Lib.hid (A41_56.out.alloc (.cells #[.int .i64 0, .int .i64 0] 98))
                  have L42 : Hid (wc.heap.size ≤ W56.heap.size) := (by have := D56.out.size; (try simp at this); unfold Hid; omega)
                  refine hK57.out _ _ (show S9 g1 g2 V k lo hg x y _ from HSX9.out _ (HT3.out.below D58.out) (blk_keep D58.out V3.out)) (fun s58 => ?_)
                  refine wpAnyH_ready (rs := [43]) (by kernel_rfl) (by simp) ?_
                  refine AllReadyH.cons rfl (fun K59 hK59 => ?_) AllReadyH.nil
                  rw [if_pos (by rfl)]
                  refine wp_store_rowN rfl _ _ _ rfl _ _ rfl rfl _ _ A41_58.out (by kernel_rfl) rfl (onesT2 _ _) ?_
                  have D60 := Lib.hid (below_setR D58.out L41.out #[.int .i64 p1, .int .i64 p2])
                  have A41_60 := Lib.hid (A41_58.out.setRow #[.int .i64 p1, .int .i64 p2])
                  have A42_60 := Lib.hid (A42_58.out.setRow_far (g' := wc.heap.size) (by have := N58.out; omega) #[.int .i64 p1, .int .i64 p2])
                  refine hK59.out _ _ (show S9 g1 g2 V k lo hg x y _ from HSX9.out _ (HT3.out.below D60.out) (blk_keep D60.out V3.out)) (fun s60 => ?_)
                  refine wpAnyH_ready (rs := [44]) (by kernel_rfl) (by simp) ?_
                  refine AllReadyH.cons rfl (fun K61 hK61 => ?_) AllReadyH.nil
                  rw [if_pos (by rfl)]
                  refine wp_store_rowN rfl _ _ _ rfl _ _ rfl rfl _ _ A42_60.out (by kernel_rfl) rfl (onesT2 _ _) ?_
                  have D62 := Lib.hid (below_setR D60.out L42.out #[.int .i64 p3, .int .i64 l4])
                  have A42_62 := Lib.hid (A42_60.out.setRow #[.int .i64 p3, .int .i64 l4])
                  have A41_62 := Lib.hid (A41_60.out.setRow_far (g' := W56.heap.size) (by have := N58.out; omega) #[.int .i64 p3, .int .i64 l4])
                  refine hK61.out _ _ (show S9 g1 g2 V k lo hg x y _ from HSX9.out _ (HT3.out.below D62.out) (blk_keep D62.out V3.out)) (fun s62 => ?_)
                  refine wpAnyH_done (by kernel_rfl) ?_ _
                  go_wp2_with fail
                  go_meet
                  exact ⟨_, _, rfl, rfl, (by have := N58.out; omega), HT3.out.below D62.out, A41_62.out, A42_62.out, Nat.lt_of_lt_of_le HT3.out.tr.lt L41.out, Nat.lt_of_lt_of_le HT3.out.tr.lt L42.out, own_not HT3.out.p1 L41.out, own_not HT3.out.p1 L42.out, own_not HT3.out.p2 L41.out, own_not HT3.out.p2 L42.out⟩
                refine AllReadyH.cons rfl (fun K55 hK55 => ?_) AllReadyH.nil
                go_simp
                have A42_63 : Hid (Blk (W54.alloc (.cells #[.int .i64 0, .int .i64 0] 98)) (W54.heap.size) 98 #[.int .i64 0, .int .i64 0]) := Blk.new _ _ _ (by simp)
                have D63 : Hid (Below wc.heap.size wc (W54.alloc (.cells #[.int .i64 0, .int .i64 0] 98))) := below_then D54.out (below_self _ _)
                have N63 : Hid (wc.heap.size ≠ W54.heap.size) := (by have := A41_54.out.lt; (try simp at this); unfold Hid; omega)
                have A41_63 := Lib.hid (A41_54.out.alloc (.cells #[.int .i64 0, .int .i64 0] 98))
                have L42 : Hid (wc.heap.size ≤ W54.heap.size) := (by have := D54.out.size; (try simp at this); unfold Hid; omega)
                refine hK55.out _ _ (show S9 g1 g2 V k lo hg x y _ from HSX9.out _ (HT3.out.below D63.out) (blk_keep D63.out V3.out)) (fun s63 => ?_)
                refine wpAnyH_ready (rs := [40]) (by kernel_rfl) (by simp) ?_
                refine AllReadyH.cons rfl (fun K64 hK64 => ?_) AllReadyH.nil
                go_simp
                refine (HSP.out _ _ _).mono ?_
                rintro e W65 ⟨rfl, b65⟩
                have D65 := Lib.hid (below_then D63.out b65)
                have A41_65 := Lib.hid (blk_keep b65 A41_63.out)
                have A42_65 := Lib.hid (blk_keep b65 A42_63.out)
                clear b65 s63
                have s65 := HSX9.out _ (HT3.out.below D65.out) (blk_keep D65.out V3.out)
                refine hK64.out _ _ s65 (fun _ => ?_)
                refine wpAnyH_ready (rs := [43]) (by kernel_rfl) (by simp) ?_
                refine AllReadyH.cons rfl (fun K66 hK66 => ?_) AllReadyH.nil
                rw [if_pos (by rfl)]
                refine wp_store_rowN rfl _ _ _ rfl _ _ rfl rfl _ _ A41_65.out (by kernel_rfl) rfl (onesT2 _ _) ?_
                have D67 := Lib.hid (below_setR D65.out L41.out #[.int .i64 p1, .int .i64 p2])
                have A41_67 := Lib.hid (A41_65.out.setRow #[.int .i64 p1, .int .i64 p2])
                have A42_67 := Lib.hid (A42_65.out.setRow_far (g' := wc.heap.size) (by have := N63.out; omega) #[.int .i64 p1, .int .i64 p2])
                refine hK66.out _ _ (show S9 g1 g2 V k lo hg x y _ from HSX9.out _ (HT3.out.below D67.out) (blk_keep D67.out V3.out)) (fun s67 => ?_)
                refine wpAnyH_ready (rs := [44]) (by kernel_rfl) (by simp) ?_
                refine AllReadyH.cons rfl (fun K68 hK68 => ?_) AllReadyH.nil
                rw [if_pos (by rfl)]
                refine wp_store_rowN rfl _ _ _ rfl _ _ rfl rfl _ _ A42_67.out (by kernel_rfl) rfl (onesT2 _ _) ?_
                have D69 := Lib.hid (below_setR D67.out L42.out #[.int .i64 p3, .int .i64 l4])
                have A42_69 := Lib.hid (A42_67.out.setRow #[.int .i64 p3, .int .i64 l4])
                have A41_69 := Lib.hid (A41_67.out.setRow_far (g' := W54.heap.size) (by have := N63.out; omega) #[.int .i64 p3, .int .i64 l4])
                refine hK68.out _ _ (show S9 g1 g2 V k lo hg x y _ from HSX9.out _ (HT3.out.below D69.out) (blk_keep D69.out V3.out)) (fun s69 => ?_)
                refine wpAnyH_done (by kernel_rfl) ?_ _
                go_wp2_with fail
                go_meet
                exact ⟨_, _, rfl, rfl, (by have := N63.out; omega), HT3.out.below D69.out, A41_69.out, A42_69.out, Nat.lt_of_lt_of_le HT3.out.tr.lt L41.out, Nat.lt_of_lt_of_le HT3.out.tr.lt L42.out, own_not HT3.out.p1 L41.out, own_not HT3.out.p1 L42.out, own_not HT3.out.p2 L41.out, own_not HT3.out.p2 L42.out⟩
              refine AllReadyH.cons rfl (fun K53 hK53 => ?_) AllReadyH.nil
              go_simp
              have A42_70 : Hid (Blk ((wc.alloc (.cells #[.int .i64 0, .int .i64 0] 98)).alloc (.cells #[.int .i64 0, .int .i64 0] 98)) (wc.heap.size + 1) 98 #[.int .i64 0, .int .i64 0]) := Blk.new _ _ _ (by simp)
              have U70 : Hid (Below wc.heap.size wc ((wc.alloc (.cells #[.int .i64 0, .int .i64 0] 98)).alloc (.cells #[.int .i64 0, .int .i64 0] 98))) := (below_alloc' U52.out (.cells #[.int .i64 0, .int .i64 0] 98))
              have D70 : Hid (Below wc.heap.size wc ((wc.alloc (.cells #[.int .i64 0, .int .i64 0] 98)).alloc (.cells #[.int .i64 0, .int .i64 0] 98)).drew) := U70.out.drew
              have N70 : Hid (wc.heap.size ≠ wc.heap.size + 1) := (by have := A41_52.out.lt; (try simp at this); unfold Hid; omega)
              have A41_70 := Lib.hid (A41_52.out.alloc (.cells #[.int .i64 0, .int .i64 0] 98))
              have L42 : Hid (wc.heap.size ≤ wc.heap.size + 1) := (by unfold Hid; omega)
              have B41_70 := Lib.hid (blk_keep (Below.refl _ _).drew A41_70.out)
              have B42_70 := Lib.hid (blk_keep (Below.refl _ _).drew A42_70.out)
              refine hK53.out _ _ (show S9 g1 g2 V k lo hg x y _ from HSX9.out _ (HT3.out.below D70.out) (blk_keep D70.out V3.out)) (fun s70 => ?_)
              refine wpAnyH_ready (rs := [20]) (by kernel_rfl) (by simp) ?_
              refine AllReadyH.cons rfl (fun K71 hK71 => ?_) AllReadyH.nil
              go_simp
              refine (HSP.out _ _ _).mono ?_
              rintro e W72 ⟨rfl, b72⟩
              have D72 := Lib.hid (below_then D70.out b72)
              have A41_72 := Lib.hid (blk_keep b72 B41_70.out)
              have A42_72 := Lib.hid (blk_keep b72 B42_70.out)
              clear b72 s70
              have s72 := HSX9.out _ (HT3.out.below D72.out) (blk_keep D72.out V3.out)
              refine hK71.out _ _ s72 (fun _ => ?_)
              refine wpAnyH_ready (rs := [40]) (by kernel_rfl) (by simp) ?_
              refine AllReadyH.cons rfl (fun K73 hK73 => ?_) AllReadyH.nil
              go_simp
              refine (HSP.out _ _ _).mono ?_
              rintro e W74 ⟨rfl, b74⟩
              have D74 := Lib.hid (below_then D72.out b74)
              have A41_74 := Lib.hid (blk_keep b74 A41_72.out)
              have A42_74 := Lib.hid (blk_keep b74 A42_72.out)
              clear b74 s72
              have s74 := HSX9.out _ (HT3.out.below D74.out) (blk_keep D74.out V3.out)
              refine hK73.out _ _ s74 (fun _ => ?_)
              refine wpAnyH_ready (rs := [43]) (by kernel_rfl) (by simp) ?_
              refine AllReadyH.cons rfl (fun K75 hK75 => ?_) AllReadyH.nil
              rw [if_pos (by rfl)]
              refine wp_store_rowN rfl _ _ _ rfl _ _ rfl rfl _ _ A41_74.out (by kernel_rfl) rfl (onesT2 _ _) ?_
              have D76 := Lib.hid (below_setR D74.out L41.out #[.int .i64 p1, .int .i64 p2])
              have A41_76 := Lib.hid (A41_74.out.setRow #[.int .i64 p1, .int .i64 p2])
              have A42_76 := Lib.hid (A42_74.out.setRow_far (g' := wc.heap.size) (by have := N70.out; omega) #[.int .i64 p1, .int .i64 p2])
              refine hK75.out _ _ (show S9 g1 g2 V k lo hg x y _ from HSX9.out _ (HT3.out.below D76.out) (blk_keep D76.out V3.out)) (fun s76 => ?_)
              refine wpAnyH_ready (rs := [44]) (by kernel_rfl) (by simp) ?_
              refine AllReadyH.cons rfl (fun K77 hK77 => ?_) AllReadyH.nil
              rw [if_pos (by rfl)]
              refine wp_store_rowN rfl _ _ _ rfl _ _ rfl rfl _ _ A42_76.out (by kernel_rfl) rfl (onesT2 _ _) ?_
              have D78 := Lib.hid (below_setR D76.out L42.out #[.int .i64 p3, .int .i64 l4])
              have A42_78 := Lib.hid (A42_76.out.setRow #[.int .i64 p3, .int .i64 l4])
              have A41_78 := Lib.hid (A41_76.out.setRow_far (g' := wc.heap.size + 1) (by have := N70.out; omega) #[.int .i64 p3, .int .i64 l4])
              refine hK77.out _ _ (show S9 g1 g2 V k lo hg x y _ from HSX9.out _ (HT3.out.below D78.out) (blk_keep D78.out V3.out)) (fun s78 => ?_)
              refine wpAnyH_done (by kernel_rfl) ?_ _
              go_wp2_with fail
              go_meet
              exact ⟨_, _, rfl, rfl, (by have := N70.out; omega), HT3.out.below D78.out, A41_78.out, A42_78.out, Nat.lt_of_lt_of_le HT3.out.tr.lt L41.out, Nat.lt_of_lt_of_le HT3.out.tr.lt L42.out, own_not HT3.out.p1 L41.out, own_not HT3.out.p1 L42.out, own_not HT3.out.p2 L41.out, own_not HT3.out.p2 L42.out⟩
            refine AllReadyH.cons rfl (fun K1 hK1 => ?_) AllReadyH.nil
            go_simp
            have A42_79 : Hid (Blk (wc.alloc (.cells #[.int .i64 0, .int .i64 0] 98)) (wc.heap.size) 98 #[.int .i64 0, .int .i64 0]) := Blk.new _ _ _ (by simp)
            have U79 : Hid (Below wc.heap.size wc (wc.alloc (.cells #[.int .i64 0, .int .i64 0] 98))) := (below_self wc (.cells #[.int .i64 0, .int .i64 0] 98))
            have D79 : Hid (Below wc.heap.size wc (wc.alloc (.cells #[.int .i64 0, .int .i64 0] 98)).drew) := U79.out.drew
            have L42 : Hid (wc.heap.size ≤ wc.heap.size) := (by unfold Hid; omega)
            have B42_79 := Lib.hid (blk_keep (Below.refl _ _).drew A42_79.out)
            refine hK1.out _ _ (show S9 g1 g2 V k lo hg x y _ from HSX9.out _ (HT3.out.below D79.out) (blk_keep D79.out V3.out)) (fun s79 => ?_)
            refine wpAnyH_ready (rs := [20, 41]) (by kernel_rfl) (by simp) ?_
            refine AllReadyH.cons rfl (fun K80 hK80 => ?_) ?_
            · go_simp
              refine (HSP.out _ _ _).mono ?_
              rintro e W81 ⟨rfl, b81⟩
              have D81 := Lib.hid (below_then D79.out b81)
              have A42_81 := Lib.hid (blk_keep b81 B42_79.out)
              clear b81 s79
              have s81 := HSX9.out _ (HT3.out.below D81.out) (blk_keep D81.out V3.out)
              refine hK80.out _ _ s81 (fun _ => ?_)
              refine wpAnyH_ready (rs := [40, 41]) (by kernel_rfl) (by simp) ?_
              refine AllReadyH.cons rfl (fun K82 hK82 => ?_) ?_
              · go_simp
                refine (HSP.out _ _ _).mono ?_
                rintro e W83 ⟨rfl, b83⟩
                have D83 := Lib.hid (below_then D81.out b83)
                have A42_83 := Lib.hid (blk_keep b83 A42_81.out)
                clear b83 s81
                have s83 := HSX9.out _ (HT3.out.below D83.out) (blk_keep D83.out V3.out)
                refine hK82.out _ _ s83 (fun _ => ?_)
                refine wpAnyH_ready (rs := [41]) (by kernel_rfl) (by simp) ?_
                refine AllReadyH.cons rfl (fun K84 hK84 => ?_) AllReadyH.nil
                go_simp
                have A41_85 : Hid (Blk (W83.alloc (.cells #[.int .i64 0, .int .i64 0] 98)) (W83.heap.size) 98 #[.int .i64 0, .int .i64 0]) := Blk.new _ _ _ (by simp)
                have D85 : Hid (Below wc.heap.size wc (W83.alloc (.cells #[.int .i64 0, .int .i64 0] 98))) := below_then D83.out (below_self _ _)
                have N85 : Hid (wc.heap.size ≠ W83.heap.size) := (by have := A42_83.out.lt; (try simp at this); unfold Hid; omega)
                have A42_85 := Lib.hid (A42_83.out.alloc (.cells #[.int .i64 0, .int .i64 0] 98))
                have L41 : Hid (wc.heap.size ≤ W83.heap.size) := (by have := D83.out.size; (try simp at this); unfold Hid; omega)
                refine hK84.out _ _ (show S9 g1 g2 V k lo hg x y _ from HSX9.out _ (HT3.out.below D85.out) (blk_keep D85.out V3.out)) (fun s85 => ?_)
                refine wpAnyH_ready (rs := [43]) (by kernel_rfl) (by simp) ?_
                refine AllReadyH.cons rfl (fun K86 hK86 => ?_) AllReadyH.nil
                rw [if_pos (by rfl)]
                refine wp_store_rowN rfl _ _ _ rfl _ _ rfl rfl _ _ A41_85.out (by kernel_rfl) rfl (onesT2 _ _) ?_
                have D87 := Lib.hid (below_setR D85.out L41.out #[.int .i64 p1, .int .i64 p2])
                have A41_87 := Lib.hid (A41_85.out.setRow #[.int .i64 p1, .int .i64 p2])
                have A42_87 := Lib.hid (A42_85.out.setRow_far (g' := W83.heap.size) (by have := N85.out; omega) #[.int .i64 p1, .int .i64 p2])
                refine hK86.out _ _ (show S9 g1 g2 V k lo hg x y _ from HSX9.out _ (HT3.out.below D87.out) (blk_keep D87.out V3.out)) (fun s87 => ?_)
                refine wpAnyH_ready (rs := [44]) (by kernel_rfl) (by simp) ?_
                refine AllReadyH.cons rfl (fun K88 hK88 => ?_) AllReadyH.nil
                rw [if_pos (by rfl)]
                refine wp_store_rowN rfl _ _ _ rfl _ _ rfl rfl _ _ A42_87.out (by kernel_rfl) rfl (onesT2 _ _) ?_
                have D89 := Lib.hid (below_setR D87.out L42.out #[.int .i64 p3, .int .i64 l4])
                have A42_89 := Lib.hid (A42_87.out.setRow #[.int .i64 p3, .int .i64 l4])
                have A41_89 := Lib.hid (A41_87.out.setRow_far (g' := wc.heap.size) (by have := N85.out; omega) #[.int .i64 p3, .int .i64 l4])
                refine hK88.out _ _ (show S9 g1 g2 V k lo hg x y _ from HSX9.out _ (HT3.out.below D89.out) (blk_keep D89.out V3.out)) (fun s89 => ?_)
                refine wpAnyH_done (by kernel_rfl) ?_ _
                go_wp2_with fail
                go_meet
                exact ⟨_, _, rfl, rfl, (by have := N85.out; omega), HT3.out.below D89.out, A41_89.out, A42_89.out, Nat.lt_of_lt_of_le HT3.out.tr.lt L41.out, Nat.lt_of_lt_of_le HT3.out.tr.lt L42.out, own_not HT3.out.p1 L41.out, own_not HT3.out.p1 L42.out, own_not HT3.out.p2 L41.out, own_not HT3.out.p2 L42.out⟩
              refine AllReadyH.cons rfl (fun K82 hK82 => ?_) AllReadyH.nil
              go_simp
              have A41_90 : Hid (Blk (W81.alloc (.cells #[.int .i64 0, .int .i64 0] 98)) (W81.heap.size) 98 #[.int .i64 0, .int .i64 0]) := Blk.new _ _ _ (by simp)
              have D90 : Hid (Below wc.heap.size wc (W81.alloc (.cells #[.int .i64 0, .int .i64 0] 98))) := below_then D81.out (below_self _ _)
              have N90 : Hid (wc.heap.size ≠ W81.heap.size) := (by have := A42_81.out.lt; (try simp at this); unfold Hid; omega)
              have A42_90 := Lib.hid (A42_81.out.alloc (.cells #[.int .i64 0, .int .i64 0] 98))
              have L41 : Hid (wc.heap.size ≤ W81.heap.size) := (by have := D81.out.size; (try simp at this); unfold Hid; omega)
              refine hK82.out _ _ (show S9 g1 g2 V k lo hg x y _ from HSX9.out _ (HT3.out.below D90.out) (blk_keep D90.out V3.out)) (fun s90 => ?_)
              refine wpAnyH_ready (rs := [40]) (by kernel_rfl) (by simp) ?_
              refine AllReadyH.cons rfl (fun K91 hK91 => ?_) AllReadyH.nil
              go_simp
              refine (HSP.out _ _ _).mono ?_
              rintro e W92 ⟨rfl, b92⟩
              have D92 := Lib.hid (below_then D90.out b92)
              have A42_92 := Lib.hid (blk_keep b92 A42_90.out)
              have A41_92 := Lib.hid (blk_keep b92 A41_90.out)
              clear b92 s90
              have s92 := HSX9.out _ (HT3.out.below D92.out) (blk_keep D92.out V3.out)
              refine hK91.out _ _ s92 (fun _ => ?_)
              refine wpAnyH_ready (rs := [43]) (by kernel_rfl) (by simp) ?_
              refine AllReadyH.cons rfl (fun K93 hK93 => ?_) AllReadyH.nil
              rw [if_pos (by rfl)]
              refine wp_store_rowN rfl _ _ _ rfl _ _ rfl rfl _ _ A41_92.out (by kernel_rfl) rfl (onesT2 _ _) ?_
              have D94 := Lib.hid (below_setR D92.out L41.out #[.int .i64 p1, .int .i64 p2])
              have A41_94 := Lib.hid (A41_92.out.setRow #[.int .i64 p1, .int .i64 p2])
              have A42_94 := Lib.hid (A42_92.out.setRow_far (g' := W81.heap.size) (by have := N90.out; omega) #[.int .i64 p1, .int .i64 p2])
              refine hK93.out _ _ (show S9 g1 g2 V k lo hg x y _ from HSX9.out _ (HT3.out.below D94.out) (blk_keep D94.out V3.out)) (fun s94 => ?_)
              refine wpAnyH_ready (rs := [44]) (by kernel_rfl) (by simp) ?_
              refine AllReadyH.cons rfl (fun K95 hK95 => ?_) AllReadyH.nil
              rw [if_pos (by rfl)]
              refine wp_store_rowN rfl _ _ _ rfl _ _ rfl rfl _ _ A42_94.out (by kernel_rfl) rfl (onesT2 _ _) ?_
              have D96 := Lib.hid (below_setR D94.out L42.out #[.int .i64 p3, .int .i64 l4])
              have A42_96 := Lib.hid (A42_94.out.setRow #[.int .i64 p3, .int .i64 l4])
              have A41_96 := Lib.hid (A41_94.out.setRow_far (g' := wc.heap.size) (by have := N90.out; omega) #[.int .i64 p3, .int .i64 l4])
              refine hK95.out _ _ (show S9 g1 g2 V k lo hg x y _ from HSX9.out _ (HT3.out.below D96.out) (blk_keep D96.out V3.out)) (fun s96 => ?_)
              refine wpAnyH_done (by kernel_rfl) ?_ _
              go_wp2_with fail
              go_meet
              exact ⟨_, _, rfl, rfl, (by have := N90.out; omega), HT3.out.below D96.out, A41_96.out, A42_96.out, Nat.lt_of_lt_of_le HT3.out.tr.lt L41.out, Nat.lt_of_lt_of_le HT3.out.tr.lt L42.out, own_not HT3.out.p1 L41.out, own_not HT3.out.p1 L42.out, own_not HT3.out.p2 L41.out, own_not HT3.out.p2 L42.out⟩
            refine AllReadyH.cons rfl (fun K80 hK80 => ?_) AllReadyH.nil
            go_simp
            have A41_97 : Hid (Blk ((wc.alloc (.cells #[.int .i64 0, .int .i64 0] 98)).alloc (.cells #[.int .i64 0, .int .i64 0] 98)) (wc.heap.size + 1) 98 #[.int .i64 0, .int .i64 0]) := Blk.new _ _ _ (by simp)
            have U97 : Hid (Below wc.heap.size wc ((wc.alloc (.cells #[.int .i64 0, .int .i64 0] 98)).alloc (.cells #[.int .i64 0, .int .i64 0] 98))) := (below_alloc' U79.out (.cells #[.int .i64 0, .int .i64 0] 98))
            have D97 : Hid (Below wc.heap.size wc ((wc.alloc (.cells #[.int .i64 0, .int .i64 0] 98)).alloc (.cells #[.int .i64 0, .int .i64 0] 98)).drew) := U97.out.drew
            have N97 : Hid (wc.heap.size ≠ wc.heap.size + 1) := (by have := A42_79.out.lt; (try simp at this); unfold Hid; omega)
            have A42_97 := Lib.hid (A42_79.out.alloc (.cells #[.int .i64 0, .int .i64 0] 98))
            have L41 : Hid (wc.heap.size ≤ wc.heap.size + 1) := (by unfold Hid; omega)
            have B42_97 := Lib.hid (blk_keep (Below.refl _ _).drew A42_97.out)
            have B41_97 := Lib.hid (blk_keep (Below.refl _ _).drew A41_97.out)
            refine hK80.out _ _ (show S9 g1 g2 V k lo hg x y _ from HSX9.out _ (HT3.out.below D97.out) (blk_keep D97.out V3.out)) (fun s97 => ?_)
            refine wpAnyH_ready (rs := [20]) (by kernel_rfl) (by simp) ?_
            refine AllReadyH.cons rfl (fun K98 hK98 => ?_) AllReadyH.nil
            go_simp
            refine (HSP.out _ _ _).mono ?_
            rintro e W99 ⟨rfl, b99⟩
            have D99 := Lib.hid (below_then D97.out b99)
            have A42_99 := Lib.hid (blk_keep b99 B42_97.out)
            have A41_99 := Lib.hid (blk_keep b99 B41_97.out)
            clear b99 s97
            have s99 := HSX9.out _ (HT3.out.below D99.out) (blk_keep D99.out V3.out)
            refine hK98.out _ _ s99 (fun _ => ?_)
            refine wpAnyH_ready (rs := [40]) (by kernel_rfl) (by simp) ?_
            refine AllReadyH.cons rfl (fun K100 hK100 => ?_) AllReadyH.nil
            go_simp
            refine (HSP.out _ _ _).mono ?_
            rintro e W101 ⟨rfl, b101⟩
            have D101 := Lib.hid (below_then D99.out b101)
            have A42_101 := Lib.hid (blk_keep b101 A42_99.out)
            have A41_101 := Lib.hid (blk_keep b101 A41_99.out)
            clear b101 s99
            have s101 := HSX9.out _ (HT3.out.below D101.out) (blk_keep D101.out V3.out)
            refine hK100.out _ _ s101 (fun _ => ?_)
            refine wpAnyH_ready (rs := [43]) (by kernel_rfl) (by simp) ?_
            refine AllReadyH.cons rfl (fun K102 hK102 => ?_) AllReadyH.nil
            rw [if_pos (by rfl)]
            refine wp_store_rowN rfl _ _ _ rfl _ _ rfl rfl _ _ A41_101.out (by kernel_rfl) rfl (onesT2 _ _) ?_
            have D103 := Lib.hid (below_setR D101.out L41.out #[.int .i64 p1, .int .i64 p2])
            have A41_103 := Lib.hid (A41_101.out.setRow #[.int .i64 p1, .int .i64 p2])
            have A42_103 := Lib.hid (A42_101.out.setRow_far (g' := wc.heap.size + 1) (by have := N97.out; omega) #[.int .i64 p1, .int .i64 p2])
            refine hK102.out _ _ (show S9 g1 g2 V k lo hg x y _ from HSX9.out _ (HT3.out.below D103.out) (blk_keep D103.out V3.out)) (fun s103 => ?_)
            refine wpAnyH_ready (rs := [44]) (by kernel_rfl) (by simp) ?_
            refine AllReadyH.cons rfl (fun K104 hK104 => ?_) AllReadyH.nil
            rw [if_pos (by rfl)]
            refine wp_store_rowN rfl _ _ _ rfl _ _ rfl rfl _ _ A42_103.out (by kernel_rfl) rfl (onesT2 _ _) ?_
            have D105 := Lib.hid (below_setR D103.out L42.out #[.int .i64 p3, .int .i64 l4])
            have A42_105 := Lib.hid (A42_103.out.setRow #[.int .i64 p3, .int .i64 l4])
            have A41_105 := Lib.hid (A41_103.out.setRow_far (g' := wc.heap.size) (by have := N97.out; omega) #[.int .i64 p3, .int .i64 l4])
            refine hK104.out _ _ (show S9 g1 g2 V k lo hg x y _ from HSX9.out _ (HT3.out.below D105.out) (blk_keep D105.out V3.out)) (fun s105 => ?_)
            refine wpAnyH_done (by kernel_rfl) ?_ _
            go_wp2_with fail
            go_meet
            exact ⟨_, _, rfl, rfl, (by have := N97.out; omega), HT3.out.below D105.out, A41_105.out, A42_105.out, Nat.lt_of_lt_of_le HT3.out.tr.lt L41.out, Nat.lt_of_lt_of_le HT3.out.tr.lt L42.out, own_not HT3.out.p1 L41.out, own_not HT3.out.p1 L42.out, own_not HT3.out.p2 L41.out, own_not HT3.out.p2 L42.out⟩
          case rest =>
            obtain ⟨ga, gb, rfl, rfl, hne, hti, ha, hb, la, lb, hun⟩ := hcut
            have HUN := Lib.hid hun
            have HT5 := Lib.hid hti
            have HA := Lib.hid ha
            have HB := Lib.hid hb
            have HQ := Lib.hid (And.intro hne (And.intro la lb))
            clear hti ha hb hne la lb hun HT3 V3 HSX9 v1 v2 v3 n1 n2 n3 n4 wx wy mx my dx dy wa1 wa2 wb1 wb2
            go_upto_region 10 with (fail)
            have HSX : Hid (∀ W, BX w T gB gT g1 c1 g2 c2 u1 u2 W → Blk W ga 98 #[.int .i64 p1, .int .i64 p2] → Blk W gb 98 #[.int .i64 p3, .int .i64 l4] → S10 gB ga gb g1 g2 k u1 u2 p1 p2 p3 l4 lo hg W) :=
              fun W hW ha hb => ⟨hW.bl.cell 0, hW.bl.cell 1, ha.cell 0, ha.cell 1, hb.cell 0, hb.cell 1, by rw [hLO.out]; exact range_cell hW.e1 hlt, by rw [hHG.out]; exact range_cell hW.e2 hlt⟩
            have X0 := Lib.hid (HT5.out.x.below (Below.refl _ _).drew)
            have A0 := Lib.hid (blk_keep (Below.refl _ _).drew HA.out)
            have B0 := Lib.hid (blk_keep (Below.refl _ _).drew HB.out)
            have P0 := Lib.hid (ownsRow_below HT5.out.p1 (Below.refl _ _).drew)
            have Q0 := Lib.hid (ownsRow_below HT5.out.p2 (Below.refl _ _).drew)
            have SEP := Lib.hid HT5.out.sep
            have S0 := HSX.out _ X0.out A0.out B0.out
            have HSP := Lib.hid (fun a b W => lawSpan_any a b W)
            have r := HR.out
            have v1 : (if lo < p1 then lo else p1) = p1 := by split <;> omega
            have v2 : (if p2 < lo then lo else p2) = p2 := by split <;> omega
            have v3 : (if hg < p3 then hg else p3) = p3 := by split <;> omega
            have v4 : (if l4 < hg then hg else l4) = l4 := by split <;> omega
            have hk10 : k < 10 := by have := HL.out; omega
            clear r HT5 HA HB
            refine wp_region_untl (S := S10 gB ga gb g1 g2 k u1 u2 p1 p2 p3 l4 lo hg) [39, 40, 41] (by kernel_rfl) S0 (fun _ => ?_)
            refine untlTake (i := 0) 94 (v := ?v3001) rfl (by kernel_rfl) (by kernel_rfl) (by kernel_rfl) (by kernel_rfl) (by kernel_rfl) (by kernel_rfl) (fun _ _ _ h => h) (Or.inl ⟨by rfl, ?y3001⟩) (by assumption) ?r3001
            case y3001 => (intro w hSw; obtain ⟨g0, g1, g2, g3, g4, g5, g6, g7⟩ := hSw; go_simp; try with_reducible rfl)
            refine untlTake (i := 1) 95 (v := ?v3002) rfl (by kernel_rfl) (by kernel_rfl) (by kernel_rfl) (by kernel_rfl) (by kernel_rfl) (by kernel_rfl) (fun _ _ _ h => h) (Or.inl ⟨by rfl, ?y3002⟩) (by assumption) ?r3002
            case y3002 => (intro w hSw; obtain ⟨g0, g1, g2, g3, g4, g5, g6, g7⟩ := hSw; go_simp; try with_reducible rfl)
            refine untlTake (i := 2) 96 (v := ?v3003) rfl (by kernel_rfl) (by kernel_rfl) (by kernel_rfl) (by kernel_rfl) (by kernel_rfl) (by kernel_rfl) (fun _ _ _ h => h) (Or.inl ⟨by rfl, ?y3003⟩) (by assumption) ?r3003
            case y3003 => (intro w hSw; obtain ⟨g0, g1, g2, g3, g4, g5, g6, g7⟩ := hSw; go_simp; try with_reducible rfl)
            refine untlTake (i := 3) 97 (v := ?v3004) rfl (by kernel_rfl) (by kernel_rfl) (by kernel_rfl) (by kernel_rfl) (by kernel_rfl) (by kernel_rfl) (fun _ _ _ h => h) (Or.inl ⟨by rfl, ?y3004⟩) (by assumption) ?r3004
            case y3004 => (intro w hSw; obtain ⟨g0, g1, g2, g3, g4, g5, g6, g7⟩ := hSw; go_simp; try with_reducible rfl)
            refine untlTake (i := 4) 98 (v := ?v3005) rfl (by kernel_rfl) (by kernel_rfl) (by kernel_rfl) (by kernel_rfl) (by kernel_rfl) (by kernel_rfl) (fun _ _ _ h => h) (Or.inl ⟨by rfl, ?y3005⟩) (by assumption) ?r3005
            case y3005 => (intro w hSw; obtain ⟨g0, g1, g2, g3, g4, g5, g6, g7⟩ := hSw; go_simp; try with_reducible rfl)
            refine untlTake (i := 5) 99 (v := ?v3006) rfl (by kernel_rfl) (by kernel_rfl) (by kernel_rfl) (by kernel_rfl) (by kernel_rfl) (by kernel_rfl) (fun _ _ _ h => h) (Or.inl ⟨by rfl, ?y3006⟩) (by assumption) ?r3006
            case y3006 => (intro w hSw; obtain ⟨g0, g1, g2, g3, g4, g5, g6, g7⟩ := hSw; go_simp; try with_reducible rfl)
            refine untlTake (i := 6) 100 (v := ?v3007) rfl (by kernel_rfl) (by kernel_rfl) (by kernel_rfl) (by kernel_rfl) (by kernel_rfl) (by kernel_rfl) (fun _ _ _ h => h) (Or.inl ⟨by rfl, ?y3007⟩) (by assumption) ?r3007
            case y3007 => (intro w hSw; obtain ⟨g0, g1, g2, g3, g4, g5, g6, g7⟩ := hSw; go_simp; try with_reducible rfl)
            refine untlTake (i := 7) 101 (v := ?v3008) rfl (by kernel_rfl) (by kernel_rfl) (by kernel_rfl) (by kernel_rfl) (by kernel_rfl) (by kernel_rfl) (fun _ _ _ h => h) (Or.inl ⟨by rfl, ?y3008⟩) (by assumption) ?r3008
            case y3008 => (intro w hSw; obtain ⟨g0, g1, g2, g3, g4, g5, g6, g7⟩ := hSw; go_simp; try with_reducible rfl)
            refine untlTake (i := 8) 102 (v := ?v3009) rfl (by kernel_rfl) (by kernel_rfl) (by kernel_rfl) (by kernel_rfl) (by kernel_rfl) (by kernel_rfl) (fun _ _ _ h => h) (Or.inl ⟨by rfl, ?y3009⟩) (by assumption) ?r3009
            case y3009 => (intro w hSw; obtain ⟨g0, g1, g2, g3, g4, g5, g6, g7⟩ := hSw; go_simp; try with_reducible rfl)
            refine untlTake (i := 9) 103 (v := ?v3010) rfl (by kernel_rfl) (by kernel_rfl) (by kernel_rfl) (by kernel_rfl) (by kernel_rfl) (by kernel_rfl) (fun _ _ _ h => h) (Or.inl ⟨by rfl, ?y3010⟩) (by assumption) ?r3010
            case y3010 => (intro w hSw; obtain ⟨g0, g1, g2, g3, g4, g5, g6, g7⟩ := hSw; go_simp; try with_reducible rfl)
            refine untlTake (i := 10) 104 (v := ?v3011) rfl (by kernel_rfl) (by kernel_rfl) (by kernel_rfl) (by kernel_rfl) (by kernel_rfl) (by kernel_rfl) (fun _ _ _ h => h) (Or.inl ⟨by rfl, ?y3011⟩) (by assumption) ?r3011
            case y3011 => (intro w hSw; obtain ⟨g0, g1, g2, g3, g4, g5, g6, g7⟩ := hSw; go_simp; try with_reducible rfl)
            refine untlTake (i := 11) 105 (v := ?v3012) rfl (by kernel_rfl) (by kernel_rfl) (by kernel_rfl) (by kernel_rfl) (by kernel_rfl) (by kernel_rfl) (fun _ _ _ h => h) (Or.inl ⟨by rfl, ?y3012⟩) (by assumption) ?r3012
            case y3012 => (intro w hSw; obtain ⟨g0, g1, g2, g3, g4, g5, g6, g7⟩ := hSw; go_simp; try with_reducible rfl)
            refine untlTake (i := 12) 106 (v := ?v3013) rfl (by kernel_rfl) (by kernel_rfl) (by kernel_rfl) (by kernel_rfl) (by kernel_rfl) (by kernel_rfl) (fun _ _ _ h => h) (Or.inl ⟨by rfl, ?y3013⟩) (by assumption) ?r3013
            case y3013 => (intro w hSw; obtain ⟨g0, g1, g2, g3, g4, g5, g6, g7⟩ := hSw; go_simp; try with_reducible rfl)
            refine untlTake (i := 13) 107 (v := ?v3014) rfl (by kernel_rfl) (by kernel_rfl) (by kernel_rfl) (by kernel_rfl) (by kernel_rfl) (by kernel_rfl) (fun _ _ _ h => h) (Or.inl ⟨by rfl, ?y3014⟩) (by assumption) ?r3014
            case y3014 => (intro w hSw; obtain ⟨g0, g1, g2, g3, g4, g5, g6, g7⟩ := hSw; go_simp; try with_reducible rfl)
            refine untlTake (i := 14) 108 (v := ?v3015) rfl (by kernel_rfl) (by kernel_rfl) (by kernel_rfl) (by kernel_rfl) (by kernel_rfl) (by kernel_rfl) (fun _ _ _ h => h) (Or.inl ⟨by rfl, ?y3015⟩) (by assumption) ?r3015
            case y3015 => (intro w hSw; obtain ⟨g0, g1, g2, g3, g4, g5, g6, g7⟩ := hSw; go_simp; try with_reducible rfl)
            refine untlTake (i := 15) 109 (v := ?v3016) rfl (by kernel_rfl) (by kernel_rfl) (by kernel_rfl) (by kernel_rfl) (by kernel_rfl) (by kernel_rfl) (fun _ _ _ h => h) (Or.inl ⟨by rfl, ?y3016⟩) (by assumption) ?r3016
            case y3016 => (intro w hSw; obtain ⟨g0, g1, g2, g3, g4, g5, g6, g7⟩ := hSw; go_simp; try with_reducible rfl)
            refine untlTake (i := 19) 113 (v := ?v3017) rfl (by kernel_rfl) (by kernel_rfl) (by kernel_rfl) (by kernel_rfl) (by kernel_rfl) (by kernel_rfl) (fun _ _ _ h => h) (Or.inl ⟨by rfl, ?y3017⟩) (by assumption) ?r3017
            case y3017 => (intro w hSw; obtain ⟨g0, g1, g2, g3, g4, g5, g6, g7⟩ := hSw; go_simp; try with_reducible rfl)
            refine untlTake (i := 20) 114 (v := ?v3018) rfl (by kernel_rfl) (by kernel_rfl) (by kernel_rfl) (by kernel_rfl) (by kernel_rfl) (by kernel_rfl) (fun _ _ _ h => h) (Or.inl ⟨by rfl, ?y3018⟩) (by assumption) ?r3018
            case y3018 => (intro w hSw; obtain ⟨g0, g1, g2, g3, g4, g5, g6, g7⟩ := hSw; go_simp; try with_reducible rfl)
            refine untlTake (i := 21) 115 (v := ?v3019) rfl (by kernel_rfl) (by kernel_rfl) (by kernel_rfl) (by kernel_rfl) (by kernel_rfl) (by kernel_rfl) (fun _ _ _ h => h) (Or.inl ⟨by rfl, ?y3019⟩) (by assumption) ?r3019
            case y3019 => (intro w hSw; obtain ⟨g0, g1, g2, g3, g4, g5, g6, g7⟩ := hSw; go_simp; try with_reducible rfl)
            refine untlTake (i := 22) 116 (v := ?v3020) rfl (by kernel_rfl) (by kernel_rfl) (by kernel_rfl) (by kernel_rfl) (by kernel_rfl) (by kernel_rfl) (fun _ _ _ h => h) (Or.inl ⟨by rfl, ?y3020⟩) (by assumption) ?r3020
            case y3020 => (intro w hSw; obtain ⟨g0, g1, g2, g3, g4, g5, g6, g7⟩ := hSw; go_simp; try with_reducible rfl)
            refine untlTake (i := 23) 117 (v := ?v3021) rfl (by kernel_rfl) (by kernel_rfl) (by kernel_rfl) (by kernel_rfl) (by kernel_rfl) (by kernel_rfl) (fun _ _ _ h => h) (Or.inl ⟨by rfl, ?y3021⟩) (by assumption) ?r3021
            case y3021 => (intro w hSw; obtain ⟨g0, g1, g2, g3, g4, g5, g6, g7⟩ := hSw; go_simp; try with_reducible rfl)
            refine untlTake (i := 24) 118 (v := ?v3022) rfl (by kernel_rfl) (by kernel_rfl) (by kernel_rfl) (by kernel_rfl) (by kernel_rfl) (by kernel_rfl) (fun _ _ _ h => h) (Or.inl ⟨by rfl, ?y3022⟩) (by assumption) ?r3022
            case y3022 => (intro w hSw; obtain ⟨g0, g1, g2, g3, g4, g5, g6, g7⟩ := hSw; go_simp; try with_reducible rfl)
            refine untlTake (i := 25) 119 (v := ?v3023) rfl (by kernel_rfl) (by kernel_rfl) (by kernel_rfl) (by kernel_rfl) (by kernel_rfl) (by kernel_rfl) (fun _ _ _ h => h) (Or.inl ⟨by rfl, ?y3023⟩) (by assumption) ?r3023
            case y3023 => (intro w hSw; obtain ⟨g0, g1, g2, g3, g4, g5, g6, g7⟩ := hSw; go_simp; try with_reducible rfl)
            refine untlTake (i := 26) 120 (v := ?v3024) rfl (by kernel_rfl) (by kernel_rfl) (by kernel_rfl) (by kernel_rfl) (by kernel_rfl) (by kernel_rfl) (fun _ _ _ h => h) (Or.inl ⟨by rfl, ?y3024⟩) (by assumption) ?r3024
            case y3024 => (intro w hSw; obtain ⟨g0, g1, g2, g3, g4, g5, g6, g7⟩ := hSw; go_simp; try with_reducible rfl)
            refine untlTake (i := 27) 121 (v := ?v3025) rfl (by kernel_rfl) (by kernel_rfl) (by kernel_rfl) (by kernel_rfl) (by kernel_rfl) (by kernel_rfl) (fun _ _ _ h => h) (Or.inl ⟨by rfl, ?y3025⟩) (by assumption) ?r3025
            case y3025 => (intro w hSw; obtain ⟨g0, g1, g2, g3, g4, g5, g6, g7⟩ := hSw; go_simp; try with_reducible rfl)
            refine untlTake (i := 28) 122 (v := ?v3026) rfl (by kernel_rfl) (by kernel_rfl) (by kernel_rfl) (by kernel_rfl) (by kernel_rfl) (by kernel_rfl) (fun _ _ _ h => h) (Or.inl ⟨by rfl, ?y3026⟩) (by assumption) ?r3026
            case y3026 => (intro w hSw; obtain ⟨g0, g1, g2, g3, g4, g5, g6, g7⟩ := hSw; go_simp; try with_reducible rfl)
            refine untlTake (i := 29) 123 (v := ?v3027) rfl (by kernel_rfl) (by kernel_rfl) (by kernel_rfl) (by kernel_rfl) (by kernel_rfl) (by kernel_rfl) (fun _ _ _ h => h) (Or.inl ⟨by rfl, ?y3027⟩) (by assumption) ?r3027
            case y3027 => (intro w hSw; obtain ⟨g0, g1, g2, g3, g4, g5, g6, g7⟩ := hSw; go_simp; try with_reducible rfl)
            refine untlTake (i := 30) 124 (v := ?v3028) rfl (by kernel_rfl) (by kernel_rfl) (by kernel_rfl) (by kernel_rfl) (by kernel_rfl) (by kernel_rfl) (fun _ _ _ h => h) (Or.inl ⟨by rfl, ?y3028⟩) (by assumption) ?r3028
            case y3028 => (intro w hSw; obtain ⟨g0, g1, g2, g3, g4, g5, g6, g7⟩ := hSw; go_simp; try with_reducible rfl)
            refine untlTake (i := 31) 125 (v := ?v3029) rfl (by kernel_rfl) (by kernel_rfl) (by kernel_rfl) (by kernel_rfl) (by kernel_rfl) (by kernel_rfl) (fun _ _ _ h => h) (Or.inl ⟨by rfl, ?y3029⟩) (by assumption) ?r3029
            case y3029 => (intro w hSw; obtain ⟨g0, g1, g2, g3, g4, g5, g6, g7⟩ := hSw; go_simp; try with_reducible rfl)
            refine untlTake (i := 32) 126 (v := ?v3030) rfl (by kernel_rfl) (by kernel_rfl) (by kernel_rfl) (by kernel_rfl) (by kernel_rfl) (by kernel_rfl) (fun _ _ _ h => h) (Or.inl ⟨by rfl, ?y3030⟩) (by assumption) ?r3030
            case y3030 => (intro w hSw; obtain ⟨g0, g1, g2, g3, g4, g5, g6, g7⟩ := hSw; go_simp; try with_reducible rfl)
            refine untlTake (i := 33) 127 (v := ?v3031) rfl (by kernel_rfl) (by kernel_rfl) (by kernel_rfl) (by kernel_rfl) (by kernel_rfl) (by kernel_rfl) (fun _ _ _ h => h) (Or.inl ⟨by rfl, ?y3031⟩) (by assumption) ?r3031
            case y3031 => (intro w hSw; obtain ⟨g0, g1, g2, g3, g4, g5, g6, g7⟩ := hSw; go_simp; try with_reducible rfl)
            refine untlTake (i := 34) 128 (v := ?v3032) rfl (by kernel_rfl) (by kernel_rfl) (by kernel_rfl) (by kernel_rfl) (by kernel_rfl) (by kernel_rfl) (fun _ _ _ h => h) (Or.inl ⟨by rfl, ?y3032⟩) (by assumption) ?r3032
            case y3032 => (intro w hSw; obtain ⟨g0, g1, g2, g3, g4, g5, g6, g7⟩ := hSw; go_simp; try with_reducible rfl)
            simp only [Act.put, List.setIfInBounds_toArray, List.set_cons_zero, List.set_cons_succ]
            refine untlStep (i := 16) (by kernel_rfl) rfl (fun K1 hK1 => ?_)
            go_simp
            refine (HSP.out _ _ _).mono ?_
            rintro e W1 ⟨rfl, b1⟩
            have X1 := Lib.hid (X0.out.below b1)
            have A1 := Lib.hid (blk_keep b1 A0.out)
            have B1 := Lib.hid (blk_keep b1 B0.out)
            have P1 := Lib.hid (ownsRow_below P0.out b1)
            have Q1 := Lib.hid (ownsRow_below Q0.out b1)
            have HA1 : Hid (u1.ownBlock ≠ some ga ∧ u1.ownBlock ≠ some gb ∧ u2.ownBlock ≠ some ga ∧ u2.ownBlock ≠ some gb) := HUN.out
            clear b1 S0 X0 A0 B0 P0 Q0
            refine hK1.out _ _ (.inr (HSX.out _ X1.out A1.out B1.out)) ?_
            refine untlStep (i := 17) (by kernel_rfl) rfl (fun K2 hK2 => ?_)
            go_simp
            have b2 : Below W1.heap.size W1 (W1.alloc (.cells #[.int .i64 p1, .int .i64 p2] 98)) := below_self _ _
            have X2 := Lib.hid (X1.out.below b2)
            have A2 := Lib.hid (blk_keep b2 A1.out)
            have B2 := Lib.hid (blk_keep b2 B1.out)
            have P2 := Lib.hid (ownsRow_below P1.out b2)
            have Q2 := Lib.hid (ownsRow_below Q1.out b2)
            have NW1 := Lib.hid (World.news_of_block (Blk.new W1 98 #[.int .i64 p1, .int .i64 p2] (g := W1.heap.size) rfl))
            have QL : Hid (∀ q, u2.ownBlock = some q → q < W1.heap.size) := fun q hq => (Q1.out.lt q hq).2
            clear b2 X1 A1 B1 P1 Q1
            refine hK2.out _ _ (.inr (HSX.out _ X2.out A2.out B2.out)) ?_
            refine untlStep (i := 18) (by kernel_rfl) rfl (fun K3 hK3 => ?_)
            refine step_append_lies _ rfl (.tmp 95) (.tmp 111) 22 rfl (w.heap.size + 1 + 1 + 1 + 1) 98 i0 _ 2 16 Try.underlying22 hi hz0 hz1 hz2 rfl (by decide) u1 k _ (by rfl) P2.out ⟨W1.heap.size, 0, none⟩ 1 1 [.int .i64 p1, .int .i64 p2] (by rfl) rfl NW1.out ?c22 (by decide) ?c32 ?c42 ?c52 (W1.heap.size + 1) ?c62 ?_
            case c22 => intro u hu; simp only [List.mem_cons, List.not_mem_nil, or_false] at hu; rcases hu with rfl | rfl <;> rfl
            case c32 => unfold maxLen; omega
            case c42 => omega
            case c52 => have := X2.out.bel.size; have := X2.out.r3.lt; simp; simp at this; omega
            case c62 => simp
            intro g3 c3 w3 hown3 hgrow hor hlt3
            have X3 := Lib.hid (X2.out.grown P2.out hgrow)
            have A3 := Lib.hid (A2.out.grown hgrow HA1.out.1)
            have B3 := Lib.hid (B2.out.grown hgrow HA1.out.2.1)
            have Q3 := Lib.hid (Q2.out.kept hgrow (own_sep_symm SEP.out))
            have O3 := Lib.hid hown3
            have G3 : Hid (u2.ownBlock ≠ some g3) := by
              intro e
              have h1 := QL.out g3 e
              rcases hor with h | h
              · rcases SEP.out with s | s
                · rw [s] at h; cases h
                · exact s (h.trans e.symm)
              · omega
            have G3A : Hid (g3 < w3.heap.size) := hlt3
            clear hown3 hgrow hor hlt3 X2 A2 B2 P2 Q2 NW1 QL SEP
            have s3 := HSX.out _ X3.out A3.out B3.out
            refine hK3.out _ _ (.inr s3) ?_
            refine untlTake (i := 38) 132 (v := ?v3033) rfl (by kernel_rfl) (by kernel_rfl) (by kernel_rfl) (by kernel_rfl) (by kernel_rfl) (by kernel_rfl) (fun _ _ _ h => h) (Or.inl ⟨by rfl, ?y3033⟩) (by assumption) ?r3033
            case y3033 => (intro w hSw; obtain ⟨g0, g1, g2, g3, g4, g5, g6, g7⟩ := hSw; go_simp; try with_reducible rfl)
            simp only [Act.put, List.setIfInBounds_toArray]
            refine untlStep (i := 35) (by kernel_rfl) rfl (fun K4 hK4 => ?_)
            go_simp
            refine (HSP.out _ _ _).mono ?_
            rintro e W4 ⟨rfl, b4⟩
            have X4 := Lib.hid (X3.out.below b4)
            have A4 := Lib.hid (blk_keep b4 A3.out)
            have B4 := Lib.hid (blk_keep b4 B3.out)
            have O4 := Lib.hid (ownsRow_below O3.out b4)
            have Q4 := Lib.hid (ownsRow_below Q3.out b4)
            have G4 : Hid (g3 < W4.heap.size) := Nat.lt_of_lt_of_le G3A.out b4.size
            clear b4 X3 A3 B3 O3 Q3 G3A s3
            refine hK4.out _ _ (.inr (HSX.out _ X4.out A4.out B4.out)) ?_
            refine untlStep (i := 36) (by kernel_rfl) rfl (fun K5 hK5 => ?_)
            go_simp
            have b5 : Below W4.heap.size W4 (W4.alloc (.cells #[.int .i64 p3, .int .i64 l4] 98)) := below_self _ _
            have X5 := Lib.hid (X4.out.below b5)
            have A5 := Lib.hid (blk_keep b5 A4.out)
            have B5 := Lib.hid (blk_keep b5 B4.out)
            have O5 := Lib.hid (ownsRow_below O4.out b5)
            have Q5 := Lib.hid (ownsRow_below Q4.out b5)
            have NW5 := Lib.hid (World.news_of_block (Blk.new W4 98 #[.int .i64 p3, .int .i64 l4] (g := W4.heap.size) rfl))
            clear b5 X4 A4 B4 O4 Q4
            refine hK5.out _ _ (.inr (HSX.out _ X5.out A5.out B5.out)) ?_
            refine untlStep (i := 37) (by kernel_rfl) rfl (fun K6 hK6 => ?_)
            refine step_append_lies _ rfl (.tmp 114) (.tmp 130) 22 rfl (w.heap.size + 1 + 1 + 1 + 1) 98 i0 _ 2 16 Try.underlying22 hi hz0 hz1 hz2 rfl (by decide) u2 k _ (by rfl) Q5.out ⟨W4.heap.size, 0, none⟩ 1 1 [.int .i64 p3, .int .i64 l4] (by rfl) rfl NW5.out ?c25 (by decide) ?c35 ?c45 ?c55 (W4.heap.size + 1) ?c65 ?_
            case c25 => intro u hu; simp only [List.mem_cons, List.not_mem_nil, or_false] at hu; rcases hu with rfl | rfl <;> rfl
            case c35 => unfold maxLen; omega
            case c45 => omega
            case c55 => have := X5.out.bel.size; have := X5.out.r3.lt; simp; simp at this; omega
            case c65 => simp
            intro g4 c4 w6 hown6 hgrow hor hlt6
            have X6 := Lib.hid (X5.out.grown Q5.out hgrow)
            have A6 := Lib.hid (A5.out.grown hgrow HA1.out.2.2.1)
            have B6 := Lib.hid (B5.out.grown hgrow HA1.out.2.2.2)
            have O6 := Lib.hid (O5.out.kept hgrow (.inr (fun e => G3.out e.symm)))
            have Q6 := Lib.hid hown6
            have G6 : Hid (g3 ≠ g4) := by
              have h1 := G4.out
              rcases hor with h | h
              · exact fun e => G3.out (by rw [e]; exact h)
              · unfold Hid; omega
            clear hown6 hgrow hor hlt6 X5 A5 B5 O5 Q5 NW5 G4 G3
            refine hK6.out _ _ (.inr (HSX.out _ X6.out A6.out B6.out)) ?_
            have s6 := HSX.out _ X6.out A6.out B6.out
            have c6 := X6.out.bl.cell
            have f6 := X6.out.bl.frozen 0
            refine untlStep (i := 39) (by kernel_rfl) rfl (fun K7 hK7 => ?_)
            go_simp
            have X7 := Lib.hid (X6.out.set0 (.slice (some ⟨g3, 0, none⟩) (k + 1) c3))
            have O7 := Lib.hid (own_setCell O6.out X6.out.bl (by decide) 0 (.slice (some ⟨g3, 0, none⟩) (k + 1) c3))
            have Q7 := Lib.hid (own_setCell Q6.out X6.out.bl (by decide) 0 (.slice (some ⟨g3, 0, none⟩) (k + 1) c3))
            clear c6 f6 s6 X6 O6 Q6 A6 B6
            refine hK7.out _ _ (.inl (by decide)) ?_
            refine untlStep (i := 40) (by kernel_rfl) rfl (fun K8 hK8 => ?_)
            go_simp
            refine hK8.out _ _ (.inl (by decide)) ?_
            have c7 := X7.out.bl.cell
            have f7 := X7.out.bl.frozen 1
            refine untlStep (i := 41) (by kernel_rfl) rfl (fun K9 hK9 => ?_)
            go_simp
            have HFIN : Hid (BI w T (k + 1) gB gT g1 c1 g2 c2 (.slice (some ⟨g3, 0, none⟩) (k + 1) c3) (.slice (some ⟨g4, 0, none⟩) (k + 1) c4) ((w6.setCell ⟨gB, 0, none⟩ (.slice (some ⟨g3, 0, none⟩) (k + 1) c3)).setCell ⟨gB, 1, none⟩ (.slice (some ⟨g4, 0, none⟩) (k + 1) c4))) := by
              have x := X7.out.set1 (.slice (some ⟨g4, 0, none⟩) (k + 1) c4)
              refine ⟨x.box, x.r1, x.r2, x.r3, x.e1, x.e2, x.sep12, x.bl, x.tr, ?_, ?_, .inr ?_, x.lB, x.lT, x.bel⟩
              · rw [flat2_snoc, HBS.out]; exact own_setCell O7.out X7.out.bl (by decide) 1 (.slice (some ⟨g4, 0, none⟩) (k + 1) c4)
              · rw [flat2_snoc, HTS.out]; exact own_setCell Q7.out X7.out.bl (by decide) 1 (.slice (some ⟨g4, 0, none⟩) (k + 1) c4)
              · simp only [Value.ownBlock, ne_eq, Option.some.injEq]; exact G6.out
            clear c7 f7 X7 O7 Q7
            refine hK9.out _ _ (.inl (by decide)) ?_
            refine untlDone (by kernel_rfl) ?_ _
            go_wp2
            go_roundw
            case rel => exact ⟨k + 1, _, _, by omega, by go_num, HFIN.out⟩
            case measure => simp [intOf]; omega
      · have hk2 : k = T.len := by omega
        subst hk2
        clear hlt hk hlen
        rename_i K0 a0
        revert i0 hi hz0 hz1 hz2 HLI HHI HCB HAT hn1 HL W0 W1 g1 c1 g2 c2 CB K0 a0 W3 gT gB CS wr u11 u12 u13 u28 u29 u30 u31 u32 u33 u34 u35 u36 u37 u38 u39 u40 u41 u42 u43 u44 u45 u46 u47 u48 u49 u50 u51 u52 u53 u54 u55 u56 u57 u58 u59 u60 u61 u62 u63 u64 u65 u66 u67 u68 u69 u70 u71 u72 u73 u74 u75 u76 u77 u78 u79 u80 u81 u82 u83 u84 u85 u86 u87 u88 u89 u90 u91 u92 u93 u94 u95 u96 u97 u98 u99 u100 u101 u102 u103 u104 u105 u106 u107 u108 u109 u110 u111 u112 u113 u114 u115 u116 u117 u118 u119 u120 u121 u122 u123 u124 u125 u126 u127 u128 u129 u130 u131 u132 u133 u1 u2 HT
        exact kG.out
end Go.Proofs.Ytiflhimmieflpaa
