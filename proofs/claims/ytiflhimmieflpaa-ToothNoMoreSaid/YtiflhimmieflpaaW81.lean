/- Walks: the truth of a tusk. -/
import Derived.Test.YtiflhimmieflpaaW80
namespace Go.Proofs.Ytiflhimmieflpaa
open Go.RowKit Go.Maps

theorem Tk.At.at_ {T : Tk} {w : World} {i : Nat} (h : T.At w) (hi : i < T.n) : ∃ b off, T.A = some ⟨b, off, none⟩ ∧ b < w.heap.size ∧ ∀ j, j < 4 → w.cell? ⟨b, off + i * 4 + j, none⟩ = some (.int .u8 (T.col i j)) := by
  obtain ⟨b, off, e, hb, hc⟩ := h.hc.2 (by omega)
  refine ⟨b, off, e, hb, fun j hj => ?_⟩
  have hl : T.cols.length = T.n * 4 := by have := h.hc.1; rwa [List.length_map] at this
  have hjl : i * 4 + j < T.cols.length := by omega
  have := hc (i * 4 + j) (.int .u8 (T.cols.getD (i * 4 + j) 0)) (by simp [List.getD, hjl])
  rw [Nat.add_assoc, this]
  unfold Tk.col
  rw [if_pos hi]
theorem cell_hold {W W' : World} (hb : Below W.heap.size W W') {a : Addr} {v : Value} (hc : W.cell? a = some v) : W'.cell? a = some v := (hb.cell (World.block_lt_of_cell? W a hc)).trans hc
/-- What truth's own variables hold behind k columns. -/
structure TI (w : World) (T : Tk) (k g1 c1 g2 c2 : Nat) (W : World) : Prop where
  box : Blk W w.heap.size 83 #[.slice T.A T.n T.c, .int .u8 T.bend, .slice T.K T.m T.d, .int .u8 T.s0, .int .u8 T.s1, .int .u8 T.s2, .int .u8 T.s3]
  o1 : W.ownsRow (w.heap.size + 1) 3 1 (.slice (some ⟨g1, 0, none⟩) k c1) k (((List.range k).map T.low).map (Value.int .i64))
  o2 : W.ownsRow (w.heap.size + 1) 3 1 (.slice (some ⟨g2, 0, none⟩) k c2) k (((List.range k).map T.high).map (Value.int .i64))
  sep : g1 ≠ g2
  l1 : g1 < W.heap.size
  l2 : g2 < W.heap.size
  bel : Below w.heap.size w W
theorem TI.below {w W W' : World} {T : Tk} {k g1 c1 g2 c2 : Nat} (h : TI w T k g1 c1 g2 c2 W) (hb : Below W.heap.size W W') : TI w T k g1 c1 g2 c2 W' :=
  ⟨blk_keep hb h.box, ownsRow_below h.o1 hb, ownsRow_below h.o2 hb, h.sep, Nat.lt_of_lt_of_le h.l1 hb.size, Nat.lt_of_lt_of_le h.l2 hb.size, below_then h.bel hb⟩
theorem TI.drewd {w W : World} {T : Tk} {k g1 c1 g2 c2 : Nat} (h : TI w T k g1 c1 g2 c2 W) : TI w T k g1 c1 g2 c2 W.drew := h.below (Below.refl _ _).drew
theorem TI.setRow {w W : World} {T : Tk} {k g1 c1 g2 c2 g : Nat} {cs : Array Value} (h : TI w T k g1 c1 g2 c2 W) (hg : Blk W g 81 cs) (hw : w.heap.size < g) (cs' : Array Value) : TI w T k g1 c1 g2 c2 (W.setRow g cs') :=
  ⟨h.box.setRow_far (by omega) _, own_setRow h.o1 hg (by decide) _, own_setRow h.o2 hg (by decide) _, h.sep, by simpa using h.l1, by simpa using h.l2, below_setR h.bel (by omega) _⟩
theorem Tk.low_step (T : Tk) {k : Nat} (hk : 0 < k) : T.low k = clampI (T.col k 0 % 60) (T.low (k - 1) - T.bd) (T.low (k - 1) + T.bd) := by
  obtain ⟨j, rfl⟩ : ∃ j, k = j + 1 := ⟨k - 1, by omega⟩
  rfl
theorem Tk.high_step (T : Tk) {k : Nat} (hk : 0 < k) : T.high k = clampI (70 + T.col k 1 % 100) (T.high (k - 1) - T.bd) (T.high (k - 1) + T.bd) := by
  obtain ⟨j, rfl⟩ : ∃ j, k = j + 1 := ⟨k - 1, by omega⟩
  rfl
theorem range_cell {w : World} {b g k c j : Nat} {f : Nat → Int} (h : w.ownsRow b 3 1 (.slice (some ⟨g, 0, none⟩) k c) k (((List.range k).map f).map (Value.int .i64))) (hj : j < k) : w.cell? ⟨g, j, none⟩ = some (.int .i64 (f j)) := by
  rw [h.cellAt j (by omega)]
  simp [hj]
theorem range_snoc (f : Nat → Int) (k : Nat) : ((List.range (k + 1)).map f).map (Value.int .i64) = ((List.range k).map f).map (Value.int .i64) ++ [.int .i64 (f k)] := by
  rw [List.range_succ, List.map_append, List.map_append]; rfl

set_option maxRecDepth 100000 in
set_option maxHeartbeats 8000000 in
theorem truth_any (T : Tk) (w : World) (h : T.At w) : Calls Try.prog 91 #[T.val] w fun e w' => ∃ g1 c1 g2 c2, e = .returned (.tuple #[.slice (some ⟨g1, 0, none⟩) T.len c1, .slice (some ⟨g2, 0, none⟩) T.len c2, .int .i64 T.bd]) ∧
    w'.ownsRow w.heap.size 3 1 (.slice (some ⟨g1, 0, none⟩) T.len c1) T.len (((List.range T.len).map T.low).map (Value.int .i64)) ∧ w'.ownsRow w.heap.size 3 1 (.slice (some ⟨g2, 0, none⟩) T.len c2) T.len (((List.range T.len).map T.high).map (Value.int .i64)) ∧ g1 ≠ g2 ∧ Below w.heap.size w w' := by
  obtain ⟨i0, hi, hz0, hz1, hz2⟩ := info_parts Try.infoInt
  have hb0 := h.b0
  unfold Byte at hb0
  have HLI := Lib.hid (Tk.low_in h.bc)
  have HHI := Lib.hid (Tk.high_in h.bc)
  have HCB := Lib.hid (fun i j => Tk.col_byte h.bc i j)
  have HAT := Lib.hid h
  have hn1 := h.n1
  unfold maxLen at hn1
  have kc : IntKind.i64.wrap T.bend = T.bend := IntWalk.i64_in _ (by omega)
  have kt : T.bend.tmod 40 = T.bend % 40 := Int.tmod_eq_emod_of_nonneg (by omega)
  have kw : IntKind.i64.wrap (T.bend % 40) = T.bend % 40 := IntWalk.i64_in _ (by omega)
  have kp : IntKind.i64.wrap (1 + T.bend % 40) = 1 + T.bend % 40 := IntWalk.i64_in _ (by omega)
  have HBD : Hid (T.bd = 1 + T.bend % 40) := rfl
  have HLEN : Hid (T.len = max 3 (min T.n 10)) := rfl
  have B0 := Lib.hid (Blk.new w 83 #[.slice T.A T.n T.c, .int .u8 T.bend, .slice T.K T.m T.d, .int .u8 T.s0, .int .u8 T.s1, .int .u8 T.s2, .int .u8 T.s3] (g := w.heap.size) rfl)
  clear h
  unfold Tk.val
  have b0 := B0.out.cell
  go_enter Try.func91, Try.ntmps91
  go_wp2_with fail
  have HT0 : Hid (TI w T 0 (w.heap.size + 1) 0 (w.heap.size + 1 + 1) 0 (((w.alloc (.cells #[.slice T.A T.n T.c, .int .u8 T.bend, .slice T.K T.m T.d, .int .u8 T.s0, .int .u8 T.s1, .int .u8 T.s2, .int .u8 T.s3] 83)).alloc (.cells #[] 3)).alloc (.cells #[] 3))) :=
    ⟨(B0.out.alloc _).alloc _, ownsRow_below (own_base (own_empty (w.alloc (.cells #[.slice T.A T.n T.c, .int .u8 T.bend, .slice T.K T.m T.d, .int .u8 T.s0, .int .u8 T.s1, .int .u8 T.s2, .int .u8 T.s3] 83)) 3 1 (g := w.heap.size + 1) (by simp)) (by simp)) (below_self _ _), own_base (own_empty ((w.alloc (.cells #[.slice T.A T.n T.c, .int .u8 T.bend, .slice T.K T.m T.d, .int .u8 T.s0, .int .u8 T.s1, .int .u8 T.s2, .int .u8 T.s3] 83)).alloc (.cells #[] 3)) 3 1 (g := w.heap.size + 1 + 1) (by simp)) (by simp), by omega, by simp, by simp, below_alloc' (below_alloc' (below_self _ _) _) _⟩
  generalize ((w.alloc (.cells #[.slice T.A T.n T.c, .int .u8 T.bend, .slice T.K T.m T.d, .int .u8 T.s0, .int .u8 T.s1, .int .u8 T.s2, .int .u8 T.s3] 83)).alloc (.cells #[] 3)).alloc (.cells #[] 3) = W0 at *
  clear b0 B0 kc kt kw kp
  have hbb : 1 ≤ 1 + T.bend % 40 ∧ 1 + T.bend % 40 ≤ 40 := by omega
  generalize 1 + T.bend % 40 = bb at *
  generalize T.bend % 40 = bd at *
  go_loopw [6, 7, 8] (fun v1 v2 iv wr => ∃ k g1 c1 g2 c2 : Nat, k ≤ T.len ∧ iv = .int .i64 k ∧ v1 = .slice (some ⟨g1, 0, none⟩) k c1 ∧ v2 = .slice (some ⟨g2, 0, none⟩) k c2 ∧ TI w T k g1 c1 g2 c2 wr) (fun _ _ iv _ => T.len - (intOf iv).toNat)
  case atStart => exact ⟨0, _, _, _, _, Nat.zero_le _, rfl, rfl, rfl, HT0.out⟩
  case round =>
    obtain ⟨k, g1, c1, g2, c2, hk, rfl, rfl, rfl, hti⟩ := hrel
    have HT := Lib.hid hti
    have b1 := HT.out.box.cell
    clear hti HT0
    have hlen := HLEN.out
    have hk10 : k ≤ 10 := by omega
    go_upto_region 4 with (fail)
    go_cut [31] from 19 to 97 (fun s W => s = .bool (decide (k < T.len)) ∧ W = wr)
    case first =>
      by_cases h3 : k < 3
      · have h3' : (k : Int) < 3 := by omega
        have HE : Hid (decide (k < T.len) = true) := by unfold Hid; rw [decide_eq_true_eq]; omega
        clear h3
        go_wp2_with fail
        go_meet
        exact ⟨by rw [HE.out], rfl⟩
      · have h3' : ¬ (k : Int) < 3 := by omega
        by_cases hn : k < T.n
        · have hn' : (k : Int) < (T.n : Int) := by omega
          by_cases h10 : k < 10
          · have h10' : (k : Int) < 10 := by omega
            have HE : Hid (decide (k < T.len) = true) := by unfold Hid; rw [decide_eq_true_eq]; omega
            clear h3 hn h10
            go_wp2_with fail
            go_meet
            exact ⟨by rw [HE.out], rfl⟩
          · have h10' : ¬ (k : Int) < 10 := by omega
            have HE : Hid (decide (k < T.len) = false) := by unfold Hid; rw [decide_eq_false_iff_not]; omega
            clear h3 hn h10
            go_wp2_with fail
            go_meet
            exact ⟨by rw [HE.out], rfl⟩
        · have hn' : ¬ (k : Int) < (T.n : Int) := by omega
          have HE : Hid (decide (k < T.len) = false) := by unfold Hid; rw [decide_eq_false_iff_not]; omega
          clear h3 hn
          go_wp2_with fail
          go_meet
          exact ⟨by rw [HE.out], rfl⟩
    case rest =>
      obtain ⟨rfl, rfl⟩ := hcut
      by_cases hlt : k < T.len
      · have hd : decide (k < T.len) = true := by rw [decide_eq_true_eq]; exact hlt
        rw [hd]
        have HT2 := Lib.hid (HT.out.below (below_self wc (.cells #[.int .u8 7, .int .u8 90, .int .u8 3, .int .u8 3] 81)))
        have V2 := Lib.hid (Blk.new wc 81 #[.int .u8 7, .int .u8 90, .int .u8 3, .int .u8 3] (g := wc.heap.size) rfl)
        have HWZ : Hid (w.heap.size < wc.heap.size) := HT.out.box.lt
        have b2 := HT2.out.box.cell
        clear b1
        go_upto_if 39 with (fail)
        generalize wc.alloc (.cells #[.int .u8 7, .int .u8 90, .int .u8 3, .int .u8 3] 81) = wd at *
        generalize wc.heap.size = V at *
        go_cut [] from 19 to 97 (fun W => TI w T k g1 c1 g2 c2 W ∧ Blk W V 81 #[.int .u8 (T.col k 0), .int .u8 (T.col k 1), .int .u8 (T.col k 2), .int .u8 (T.col k 3)])
        case first =>
          by_cases hn : k < T.n
          · have hn' : (k : Int) < (T.n : Int) := by omega
            obtain ⟨cb, co, hA, hcb, hq⟩ := (HAT.out.below HT2.out.bel).at_ hn
            have q0 := hq 0 (by omega)
            have q1 := hq 1 (by omega)
            have q2 := hq 2 (by omega)
            have q3 := hq 3 (by omega)
            have bq : wd.cell? ⟨w.heap.size, 0, none⟩ = some (.slice (some ⟨cb, co, none⟩) T.n T.c) := by rw [← hA]; exact HT2.out.box.cell 0
            have v2 := V2.out.cell
            clear hq hA b2 hlen
            rw [Nat.add_zero] at q0
            go_wp2_with (refine wpList_store_row rfl 81 _ _ rfl V _ rfl rfl 81 _ V2.out (by kernel_rfl) rfl (by kernel_rfl) ?_)
            go_meet
            exact ⟨HT2.out.setRow V2.out HWZ.out _, V2.out.setRow _⟩
          · have hn' : ¬ (k : Int) < (T.n : Int) := by omega
            have HV : Hid (T.col k 0 = 7 ∧ T.col k 1 = 90 ∧ T.col k 2 = 3 ∧ T.col k 3 = 3) := by unfold Hid Tk.col; rw [if_neg hn, if_neg hn, if_neg hn, if_neg hn]; exact ⟨rfl, rfl, rfl, rfl⟩
            go_wp2_with fail
            go_meet
            exact ⟨HT2.out, by rw [HV.out.1, HV.out.2.1, HV.out.2.2.1, HV.out.2.2.2]; exact V2.out⟩
        case rest =>
          obtain ⟨hti, hvv⟩ := hcut
          have HT3 := Lib.hid hti
          have V3 := Lib.hid hvv
          clear hti hvv HT2 V2 b2
          have hti := HT3.out
          have v3 := V3.out.cell
          have hb2 := HCB.out k 0
          have hb3 := HCB.out k 1
          unfold Byte at hb2 hb3
          have kb2 : IntKind.i64.wrap (T.col k 0) = T.col k 0 := IntWalk.i64_in _ (by omega)
          have kb3 : IntKind.i64.wrap (T.col k 1) = T.col k 1 := IntWalk.i64_in _ (by omega)
          have km2 : (T.col k 0).tmod 60 = T.col k 0 % 60 := Int.tmod_eq_emod_of_nonneg (by omega)
          have km3 : (T.col k 1).tmod 100 = T.col k 1 % 100 := Int.tmod_eq_emod_of_nonneg (by omega)
          have kw2 : IntKind.i64.wrap (T.col k 0 % 60) = T.col k 0 % 60 := IntWalk.i64_in _ (by omega)
          have kw3 : IntKind.i64.wrap (T.col k 1 % 100) = T.col k 1 % 100 := IntWalk.i64_in _ (by omega)
          have kp3 : IntKind.i64.wrap (70 + T.col k 1 % 100) = 70 + T.col k 1 % 100 := IntWalk.i64_in _ (by omega)
          clear hti
          go_upto_region 9 with (fail)
          go_quiet (fail)
          have HT4 := Lib.hid (HT3.out.below (below_drewN (Below.refl _ _) nq))
          generalize wc.drewN nq = wq at *
          clear v3 kb2 kb3 km2 km3 kw2 kw3 kp3 HT3 V3
          go_upto_if 55 with (fail)
          go_cut [10, 11] from 19 to 97 (fun s10 s11 W => s10 = .int .i64 (T.low k) ∧ s11 = .int .i64 (T.high k) ∧ TI w T k g1 c1 g2 c2 W)
          case first =>
            by_cases hk0 : 0 < k
            · have hk0' : (0 : Int) < (k : Int) := by omega
              have HX := Lib.hid HT4.out.drewd
              have KX := Lib.hid (And.intro (range_cell HX.out.o1 (show k - 1 < k by omega)) (range_cell HX.out.o2 (show k - 1 < k by omega)))
              have hl1 := HLI.out (k - 1)
              have hh1 := HHI.out (k - 1)
              have HSL := Lib.hid (T.low_step hk0)
              have HSH := Lib.hid (T.high_step hk0)
              rw [HBD.out] at HSL HSH
              generalize T.low (k - 1) = pl at *
              generalize T.high (k - 1) = ph at *
              have HSP := Lib.hid (fun a b W => lawSpan_any a b W)
              have HCL := Lib.hid (fun n lo hi W => clamp_any n lo hi W)
              have ka : IntKind.i64.wrap ((k : Int) - 1) = (k : Int) - 1 := IntWalk.i64_in _ (by omega)
              have kb : ((k : Int) - 1).toNat = k - 1 := by omega
              have kc : (0 : Int) ≤ (k : Int) - 1 := by omega
              have kd : (k : Int) - 1 < (k : Int) := by omega
              have ki : (1 : Int) ≤ (k : Int) := by omega
              have ke : IntKind.i64.wrap (pl - bb) = pl - bb := IntWalk.i64_in _ (by omega)
              have kf : IntKind.i64.wrap (pl + bb) = pl + bb := IntWalk.i64_in _ (by omega)
              have kg : IntKind.i64.wrap (ph - bb) = ph - bb := IntWalk.i64_in _ (by omega)
              have kh : IntKind.i64.wrap (ph + bb) = ph + bb := IntWalk.i64_in _ (by omega)
              clear hlt hd hk0 HT4
              go_upto_region 11 with (fail)
              go_region_held3 (fun W => W.cell? ⟨g1, k - 1, none⟩ = some (.int .i64 pl) ∧ W.cell? ⟨g2, k - 1, none⟩ = some (.int .i64 ph))
                (first | with_reducible exact KX.out)
                (first
                  | (go_at_call 57; refine (HSP.out _ _ _).mono ?_; rintro e W6 ⟨rfl, b6⟩; have HY := Lib.hid (HX.out.below b6); have KY := Lib.hid (And.intro (cell_hold b6 KX.out.1) (cell_hold b6 KX.out.2)); clear HX KX b6; have HX := HY; have KX := KY; clear HY KY)
                  | (go_at_call 110; refine (HCL.out _ _ _ _).mono ?_; rintro e W6 ⟨rfl, b6⟩; have HY := Lib.hid (HX.out.below b6); have KY := Lib.hid (And.intro (cell_hold b6 KX.out.1) (cell_hold b6 KX.out.2)); clear HX KX b6; have HX := HY; have KX := KY; clear HY KY))
              go_wp2_with fail
              go_meet
              exact ⟨by rw [HSL.out], by rw [HSH.out], HX.out⟩
            · have hk0' : ¬ (0 : Int) < (k : Int) := by omega
              have HL0 : Hid (T.low k = T.col k 0 % 60) := by have e : k = 0 := (by omega); unfold Hid; rw [e]; rfl
              have HH0 : Hid (T.high k = 70 + T.col k 1 % 100) := by have e : k = 0 := (by omega); unfold Hid; rw [e]; rfl
              go_wp2_with fail
              go_meet
              exact ⟨by rw [HL0.out], by rw [HH0.out], HT4.out⟩
          case rest =>
            obtain ⟨rfl, rfl, hti⟩ := hcut
            have HT5 := Lib.hid hti
            clear hti HT4
            have HS1 := Lib.hid (range_snoc T.low k)
            have HS2 := Lib.hid (range_snoc T.high k)
            have z0 := HT5.out.bel.size
            have P1 := Lib.hid (ownsRow_below HT5.out.o1 (below_self wc (.cells #[.int .i64 (T.low k)] 3)))
            have P2 := Lib.hid (ownsRow_below HT5.out.o2 (below_self wc (.cells #[.int .i64 (T.low k)] 3)))
            have N1 := Lib.hid (cell_one_at wc (.int .i64 (T.low k)) 3)
            have HLT := Lib.hid hlt
            clear hlt hd
            go_wp2_with (at_builtin; refine wpList_append_lies _ rfl _ _ 44 rfl (w.heap.size + 1) 3 i0 (.int .i64 0) 1 8 Try.underlying44 hi hz0 hz1 hz2 rfl (by decide) _ _ _ rfl P1.out ⟨wc.heap.size, 0, none⟩ 1 1 [.int .i64 (T.low k)] rfl rfl N1.out ?c2 (by decide) ?c3 ?c4 ?c5 (wc.heap.size + 1) ?c6 ?_)
            case c2 => intro u hu; simp only [List.mem_cons, List.not_mem_nil, or_false] at hu; subst hu; rfl
            case c3 => unfold maxLen; omega
            case c4 => omega
            case c5 => have := HT5.out.l1; have := HT5.out.box.lt; simp; omega
            case c6 => simp
            intro g3 c3 w4 hown4 hgrow hor hlt4
            have O1 : Hid (w4.ownsRow (w.heap.size + 1) 3 1 (.slice (some ⟨g3, 0, none⟩) (k + 1) c3) (k + 1) (((List.range (k + 1)).map T.low).map (Value.int .i64))) := by unfold Hid; rw [HS1.out, List.map_map]; exact hown4
            have O2 := Lib.hid (P2.out.kept hgrow (.inr (by simp only [Value.ownBlock, ne_eq, Option.some.injEq]; exact fun e => HT5.out.sep e.symm)))
            have X4 := Lib.hid ((blk_keep (below_self wc (.cells #[.int .i64 (T.low k)] 3)) HT5.out.box).grown hgrow (own_blk_ne P1.out (blk_keep (below_self wc (.cells #[.int .i64 (T.low k)] 3)) HT5.out.box) (by decide)))
            have D4 := Lib.hid ((HT5.out.bel.alloc z0 (.cells #[.int .i64 (T.low k)] 3)).grown hgrow (by simp; omega) (fun q hq => by have := (P1.out.lt q hq).1; omega))
            have HOR : Hid (g3 = g1 ∨ g3 = wc.heap.size + 1) := by
              rcases hor with e | e
              · simp only [Value.ownBlock, Option.some.injEq] at e; exact .inl e.symm
              · exact .inr e
            have hsz : wc.heap.size + 1 ≤ w4.heap.size := by have := hgrow.size; simpa using this
            have HSZ := Lib.hid (And.intro hlt4 hsz)
            have z4 := D4.out.size
            clear hown4 hgrow hor hlt4 P1 P2 N1 hsz
            have R1 := Lib.hid (ownsRow_below O1.out (below_self w4 (.cells #[.int .i64 (T.high k)] 3)))
            have R2 := Lib.hid (ownsRow_below O2.out (below_self w4 (.cells #[.int .i64 (T.high k)] 3)))
            have N2 := Lib.hid (cell_one_at w4 (.int .i64 (T.high k)) 3)
            go_wp2_with (at_builtin; refine wpList_append_lies _ rfl _ _ 44 rfl (w.heap.size + 1) 3 i0 (.int .i64 0) 1 8 Try.underlying44 hi hz0 hz1 hz2 rfl (by decide) _ _ _ rfl R2.out ⟨w4.heap.size, 0, none⟩ 1 1 [.int .i64 (T.high k)] rfl rfl N2.out ?e2 (by decide) ?e3 ?e4 ?e5 (w4.heap.size + 1) ?e6 ?_)
            case e2 => intro u hu; simp only [List.mem_cons, List.not_mem_nil, or_false] at hu; subst hu; rfl
            case e3 => unfold maxLen; omega
            case e4 => omega
            case e5 => have := HT5.out.box.lt; have := HSZ.out.2; simp; omega
            case e6 => simp
            intro g4 c4 w5 hown5 hgrow hor hlt5
            have HFIN : Hid (TI w T (k + 1) g3 c3 g4 c4 w5) := by
              have e3 := HOR.out
              have s1 := HT5.out.sep
              have s2 := HT5.out.l1
              have s3 := HT5.out.l2
              have s4 := HSZ.out
              have e4 : g4 = g2 ∨ g4 = w4.heap.size + 1 := by
                rcases hor with e | e
                · simp only [Value.ownBlock, Option.some.injEq] at e; exact .inl e.symm
                · exact .inr e
              have h32 : g3 ≠ g2 := by omega
              refine ⟨(blk_keep (below_self w4 (.cells #[.int .i64 (T.high k)] 3)) X4.out).grown hgrow (own_blk_ne R2.out (blk_keep (below_self w4 (.cells #[.int .i64 (T.high k)] 3)) X4.out) (by decide)), R1.out.kept hgrow (.inr (by simp only [Value.ownBlock, ne_eq, Option.some.injEq]; exact h32)), by rw [HS2.out, List.map_map]; exact hown5, by omega, ?_, hlt5, (D4.out.alloc z4 _).grown hgrow (by simp; omega) (fun q hq => by have := (R2.out.lt q hq).1; omega)⟩
              have := hgrow.size
              simp at this
              omega
            clear hown5 hgrow hor hlt5 R1 R2 N2 O1 O2 X4 D4
            go_wp2
            go_roundw
            case rel => exact ⟨k + 1, g3, c3, g4, c4, by have := HLT.out; omega, by go_num, rfl, rfl, HFIN.out⟩
            case measure => have := HLT.out; simp [intOf]; omega
      · have hd : decide (k < T.len) = false := by rw [decide_eq_false_iff_not]; exact hlt
        rw [hd]
        obtain rfl : k = T.len := by omega
        have HB2 : Hid (bb = T.bd) := HBD.out.symm
        go_wp2
        go_ret3
        exact ⟨g1, c1, g2, c2, (by rw [HB2.out]; rfl), own_base HT.out.o1 (by omega), own_base HT.out.o2 (by omega), HT.out.sep, HT.out.bel⟩
end Go.Proofs.Ytiflhimmieflpaa
