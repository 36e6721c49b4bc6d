/- Walks: Fits, and the law ToothFits. -/
import Derived.Test.YtiflhimmieflpaaW104
import Derived.Test.YtiflhimmieflpaaW97
namespace Go.Proofs.Ytiflhimmieflpaa
open Go.RowKit Go.Maps

def S6 (B : Bl) (s : Sw) (g cap g' cap' q w0 : Nat) (x y : Int) (W : World) : Prop := W.cell? ⟨q, 0, none⟩ = some (.slice B.A B.n B.c) ∧ W.cell? ⟨q, 1, none⟩ = some (.slice B.A' B.n' B.c') ∧ W.cell? ⟨q, 2, none⟩ = some (.int .i64 B.bend) ∧ W.cell? ⟨q, 3, none⟩ = some (.slice B.K B.m B.d) ∧ W.cell? ⟨q, 4, none⟩ = some (.slice (some ⟨g, 0, none⟩) B.n cap) ∧ W.cell? ⟨q, 5, none⟩ = some (.slice (some ⟨g', 0, none⟩) B.n cap') ∧ W.cell? ⟨w0 + 1, 0, none⟩ = some (.int .i64 s.long) ∧ W.cell? ⟨w0 + 1, 1, none⟩ = some (.int .i64 s.wide) ∧ W.cell? ⟨w0 + 1, 2, none⟩ = some (.int .i64 s.kerf) ∧ W.cell? ⟨w0 + 1, 3, none⟩ = some (.int .i64 s.across) ∧ W.cell? ⟨w0 + 1 + 1, 0, none⟩ = some (.int .i64 x) ∧ W.cell? ⟨w0 + 1 + 1, 1, none⟩ = some (.int .i64 y)
def FitsRes (w : World) (B : Bl) (s : Sw) (x y : Int) (e : Ending) (w' : World) : Prop :=
  Below w.heap.size w w' ∧ ((B.err s ≠ 0 ∧ e = .returned (.tuple #[.bool false, .bool false, .int .i64 (B.err s)])) ∨
    (B.err s = 0 ∧ holdsB B.n s.long [(x, y)] = false ∧ e = .returned (.tuple #[.bool false, .bool false, .int .i64 2])) ∨
    (B.err s = 0 ∧ holdsB B.n s.long [(x, y)] = true ∧ e = .returned (.tuple #[.bool (soundS (B.worst s) x.toNat y), .bool (possB B s x.toNat y), .int .i64 0])))
theorem holds_xy {n : Nat} {long x y : Int} (h : holdsB n long [(x, y)] = true) : (0 ≤ x ∧ x + long ≤ n) ∧ 0 ≤ y ∧ y ≤ 300 := by
  simp only [holdsB, noneOf, placeOk, within, List.all_cons, List.all_nil, Bool.and_true, Bool.not_not, Bool.and_eq_true, decide_eq_true_eq] at h
  omega

set_option maxRecDepth 100000 in
set_option maxHeartbeats 4000000 in
theorem Fits_any (B : Bl) (s : Sw) (x y : Int) (w : World) (h : B.At w) : Calls Try.prog 26 #[B.val, s.val, .agg #[.int .i64 x, .int .i64 y]] w (FitsRes w B s x y) := by
  have E0 : Hid (Below w.heap.size w (((w.alloc (.cells #[.slice B.A B.n B.c, .slice B.A' B.n' B.c', .int .i64 B.bend, .slice B.K B.m B.d] 25)).alloc (.cells #[.int .i64 s.long, .int .i64 s.wide, .int .i64 s.kerf, .int .i64 s.across] 37)).alloc (.cells #[.int .i64 x, .int .i64 y] 39))) := below_alloc' (below_alloc' (below_self _ _) _) _
  have S0 := Lib.hid ((Blk.new (w.alloc (.cells #[.slice B.A B.n B.c, .slice B.A' B.n' B.c', .int .i64 B.bend, .slice B.K B.m B.d] 25)) 37 #[.int .i64 s.long, .int .i64 s.wide, .int .i64 s.kerf, .int .i64 s.across] (g := w.heap.size + 1) (by simp)).alloc (.cells #[.int .i64 x, .int .i64 y] 39))
  have Q0 := Lib.hid (Blk.new ((w.alloc (.cells #[.slice B.A B.n B.c, .slice B.A' B.n' B.c', .int .i64 B.bend, .slice B.K B.m B.d] 25)).alloc (.cells #[.int .i64 s.long, .int .i64 s.wide, .int .i64 s.kerf, .int .i64 s.across] 37)) 39 #[.int .i64 x, .int .i64 y] (g := w.heap.size + 1 + 1) (by simp))
  have HC := Lib.hid (ready_top B s _ (h.below E0.out))
  have HK := Lib.hid h
  clear h
  unfold Bl.val Sw.val at *
  go_enter Try.func26, Try.ntmps26
  go_wp2_with fail
  refine HC.out.mono ?_
  rintro e w2 ⟨hb2, ⟨herr, rfl⟩ | ⟨hok, g, cap, g', cap', rfl, P, P', hgg⟩⟩
  · have B2 := Lib.hid (below_then E0.out hb2)
    have Herr := Lib.hid herr
    have hz : (B.err s == 0) = false := by simpa using herr
    have hz2 : (B.err s != 0) = true := by simpa using herr
    clear hb2 herr HC
    unfold zeroCurved
    go_wp2
    go_ret3
    exact ⟨below_alloc' B2.out _, .inl ⟨Herr.out, rfl⟩⟩
  · have B2 := Lib.hid (below_then E0.out hb2)
    have S2 := Lib.hid (blk_keep hb2 S0.out)
    have Q2 := Lib.hid (blk_keep hb2 Q0.out)
    have Hok := Lib.hid (err_ok hok)
    have hP := Lib.hid P
    have hP' := Lib.hid P'
    have s2 := (S2.out.alloc (.cells #[.slice B.A B.n B.c, .slice B.A' B.n' B.c', .int .i64 B.bend, .slice B.K B.m B.d, .slice (some ⟨g, 0, none⟩) B.n cap, .slice (some ⟨g', 0, none⟩) B.n cap'] 106)).cell
    have q2 := (Q2.out.alloc (.cells #[.slice B.A B.n B.c, .slice B.A' B.n' B.c', .int .i64 B.bend, .slice B.K B.m B.d, .slice (some ⟨g, 0, none⟩) B.n cap, .slice (some ⟨g', 0, none⟩) B.n cap'] 106)).cell
    have hg1 : g < w2.heap.size := by obtain ⟨b, o, e, hb, _⟩ := P.2 (by have := Hok.out.2.1.n1; omega); cases e; exact hb
    have hg2 : g' < w2.heap.size := by obtain ⟨b, o, e, hb, _⟩ := P'.2 (by have := Hok.out.2.1.n1; omega); cases e; exact hb
    have HG := Lib.hid (And.intro hg1 hg2)
    have Hok0 := Lib.hid hok
    have E3 := Lib.hid ((below_self w2 (.cells #[.slice B.A B.n B.c, .slice B.A' B.n' B.c', .int .i64 B.bend, .slice B.K B.m B.d, .slice (some ⟨g, 0, none⟩) B.n cap, .slice (some ⟨g', 0, none⟩) B.n cap'] 106)).alloc (by simp) (.cells #[.int .i64 x, .int .i64 y] 39))
    have C3 := Lib.hid ((Blk.new w2 106 #[.slice B.A B.n B.c, .slice B.A' B.n' B.c', .int .i64 B.bend, .slice B.K B.m B.d, .slice (some ⟨g, 0, none⟩) B.n cap, .slice (some ⟨g', 0, none⟩) B.n cap'] (g := w2.heap.size) rfl).alloc (.cells #[.int .i64 x, .int .i64 y] 39))
    have S3 := Lib.hid ((S2.out.alloc (.cells #[.slice B.A B.n B.c, .slice B.A' B.n' B.c', .int .i64 B.bend, .slice B.K B.m B.d, .slice (some ⟨g, 0, none⟩) B.n cap, .slice (some ⟨g', 0, none⟩) B.n cap'] 106)).alloc (.cells #[.int .i64 x, .int .i64 y] 39))
    have Q3 := Lib.hid ((Q2.out.alloc (.cells #[.slice B.A B.n B.c, .slice B.A' B.n' B.c', .int .i64 B.bend, .slice B.K B.m B.d, .slice (some ⟨g, 0, none⟩) B.n cap, .slice (some ⟨g', 0, none⟩) B.n cap'] 106)).alloc (.cells #[.int .i64 x, .int .i64 y] 39))
    have HH := Lib.hid (holds_any B s g cap g' cap' _ 1 1 [(x, y)] _ Hok.out.2.1 Hok.out.2.2 (pairs_new1 (w2.alloc (.cells #[.slice B.A B.n B.c, .slice B.A' B.n' B.c', .int .i64 B.bend, .slice B.K B.m B.d, .slice (some ⟨g, 0, none⟩) B.n cap, .slice (some ⟨g', 0, none⟩) B.n cap'] 106)) x y 39 (g := w2.heap.size + 1) (by simp)) (by decide))
    clear hb2 hok P P' HC hgg hg1 hg2
    unfold Bl.curved Sw.val at HH
    unfold Bl.curved
    go_wp2_with fail
    refine HH.out.mono ?_
    rintro e w3 ⟨rfl, hb3⟩
    have G3 := Lib.hid (E3.out.trans (hb3.mono E3.out.size))
    have B3 := Lib.hid (below_then B2.out G3.out)
    have C3' := Lib.hid (blk_keep hb3 C3.out)
    have S3' := Lib.hid (blk_keep hb3 S3.out)
    have Q3' := Lib.hid (blk_keep hb3 Q3.out)
    clear hb3 HH E3 C3 S3 Q3 s2 q2
    cases hx : holdsB B.n s.long [(x, y)]
    · have Hx := Lib.hid hx
      clear hx
      go_wp2
      go_ret3
      exact ⟨B3.out, .inr (.inl ⟨Hok0.out, Hx.out, rfl⟩)⟩
    · have Hx := Lib.hid hx
      obtain ⟨k, rfl⟩ := Int.eq_ofNat_of_zero_le (holds_xy hx).1.1
      have HXL := Lib.hid (holds_xy hx).1.2
      have HYY := Lib.hid (holds_xy hx).2
      clear hx
      have HWT := Lib.hid (fun W (hb : Below w3.heap.size w3 W) => worst_top B s g cap g' cap' W Hok.out.2.1 (hP.out.below (below_then G3.out hb)) (hP'.out.below (below_then G3.out hb)) (HK.out.below (below_then B3.out hb)).hk)
      have HPO := Lib.hid (fun W (hb : Below w3.heap.size w3 W) => possibly_any B s g cap g' cap' k y W Hok.out.2.1 Hok.out.2.2 (err_cracks Hok.out.1) (hP.out.below (below_then G3.out hb)) (hP'.out.below (below_then G3.out hb)) (HK.out.below (below_then B3.out hb)).hk HXL.out HYY.out.1 HYY.out.2 (Nat.lt_of_lt_of_le HG.out.1 (below_then G3.out hb).size) (Nat.lt_of_lt_of_le HG.out.2 (below_then G3.out hb).size))
      have HSS : Hid (∀ V, Below w3.heap.size w3 V → S6 B s g cap g' cap' w2.heap.size w.heap.size k y V) := fun V hV => by
        have c := blk_keep hV C3'.out
        have u := blk_keep hV S3'.out
        have v := blk_keep hV Q3'.out
        exact ⟨c.cell 0, c.cell 1, c.cell 2, c.cell 3, c.cell 4, c.cell 5, u.cell 0, u.cell 1, u.cell 2, u.cell 3, v.cell 0, v.cell 1⟩
      have D0 : Hid (Below w3.heap.size w3 w3.drew) := (Below.refl _ _).drew
      unfold Bl.curved Sw.val at HWT HPO
      clear S0 Q0 S2 Q2 C3' S3' Q3'
      go_upto_region 6 with (fail)
      refine wp_region_held_drew (S := S6 B s g cap g' cap' w2.heap.size w.heap.size k y) (by kernel_rfl) (HSS.out _ D0.out) (fun _ => ?_)
      generalize w3.drew = wd at *
      refine heldTake (i := 0) 25 (v := ?v1) rfl (by kernel_rfl) (by kernel_rfl) (by kernel_rfl) (by kernel_rfl) (fun _ _ _ h => h) (Or.inl ⟨by rfl, ?y1⟩) (by assumption) ?r1
      case y1 => (intro w hSw; obtain ⟨g0, g1, g2, g3, g4, g5, g6, g7, g8, g9, g10, g11⟩ := hSw; go_simp; try with_reducible rfl)
      refine heldTake (i := 1) 26 (v := ?v2) rfl (by kernel_rfl) (by kernel_rfl) (by kernel_rfl) (by kernel_rfl) (fun _ _ _ h => h) (Or.inl ⟨by rfl, ?y2⟩) (by assumption) ?r2
      case y2 => (intro w hSw; obtain ⟨g0, g1, g2, g3, g4, g5, g6, g7, g8, g9, g10, g11⟩ := hSw; go_simp; try with_reducible rfl)
      refine heldTake (i := 3) 28 (v := ?v3) rfl (by kernel_rfl) (by kernel_rfl) (by kernel_rfl) (by kernel_rfl) (fun _ _ _ h => h) (Or.inl ⟨by rfl, ?y3⟩) (by assumption) ?r3
      case y3 => (intro w hSw; obtain ⟨g0, g1, g2, g3, g4, g5, g6, g7, g8, g9, g10, g11⟩ := hSw; go_simp; try with_reducible rfl)
      refine heldTake (i := 5) 30 (v := ?v4) rfl (by kernel_rfl) (by kernel_rfl) (by kernel_rfl) (by kernel_rfl) (fun _ _ _ h => h) (Or.inl ⟨by rfl, ?y4⟩) (by assumption) ?r4
      case y4 => (intro w hSw; obtain ⟨g0, g1, g2, g3, g4, g5, g6, g7, g8, g9, g10, g11⟩ := hSw; go_simp; try with_reducible rfl)
      refine heldTake (i := 6) 31 (v := ?v5) rfl (by kernel_rfl) (by kernel_rfl) (by kernel_rfl) (by kernel_rfl) (fun _ _ _ h => h) (Or.inl ⟨by rfl, ?y5⟩) (by assumption) ?r5
      case y5 => (intro w hSw; obtain ⟨g0, g1, g2, g3, g4, g5, g6, g7, g8, g9, g10, g11⟩ := hSw; go_simp; try with_reducible rfl)
      refine heldTake (i := 7) 32 (v := ?v6) rfl (by kernel_rfl) (by kernel_rfl) (by kernel_rfl) (by kernel_rfl) (fun _ _ _ h => h) (Or.inl ⟨by rfl, ?y6⟩) (by assumption) ?r6
      case y6 => (intro w hSw; obtain ⟨g0, g1, g2, g3, g4, g5, g6, g7, g8, g9, g10, g11⟩ := hSw; go_simp; try with_reducible rfl)
      simp only [Act.put, List.setIfInBounds_toArray, List.set_cons_zero, List.set_cons_succ]
      refine wpAnyH_ready (rs := [2]) (by kernel_rfl) (by simp) ?_
      refine AllReadyH.cons rfl (fun K0_1 hK0_1 => ?_) AllReadyH.nil
      go_simp
      refine (HWT.out _ D0.out).mono ?_
      rintro e V1 ⟨hb1, b, o, b', o', c, c', K, d, rfl, hs, hc, hc', hm⟩
      have E1 := Lib.hid (below_then D0.out hb1)
      have HSO := Lib.hid (fun V (hV : Below V1.heap.size V1 V) => sound_any (B.worst s) b o b' o' B.n c c' K B.m d k y V (hs.below hV) hc hc' hm (worst_bounds Hok.out.2.1 Hok.out.2.2) HXL.out Hok.out.2.1.n2 Hok.out.2.1.m4 HYY.out.1 HYY.out.2)
      clear hs hc hc' hm
      clear hb1
      refine hK0_1.out _ _ (HSS.out _ E1.out) (fun _ => ?_)
      refine wpAnyH_ready (rs := [4]) (by kernel_rfl) (by simp) ?_
      refine AllReadyH.cons rfl (fun K1_2 hK1_2 => ?_) AllReadyH.nil
      go_simp
      refine (HSO.out _ (Below.refl _ _)).mono ?_
      rintro e V2 ⟨rfl, hb2⟩
      have E2 := Lib.hid (below_then E1.out hb2)
      clear hb2
      refine hK1_2.out _ _ (HSS.out _ E2.out) (fun _ => ?_)
      refine wpAnyH_ready (rs := [8]) (by kernel_rfl) (by simp) ?_
      refine AllReadyH.cons rfl (fun K2_3 hK2_3 => ?_) AllReadyH.nil
      go_simp
      refine (HPO.out _ E2.out).mono ?_
      rintro e V3 ⟨rfl, hb3⟩
      have E3 := Lib.hid (below_then E2.out hb3)
      have S3 := Lib.hid hb3
      clear hb3
      refine hK2_3.out _ _ (HSS.out _ E3.out) (fun _ => ?_)
      refine heldTake (i := 9) 6 (v := ?v7) rfl (by kernel_rfl) (by kernel_rfl) (by kernel_rfl) (by kernel_rfl) (fun _ _ _ h => h) (Or.inl ⟨by rfl, ?y7⟩) (by assumption) ?r7
      case y7 => (intro w hSw; obtain ⟨g0, g1, g2, g3, g4, g5, g6, g7, g8, g9, g10, g11⟩ := hSw; go_simp; try with_reducible rfl)
      refine heldTake (i := 10) 7 (v := ?v8) rfl (by kernel_rfl) (by kernel_rfl) (by kernel_rfl) (by kernel_rfl) (fun _ _ _ h => h) (Or.inl ⟨by rfl, ?y8⟩) (by assumption) ?r8
      case y8 => (intro w hSw; obtain ⟨g0, g1, g2, g3, g4, g5, g6, g7, g8, g9, g10, g11⟩ := hSw; go_simp; try with_reducible rfl)
      refine heldTake (i := 11) 8 (v := ?v9) rfl (by kernel_rfl) (by kernel_rfl) (by kernel_rfl) (by kernel_rfl) (fun _ _ _ h => h) (Or.inl ⟨by rfl, ?y9⟩) (by assumption) ?r9
      case y9 => (intro w hSw; obtain ⟨g0, g1, g2, g3, g4, g5, g6, g7, g8, g9, g10, g11⟩ := hSw; go_simp; try with_reducible rfl)
      refine wpAnyH_done (by kernel_rfl) ?_ _
      go_wp2_with fail
      go_ret3
      exact ⟨below_then B3.out E3.out, .inr (.inr ⟨Hok0.out, Hx.out, rfl⟩)⟩
end Go.Proofs.Ytiflhimmieflpaa

namespace Go.Proofs.Ytiflhimmieflpaa
open Go.RowKit Go.Maps

def PV (w : World) (B : Bl) (s : Sw) (x y : Int) (W : World) : Prop := ((W.cell? ⟨w.heap.size, 0, none⟩ = some (.slice B.A B.n B.c) ∧ W.cell? ⟨w.heap.size, 1, none⟩ = some (.slice B.A' B.n' B.c') ∧ W.cell? ⟨w.heap.size, 2, none⟩ = some (.int .i64 B.bend) ∧ W.cell? ⟨w.heap.size, 3, none⟩ = some (.slice B.K B.m B.d)) ∧ W.cell? ⟨w.heap.size + 1, 0, none⟩ = some (.int .i64 s.long) ∧ W.cell? ⟨w.heap.size + 1, 1, none⟩ = some (.int .i64 s.wide) ∧ W.cell? ⟨w.heap.size + 1, 2, none⟩ = some (.int .i64 s.kerf) ∧ W.cell? ⟨w.heap.size + 1, 3, none⟩ = some (.int .i64 s.across)) ∧ W.cell? ⟨w.heap.size + 1 + 1, 0, none⟩ = some (.int .i64 x) ∧ W.cell? ⟨w.heap.size + 1 + 1, 1, none⟩ = some (.int .i64 y)
theorem pv_of {w W : World} {B : Bl} {s : Sw} {x y : Int} (h : LV w B s W) (p : Blk W (w.heap.size + 1 + 1) 39 #[.int .i64 x, .int .i64 y]) : PV w B s x y W := ⟨h.get, p.cell 0, p.cell 1⟩
set_option maxRecDepth 100000 in
set_option maxHeartbeats 4000000 in
theorem ToothFits_any (B : Bl) (s : Sw) (x y : Int) (w : World) (h : B.At w) : Calls Try.prog 4 #[B.val, s.val, .agg #[.int .i64 x, .int .i64 y]] w (Yes w) := by
  have L0 := Lib.hid ((LV.new w B s).alloc (.cells #[.int .i64 x, .int .i64 y] 39))
  have P0 := Lib.hid (Blk.new ((w.alloc (.cells #[.slice B.A B.n B.c, .slice B.A' B.n' B.c', .int .i64 B.bend, .slice B.K B.m B.d] 25)).alloc (.cells #[.int .i64 s.long, .int .i64 s.wide, .int .i64 s.kerf, .int .i64 s.across] 37)) 39 #[.int .i64 x, .int .i64 y] (g := w.heap.size + 1 + 1) (by simp))
  have H := Lib.hid h
  have HLG := Lib.hid (fun W => large_any B W)
  have HKN := Lib.hid (fun W => known_any W)
  clear h
  unfold Bl.val Sw.val at *
  go_enter Try.func4, Try.ntmps4
  have l0 := L0.out.get
  go_wp2_with fail
  refine (HLG.out _).mono ?_
  rintro e w1 ⟨rfl, b1⟩
  have L1 := Lib.hid (L0.out.below b1)
  have P1 := Lib.hid (blk_keep b1 P0.out)
  have l1 := L1.out.get
  clear b1 HLG L0 l0 P0
  cases hlg : largeB B.n B.n' B.m
  case true =>
    clear hlg
    go_wp2_with fail
    refine (HKN.out _).mono ?_
    rintro e w2 ⟨rfl, b2⟩
    have D2 := Lib.hid (below_then L1.out.bel b2)
    clear b2
    go_wp2
    go_ret
    exact ⟨rfl, D2.out⟩
  obtain ⟨k1, k2, k3⟩ := large_no hlg
  clear hlg
  have HCP := Lib.hid (RefCopy_any B _ (H.out.below L1.out.bel) (by omega) (by omega) (by omega))
  have HPL := Lib.hid (fun W (hb : Below w.heap.size w W) => place_any B s x y W (H.out.below hb) (by omega) (by omega) (by omega))
  have HPE : Hid (placeErr B s x y = if B.err s ≠ 0 then B.err s else if holdsB B.n s.long [(x, y)] = false then 2 else 0) := rfl
  unfold Bl.val Sw.val at *
  go_wp2_with fail
  refine HCP.out.mono ?_
  rintro e w2 ⟨B', rfl, hlike, hat, b2⟩
  have L2 := Lib.hid (L1.out.below b2)
  have P2 := Lib.hid (blk_keep b2 P1.out)
  have HL := Lib.hid hlike
  have HA := Lib.hid hat
  clear b2 HCP hlike hat l1 L1 P1
  have E2 := Lib.hid (below_self w2 (.cells #[.slice B'.A B'.n B'.c, .slice B'.A' B'.n' B'.c', .int .i64 B'.bend, .slice B'.K B'.m B'.d] 25))
  have X2 := Lib.hid (Blk.new w2 25 #[.slice B'.A B'.n B'.c, .slice B'.A' B'.n' B'.c', .int .i64 B'.bend, .slice B'.K B'.m B'.d] rfl)
  have L2a := Lib.hid (L2.out.alloc (.cells #[.slice B'.A B'.n B'.c, .slice B'.A' B'.n' B'.c', .int .i64 B'.bend, .slice B'.K B'.m B'.d] 25))
  have P2a := Lib.hid (blk_keep E2.out P2.out)
  have HCK := Lib.hid (Fits_any B' s x y _ (HA.out.below E2.out))
  have HSM := Lib.hid (fun W (hb : Below w2.heap.size w2 W) (hb2 : Below w.heap.size w W) => RefSame_any B B' W (H.out.below hb2) (HA.out.below hb) HL.out)
  unfold Bl.val Sw.val at *
  have l2 := L2a.out.get
  have p2 := P2a.out.cell
  have x2 := X2.out.cell
  go_wp2_with fail
  refine HCK.out.mono ?_
  rintro e w3 ⟨b3, hcs⟩
  rw [HL.out.err, HL.out.n, HL.out.worst, HL.out.possB] at hcs
  have E3 := Lib.hid (below_then E2.out b3)
  have L3 := Lib.hid (L2a.out.below b3)
  have P3 := Lib.hid (blk_keep b3 P2a.out)
  have X3 := Lib.hid (blk_keep b3 X2.out)
  have HSM3 := Lib.hid (HSM.out _ E3.out L3.out.bel)
  clear b3 E2 X2 L2a P2a HCK l2 p2 x2 HSM L2 P2
  have l3 := L3.out.get
  have p3 := P3.out.cell
  have x3 := X3.out.cell
  have hcs2 : (∃ E : Int, (E != 0) = true ∧ placeErr B s x y = E ∧ e = .returned (.tuple #[.bool false, .bool false, .int .i64 E])) ∨ (B.err s = 0 ∧ holdsB B.n s.long [(x, y)] = true ∧ placeErr B s x y = 0 ∧ e = .returned (.tuple #[.bool (soundS (B.worst s) x.toNat y), .bool (possB B s x.toNat y), .int .i64 0])) := by
    rcases hcs with ⟨h1, rfl⟩ | ⟨h1, h2, rfl⟩ | ⟨h1, h2, rfl⟩
    · exact .inl ⟨_, by simpa using h1, by rw [HPE.out, if_pos h1], rfl⟩
    · exact .inl ⟨2, rfl, by rw [HPE.out, if_neg (by simp [h1]), if_pos h2], rfl⟩
    · exact .inr ⟨h1, h2, by rw [HPE.out, if_neg (by simp [h1]), if_neg (by simp [h2])], rfl⟩
  clear hcs HPE
  rcases hcs2 with ⟨E, hE2, hpe, rfl⟩ | ⟨herr, hh, hpe, rfl⟩
  · have hE3 : (E == E) = true := by simp
    have hE4 : (E == 0) = false := by simpa using hE2
    rw [hpe] at HPL
    clear hpe
    go_wp2_with fail
    refine HSM3.out.mono ?_
    rintro e w4 ⟨rfl, b4⟩
    have L4 := Lib.hid (L3.out.below b4)
    have P4 := Lib.hid (blk_keep b4 P3.out)
    have HPL4 := Lib.hid (HPL.out _ L4.out.bel)
    have l4 := L4.out.get
    have p4 := P4.out.cell
    clear b4 l3 L3 p3 P3 x3 X3 E3 HSM3 HPL
    go_wp2_with fail
    refine HPL4.out.mono ?_
    rintro e w5 ⟨rfl, b5⟩
    have L5 := Lib.hid (L4.out.below b5)
    clear b5 l4 L4 p4 P4 HPL4
    go_wp2_with fail
    refine (HKN.out _).mono ?_
    rintro e w6 ⟨rfl, b6⟩
    have D6 := Lib.hid (below_then L5.out.bel b6)
    clear b6 L5
    go_wp2
    go_ret
    exact ⟨rfl, D6.out⟩
  · obtain ⟨hce, hok, hso⟩ := err_ok herr
    have hce' : B.cerr = 0 := hce
    obtain ⟨⟨hx0, hxn⟩, hy0, hyn⟩ := holds_xy hh
    obtain ⟨xn, rfl⟩ := Int.eq_ofNat_of_zero_le hx0
    obtain ⟨yn, rfl⟩ := Int.eq_ofNat_of_zero_le hy0
    rw [Int.toNat_natCast] at *
    have HSU := Lib.hid (fun W (hb : Below w.heap.size w W) => Sure_any B W (H.out.below hb) hce')
    have HSO := Lib.hid (fun TA TB K c c' d W (hV : (sureV B TA TB K c c' d).At W) => (Sound_any (sureV B TA TB K c c' d) s xn (yn : Int) W hV hso hxn hy0 hyn).mono fun e w' h => (by rw [sound_sure hso hce' yn] at h; exact h : e = .returned (.bool (soundS (B.worst s) xn yn)) ∧ Below W.heap.size W w'))
    have HPO := Lib.hid (fun W (hb : Below w.heap.size w W) => RefPossibly_any B s xn yn W (H.out.below hb) hce' hso hxn (by omega))
    rw [hpe] at HPL
    clear herr hce hok hso hce' hpe hh hx0 hxn hy0 hyn
    unfold Bl.val Sw.val at *
    generalize soundS (B.worst s) xn yn = su at *
    generalize possB B s xn yn = po at *
    have hs1 : (su == su) = true := by simp
    have hs2 : (po == po) = true := by simp
    go_wp2_with fail
    refine HSM3.out.mono ?_
    rintro e w4 ⟨rfl, b4⟩
    have L4 := Lib.hid (L3.out.below b4)
    have P4 := Lib.hid (blk_keep b4 P3.out)
    have HPL4 := Lib.hid (HPL.out _ L4.out.bel)
    have l4 := L4.out.get
    have p4 := P4.out.cell
    clear b4 l3 L3 p3 P3 x3 X3 E3 HSM3 HPL
    go_wp2_with fail
    refine HPL4.out.mono ?_
    rintro e w5 ⟨rfl, b5⟩
    have L5 := Lib.hid (L4.out.below b5).drewd
    have P5 := Lib.hid (blk_keep b5.drew P4.out)
    clear b5 l4 L4 p4 P4 HPL4
    go_upto_region 10 with (fail)
    have K5 := Lib.hid (pv_of L5.out P5.out)
    unfold PV at K5
    go_region_held3 (fun W => ((W.cell? ⟨w.heap.size, 0, none⟩ = some (.slice B.A B.n B.c) ∧ W.cell? ⟨w.heap.size, 1, none⟩ = some (.slice B.A' B.n' B.c') ∧ W.cell? ⟨w.heap.size, 2, none⟩ = some (.int .i64 B.bend) ∧ W.cell? ⟨w.heap.size, 3, none⟩ = some (.slice B.K B.m B.d)) ∧ W.cell? ⟨w.heap.size + 1, 0, none⟩ = some (.int .i64 s.long) ∧ W.cell? ⟨w.heap.size + 1, 1, none⟩ = some (.int .i64 s.wide) ∧ W.cell? ⟨w.heap.size + 1, 2, none⟩ = some (.int .i64 s.kerf) ∧ W.cell? ⟨w.heap.size + 1, 3, none⟩ = some (.int .i64 s.across)) ∧ W.cell? ⟨w.heap.size + 1 + 1, 0, none⟩ = some (.int .i64 (xn : Int)) ∧ W.cell? ⟨w.heap.size + 1 + 1, 1, none⟩ = some (.int .i64 (yn : Int)))
      (first | with_reducible exact K9.out | with_reducible exact K5.out | with_reducible exact K8.out | with_reducible exact K7.out | with_reducible exact K6.out)
      (first
        | (go_at_call 29; refine (HSU.out _ L5.out.bel).mono ?_; rintro e W6 ⟨TA, TB, K, q1, q2, q3, rfl, hV, b6⟩; have L6 := Lib.hid (L5.out.below b6); have P6 := Lib.hid (blk_keep b6 P5.out); have K6 := Lib.hid (pv_of L6.out P6.out); unfold PV at K6; have HV6 := Lib.hid hV; clear hV b6)
        | (go_at_call 28; refine (HSO.out _ _ _ _ _ _ _ HV6.out).mono ?_; rintro e W7 ⟨rfl, b7⟩; have L7 := Lib.hid (L6.out.below b7); have P7 := Lib.hid (blk_keep b7 P6.out); have K7 := Lib.hid (pv_of L7.out P7.out); unfold PV at K7; clear b7)
        | (go_at_call 30; refine (HPO.out _ L7.out.bel).mono ?_; rintro e W8 ⟨rfl, b8⟩; have L8 := Lib.hid (L7.out.below b8); have P8 := Lib.hid (blk_keep b8 P7.out); have K8 := Lib.hid (pv_of L8.out P8.out); unfold PV at K8; clear b8)
        | (go_at_call 18; refine (HKN.out _).mono ?_; rintro e W9 ⟨rfl, b9⟩; have L9 := Lib.hid (L8.out.below b9); have P9 := Lib.hid (blk_keep b9 P8.out); have K9 := Lib.hid (pv_of L9.out P9.out); unfold PV at K9; clear b9))
    go_wp2
    go_ret
    exact ⟨rfl, L9.out.bel⟩
end Go.Proofs.Ytiflhimmieflpaa
