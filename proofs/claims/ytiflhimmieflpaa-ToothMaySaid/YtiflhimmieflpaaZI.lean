/- Merged: W105b, W120, W121: the law ToothMay. -/
import Derived.Test.YtiflhimmieflpaaZB
import Derived.Test.YtiflhimmieflpaaHeld
import Derived.Test.YtiflhimmieflpaaZH

/- Walks: Fits, and the law ToothFits. -/
namespace Go.Proofs.Ytiflhimmieflpaa
open Go.RowKit Go.Maps

def S6 (B : Bl) (s : Sw) (g cap g' cap' q w0 : Nat) (x y : Int) (W : World) : Prop := W.cell? ⟨q, 0, none⟩ = some (.slice B.A B.n B.c) ∧ W.cell? ⟨q, 1, none⟩ = some (.slice B.A' B.n' B.c') ∧ W.cell? ⟨q, 2, none⟩ = some (.int .i64 B.bend) ∧ W.cell? ⟨q, 3, none⟩ = some (.slice B.K B.m B.d) ∧ W.cell? ⟨q, 4, none⟩ = some (.slice (some ⟨g, 0, none⟩) B.n cap) ∧ W.cell? ⟨q, 5, none⟩ = some (.slice (some ⟨g', 0, none⟩) B.n cap') ∧ W.cell? ⟨w0 + 1, 0, none⟩ = some (.int .i64 s.long) ∧ W.cell? ⟨w0 + 1, 1, none⟩ = some (.int .i64 s.wide) ∧ W.cell? ⟨w0 + 1, 2, none⟩ = some (.int .i64 s.kerf) ∧ W.cell? ⟨w0 + 1, 3, none⟩ = some (.int .i64 s.across) ∧ W.cell? ⟨w0 + 1 + 1, 0, none⟩ = some (.int .i64 x) ∧ W.cell? ⟨w0 + 1 + 1, 1, none⟩ = some (.int .i64 y)
def FitsRes (w : World) (B : Bl) (s : Sw) (x y : Int) (e : Ending) (w' : World) : Prop :=
  Below w.heap.size w w' ∧ ((B.err s ≠ 0 ∧ e = .returned (.tuple #[.bool false, .bool false, .int .i64 (B.err s)])) ∨
    (B.err s = 0 ∧ holdsB B.n s.long [(x, y)] = false ∧ e = .returned (.tuple #[.bool false, .bool false, .int .i64 2])) ∨
    (B.err s = 0 ∧ holdsB B.n s.long [(x, y)] = true ∧ e = .returned (.tuple #[.bool (soundS (B.worst s) x.toNat y), .bool (possB B s x.toNat y), .int .i64 0])))
theorem holds_xy {n : Nat} {long x y : Int} (h : holdsB n long [(x, y)] = true) : (0 ≤ x ∧ x + long ≤ n) ∧ 0 ≤ y ∧ y ≤ 300 := by
  simp only [holdsB, noneOf, placeOk, within, List.all_cons, List.all_nil, Bool.and_true, Bool.not_not, Bool.and_eq_true, decide_eq_true_eq] at h
  omega

set_option maxRecDepth 100000 in
set_option maxHeartbeats 4000000 in
theorem Fits_any (B : Bl) (s : Sw) (x y : Int) (w : World) (h : B.At w) : Calls Try.prog 26 #[B.val, s.val, .agg #[.int .i64 x, .int .i64 y]] w (FitsRes w B s x y) := by
  have E0 : Hid (Below w.heap.size w (((w.alloc (.cells #[.slice B.A B.n B.c, .slice B.A' B.n' B.c', .int .i64 B.bend, .slice B.K B.m B.d] 25)).alloc (.cells #[.int .i64 s.long, .int .i64 s.wide, .int .i64 s.kerf, .int .i64 s.across] 37)).alloc (.cells #[.int .i64 x, .int .i64 y] 39))) := below_alloc' (below_alloc' (below_self _ _) _) _
  have S0 := Lib.hid ((Blk.new (w.alloc (.cells #[.slice B.A B.n B.c, .slice B.A' B.n' B.c', .int .i64 B.bend, .slice B.K B.m B.d] 25)) 37 #[.int .i64 s.long, .int .i64 s.wide, .int .i64 s.kerf, .int .i64 s.across] (g := w.heap.size + 1) (by simp)).alloc (.cells #[.int .i64 x, .int .i64 y] 39))
  have Q0 := Lib.hid (Blk.new ((w.alloc (.cells #[.slice B.A B.n B.c, .slice B.A' B.n' B.c', .int .i64 B.bend, .slice B.K B.m B.d] 25)).alloc (.cells #[.int .i64 s.long, .int .i64 s.wide, .int .i64 s.kerf, .int .i64 s.across] 37)) 39 #[.int .i64 x, .int .i64 y] (g := w.heap.size + 1 + 1) (by simp))
  have HC := Lib.hid (ready_top B s _ (h.below E0.out))
  have HK := Lib.hid h
  clear h
  unfold Bl.val Sw.val at *
  go_enter Try.func26, Try.ntmps26
  go_wp2_with fail
  refine HC.out.mono ?_
  rintro e w2 ⟨hb2, ⟨herr, rfl⟩ | ⟨hok, g, cap, g', cap', rfl, P, P', hgg⟩⟩
  · have B2 := Lib.hid (below_then E0.out hb2)
    have Herr := Lib.hid herr
    have hz : (B.err s == 0) = false := by simpa using herr
    have hz2 : (B.err s != 0) = true := by simpa using herr
    clear hb2 herr HC
    unfold zeroCurved
    go_wp2
    go_ret3
    exact ⟨below_alloc' B2.out _, .inl ⟨Herr.out, rfl⟩⟩
  · have B2 := Lib.hid (below_then E0.out hb2)
    have S2 := Lib.hid (blk_keep hb2 S0.out)
    have Q2 := Lib.hid (blk_keep hb2 Q0.out)
    have Hok := Lib.hid (err_ok hok)
    have hP := Lib.hid P
    have hP' := Lib.hid P'
    have s2 := (S2.out.alloc (.cells #[.slice B.A B.n B.c, .slice B.A' B.n' B.c', .int .i64 B.bend, .slice B.K B.m B.d, .slice (some ⟨g, 0, none⟩) B.n cap, .slice (some ⟨g', 0, none⟩) B.n cap'] 106)).cell
    have q2 := (Q2.out.alloc (.cells #[.slice B.A B.n B.c, .slice B.A' B.n' B.c', .int .i64 B.bend, .slice B.K B.m B.d, .slice (some ⟨g, 0, none⟩) B.n cap, .slice (some ⟨g', 0, none⟩) B.n cap'] 106)).cell
    have hg1 : g < w2.heap.size := by obtain ⟨b, o, e, hb, _⟩ := P.2 (by have := Hok.out.2.1.n1; omega); cases e; exact hb
    have hg2 : g' < w2.heap.size := by obtain ⟨b, o, e, hb, _⟩ := P'.2 (by have := Hok.out.2.1.n1; omega); cases e; exact hb
    have HG := Lib.hid (And.intro hg1 hg2)
    have Hok0 := Lib.hid hok
    have E3 := Lib.hid ((below_self w2 (.cells #[.slice B.A B.n B.c, .slice B.A' B.n' B.c', .int .i64 B.bend, .slice B.K B.m B.d, .slice (some ⟨g, 0, none⟩) B.n cap, .slice (some ⟨g', 0, none⟩) B.n cap'] 106)).alloc (by simp) (.cells #[.int .i64 x, .int .i64 y] 39))
    have C3 := Lib.hid ((Blk.new w2 106 #[.slice B.A B.n B.c, .slice B.A' B.n' B.c', .int .i64 B.bend, .slice B.K B.m B.d, .slice (some ⟨g, 0, none⟩) B.n cap, .slice (some ⟨g', 0, none⟩) B.n cap'] (g := w2.heap.size) rfl).alloc (.cells #[.int .i64 x, .int .i64 y] 39))
    have S3 := Lib.hid ((S2.out.alloc (.cells #[.slice B.A B.n B.c, .slice B.A' B.n' B.c', .int .i64 B.bend, .slice B.K B.m B.d, .slice (some ⟨g, 0, none⟩) B.n cap, .slice (some ⟨g', 0, none⟩) B.n cap'] 106)).alloc (.cells #[.int .i64 x, .int .i64 y] 39))
    have Q3 := Lib.hid ((Q2.out.alloc (.cells #[.slice B.A B.n B.c, .slice B.A' B.n' B.c', .int .i64 B.bend, .slice B.K B.m B.d, .slice (some ⟨g, 0, none⟩) B.n cap, .slice (some ⟨g', 0, none⟩) B.n cap'] 106)).alloc (.cells #[.int .i64 x, .int .i64 y] 39))
    have HH := Lib.hid (holds_any B s g cap g' cap' _ 1 1 [(x, y)] _ Hok.out.2.1 Hok.out.2.2 (pairs_new1 (w2.alloc (.cells #[.slice B.A B.n B.c, .slice B.A' B.n' B.c', .int .i64 B.bend, .slice B.K B.m B.d, .slice (some ⟨g, 0, none⟩) B.n cap, .slice (some ⟨g', 0, none⟩) B.n cap'] 106)) x y 39 (g := w2.heap.size + 1) (by simp)) (by decide))
    clear hb2 hok P P' HC hgg hg1 hg2
    unfold Bl.curved Sw.val at HH
    unfold Bl.curved
    go_wp2_with fail
    refine HH.out.mono ?_
    rintro e w3 ⟨rfl, hb3⟩
    have G3 := Lib.hid (E3.out.trans (hb3.mono E3.out.size))
    have B3 := Lib.hid (below_then B2.out G3.out)
    have C3' := Lib.hid (blk_keep hb3 C3.out)
    have S3' := Lib.hid (blk_keep hb3 S3.out)
    have Q3' := Lib.hid (blk_keep hb3 Q3.out)
    clear hb3 HH E3 C3 S3 Q3 s2 q2
    cases hx : holdsB B.n s.long [(x, y)]
    · have Hx := Lib.hid hx
      clear hx
      go_wp2
      go_ret3
      exact ⟨B3.out, .inr (.inl ⟨Hok0.out, Hx.out, rfl⟩)⟩
    · have Hx := Lib.hid hx
      obtain ⟨k, rfl⟩ := Int.eq_ofNat_of_zero_le (holds_xy hx).1.1
      have HXL := Lib.hid (holds_xy hx).1.2
      have HYY := Lib.hid (holds_xy hx).2
      clear hx
      have HWT := Lib.hid (fun W (hb : Below w3.heap.size w3 W) => worst_top B s g cap g' cap' W Hok.out.2.1 (hP.out.below (below_then G3.out hb)) (hP'.out.below (below_then G3.out hb)) (HK.out.below (below_then B3.out hb)).hk)
      have HPO := Lib.hid (fun W (hb : Below w3.heap.size w3 W) => possibly_any B s g cap g' cap' k y W Hok.out.2.1 Hok.out.2.2 (err_cracks Hok.out.1) (hP.out.below (below_then G3.out hb)) (hP'.out.below (below_then G3.out hb)) (HK.out.below (below_then B3.out hb)).hk HXL.out HYY.out.1 HYY.out.2 (Nat.lt_of_lt_of_le HG.out.1 (below_then G3.out hb).size) (Nat.lt_of_lt_of_le HG.out.2 (below_then G3.out hb).size))
      have HSS : Hid (∀ V, Below w3.heap.size w3 V → S6 B s g cap g' cap' w2.heap.size w.heap.size k y V) := fun V hV => by
        have c := blk_keep hV C3'.out
        have u := blk_keep hV S3'.out
        have v := blk_keep hV Q3'.out
        exact ⟨c.cell 0, c.cell 1, c.cell 2, c.cell 3, c.cell 4, c.cell 5, u.cell 0, u.cell 1, u.cell 2, u.cell 3, v.cell 0, v.cell 1⟩
      have D0 : Hid (Below w3.heap.size w3 w3.drew) := (Below.refl _ _).drew
      unfold Bl.curved Sw.val at HWT HPO
      clear S0 Q0 S2 Q2 C3' S3' Q3'
      go_upto_region 6 with (fail)
      refine wp_region_held_drew (S := S6 B s g cap g' cap' w2.heap.size w.heap.size k y) (by kernel_rfl) (HSS.out _ D0.out) (fun _ => ?_)
      generalize w3.drew = wd at *
      refine heldTake (i := 0) 25 (v := ?v1) rfl (by kernel_rfl) (by kernel_rfl) (by kernel_rfl) (by kernel_rfl) (fun _ _ _ h => h) (Or.inl ⟨by rfl, ?y1⟩) (by assumption) ?r1
      case y1 => (intro w hSw; obtain ⟨g0, g1, g2, g3, g4, g5, g6, g7, g8, g9, g10, g11⟩ := hSw; go_simp; try with_reducible rfl)
      refine heldTake (i := 1) 26 (v := ?v2) rfl (by kernel_rfl) (by kernel_rfl) (by kernel_rfl) (by kernel_rfl) (fun _ _ _ h => h) (Or.inl ⟨by rfl, ?y2⟩) (by assumption) ?r2
      case y2 => (intro w hSw; obtain ⟨g0, g1, g2, g3, g4, g5, g6, g7, g8, g9, g10, g11⟩ := hSw; go_simp; try with_reducible rfl)
      refine heldTake (i := 3) 28 (v := ?v3) rfl (by kernel_rfl) (by kernel_rfl) (by kernel_rfl) (by kernel_rfl) (fun _ _ _ h => h) (Or.inl ⟨by rfl, ?y3⟩) (by assumption) ?r3
      case y3 => (intro w hSw; obtain ⟨g0, g1, g2, g3, g4, g5, g6, g7, g8, g9, g10, g11⟩ := hSw; go_simp; try with_reducible rfl)
      refine heldTake (i := 5) 30 (v := ?v4) rfl (by kernel_rfl) (by kernel_rfl) (by kernel_rfl) (by kernel_rfl) (fun _ _ _ h => h) (Or.inl ⟨by rfl, ?y4⟩) (by assumption) ?r4
      case y4 => (intro w hSw; obtain ⟨g0, g1, g2, g3, g4, g5, g6, g7, g8, g9, g10, g11⟩ := hSw; go_simp; try with_reducible rfl)
      refine heldTake (i := 6) 31 (v := ?v5) rfl (by kernel_rfl) (by kernel_rfl) (by kernel_rfl) (by kernel_rfl) (fun _ _ _ h => h) (Or.inl ⟨by rfl, ?y5⟩) (by assumption) ?r5
      case y5 => (intro w hSw; obtain ⟨g0, g1, g2, g3, g4, g5, g6, g7, g8, g9, g10, g11⟩ := hSw; go_simp; try with_reducible rfl)
      refine heldTake (i := 7) 32 (v := ?v6) rfl (by kernel_rfl) (by kernel_rfl) (by kernel_rfl) (by kernel_rfl) (fun _ _ _ h => h) (Or.inl ⟨by rfl, ?y6⟩) (by assumption) ?r6
      case y6 => (intro w hSw; obtain ⟨g0, g1, g2, g3, g4, g5, g6, g7, g8, g9, g10, g11⟩ := hSw; go_simp; try with_reducible rfl)
      simp only [Act.put, List.setIfInBounds_toArray, List.set_cons_zero, List.set_cons_succ]
      refine wpAnyH_ready (rs := [2]) (by kernel_rfl) (by simp) ?_
      refine AllReadyH.cons rfl (fun K0_1 hK0_1 => ?_) AllReadyH.nil
      go_simp
      refine (HWT.out _ D0.out).mono ?_
      rintro e V1 ⟨hb1, b, o, b', o', c, c', K, d, rfl, hs, hc, hc', hm⟩
      have E1 := Lib.hid (below_then D0.out hb1)
      have HSO := Lib.hid (fun V (hV : Below V1.heap.size V1 V) => sound_any (B.worst s) b o b' o' B.n c c' K B.m d k y V (hs.below hV) hc hc' hm (worst_bounds Hok.out.2.1 Hok.out.2.2) HXL.out Hok.out.2.1.n2 Hok.out.2.1.m4 HYY.out.1 HYY.out.2)
      clear hs hc hc' hm
      clear hb1
      refine hK0_1.out _ _ (HSS.out _ E1.out) (fun _ => ?_)
      refine wpAnyH_ready (rs := [4]) (by kernel_rfl) (by simp) ?_
      refine AllReadyH.cons rfl (fun K1_2 hK1_2 => ?_) AllReadyH.nil
      go_simp
      refine (HSO.out _ (Below.refl _ _)).mono ?_
      rintro e V2 ⟨rfl, hb2⟩
      have E2 := Lib.hid (below_then E1.out hb2)
      clear hb2
      refine hK1_2.out _ _ (HSS.out _ E2.out) (fun _ => ?_)
      refine wpAnyH_ready (rs := [8]) (by kernel_rfl) (by simp) ?_
      refine AllReadyH.cons rfl (fun K2_3 hK2_3 => ?_) AllReadyH.nil
      go_simp
      refine (HPO.out _ E2.out).mono ?_
      rintro e V3 ⟨rfl, hb3⟩
      have E3 := Lib.hid (below_then E2.out hb3)
      have S3 := Lib.hid hb3
      clear hb3
      refine hK2_3.out _ _ (HSS.out _ E3.out) (fun _ => ?_)
      refine heldTake (i := 9) 6 (v := ?v7) rfl (by kernel_rfl) (by kernel_rfl) (by kernel_rfl) (by kernel_rfl) (fun _ _ _ h => h) (Or.inl ⟨by rfl, ?y7⟩) (by assumption) ?r7
      case y7 => (intro w hSw; obtain ⟨g0, g1, g2, g3, g4, g5, g6, g7, g8, g9, g10, g11⟩ := hSw; go_simp; try with_reducible rfl)
      refine heldTake (i := 10) 7 (v := ?v8) rfl (by kernel_rfl) (by kernel_rfl) (by kernel_rfl) (by kernel_rfl) (fun _ _ _ h => h) (Or.inl ⟨by rfl, ?y8⟩) (by assumption) ?r8
      case y8 => (intro w hSw; obtain ⟨g0, g1, g2, g3, g4, g5, g6, g7, g8, g9, g10, g11⟩ := hSw; go_simp; try with_reducible rfl)
      refine heldTake (i := 11) 8 (v := ?v9) rfl (by kernel_rfl) (by kernel_rfl) (by kernel_rfl) (by kernel_rfl) (fun _ _ _ h => h) (Or.inl ⟨by rfl, ?y9⟩) (by assumption) ?r9
      case y9 => (intro w hSw; obtain ⟨g0, g1, g2, g3, g4, g5, g6, g7, g8, g9, g10, g11⟩ := hSw; go_simp; try with_reducible rfl)
      refine wpAnyH_done (by kernel_rfl) ?_ _
      go_wp2_with fail
      go_ret3
      exact ⟨below_then B3.out E3.out, .inr (.inr ⟨Hok0.out, Hx.out, rfl⟩)⟩
end Go.Proofs.Ytiflhimmieflpaa

/- Walks: Fits and Fault of one stick of a valid blade. -/
namespace Go.Proofs.Ytiflhimmieflpaa
open Go.RowKit Go.Maps

theorem holds_one {n : Nat} {long : Int} {z y : Nat} (hz : (z : Int) + long ≤ n) (hy : y ≤ 300) : holdsB n long [((z : Int), (y : Int))] = true := by
  simp only [holdsB, noneOf, placeOk, within, List.all_cons, List.all_nil, Bool.and_true, Bool.not_not, Bool.and_eq_true, decide_eq_true_eq]
  omega
theorem fits_like {B B' : Bl} (hl : B.Like B') (s : Sw) (z y : Nat) (w : World) (h : B'.At w) (hc : B.cerr = 0) (hs : s.Ok) (hz : (z : Int) + s.long ≤ B.n) (hy : y ≤ 300) : Calls Try.prog 26 #[B'.val, s.val, .agg #[.int .i64 z, .int .i64 y]] w fun e w' => e = .returned (.tuple #[.bool (soundS (B.worst s) z y), .bool (possB B s z y), .int .i64 0]) ∧ Below w.heap.size w w' := by
  refine (Fits_any B' s z y w h).mono ?_
  rintro e w' ⟨hb, ⟨he, _⟩ | ⟨_, hh, _⟩ | ⟨_, _, rfl⟩⟩
  · exact absurd (saw_err (by rw [hl.cerr]; exact hc) hs) he
  · rw [holds_one (by rw [hl.n]; exact hz) hy] at hh
    exact absurd hh (by decide)
  · refine ⟨?_, hb⟩
    rw [hl.worst, hl.possB, Int.toNat_natCast]
theorem wrong_one (S : Sawing) (z y : Nat) : wrongS S [((z : Int), (y : Int))] 0 = !soundS S z y := by
  unfold wrongS
  simp
theorem fault_one {B B' : Bl} (hl : B.Like B') (s : Sw) (z y : Nat) (A : Option Addr) (cp : Nat) (w : World) (h : B'.At w) (hp : Pairs w A 1 [((z : Int), (y : Int))]) (h1 : 1 ≤ cp) (hc : B.cerr = 0) (hs : s.Ok) (hz : (z : Int) + s.long ≤ B.n) (hy : y ≤ 300) : Calls Try.prog 38 #[B'.val, s.val, .slice A 1 cp] w fun e w' => e = .returned (.tuple #[.int .i64 0, .int .i64 (if soundS (B.worst s) z y = true then 7 else 0)]) ∧ Below w.heap.size w w' := by
  refine (Fault_any B' s A 1 cp _ w h hp (by unfold maxLen; omega) h1).mono fun e w' hr => ?_
  obtain ⟨hb, h2 | h2 | h2 | ⟨_, _, _, ⟨k, hk, hq, _, he⟩ | ⟨hq, he⟩⟩⟩ := hr
  · exact absurd (saw_err (by rw [hl.cerr]; exact hc) hs) h2.1
  · omega
  · have hh := h2.2.2.1
    rw [holds_one (by rw [hl.n]; exact hz) hy] at hh
    exact absurd hh (by decide)
  · obtain rfl : k = 0 := by omega
    rw [wrong_one, hl.worst] at hq
    have hq' : soundS (B.worst s) z y = false := by simpa using hq
    rw [if_neg (by rw [hq']; decide)]
    exact ⟨he, hb⟩
  · have hq := hq 0 (by omega)
    rw [wrong_one, hl.worst] at hq
    have hq' : soundS (B.worst s) z y = true := by simpa using hq
    rw [if_pos hq']
    exact ⟨he, hb⟩
end Go.Proofs.Ytiflhimmieflpaa

/- Walks: the law ToothMay. -/
namespace Go.Proofs.Ytiflhimmieflpaa
open Go.RowKit Go.Maps

set_option maxRecDepth 100000 in
set_option maxHeartbeats 8000000 in
theorem ToothMay_any (T : Tk) (K1 : Option Addr) (bm bd : Nat) (xs : List Int) (w : World) (h : T.At w) (hB : Hid (Reads w 1 K1 bm (xs.map (Value.int .u8)))) (hxb : Hid (∀ x ∈ xs, Byte x)) (hbm : Hid (bm ≤ maxLen)) : Calls Try.prog 13 #[T.val, .slice K1 bm bd] w (Yes w) := by
  have B0 := Lib.hid (Blk.new w 83 #[.slice T.A T.n T.c, .int .u8 T.bend, .slice T.K T.m T.d, .int .u8 T.s0, .int .u8 T.s1, .int .u8 T.s2, .int .u8 T.s3] (g := w.heap.size) rfl)
  have b0 := B0.out.cell
  have D0 := Lib.hid (below_self w (.cells #[.slice T.A T.n T.c, .int .u8 T.bend, .slice T.K T.m T.d, .int .u8 T.s0, .int .u8 T.s1, .int .u8 T.s2, .int .u8 T.s3] 83))
  have HB := Lib.hid (tusk_blade T _ (h.below D0.out))
  have HBF := Lib.hid (fun A A' K ca ca' m cd (hm : m ≤ 3) => Tk.bf h.bc h.bk A A' K ca ca' m cd hm)
  have HKN := Lib.hid (fun W => known_any W)
  clear h
  unfold Tk.val at *
  go_enter Try.func13, Try.ntmps13
  go_wp2_with fail
  refine HB.out.mono ?_
  rintro e w1 ⟨A, A', K, K', ca, ca', cd, cd', m, g1, g2, c1, c2, rfl, hm, p1, p2, sp, q1, q2, o1, o2, hg, b1⟩
  obtain ⟨B, hB⟩ : ∃ B, B = T.blade A A' K ca ca' m cd := ⟨_, rfl⟩
  obtain ⟨s, hs⟩ : ∃ s : Sw, s = ⟨1 + T.s0 % 4, 8 + T.s1 % 40, T.s2 % 6, T.s3 % 3⟩ := ⟨_, rfl⟩
  have k0 : 1 + T.s0 % 4 = s.long := by rw [hs]
  have k1 : 8 + T.s1 % 40 = s.wide := by rw [hs]
  have k2 : T.s2 % 6 = s.kerf := by rw [hs]
  have k3 : T.s3 % 3 = s.across := by rw [hs]
  have HSO : Hid s.Ok := ⟨by omega, by omega, by omega, by omega, by omega, by omega, by omega, by omega⟩
  have HW8 : Hid (8 ≤ s.wide) := by show (8 : Int) ≤ s.wide; omega
  have HMM : Hid (m = B.m) := by rw [hB]; rfl
  have hn : T.len = B.n := by rw [hB]; rfl
  have HF : Hid (BF B T.low T.high) := by rw [hB]; exact HBF.out A A' K ca ca' m cd (by omega)
  have hn10 := HF.out.n10
  have hm3 := HF.out.m3
  have HAT : Hid (B.At w1) := by
    have e1 : B.n ≤ maxLen := by unfold maxLen; omega
    have e2 : B.m ≤ maxLen := by unfold maxLen; omega
    rw [hB] at e1 e2 ⊢
    exact ⟨(reads_of_own p1).r, (reads_of_own p2).r, (reads_of_own q1).r, e1, e1, e2⟩
  have I1 : Hid (Ints w1 (some ⟨g1, 0, none⟩) B.n ((List.range B.n).map T.low)) := by rw [← hn]; exact (reads_of_own o1).r
  have HRK : Hid (∀ W, Below w1.heap.size w1 W → Reads W 3 K' B.m (flat3 ((List.range m).map fun i => T.realL i T.len))) := fun W hb => by rw [hB]; exact (reads_of_own q2).r.below hb
  have HRO : Hid (RealOf B.cr ((List.range m).map fun i => T.realL i T.len)) := by
    have q := HF.out.ck
    rw [hB] at q ⊢
    exact real_of q
  have I2 : Hid (Ints w1 (some ⟨g2, 0, none⟩) B.n ((List.range B.n).map T.high)) := by rw [← hn]; exact (reads_of_own o2).r
  have D1 := Lib.hid (below_then D0.out b1)
  rw [← hB, hn, k0, k1, k2, k3]
  generalize ((List.range m).map fun i => T.realL i T.len) = ck at *
  generalize T.low = L at *
  generalize T.high = H at *
  clear p1 p2 sp q1 q2 o1 o2 hg b1 hB hs k0 k1 k2 k3 hn hm hn10 hm3 HB HBF b0 B0 D0
  have E3 : Hid (Below w1.heap.size w1 (((w1.alloc (.cells #[.slice B.A B.n B.c, .slice B.A' B.n' B.c', .int .i64 B.bend, .slice B.K B.m B.d] 25)).alloc (.cells #[.int .i64 s.long, .int .i64 s.wide, .int .i64 s.kerf, .int .i64 s.across] 37)).alloc (.cells #[.slice (some ⟨g1, 0, none⟩) B.n c1, .slice (some ⟨g2, 0, none⟩) B.n c2, .slice K' m cd'] 86))) := below_alloc' (below_alloc' (below_self _ _) _) _
  have C3 : Hid (CV w B L H w1.heap.size g1 c1 g2 c2 (.slice K' m cd') #[.int .i64 s.long, .int .i64 s.wide, .int .i64 s.kerf, .int .i64 s.across] (((w1.alloc (.cells #[.slice B.A B.n B.c, .slice B.A' B.n' B.c', .int .i64 B.bend, .slice B.K B.m B.d] 25)).alloc (.cells #[.int .i64 s.long, .int .i64 s.wide, .int .i64 s.kerf, .int .i64 s.across] 37)).alloc (.cells #[.slice (some ⟨g1, 0, none⟩) B.n c1, .slice (some ⟨g2, 0, none⟩) B.n c2, .slice K' m cd'] 86))) :=
    ⟨((Blk.new _ _ _ rfl).alloc _).alloc _, (Blk.new _ _ _ (by simp)).alloc _, Blk.new _ _ _ (by simp), HAT.out.below E3.out, I1.out.below E3.out, I2.out.below E3.out, below_then D1.out E3.out⟩
  have HR3 := Lib.hid (HRK.out _ E3.out)
  clear HAT I1 I2 D1 E3
  unfold Bl.val
  go_upto_region 2 with (fail)
  generalize (((w1.alloc (.cells #[.slice B.A B.n B.c, .slice B.A' B.n' B.c', .int .i64 B.bend, .slice B.K B.m B.d] 25)).alloc (.cells #[.int .i64 s.long, .int .i64 s.wide, .int .i64 s.kerf, .int .i64 s.across] 37)).alloc (.cells #[.slice (some ⟨g1, 0, none⟩) B.n c1, .slice (some ⟨g2, 0, none⟩) B.n c2, .slice K' m cd'] 86)) = w3 at *
  generalize w1.heap.size = gb at *
  have HB3 := Lib.hid (hB.out.below C3.out.bel)
  have hm3 := HF.out.m3
  have hn10 := HF.out.n10
  have hmm := HMM.out
  have HSW := Lib.hid (sawn_any (some ⟨g1, 0, none⟩) (some ⟨g2, 0, none⟩) K' K1 B.n c1 c2 m cd' bm bd ((List.range B.n).map L) ((List.range B.n).map H) ck s xs w3 C3.out.i1 C3.out.i2 (by rw [hmm]; exact HR3.out) (by rw [HRO.out.len, hmm]; exact C3.out.at_.hk.len) (by omega) (by omega) HSO.out HB3.out hxb.out hbm.out)
  unfold SawnRes at HSW
  have HSH := Lib.hid (fun ps (h : Sawn B.n (soundT ((List.range B.n).map L) ((List.range B.n).map H) ck s.long s.wide) s.long (s.wide + s.kerf) (s.long + s.across) ps) => sawn_short HF.out HSO.out (fun i hi => by simp [List.getD, hi]) (fun i hi => by simp [List.getD, hi]) HRO.out h)
  have HPB := Lib.hid (fun (z y : Nat) (hz : (z : Int) + s.long ≤ B.n) (h : soundT ((List.range B.n).map L) ((List.range B.n).map H) ck s.long s.wide z y = true) => truth_poss HF.out HSO.out (fun i hi => by simp [List.getD, hi]) (fun i hi => by simp [List.getD, hi]) HRO.out hz h)
  generalize soundT ((List.range B.n).map L) ((List.range B.n).map H) ck s.long s.wide = sd at *
  clear hm3 hn10 hmm HB3 HR3 HRO HRK
  have HOW := Lib.hid (fun W (hc : CV w B L H gb g1 c1 g2 c2 (.slice K' m cd') #[.int .i64 s.long, .int .i64 s.wide, .int .i64 s.kerf, .int .i64 s.across] W) => own_any B W hc.at_ (by have := HF.out.n10; omega) (by have := HF.out.n10; have := HF.out.nn; omega) (by have := HF.out.m3; omega))
  unfold Bl.val at HOW
  have HPO := Lib.hid (fun (B' : Bl) (hl : B.Like B') W (hat : B'.At W) => possible_like hl s W hat HF.out.ok HSO.out)
  have HFI := Lib.hid (fun (z y : Nat) (hz : (z : Int) + s.long ≤ B.n) (hy : y ≤ 300) (B' : Bl) (hl : B.Like B') W (hat : B'.At W) => fits_like hl s z y W hat HF.out.ok HSO.out hz hy)
  have HFA := Lib.hid (fun (z y : Nat) (hz : (z : Int) + s.long ≤ B.n) (hy : y ≤ 300) (A : Option Addr) (cp : Nat) (h1 : 1 ≤ cp) (B' : Bl) (hl : B.Like B') W (hat : B'.At W) (hp : Pairs W A 1 [((z : Int), (y : Int))]) => fault_one hl s z y A cp W hat hp h1 HF.out.ok HSO.out hz hy)
  unfold Sw.val at HPO HFI HFA HSW
  have rg : w3.cell? ⟨gb + 1 + 1, 0, none⟩ = some (.slice (some ⟨g1, 0, none⟩) B.n c1) ∧ w3.cell? ⟨gb + 1 + 1, 1, none⟩ = some (.slice (some ⟨g2, 0, none⟩) B.n c2) ∧ w3.cell? ⟨gb + 1 + 1, 2, none⟩ = some (.slice K' m cd') := ⟨C3.out.rl.cell 0, C3.out.rl.cell 1, C3.out.rl.cell 2⟩
  have sg := C3.out.get8
  go_wp2_with fail
  refine HSW.out.mono ?_
  rintro e W4 ⟨A4, c4, ps, rfl, hO, hS, hl6, b4⟩
  have P4 : Hid (Pairs W4 A4 ps.length ps) := (reads_of_own hO).r
  have N1 := Lib.hid (C3.out.below b4)
  have hsh := HSH.out ps hS
  have HAT : Hid (∀ i, i < ps.length → ∃ z y : Nat, ps.getD i (0, 0) = ((z : Int), (y : Int)) ∧ (z : Int) + s.long ≤ B.n ∧ y ≤ 300 ∧ possB B s z y = true) := fun i hi => by
    have e : ps.getD i (0, 0) = ps[i] := by simp [List.getD, hi]
    obtain ⟨z, y, e2, e3, e4, e5⟩ := hS.mem _ (List.getElem_mem hi)
    exact ⟨z, y, by rw [e, e2], e3, e4, HPB.out z y e3 e5⟩
  clear rg sg hO hS b4 C3 HSW HSH HPB
  go_upto_region 3 with (fail)
  have N2 := Lib.hid (N1.out.below (Below.refl _ _).drew)
  have PQ2 := Lib.hid (Reads.below P4.out (Below.refl _ _).drew)
  clear N1 P4
  go_region_held3 (fun W => (W.cell? ⟨gb, 0, none⟩ = some (.slice B.A B.n B.c) ∧ W.cell? ⟨gb, 1, none⟩ = some (.slice B.A' B.n' B.c') ∧ W.cell? ⟨gb, 2, none⟩ = some (.int .i64 B.bend) ∧ W.cell? ⟨gb, 3, none⟩ = some (.slice B.K B.m B.d)) ∧ W.cell? ⟨gb + 1, 0, none⟩ = some (.int .i64 s.long) ∧ W.cell? ⟨gb + 1, 1, none⟩ = some (.int .i64 s.wide) ∧ W.cell? ⟨gb + 1, 2, none⟩ = some (.int .i64 s.kerf) ∧ W.cell? ⟨gb + 1, 3, none⟩ = some (.int .i64 s.across)) (first | with_reducible exact N2.out.get8 | with_reducible exact N3.out.get8 | with_reducible exact N4.out.get8)
    (first
      | (go_at_call 52; refine (HOW.out _ N2.out).mono ?_; rintro e W5 ⟨B3, rfl, hl, hat, b3, -⟩; have N3 := Lib.hid (N2.out.below b3); have PQ3 := Lib.hid (Reads.below PQ2.out b3); have HM3 := Lib.hid (HPO.out B3 hl W5 hat); clear hl hat b3)
      | (go_at_call 42; refine HM3.out.mono ?_; rintro e W6 ⟨A6, c6, rfl, b6⟩; have N4 := Lib.hid (N3.out.below b6); have PQ4 := Lib.hid (Reads.below PQ3.out b6); clear b6))
  clear HM3 N3 N2 PQ2 PQ3 HPO
  generalize possTo B s (colsFrom B.cr []) = P at *
  obtain ⟨pn, px⟩ := P
  dsimp only at *
  have t3 : ¬ pn < (ps.length : Int) := by omega
  go_wp2_with fail
  go_loopw [12] (fun iv wr => ∃ i : Nat, i ≤ ps.length ∧ i ≤ 12 ∧ iv = .int .i64 i ∧ CV w B L H gb g1 c1 g2 c2 (.slice K' m cd') #[.int .i64 s.long, .int .i64 s.wide, .int .i64 s.kerf, .int .i64 s.across] wr ∧ Pairs wr A4 ps.length ps) (fun iv _ => 12 - (intOf iv).toNat)
  case atStart => exact ⟨0, Nat.zero_le _, by omega, rfl, N4.out, PQ4.out⟩
  case round =>
    obtain ⟨i, hi, h12, rfl, hv, hp⟩ := hrel
    have NL := Lib.hid hv
    have PL := Lib.hid hp
    clear hv hp N4 PQ4
    by_cases hlt : i < ps.length
    · have hlt2 : (i : Int) < (ps.length : Int) := by omega
      by_cases hl2 : i < 12
      · have hl3 : (i : Int) < 12 := by omega
        obtain ⟨z, y, e, h1, h2, h3⟩ := HAT.out i hlt
        have ND := Lib.hid (NL.out.below (Below.refl _ _).drew)
        have PD := Lib.hid (Reads.below PL.out (Below.refl _ _).drew)
        obtain ⟨b, off, hA, -, q0, q1⟩ := Pairs.at_ PD.out hlt
        subst hA
        clear q0 q1
        have HPC : Hid (∀ W, Pairs W (some ⟨b, off, none⟩) ps.length ps → W.cell? ⟨b, off + i * 2, none⟩ = some (.int .i64 (z : Int)) ∧ W.cell? ⟨b, off + i * 2 + 1, none⟩ = some (.int .i64 (y : Int))) := fun W hp => by
          obtain ⟨b', off', hA, -, q0, q1⟩ := Pairs.at_ hp hlt
          simp only [Option.some.injEq, Addr.mk.injEq, and_true] at hA
          obtain ⟨rfl, rfl⟩ := hA
          rw [e] at q0 q1
          exact ⟨q0, q1⟩
        have HF1 := Lib.hid (fun B' hl W hat => HFI.out z y h1 h2 B' hl W hat)
        have HF2 := Lib.hid (fun A cp hc B' hl W hat hp => HFA.out z y h1 h2 A cp hc B' hl W hat hp)
        rw [h3] at HF1
        obtain ⟨fo, hfo⟩ : ∃ q : Int, (if soundS (B.worst s) z y = true then 7 else 0) = q := ⟨_, rfl⟩
        rw [hfo] at HF2
        have HFO := Lib.hid hfo
        clear e h1 h2 h3 hfo
        generalize soundS (B.worst s) z y = su at *
        go_upto_region 9 with (fail)
        have S9 : (fun W => (((W.cell? ⟨gb, 0, none⟩ = some (.slice B.A B.n B.c) ∧ W.cell? ⟨gb, 1, none⟩ = some (.slice B.A' B.n' B.c') ∧ W.cell? ⟨gb, 2, none⟩ = some (.int .i64 B.bend) ∧ W.cell? ⟨gb, 3, none⟩ = some (.slice B.K B.m B.d)) ∧ W.cell? ⟨gb + 1, 0, none⟩ = some (.int .i64 s.long) ∧ W.cell? ⟨gb + 1, 1, none⟩ = some (.int .i64 s.wide) ∧ W.cell? ⟨gb + 1, 2, none⟩ = some (.int .i64 s.kerf) ∧ W.cell? ⟨gb + 1, 3, none⟩ = some (.int .i64 s.across)) ∧ W.cell? ⟨b, off + i * 2, none⟩ = some (.int .i64 (z : Int)) ∧ W.cell? ⟨b, off + i * 2 + 1, none⟩ = some (.int .i64 (y : Int)))) wr.drew := ⟨ND.out.get8, HPC.out _ PD.out⟩
        go_cut [13, 14, 15] from 54 to 65 (fun s13 s14 s15 W => s13 = .bool su ∧ s14 = .bool true ∧ s15 = .int .i64 0 ∧ ∃ w6, w6 = W ∧ CV w B L H gb g1 c1 g2 c2 (.slice K' m cd') #[.int .i64 s.long, .int .i64 s.wide, .int .i64 s.kerf, .int .i64 s.across] W ∧ Pairs W (some ⟨b, off, none⟩) ps.length ps)
        case first =>
          refine wp_region_untl (S := (fun W => (((W.cell? ⟨gb, 0, none⟩ = some (.slice B.A B.n B.c) ∧ W.cell? ⟨gb, 1, none⟩ = some (.slice B.A' B.n' B.c') ∧ W.cell? ⟨gb, 2, none⟩ = some (.int .i64 B.bend) ∧ W.cell? ⟨gb, 3, none⟩ = some (.slice B.K B.m B.d)) ∧ W.cell? ⟨gb + 1, 0, none⟩ = some (.int .i64 s.long) ∧ W.cell? ⟨gb + 1, 1, none⟩ = some (.int .i64 s.wide) ∧ W.cell? ⟨gb + 1, 2, none⟩ = some (.int .i64 s.kerf) ∧ W.cell? ⟨gb + 1, 3, none⟩ = some (.int .i64 s.across)) ∧ W.cell? ⟨b, off + i * 2, none⟩ = some (.int .i64 (z : Int)) ∧ W.cell? ⟨b, off + i * 2 + 1, none⟩ = some (.int .i64 (y : Int))))) [] (by kernel_rfl) S9 (fun _ => ?_)
          refine untlTake (i := 0) 55 (v := ?v1) rfl (by kernel_rfl) (by kernel_rfl) (by kernel_rfl) (by kernel_rfl) (by kernel_rfl) (by kernel_rfl) (fun _ _ _ h => h) (Or.inl ⟨by kernel_rfl, ?y1⟩) (by assumption) ?r1
          case y1 => (intro w hSw; obtain ⟨⟨⟨h0, h1, h2, h3⟩, h4, h5, h6, h7⟩, h8, h9⟩ := hSw; go_simp; try with_reducible rfl)
          refine untlTake (i := 2) 57 (v := ?v2) rfl (by kernel_rfl) (by kernel_rfl) (by kernel_rfl) (by kernel_rfl) (by kernel_rfl) (by kernel_rfl) (fun _ _ _ h => h) (Or.inl ⟨by kernel_rfl, ?y2⟩) (by assumption) ?r2
          case y2 => (intro w hSw; obtain ⟨⟨⟨h0, h1, h2, h3⟩, h4, h5, h6, h7⟩, h8, h9⟩ := hSw; go_simp; try with_reducible rfl)
          refine untlTake (i := 3) 58 (v := ?v3) rfl (by kernel_rfl) (by kernel_rfl) (by kernel_rfl) (by kernel_rfl) (by kernel_rfl) (by kernel_rfl) (fun _ _ _ h => h) (Or.inl ⟨by kernel_rfl, ?y3⟩) (by assumption) ?r3
          case y3 => (intro w hSw; obtain ⟨⟨⟨h0, h1, h2, h3⟩, h4, h5, h6, h7⟩, h8, h9⟩ := hSw; go_simp; try with_reducible rfl)
          simp only [Act.put, List.setIfInBounds_toArray, List.set_cons_zero, List.set_cons_succ]
          refine untlTake (i := 4) 59 (v := ?v4) rfl (by kernel_rfl) (by kernel_rfl) (by kernel_rfl) (by kernel_rfl) (by kernel_rfl) (by kernel_rfl) (fun _ _ _ h => h) (Or.inl ⟨by kernel_rfl, ?y4⟩) (by assumption) ?r4
          case y4 => (intro w hSw; obtain ⟨⟨⟨h0, h1, h2, h3⟩, h4, h5, h6, h7⟩, h8, h9⟩ := hSw; go_simp; try with_reducible rfl)
          refine untlReady (rs := [1, 5]) (by kernel_rfl) (by simp) ?_
          refine UReady.cons rfl (fun K5 hK5 => ?_) ?_
          · skip
            go_simp
            refine (HOW.out _ ND.out).mono ?_
            rintro e W9 ⟨B12, rfl, hl, hat, b3, -⟩
            have N6 := Lib.hid (ND.out.below b3)
            have P7 := Lib.hid (Reads.below PD.out b3)
            have HL10 := Lib.hid hl
            have HA11 := Lib.hid hat
            clear hl hat b3
            have S8 : (fun W => (((W.cell? ⟨gb, 0, none⟩ = some (.slice B.A B.n B.c) ∧ W.cell? ⟨gb, 1, none⟩ = some (.slice B.A' B.n' B.c') ∧ W.cell? ⟨gb, 2, none⟩ = some (.int .i64 B.bend) ∧ W.cell? ⟨gb, 3, none⟩ = some (.slice B.K B.m B.d)) ∧ W.cell? ⟨gb + 1, 0, none⟩ = some (.int .i64 s.long) ∧ W.cell? ⟨gb + 1, 1, none⟩ = some (.int .i64 s.wide) ∧ W.cell? ⟨gb + 1, 2, none⟩ = some (.int .i64 s.kerf) ∧ W.cell? ⟨gb + 1, 3, none⟩ = some (.int .i64 s.across)) ∧ W.cell? ⟨b, off + i * 2, none⟩ = some (.int .i64 (z : Int)) ∧ W.cell? ⟨b, off + i * 2 + 1, none⟩ = some (.int .i64 (y : Int)))) W9 := ⟨N6.out.get8, HPC.out _ P7.out⟩
            refine hK5.out _ _ (.inr S8) ?_
            refine untlStep (i := 5) (by kernel_rfl) rfl (fun K13 hK13 => ?_)
            go_simp
            refine hK13.out _ _ (.inr S8) ?_
            refine untlTake (i := 6) 61 (v := ?v14) rfl (by kernel_rfl) (by kernel_rfl) (by kernel_rfl) (by kernel_rfl) (by kernel_rfl) (by kernel_rfl) (fun _ _ _ h => h) (Or.inl ⟨by kernel_rfl, ?y14⟩) (by assumption) ?r14
            case y14 => (intro w hSw; obtain ⟨⟨⟨h0, h1, h2, h3⟩, h4, h5, h6, h7⟩, h8, h9⟩ := hSw; go_simp; try with_reducible rfl)
            refine untlStep (i := 7) (by kernel_rfl) rfl (fun K15 hK15 => ?_)
            go_simp
            refine (HF1.out B12 HL10.out _ HA11.out).mono ?_
            rintro e W19 ⟨rfl, b6⟩
            have N16 := Lib.hid (N6.out.below b6)
            have P17 := Lib.hid (Reads.below P7.out b6)
            have S18 : (fun W => (((W.cell? ⟨gb, 0, none⟩ = some (.slice B.A B.n B.c) ∧ W.cell? ⟨gb, 1, none⟩ = some (.slice B.A' B.n' B.c') ∧ W.cell? ⟨gb, 2, none⟩ = some (.int .i64 B.bend) ∧ W.cell? ⟨gb, 3, none⟩ = some (.slice B.K B.m B.d)) ∧ W.cell? ⟨gb + 1, 0, none⟩ = some (.int .i64 s.long) ∧ W.cell? ⟨gb + 1, 1, none⟩ = some (.int .i64 s.wide) ∧ W.cell? ⟨gb + 1, 2, none⟩ = some (.int .i64 s.kerf) ∧ W.cell? ⟨gb + 1, 3, none⟩ = some (.int .i64 s.across)) ∧ W.cell? ⟨b, off + i * 2, none⟩ = some (.int .i64 (z : Int)) ∧ W.cell? ⟨b, off + i * 2 + 1, none⟩ = some (.int .i64 (y : Int)))) W19 := ⟨N16.out.get8, HPC.out _ P17.out⟩
            refine hK15.out _ _ (.inr S18) ?_
            refine untlTake (i := 8) 54 (v := ?v20) rfl (by kernel_rfl) (by kernel_rfl) (by kernel_rfl) (by kernel_rfl) (by kernel_rfl) (by kernel_rfl) (fun _ _ _ h => h) (Or.inl ⟨by kernel_rfl, ?y20⟩) (by assumption) ?r20
            case y20 => (intro w hSw; obtain ⟨⟨⟨h0, h1, h2, h3⟩, h4, h5, h6, h7⟩, h8, h9⟩ := hSw; go_simp; try with_reducible rfl)
            refine untlTake (i := 9) 63 (v := ?v21) rfl (by kernel_rfl) (by kernel_rfl) (by kernel_rfl) (by kernel_rfl) (by kernel_rfl) (by kernel_rfl) (fun _ _ _ h => h) (Or.inl ⟨by kernel_rfl, ?y21⟩) (by assumption) ?r21
            case y21 => (intro w hSw; obtain ⟨⟨⟨h0, h1, h2, h3⟩, h4, h5, h6, h7⟩, h8, h9⟩ := hSw; go_simp; try with_reducible rfl)
            simp only [Act.put, List.setIfInBounds_toArray, List.set_cons_zero, List.set_cons_succ]
            refine untlTake (i := 10) 64 (v := ?v22) rfl (by kernel_rfl) (by kernel_rfl) (by kernel_rfl) (by kernel_rfl) (by kernel_rfl) (by kernel_rfl) (fun _ _ _ h => h) (Or.inl ⟨by kernel_rfl, ?y22⟩) (by assumption) ?r22
            case y22 => (intro w hSw; obtain ⟨⟨⟨h0, h1, h2, h3⟩, h4, h5, h6, h7⟩, h8, h9⟩ := hSw; go_simp; try with_reducible rfl)
            refine untlTake (i := 11) 65 (v := ?v23) rfl (by kernel_rfl) (by kernel_rfl) (by kernel_rfl) (by kernel_rfl) (by kernel_rfl) (by kernel_rfl) (fun _ _ _ h => h) (Or.inl ⟨by kernel_rfl, ?y23⟩) (by assumption) ?r23
            case y23 => (intro w hSw; obtain ⟨⟨⟨h0, h1, h2, h3⟩, h4, h5, h6, h7⟩, h8, h9⟩ := hSw; go_simp; try with_reducible rfl)
            refine untlTake (i := 12) 13 (v := ?v24) rfl (by kernel_rfl) (by kernel_rfl) (by kernel_rfl) (by kernel_rfl) (by kernel_rfl) (by kernel_rfl) (fun _ _ _ h => h) (Or.inl ⟨by kernel_rfl, ?y24⟩) (by assumption) ?r24
            case y24 => (intro w hSw; obtain ⟨⟨⟨h0, h1, h2, h3⟩, h4, h5, h6, h7⟩, h8, h9⟩ := hSw; go_simp; try with_reducible rfl)
            simp only [Act.put, List.setIfInBounds_toArray, List.set_cons_zero, List.set_cons_succ]
            refine untlTake (i := 13) 14 (v := ?v25) rfl (by kernel_rfl) (by kernel_rfl) (by kernel_rfl) (by kernel_rfl) (by kernel_rfl) (by kernel_rfl) (fun _ _ _ h => h) (Or.inl ⟨by kernel_rfl, ?y25⟩) (by assumption) ?r25
            case y25 => (intro w hSw; obtain ⟨⟨⟨h0, h1, h2, h3⟩, h4, h5, h6, h7⟩, h8, h9⟩ := hSw; go_simp; try with_reducible rfl)
            refine untlTake (i := 14) 15 (v := ?v26) rfl (by kernel_rfl) (by kernel_rfl) (by kernel_rfl) (by kernel_rfl) (by kernel_rfl) (by kernel_rfl) (fun _ _ _ h => h) (Or.inl ⟨by kernel_rfl, ?y26⟩) (by assumption) ?r26
            case y26 => (intro w hSw; obtain ⟨⟨⟨h0, h1, h2, h3⟩, h4, h5, h6, h7⟩, h8, h9⟩ := hSw; go_simp; try with_reducible rfl)
            refine untlDone (by kernel_rfl) ?_ _
            clear S18
            go_wp2_with fail
            go_meet
            exact ⟨rfl, rfl, rfl, _, rfl, N16.out, P17.out⟩
          refine UReady.cons rfl (fun K27 hK27 => ?_) UReady.nil
          go_simp
          refine hK27.out _ _ (.inr S9) ?_
          refine untlTake (i := 6) 61 (v := ?v28) rfl (by kernel_rfl) (by kernel_rfl) (by kernel_rfl) (by kernel_rfl) (by kernel_rfl) (by kernel_rfl) (fun _ _ _ h => h) (Or.inl ⟨by kernel_rfl, ?y28⟩) (by assumption) ?r28
          case y28 => (intro w hSw; obtain ⟨⟨⟨h0, h1, h2, h3⟩, h4, h5, h6, h7⟩, h8, h9⟩ := hSw; go_simp; try with_reducible rfl)
          refine untlStep (i := 1) (by kernel_rfl) rfl (fun K29 hK29 => ?_)
          go_simp
          refine (HOW.out _ ND.out).mono ?_
          rintro e W33 ⟨B36, rfl, hl, hat, b3, -⟩
          have N30 := Lib.hid (ND.out.below b3)
          have P31 := Lib.hid (Reads.below PD.out b3)
          have HL34 := Lib.hid hl
          have HA35 := Lib.hid hat
          clear hl hat b3
          have S32 : (fun W => (((W.cell? ⟨gb, 0, none⟩ = some (.slice B.A B.n B.c) ∧ W.cell? ⟨gb, 1, none⟩ = some (.slice B.A' B.n' B.c') ∧ W.cell? ⟨gb, 2, none⟩ = some (.int .i64 B.bend) ∧ W.cell? ⟨gb, 3, none⟩ = some (.slice B.K B.m B.d)) ∧ W.cell? ⟨gb + 1, 0, none⟩ = some (.int .i64 s.long) ∧ W.cell? ⟨gb + 1, 1, none⟩ = some (.int .i64 s.wide) ∧ W.cell? ⟨gb + 1, 2, none⟩ = some (.int .i64 s.kerf) ∧ W.cell? ⟨gb + 1, 3, none⟩ = some (.int .i64 s.across)) ∧ W.cell? ⟨b, off + i * 2, none⟩ = some (.int .i64 (z : Int)) ∧ W.cell? ⟨b, off + i * 2 + 1, none⟩ = some (.int .i64 (y : Int)))) W33 := ⟨N30.out.get8, HPC.out _ P31.out⟩
          refine hK29.out _ _ (.inr S32) ?_
          refine untlStep (i := 7) (by kernel_rfl) rfl (fun K37 hK37 => ?_)
          go_simp
          refine (HF1.out B36 HL34.out _ HA35.out).mono ?_
          rintro e W41 ⟨rfl, b6⟩
          have N38 := Lib.hid (N30.out.below b6)
          have P39 := Lib.hid (Reads.below P31.out b6)
          have S40 : (fun W => (((W.cell? ⟨gb, 0, none⟩ = some (.slice B.A B.n B.c) ∧ W.cell? ⟨gb, 1, none⟩ = some (.slice B.A' B.n' B.c') ∧ W.cell? ⟨gb, 2, none⟩ = some (.int .i64 B.bend) ∧ W.cell? ⟨gb, 3, none⟩ = some (.slice B.K B.m B.d)) ∧ W.cell? ⟨gb + 1, 0, none⟩ = some (.int .i64 s.long) ∧ W.cell? ⟨gb + 1, 1, none⟩ = some (.int .i64 s.wide) ∧ W.cell? ⟨gb + 1, 2, none⟩ = some (.int .i64 s.kerf) ∧ W.cell? ⟨gb + 1, 3, none⟩ = some (.int .i64 s.across)) ∧ W.cell? ⟨b, off + i * 2, none⟩ = some (.int .i64 (z : Int)) ∧ W.cell? ⟨b, off + i * 2 + 1, none⟩ = some (.int .i64 (y : Int)))) W41 := ⟨N38.out.get8, HPC.out _ P39.out⟩
          refine hK37.out _ _ (.inr S40) ?_
          refine untlTake (i := 8) 54 (v := ?v42) rfl (by kernel_rfl) (by kernel_rfl) (by kernel_rfl) (by kernel_rfl) (by kernel_rfl) (by kernel_rfl) (fun _ _ _ h => h) (Or.inl ⟨by kernel_rfl, ?y42⟩) (by assumption) ?r42
          case y42 => (intro w hSw; obtain ⟨⟨⟨h0, h1, h2, h3⟩, h4, h5, h6, h7⟩, h8, h9⟩ := hSw; go_simp; try with_reducible rfl)
          refine untlTake (i := 9) 63 (v := ?v43) rfl (by kernel_rfl) (by kernel_rfl) (by kernel_rfl) (by kernel_rfl) (by kernel_rfl) (by kernel_rfl) (fun _ _ _ h => h) (Or.inl ⟨by kernel_rfl, ?y43⟩) (by assumption) ?r43
          case y43 => (intro w hSw; obtain ⟨⟨⟨h0, h1, h2, h3⟩, h4, h5, h6, h7⟩, h8, h9⟩ := hSw; go_simp; try with_reducible rfl)
          simp only [Act.put, List.setIfInBounds_toArray, List.set_cons_zero, List.set_cons_succ]
          refine untlTake (i := 10) 64 (v := ?v44) rfl (by kernel_rfl) (by kernel_rfl) (by kernel_rfl) (by kernel_rfl) (by kernel_rfl) (by kernel_rfl) (fun _ _ _ h => h) (Or.inl ⟨by kernel_rfl, ?y44⟩) (by assumption) ?r44
          case y44 => (intro w hSw; obtain ⟨⟨⟨h0, h1, h2, h3⟩, h4, h5, h6, h7⟩, h8, h9⟩ := hSw; go_simp; try with_reducible rfl)
          refine untlTake (i := 11) 65 (v := ?v45) rfl (by kernel_rfl) (by kernel_rfl) (by kernel_rfl) (by kernel_rfl) (by kernel_rfl) (by kernel_rfl) (fun _ _ _ h => h) (Or.inl ⟨by kernel_rfl, ?y45⟩) (by assumption) ?r45
          case y45 => (intro w hSw; obtain ⟨⟨⟨h0, h1, h2, h3⟩, h4, h5, h6, h7⟩, h8, h9⟩ := hSw; go_simp; try with_reducible rfl)
          refine untlTake (i := 12) 13 (v := ?v46) rfl (by kernel_rfl) (by kernel_rfl) (by kernel_rfl) (by kernel_rfl) (by kernel_rfl) (by kernel_rfl) (fun _ _ _ h => h) (Or.inl ⟨by kernel_rfl, ?y46⟩) (by assumption) ?r46
          case y46 => (intro w hSw; obtain ⟨⟨⟨h0, h1, h2, h3⟩, h4, h5, h6, h7⟩, h8, h9⟩ := hSw; go_simp; try with_reducible rfl)
          simp only [Act.put, List.setIfInBounds_toArray, List.set_cons_zero, List.set_cons_succ]
          refine untlTake (i := 13) 14 (v := ?v47) rfl (by kernel_rfl) (by kernel_rfl) (by kernel_rfl) (by kernel_rfl) (by kernel_rfl) (by kernel_rfl) (fun _ _ _ h => h) (Or.inl ⟨by kernel_rfl, ?y47⟩) (by assumption) ?r47
          case y47 => (intro w hSw; obtain ⟨⟨⟨h0, h1, h2, h3⟩, h4, h5, h6, h7⟩, h8, h9⟩ := hSw; go_simp; try with_reducible rfl)
          refine untlTake (i := 14) 15 (v := ?v48) rfl (by kernel_rfl) (by kernel_rfl) (by kernel_rfl) (by kernel_rfl) (by kernel_rfl) (by kernel_rfl) (fun _ _ _ h => h) (Or.inl ⟨by kernel_rfl, ?y48⟩) (by assumption) ?r48
          case y48 => (intro w hSw; obtain ⟨⟨⟨h0, h1, h2, h3⟩, h4, h5, h6, h7⟩, h8, h9⟩ := hSw; go_simp; try with_reducible rfl)
          refine untlDone (by kernel_rfl) ?_ _
          clear S40
          go_wp2_with fail
          go_meet
          exact ⟨rfl, rfl, rfl, _, rfl, N38.out, P39.out⟩
        case rest =>
          obtain ⟨rfl, rfl, rfl, w6, rfl, hv, hp⟩ := hcut
          have N6 := Lib.hid hv
          have P6 := Lib.hid hp
          clear hv hp ND PD S9 NL PL
          have ND := Lib.hid (N6.out.below (Below.refl _ _).drew)
          have PD := Lib.hid (Reads.below P6.out (Below.refl _ _).drew)
          go_upto_region 10 with (fail)
          have S9 : (fun W => (((W.cell? ⟨gb, 0, none⟩ = some (.slice B.A B.n B.c) ∧ W.cell? ⟨gb, 1, none⟩ = some (.slice B.A' B.n' B.c') ∧ W.cell? ⟨gb, 2, none⟩ = some (.int .i64 B.bend) ∧ W.cell? ⟨gb, 3, none⟩ = some (.slice B.K B.m B.d)) ∧ W.cell? ⟨gb + 1, 0, none⟩ = some (.int .i64 s.long) ∧ W.cell? ⟨gb + 1, 1, none⟩ = some (.int .i64 s.wide) ∧ W.cell? ⟨gb + 1, 2, none⟩ = some (.int .i64 s.kerf) ∧ W.cell? ⟨gb + 1, 3, none⟩ = some (.int .i64 s.across)) ∧ W.cell? ⟨b, off + i * 2, none⟩ = some (.int .i64 (z : Int)) ∧ W.cell? ⟨b, off + i * 2 + 1, none⟩ = some (.int .i64 (y : Int)))) w6.drew := ⟨ND.out.get8, HPC.out _ PD.out⟩
          go_cut [16, 17] from 66 to 77 (fun s16 s17 W => s16 = .int .i64 0 ∧ s17 = .int .i64 fo ∧ CV w B L H gb g1 c1 g2 c2 (.slice K' m cd') #[.int .i64 s.long, .int .i64 s.wide, .int .i64 s.kerf, .int .i64 s.across] W ∧ Pairs W (some ⟨b, off, none⟩) ps.length ps)
          case first =>
            refine wp_region_untl (S := (fun W => (((W.cell? ⟨gb, 0, none⟩ = some (.slice B.A B.n B.c) ∧ W.cell? ⟨gb, 1, none⟩ = some (.slice B.A' B.n' B.c') ∧ W.cell? ⟨gb, 2, none⟩ = some (.int .i64 B.bend) ∧ W.cell? ⟨gb, 3, none⟩ = some (.slice B.K B.m B.d)) ∧ W.cell? ⟨gb + 1, 0, none⟩ = some (.int .i64 s.long) ∧ W.cell? ⟨gb + 1, 1, none⟩ = some (.int .i64 s.wide) ∧ W.cell? ⟨gb + 1, 2, none⟩ = some (.int .i64 s.kerf) ∧ W.cell? ⟨gb + 1, 3, none⟩ = some (.int .i64 s.across)) ∧ W.cell? ⟨b, off + i * 2, none⟩ = some (.int .i64 (z : Int)) ∧ W.cell? ⟨b, off + i * 2 + 1, none⟩ = some (.int .i64 (y : Int))))) [] (by kernel_rfl) S9 (fun _ => ?_)
            generalize w6.drew = wd at *
            refine untlTake (i := 0) 67 (v := ?v49) rfl (by kernel_rfl) (by kernel_rfl) (by kernel_rfl) (by kernel_rfl) (by kernel_rfl) (by kernel_rfl) (fun _ _ _ h => h) (Or.inl ⟨by kernel_rfl, ?y49⟩) (by assumption) ?r49
            case y49 => (intro w hSw; obtain ⟨⟨⟨h0, h1, h2, h3⟩, h4, h5, h6, h7⟩, h8, h9⟩ := hSw; go_simp; try with_reducible rfl)
            refine untlTake (i := 2) 69 (v := ?v50) rfl (by kernel_rfl) (by kernel_rfl) (by kernel_rfl) (by kernel_rfl) (by kernel_rfl) (by kernel_rfl) (fun _ _ _ h => h) (Or.inl ⟨by kernel_rfl, ?y50⟩) (by assumption) ?r50
            case y50 => (intro w hSw; obtain ⟨⟨⟨h0, h1, h2, h3⟩, h4, h5, h6, h7⟩, h8, h9⟩ := hSw; go_simp; try with_reducible rfl)
            refine untlTake (i := 3) 70 (v := ?v51) rfl (by kernel_rfl) (by kernel_rfl) (by kernel_rfl) (by kernel_rfl) (by kernel_rfl) (by kernel_rfl) (fun _ _ _ h => h) (Or.inl ⟨by kernel_rfl, ?y51⟩) (by assumption) ?r51
            case y51 => (intro w hSw; obtain ⟨⟨⟨h0, h1, h2, h3⟩, h4, h5, h6, h7⟩, h8, h9⟩ := hSw; go_simp; try with_reducible rfl)
            simp only [Act.put, List.setIfInBounds_toArray, List.set_cons_zero, List.set_cons_succ]
            refine untlTake (i := 4) 71 (v := ?v52) rfl (by kernel_rfl) (by kernel_rfl) (by kernel_rfl) (by kernel_rfl) (by kernel_rfl) (by kernel_rfl) (fun _ _ _ h => h) (Or.inl ⟨by kernel_rfl, ?y52⟩) (by assumption) ?r52
            case y52 => (intro w hSw; obtain ⟨⟨⟨h0, h1, h2, h3⟩, h4, h5, h6, h7⟩, h8, h9⟩ := hSw; go_simp; try with_reducible rfl)
            refine untlReady (rs := [1, 5]) (by kernel_rfl) (by simp) ?_
            refine UReady.cons rfl (fun K53 hK53 => ?_) ?_
            · skip
              go_simp
              refine (HOW.out _ ND.out).mono ?_
              rintro e W57 ⟨B60, rfl, hl, hat, b3, -⟩
              have N54 := Lib.hid (ND.out.below b3)
              have P55 := Lib.hid (Reads.below PD.out b3)
              have HL58 := Lib.hid hl
              have HA59 := Lib.hid hat
              clear hl hat b3
              have S56 : (fun W => (((W.cell? ⟨gb, 0, none⟩ = some (.slice B.A B.n B.c) ∧ W.cell? ⟨gb, 1, none⟩ = some (.slice B.A' B.n' B.c') ∧ W.cell? ⟨gb, 2, none⟩ = some (.int .i64 B.bend) ∧ W.cell? ⟨gb, 3, none⟩ = some (.slice B.K B.m B.d)) ∧ W.cell? ⟨gb + 1, 0, none⟩ = some (.int .i64 s.long) ∧ W.cell? ⟨gb + 1, 1, none⟩ = some (.int .i64 s.wide) ∧ W.cell? ⟨gb + 1, 2, none⟩ = some (.int .i64 s.kerf) ∧ W.cell? ⟨gb + 1, 3, none⟩ = some (.int .i64 s.across)) ∧ W.cell? ⟨b, off + i * 2, none⟩ = some (.int .i64 (z : Int)) ∧ W.cell? ⟨b, off + i * 2 + 1, none⟩ = some (.int .i64 (y : Int)))) W57 := ⟨N54.out.get8, HPC.out _ P55.out⟩
              refine hK53.out _ _ (.inr S56) ?_
              refine untlStep (i := 5) (by kernel_rfl) rfl (fun K61 hK61 => ?_)
              go_simp
              refine hK61.out _ _ (.inr S56) ?_
              refine untlTake (i := 6) 73 (v := ?v62) rfl (by kernel_rfl) (by kernel_rfl) (by kernel_rfl) (by kernel_rfl) (by kernel_rfl) (by kernel_rfl) (fun _ _ _ h => h) (Or.inl ⟨by kernel_rfl, ?y62⟩) (by assumption) ?r62
              case y62 => (intro w hSw; obtain ⟨⟨⟨h0, h1, h2, h3⟩, h4, h5, h6, h7⟩, h8, h9⟩ := hSw; go_simp; try with_reducible rfl)
              refine untlStep (i := 7) (by kernel_rfl) rfl (fun K63 hK63 => ?_)
              rw [if_pos (by rfl)]
              go_simp
              have N64 := Lib.hid (N54.out.below (below_self W57 (.cells #[.int .i64 (z : Int), .int .i64 (y : Int)] 39)))
              have P65 := Lib.hid (Reads.below P55.out (below_self W57 (.cells #[.int .i64 (z : Int), .int .i64 (y : Int)] 39)))
              have Q68 : Hid (Pairs (W57.alloc (.cells #[.int .i64 (z : Int), .int .i64 (y : Int)] 39)) (some ⟨W57.heap.size, 0, none⟩) 1 [((z : Int), (y : Int))]) := reads_of_blk (Blk.new W57 _ _ rfl) rfl rfl
              have HA70 := Lib.hid (HA59.out.below (below_self W57 (.cells #[.int .i64 (z : Int), .int .i64 (y : Int)] 39)))
              obtain ⟨W67, hW⟩ : ∃ V, V = W57.alloc (.cells #[.int .i64 (z : Int), .int .i64 (y : Int)] 39) := ⟨_, rfl⟩
              rw [← hW] at N64 P65 Q68 HA70 ⊢
              clear hW
              have S66 : (fun W => (((W.cell? ⟨gb, 0, none⟩ = some (.slice B.A B.n B.c) ∧ W.cell? ⟨gb, 1, none⟩ = some (.slice B.A' B.n' B.c') ∧ W.cell? ⟨gb, 2, none⟩ = some (.int .i64 B.bend) ∧ W.cell? ⟨gb, 3, none⟩ = some (.slice B.K B.m B.d)) ∧ W.cell? ⟨gb + 1, 0, none⟩ = some (.int .i64 s.long) ∧ W.cell? ⟨gb + 1, 1, none⟩ = some (.int .i64 s.wide) ∧ W.cell? ⟨gb + 1, 2, none⟩ = some (.int .i64 s.kerf) ∧ W.cell? ⟨gb + 1, 3, none⟩ = some (.int .i64 s.across)) ∧ W.cell? ⟨b, off + i * 2, none⟩ = some (.int .i64 (z : Int)) ∧ W.cell? ⟨b, off + i * 2 + 1, none⟩ = some (.int .i64 (y : Int)))) W67 := ⟨N64.out.get8, HPC.out _ P65.out⟩
              refine hK63.out _ _ (.inr S66) ?_
              refine untlStep (i := 8) (by kernel_rfl) rfl (fun K71 hK71 => ?_)
              go_simp
              refine (HF2.out _ _ (Nat.le_refl 1) B60 HL58.out _ HA70.out Q68.out).mono ?_
              rintro e W75 ⟨rfl, b6⟩
              have N72 := Lib.hid (N64.out.below b6)
              have P73 := Lib.hid (Reads.below P65.out b6)
              have S74 : (fun W => (((W.cell? ⟨gb, 0, none⟩ = some (.slice B.A B.n B.c) ∧ W.cell? ⟨gb, 1, none⟩ = some (.slice B.A' B.n' B.c') ∧ W.cell? ⟨gb, 2, none⟩ = some (.int .i64 B.bend) ∧ W.cell? ⟨gb, 3, none⟩ = some (.slice B.K B.m B.d)) ∧ W.cell? ⟨gb + 1, 0, none⟩ = some (.int .i64 s.long) ∧ W.cell? ⟨gb + 1, 1, none⟩ = some (.int .i64 s.wide) ∧ W.cell? ⟨gb + 1, 2, none⟩ = some (.int .i64 s.kerf) ∧ W.cell? ⟨gb + 1, 3, none⟩ = some (.int .i64 s.across)) ∧ W.cell? ⟨b, off + i * 2, none⟩ = some (.int .i64 (z : Int)) ∧ W.cell? ⟨b, off + i * 2 + 1, none⟩ = some (.int .i64 (y : Int)))) W75 := ⟨N72.out.get8, HPC.out _ P73.out⟩
              refine hK71.out _ _ (.inr S74) ?_
              refine untlTake (i := 9) 66 (v := ?v76) rfl (by kernel_rfl) (by kernel_rfl) (by kernel_rfl) (by kernel_rfl) (by kernel_rfl) (by kernel_rfl) (fun _ _ _ h => h) (Or.inl ⟨by kernel_rfl, ?y76⟩) (by assumption) ?r76
              case y76 => (intro w hSw; obtain ⟨⟨⟨h0, h1, h2, h3⟩, h4, h5, h6, h7⟩, h8, h9⟩ := hSw; go_simp; try with_reducible rfl)
              refine untlTake (i := 10) 76 (v := ?v77) rfl (by kernel_rfl) (by kernel_rfl) (by kernel_rfl) (by kernel_rfl) (by kernel_rfl) (by kernel_rfl) (fun _ _ _ h => h) (Or.inl ⟨by kernel_rfl, ?y77⟩) (by assumption) ?r77
              case y77 => (intro w hSw; obtain ⟨⟨⟨h0, h1, h2, h3⟩, h4, h5, h6, h7⟩, h8, h9⟩ := hSw; go_simp; try with_reducible rfl)
              simp only [Act.put, List.setIfInBounds_toArray, List.set_cons_zero, List.set_cons_succ]
              refine untlTake (i := 11) 77 (v := ?v78) rfl (by kernel_rfl) (by kernel_rfl) (by kernel_rfl) (by kernel_rfl) (by kernel_rfl) (by kernel_rfl) (fun _ _ _ h => h) (Or.inl ⟨by kernel_rfl, ?y78⟩) (by assumption) ?r78
              case y78 => (intro w hSw; obtain ⟨⟨⟨h0, h1, h2, h3⟩, h4, h5, h6, h7⟩, h8, h9⟩ := hSw; go_simp; try with_reducible rfl)
              refine untlTake (i := 12) 16 (v := ?v79) rfl (by kernel_rfl) (by kernel_rfl) (by kernel_rfl) (by kernel_rfl) (by kernel_rfl) (by kernel_rfl) (fun _ _ _ h => h) (Or.inl ⟨by kernel_rfl, ?y79⟩) (by assumption) ?r79
              case y79 => (intro w hSw; obtain ⟨⟨⟨h0, h1, h2, h3⟩, h4, h5, h6, h7⟩, h8, h9⟩ := hSw; go_simp; try with_reducible rfl)
              refine untlTake (i := 13) 17 (v := ?v80) rfl (by kernel_rfl) (by kernel_rfl) (by kernel_rfl) (by kernel_rfl) (by kernel_rfl) (by kernel_rfl) (fun _ _ _ h => h) (Or.inl ⟨by kernel_rfl, ?y80⟩) (by assumption) ?r80
              case y80 => (intro w hSw; obtain ⟨⟨⟨h0, h1, h2, h3⟩, h4, h5, h6, h7⟩, h8, h9⟩ := hSw; go_simp; try with_reducible rfl)
              refine untlDone (by kernel_rfl) ?_ _
              clear S74
              go_wp2_with fail
              go_meet
              exact ⟨rfl, rfl, N72.out, P73.out⟩
            refine UReady.cons rfl (fun K81 hK81 => ?_) UReady.nil
            go_simp
            refine hK81.out _ _ (.inr S9) ?_
            refine untlTake (i := 6) 73 (v := ?v82) rfl (by kernel_rfl) (by kernel_rfl) (by kernel_rfl) (by kernel_rfl) (by kernel_rfl) (by kernel_rfl) (fun _ _ _ h => h) (Or.inl ⟨by kernel_rfl, ?y82⟩) (by assumption) ?r82
            case y82 => (intro w hSw; obtain ⟨⟨⟨h0, h1, h2, h3⟩, h4, h5, h6, h7⟩, h8, h9⟩ := hSw; go_simp; try with_reducible rfl)
            refine untlReady (rs := [1, 7]) (by kernel_rfl) (by simp) ?_
            refine UReady.cons rfl (fun K83 hK83 => ?_) ?_
            · skip
              go_simp
              refine (HOW.out _ ND.out).mono ?_
              rintro e W87 ⟨B90, rfl, hl, hat, b3, -⟩
              have N84 := Lib.hid (ND.out.below b3)
              have P85 := Lib.hid (Reads.below PD.out b3)
              have HL88 := Lib.hid hl
              have HA89 := Lib.hid hat
              clear hl hat b3
              have S86 : (fun W => (((W.cell? ⟨gb, 0, none⟩ = some (.slice B.A B.n B.c) ∧ W.cell? ⟨gb, 1, none⟩ = some (.slice B.A' B.n' B.c') ∧ W.cell? ⟨gb, 2, none⟩ = some (.int .i64 B.bend) ∧ W.cell? ⟨gb, 3, none⟩ = some (.slice B.K B.m B.d)) ∧ W.cell? ⟨gb + 1, 0, none⟩ = some (.int .i64 s.long) ∧ W.cell? ⟨gb + 1, 1, none⟩ = some (.int .i64 s.wide) ∧ W.cell? ⟨gb + 1, 2, none⟩ = some (.int .i64 s.kerf) ∧ W.cell? ⟨gb + 1, 3, none⟩ = some (.int .i64 s.across)) ∧ W.cell? ⟨b, off + i * 2, none⟩ = some (.int .i64 (z : Int)) ∧ W.cell? ⟨b, off + i * 2 + 1, none⟩ = some (.int .i64 (y : Int)))) W87 := ⟨N84.out.get8, HPC.out _ P85.out⟩
              refine hK83.out _ _ (.inr S86) ?_
              refine untlStep (i := 7) (by kernel_rfl) rfl (fun K91 hK91 => ?_)
              rw [if_pos (by rfl)]
              go_simp
              have N92 := Lib.hid (N84.out.below (below_self W87 (.cells #[.int .i64 (z : Int), .int .i64 (y : Int)] 39)))
              have P93 := Lib.hid (Reads.below P85.out (below_self W87 (.cells #[.int .i64 (z : Int), .int .i64 (y : Int)] 39)))
              have Q96 : Hid (Pairs (W87.alloc (.cells #[.int .i64 (z : Int), .int .i64 (y : Int)] 39)) (some ⟨W87.heap.size, 0, none⟩) 1 [((z : Int), (y : Int))]) := reads_of_blk (Blk.new W87 _ _ rfl) rfl rfl
              have HA98 := Lib.hid (HA89.out.below (below_self W87 (.cells #[.int .i64 (z : Int), .int .i64 (y : Int)] 39)))
              obtain ⟨W95, hW⟩ : ∃ V, V = W87.alloc (.cells #[.int .i64 (z : Int), .int .i64 (y : Int)] 39) := ⟨_, rfl⟩
              rw [← hW] at N92 P93 Q96 HA98 ⊢
              clear hW
              have S94 : (fun W => (((W.cell? ⟨gb, 0, none⟩ = some (.slice B.A B.n B.c) ∧ W.cell? ⟨gb, 1, none⟩ = some (.slice B.A' B.n' B.c') ∧ W.cell? ⟨gb, 2, none⟩ = some (.int .i64 B.bend) ∧ W.cell? ⟨gb, 3, none⟩ = some (.slice B.K B.m B.d)) ∧ W.cell? ⟨gb + 1, 0, none⟩ = some (.int .i64 s.long) ∧ W.cell? ⟨gb + 1, 1, none⟩ = some (.int .i64 s.wide) ∧ W.cell? ⟨gb + 1, 2, none⟩ = some (.int .i64 s.kerf) ∧ W.cell? ⟨gb + 1, 3, none⟩ = some (.int .i64 s.across)) ∧ W.cell? ⟨b, off + i * 2, none⟩ = some (.int .i64 (z : Int)) ∧ W.cell? ⟨b, off + i * 2 + 1, none⟩ = some (.int .i64 (y : Int)))) W95 := ⟨N92.out.get8, HPC.out _ P93.out⟩
              refine hK91.out _ _ (.inr S94) ?_
              refine untlStep (i := 8) (by kernel_rfl) rfl (fun K99 hK99 => ?_)
              go_simp
              refine (HF2.out _ _ (Nat.le_refl 1) B90 HL88.out _ HA98.out Q96.out).mono ?_
              rintro e W103 ⟨rfl, b6⟩
              have N100 := Lib.hid (N92.out.below b6)
              have P101 := Lib.hid (Reads.below P93.out b6)
              have S102 : (fun W => (((W.cell? ⟨gb, 0, none⟩ = some (.slice B.A B.n B.c) ∧ W.cell? ⟨gb, 1, none⟩ = some (.slice B.A' B.n' B.c') ∧ W.cell? ⟨gb, 2, none⟩ = some (.int .i64 B.bend) ∧ W.cell? ⟨gb, 3, none⟩ = some (.slice B.K B.m B.d)) ∧ W.cell? ⟨gb + 1, 0, none⟩ = some (.int .i64 s.long) ∧ W.cell? ⟨gb + 1, 1, none⟩ = some (.int .i64 s.wide) ∧ W.cell? ⟨gb + 1, 2, none⟩ = some (.int .i64 s.kerf) ∧ W.cell? ⟨gb + 1, 3, none⟩ = some (.int .i64 s.across)) ∧ W.cell? ⟨b, off + i * 2, none⟩ = some (.int .i64 (z : Int)) ∧ W.cell? ⟨b, off + i * 2 + 1, none⟩ = some (.int .i64 (y : Int)))) W103 := ⟨N100.out.get8, HPC.out _ P101.out⟩
              refine hK99.out _ _ (.inr S102) ?_
              refine untlTake (i := 9) 66 (v := ?v104) rfl (by kernel_rfl) (by kernel_rfl) (by kernel_rfl) (by kernel_rfl) (by kernel_rfl) (by kernel_rfl) (fun _ _ _ h => h) (Or.inl ⟨by kernel_rfl, ?y104⟩) (by assumption) ?r104
              case y104 => (intro w hSw; obtain ⟨⟨⟨h0, h1, h2, h3⟩, h4, h5, h6, h7⟩, h8, h9⟩ := hSw; go_simp; try with_reducible rfl)
              refine untlTake (i := 10) 76 (v := ?v105) rfl (by kernel_rfl) (by kernel_rfl) (by kernel_rfl) (by kernel_rfl) (by kernel_rfl) (by kernel_rfl) (fun _ _ _ h => h) (Or.inl ⟨by kernel_rfl, ?y105⟩) (by assumption) ?r105
              case y105 => (intro w hSw; obtain ⟨⟨⟨h0, h1, h2, h3⟩, h4, h5, h6, h7⟩, h8, h9⟩ := hSw; go_simp; try with_reducible rfl)
              simp only [Act.put, List.setIfInBounds_toArray, List.set_cons_zero, List.set_cons_succ]
              refine untlTake (i := 11) 77 (v := ?v106) rfl (by kernel_rfl) (by kernel_rfl) (by kernel_rfl) (by kernel_rfl) (by kernel_rfl) (by kernel_rfl) (fun _ _ _ h => h) (Or.inl ⟨by kernel_rfl, ?y106⟩) (by assumption) ?r106
              case y106 => (intro w hSw; obtain ⟨⟨⟨h0, h1, h2, h3⟩, h4, h5, h6, h7⟩, h8, h9⟩ := hSw; go_simp; try with_reducible rfl)
              refine untlTake (i := 12) 16 (v := ?v107) rfl (by kernel_rfl) (by kernel_rfl) (by kernel_rfl) (by kernel_rfl) (by kernel_rfl) (by kernel_rfl) (fun _ _ _ h => h) (Or.inl ⟨by kernel_rfl, ?y107⟩) (by assumption) ?r107
              case y107 => (intro w hSw; obtain ⟨⟨⟨h0, h1, h2, h3⟩, h4, h5, h6, h7⟩, h8, h9⟩ := hSw; go_simp; try with_reducible rfl)
              refine untlTake (i := 13) 17 (v := ?v108) rfl (by kernel_rfl) (by kernel_rfl) (by kernel_rfl) (by kernel_rfl) (by kernel_rfl) (by kernel_rfl) (fun _ _ _ h => h) (Or.inl ⟨by kernel_rfl, ?y108⟩) (by assumption) ?r108
              case y108 => (intro w hSw; obtain ⟨⟨⟨h0, h1, h2, h3⟩, h4, h5, h6, h7⟩, h8, h9⟩ := hSw; go_simp; try with_reducible rfl)
              refine untlDone (by kernel_rfl) ?_ _
              clear S102
              go_wp2_with fail
              go_meet
              exact ⟨rfl, rfl, N100.out, P101.out⟩
            refine UReady.cons rfl (fun K109 hK109 => ?_) UReady.nil
            rw [if_pos (by rfl)]
            go_simp
            have N110 := Lib.hid (ND.out.below (below_self wd (.cells #[.int .i64 (z : Int), .int .i64 (y : Int)] 39)))
            have P111 := Lib.hid (Reads.below PD.out (below_self wd (.cells #[.int .i64 (z : Int), .int .i64 (y : Int)] 39)))
            have Q114 : Hid (Pairs (wd.alloc (.cells #[.int .i64 (z : Int), .int .i64 (y : Int)] 39)) (some ⟨wd.heap.size, 0, none⟩) 1 [((z : Int), (y : Int))]) := reads_of_blk (Blk.new wd _ _ rfl) rfl rfl
            obtain ⟨W113, hW⟩ : ∃ V, V = wd.alloc (.cells #[.int .i64 (z : Int), .int .i64 (y : Int)] 39) := ⟨_, rfl⟩
            rw [← hW] at N110 P111 Q114 ⊢
            clear hW
            have S112 : (fun W => (((W.cell? ⟨gb, 0, none⟩ = some (.slice B.A B.n B.c) ∧ W.cell? ⟨gb, 1, none⟩ = some (.slice B.A' B.n' B.c') ∧ W.cell? ⟨gb, 2, none⟩ = some (.int .i64 B.bend) ∧ W.cell? ⟨gb, 3, none⟩ = some (.slice B.K B.m B.d)) ∧ W.cell? ⟨gb + 1, 0, none⟩ = some (.int .i64 s.long) ∧ W.cell? ⟨gb + 1, 1, none⟩ = some (.int .i64 s.wide) ∧ W.cell? ⟨gb + 1, 2, none⟩ = some (.int .i64 s.kerf) ∧ W.cell? ⟨gb + 1, 3, none⟩ = some (.int .i64 s.across)) ∧ W.cell? ⟨b, off + i * 2, none⟩ = some (.int .i64 (z : Int)) ∧ W.cell? ⟨b, off + i * 2 + 1, none⟩ = some (.int .i64 (y : Int)))) W113 := ⟨N110.out.get8, HPC.out _ P111.out⟩
            refine hK109.out _ _ (.inr S112) ?_
            refine untlStep (i := 1) (by kernel_rfl) rfl (fun K116 hK116 => ?_)
            go_simp
            refine (HOW.out _ N110.out).mono ?_
            rintro e W120 ⟨B123, rfl, hl, hat, b3, -⟩
            have N117 := Lib.hid (N110.out.below b3)
            have P118 := Lib.hid (Reads.below P111.out b3)
            have HL121 := Lib.hid hl
            have HA122 := Lib.hid hat
            have Q124 := Lib.hid (Reads.below Q114.out b3)
            clear hl hat b3
            have S119 : (fun W => (((W.cell? ⟨gb, 0, none⟩ = some (.slice B.A B.n B.c) ∧ W.cell? ⟨gb, 1, none⟩ = some (.slice B.A' B.n' B.c') ∧ W.cell? ⟨gb, 2, none⟩ = some (.int .i64 B.bend) ∧ W.cell? ⟨gb, 3, none⟩ = some (.slice B.K B.m B.d)) ∧ W.cell? ⟨gb + 1, 0, none⟩ = some (.int .i64 s.long) ∧ W.cell? ⟨gb + 1, 1, none⟩ = some (.int .i64 s.wide) ∧ W.cell? ⟨gb + 1, 2, none⟩ = some (.int .i64 s.kerf) ∧ W.cell? ⟨gb + 1, 3, none⟩ = some (.int .i64 s.across)) ∧ W.cell? ⟨b, off + i * 2, none⟩ = some (.int .i64 (z : Int)) ∧ W.cell? ⟨b, off + i * 2 + 1, none⟩ = some (.int .i64 (y : Int)))) W120 := ⟨N117.out.get8, HPC.out _ P118.out⟩
            refine hK116.out _ _ (.inr S119) ?_
            refine untlStep (i := 8) (by kernel_rfl) rfl (fun K125 hK125 => ?_)
            go_simp
            refine (HF2.out _ _ (Nat.le_refl 1) B123 HL121.out _ HA122.out Q124.out).mono ?_
            rintro e W129 ⟨rfl, b6⟩
            have N126 := Lib.hid (N117.out.below b6)
            have P127 := Lib.hid (Reads.below P118.out b6)
            have S128 : (fun W => (((W.cell? ⟨gb, 0, none⟩ = some (.slice B.A B.n B.c) ∧ W.cell? ⟨gb, 1, none⟩ = some (.slice B.A' B.n' B.c') ∧ W.cell? ⟨gb, 2, none⟩ = some (.int .i64 B.bend) ∧ W.cell? ⟨gb, 3, none⟩ = some (.slice B.K B.m B.d)) ∧ W.cell? ⟨gb + 1, 0, none⟩ = some (.int .i64 s.long) ∧ W.cell? ⟨gb + 1, 1, none⟩ = some (.int .i64 s.wide) ∧ W.cell? ⟨gb + 1, 2, none⟩ = some (.int .i64 s.kerf) ∧ W.cell? ⟨gb + 1, 3, none⟩ = some (.int .i64 s.across)) ∧ W.cell? ⟨b, off + i * 2, none⟩ = some (.int .i64 (z : Int)) ∧ W.cell? ⟨b, off + i * 2 + 1, none⟩ = some (.int .i64 (y : Int)))) W129 := ⟨N126.out.get8, HPC.out _ P127.out⟩
            refine hK125.out _ _ (.inr S128) ?_
            refine untlTake (i := 9) 66 (v := ?v130) rfl (by kernel_rfl) (by kernel_rfl) (by kernel_rfl) (by kernel_rfl) (by kernel_rfl) (by kernel_rfl) (fun _ _ _ h => h) (Or.inl ⟨by kernel_rfl, ?y130⟩) (by assumption) ?r130
            case y130 => (intro w hSw; obtain ⟨⟨⟨h0, h1, h2, h3⟩, h4, h5, h6, h7⟩, h8, h9⟩ := hSw; go_simp; try with_reducible rfl)
            refine untlTake (i := 10) 76 (v := ?v131) rfl (by kernel_rfl) (by kernel_rfl) (by kernel_rfl) (by kernel_rfl) (by kernel_rfl) (by kernel_rfl) (fun _ _ _ h => h) (Or.inl ⟨by kernel_rfl, ?y131⟩) (by assumption) ?r131
            case y131 => (intro w hSw; obtain ⟨⟨⟨h0, h1, h2, h3⟩, h4, h5, h6, h7⟩, h8, h9⟩ := hSw; go_simp; try with_reducible rfl)
            simp only [Act.put, List.setIfInBounds_toArray, List.set_cons_zero, List.set_cons_succ]
            refine untlTake (i := 11) 77 (v := ?v132) rfl (by kernel_rfl) (by kernel_rfl) (by kernel_rfl) (by kernel_rfl) (by kernel_rfl) (by kernel_rfl) (fun _ _ _ h => h) (Or.inl ⟨by kernel_rfl, ?y132⟩) (by assumption) ?r132
            case y132 => (intro w hSw; obtain ⟨⟨⟨h0, h1, h2, h3⟩, h4, h5, h6, h7⟩, h8, h9⟩ := hSw; go_simp; try with_reducible rfl)
            refine untlTake (i := 12) 16 (v := ?v133) rfl (by kernel_rfl) (by kernel_rfl) (by kernel_rfl) (by kernel_rfl) (by kernel_rfl) (by kernel_rfl) (fun _ _ _ h => h) (Or.inl ⟨by kernel_rfl, ?y133⟩) (by assumption) ?r133
            case y133 => (intro w hSw; obtain ⟨⟨⟨h0, h1, h2, h3⟩, h4, h5, h6, h7⟩, h8, h9⟩ := hSw; go_simp; try with_reducible rfl)
            refine untlTake (i := 13) 17 (v := ?v134) rfl (by kernel_rfl) (by kernel_rfl) (by kernel_rfl) (by kernel_rfl) (by kernel_rfl) (by kernel_rfl) (fun _ _ _ h => h) (Or.inl ⟨by kernel_rfl, ?y134⟩) (by assumption) ?r134
            case y134 => (intro w hSw; obtain ⟨⟨⟨h0, h1, h2, h3⟩, h4, h5, h6, h7⟩, h8, h9⟩ := hSw; go_simp; try with_reducible rfl)
            refine untlDone (by kernel_rfl) ?_ _
            clear S128
            go_wp2_with fail
            go_meet
            exact ⟨rfl, rfl, N126.out, P127.out⟩
          case rest =>
            obtain ⟨rfl, rfl, hv, hp⟩ := hcut
            have N7 := Lib.hid hv
            have P7 := Lib.hid hp
            clear hv hp ND PD S9 N6 P6
            cases su
            all_goals
              have hfo := HFO.out
              simp at hfo
              subst hfo
              go_wp2_with fail
              go_roundw
              case rel => exact ⟨i + 1, by omega, by omega, by go_num, N7.out, P7.out⟩
              case measure => simp [intOf]; omega
      · have hl3 : ¬ (i : Int) < 12 := by omega
        go_wp2_with (go_at_call 18; refine (HKN.out _).mono ?_; rintro e w9 ⟨rfl, b9⟩; have D9 := Lib.hid (below_then NL.out.bel b9); clear b9)
        go_ret
        exact ⟨rfl, D9.out⟩
    · have hlt2 : ¬ (i : Int) < (ps.length : Int) := by omega
      go_wp2_with (go_at_call 18; refine (HKN.out _).mono ?_; rintro e w9 ⟨rfl, b9⟩; have D9 := Lib.hid (below_then NL.out.bel b9); clear b9)
      go_ret
      exact ⟨rfl, D9.out⟩
end Go.Proofs.Ytiflhimmieflpaa
