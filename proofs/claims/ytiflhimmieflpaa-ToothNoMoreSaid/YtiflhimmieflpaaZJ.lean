/- Merged: W105b, W120, W122 to W124: the law ToothNoMore. -/
import Derived.Test.YtiflhimmieflpaaW76
import Derived.Test.YtiflhimmieflpaaZB
import Derived.Test.YtiflhimmieflpaaHeld
import Derived.Test.YtiflhimmieflpaaZH
import Derived.Test.YtiflhimmieflpaaW58

/- A blade of which a column was sounded, or a crack taken, is valid: no walks. -/
namespace Go.Proofs.Ytiflhimmieflpaa

theorem cerr_parts {B : Bl} (h : B.cerr = 0) : B.n = B.n' ∧ within 1 30 [(B.n : Int)] = true ∧ ¬ 4 < B.m ∧ edgesOk B.bend B.bot B.top = true ∧ (B.cr.any fun k => !crackOk B.n k) = false ∧ bentOk B.bot B.bend = true ∧ bentOk B.top B.bend = true := by
  have hb := bentOk_both h
  have h' : curveErr B.n B.n' B.m B.bend B.bot B.top B.cr = 0 := h
  unfold curveErr at h'
  split at h'
  · omega
  split at h'
  · omega
  split at h'
  · omega
  split at h'
  · omega
  split at h'
  · omega
  rename_i e1 e2 e3 e4 e5
  exact ⟨by omega, by simpa using e2, e3, by simpa using e4, by simpa using e5, hb.1, hb.2⟩
theorem cerr_of {B : Bl} (h1 : B.n = B.n') (h2 : within 1 30 [(B.n : Int)] = true) (h3 : ¬ 4 < B.m) (h4 : edgesOk B.bend B.bot B.top = true) (h5 : (B.cr.any fun k => !crackOk B.n k) = false) (h6 : bentOk B.bot B.bend = true) (h7 : bentOk B.top B.bend = true) : B.cerr = 0 := by
  unfold Bl.cerr curveErr
  rw [if_neg (by simpa using h1), if_neg (by rw [h2]; decide), if_neg h3, if_neg (by rw [h4]; decide), if_neg (by rw [h5]; decide), if_neg (by rw [h6]; decide), if_neg (by rw [h7]; decide)]
theorem less_cerr {B : Bl} (h : B.cerr = 0) (k : Nat) : (B.less k 0 0).cerr = 0 := by
  obtain ⟨h1, h2, h3, h4, h5, h6, h7⟩ := cerr_parts h
  refine cerr_of h1 h2 (by show ¬ 4 < B.m - 1; omega) h4 ?_ h6 h7
  rw [List.any_eq_false] at h5 ⊢
  exact fun c hc => h5 c (List.mem_of_mem_eraseIdx hc)
theorem less_worst (B : Bl) (s : Sw) (k : Nat) : (B.less k 0 0).worst s = B.worstX s k := rfl
section
variable {B : Bl} {s : Sw} {x : Nat}
theorem sound_cerr (h : B.cerr = 0) (hb : B.bot.length = B.n) (ht : B.top.length = B.n') (hx : x < B.n) : (B.sound x ((bentL B.bot B.bend).getD x (0, 0)).1 ((bentL B.top B.bend).getD x (0, 0)).2).cerr = 0 := by
  obtain ⟨h1, h2, h3, h4, h5, h6, h7⟩ := cerr_parts h
  obtain ⟨q1, q2, q3⟩ := edgesOk_in h4
  have hxb : x < B.bot.length := by omega
  have hxt : x < B.top.length := by omega
  have fb := bent_full q1.1 h6 x hxb
  have ft := bent_full q1.1 h7 x hxt
  have sb := bent_sub B.bot B.bend x hxb
  have st := bent_sub B.top B.bend x hxt
  have ib := (getD_inR (fun s hs => (q2 s hs).1) hxb)
  have it := (getD_inR (fun s hs => (q3 s hs).1) hxt)
  unfold InR at ib it
  refine cerr_of h1 h2 h3 ?_ h5 (low_ok2 q1.1 h6 hxb) (high_ok2 q1.1 h7 hxt)
  show edgesOk B.bend (B.bot.set x _) (B.top.set x _) = true
  unfold edgesOk at h4 ⊢
  simp only [Bool.and_eq_true] at h4 ⊢
  obtain ⟨⟨⟨g1, g2⟩, g3⟩, g4⟩ := h4
  have hx4 : (B.bot.getD x (0, 0)).2 ≤ (B.top.getD x (0, 0)).1 := by
    unfold below2 at g4
    rw [List.all_eq_true] at g4
    have := g4 x (List.mem_range.2 hxb)
    simpa using this
  refine ⟨⟨⟨g1, ?_⟩, ?_⟩, ?_⟩
  · unfold validS at g2 ⊢
    rw [List.all_eq_true] at g2 ⊢
    intro s hs
    rcases List.mem_or_eq_of_mem_set hs with e | e
    · exact g2 s e
    · subst e
      simp only [Bool.and_eq_true, decide_eq_true_eq]
      omega
  · unfold validS at g3 ⊢
    rw [List.all_eq_true] at g3 ⊢
    intro s hs
    rcases List.mem_or_eq_of_mem_set hs with e | e
    · exact g3 s e
    · subst e
      simp only [Bool.and_eq_true, decide_eq_true_eq]
      omega
  · unfold below2 at g4 ⊢
    rw [List.all_eq_true] at g4 ⊢
    intro i hi
    rw [List.length_set] at hi
    have hi' := List.mem_range.1 hi
    have := g4 i hi
    rw [getD_set _ _ _ _ hi', getD_set _ _ _ _ (by omega : i < B.top.length)]
    split
    · simp only [decide_eq_true_eq]
      omega
    · exact this
theorem sound_worst (h : B.cerr = 0) (hb : B.bot.length = B.n) (ht : B.top.length = B.n') (hx : x < B.n) : (B.sound x ((bentL B.bot B.bend).getD x (0, 0)).1 ((bentL B.top B.bend).getD x (0, 0)).2).worst s = B.soundX s x := by
  obtain ⟨h1, h2, h3, h4, h5, h6, h7⟩ := cerr_parts h
  obtain ⟨q1, q2, q3⟩ := edgesOk_in h4
  unfold Bl.soundX
  rw [setLow_eq q1.1 h6 (by omega), setHigh_eq q1.1 h7 (by omega)]
  rfl
end
end Go.Proofs.Ytiflhimmieflpaa

/- Walks: Fits, and the law ToothFits. -/
namespace Go.Proofs.Ytiflhimmieflpaa
open Go.RowKit Go.Maps

def S6 (B : Bl) (s : Sw) (g cap g' cap' q w0 : Nat) (x y : Int) (W : World) : Prop := W.cell? ⟨q, 0, none⟩ = some (.slice B.A B.n B.c) ∧ W.cell? ⟨q, 1, none⟩ = some (.slice B.A' B.n' B.c') ∧ W.cell? ⟨q, 2, none⟩ = some (.int .i64 B.bend) ∧ W.cell? ⟨q, 3, none⟩ = some (.slice B.K B.m B.d) ∧ W.cell? ⟨q, 4, none⟩ = some (.slice (some ⟨g, 0, none⟩) B.n cap) ∧ W.cell? ⟨q, 5, none⟩ = some (.slice (some ⟨g', 0, none⟩) B.n cap') ∧ W.cell? ⟨w0 + 1, 0, none⟩ = some (.int .i64 s.long) ∧ W.cell? ⟨w0 + 1, 1, none⟩ = some (.int .i64 s.wide) ∧ W.cell? ⟨w0 + 1, 2, none⟩ = some (.int .i64 s.kerf) ∧ W.cell? ⟨w0 + 1, 3, none⟩ = some (.int .i64 s.across) ∧ W.cell? ⟨w0 + 1 + 1, 0, none⟩ = some (.int .i64 x) ∧ W.cell? ⟨w0 + 1 + 1, 1, none⟩ = some (.int .i64 y)
def FitsRes (w : World) (B : Bl) (s : Sw) (x y : Int) (e : Ending) (w' : World) : Prop :=
  Below w.heap.size w w' ∧ ((B.err s ≠ 0 ∧ e = .returned (.tuple #[.bool false, .bool false, .int .i64 (B.err s)])) ∨
    (B.err s = 0 ∧ holdsB B.n s.long [(x, y)] = false ∧ e = .returned (.tuple #[.bool false, .bool false, .int .i64 2])) ∨
    (B.err s = 0 ∧ holdsB B.n s.long [(x, y)] = true ∧ e = .returned (.tuple #[.bool (soundS (B.worst s) x.toNat y), .bool (possB B s x.toNat y), .int .i64 0])))
theorem holds_xy {n : Nat} {long x y : Int} (h : holdsB n long [(x, y)] = true) : (0 ≤ x ∧ x + long ≤ n) ∧ 0 ≤ y ∧ y ≤ 300 := by
  simp only [holdsB, noneOf, placeOk, within, List.all_cons, List.all_nil, Bool.and_true, Bool.not_not, Bool.and_eq_true, decide_eq_true_eq] at h
  omega

set_option maxRecDepth 100000 in
set_option maxHeartbeats 4000000 in
theorem Fits_any (B : Bl) (s : Sw) (x y : Int) (w : World) (h : B.At w) : Calls Try.prog 26 #[B.val, s.val, .agg #[.int .i64 x, .int .i64 y]] w (FitsRes w B s x y) := by
  have E0 : Hid (Below w.heap.size w (((w.alloc (.cells #[.slice B.A B.n B.c, .slice B.A' B.n' B.c', .int .i64 B.bend, .slice B.K B.m B.d] 25)).alloc (.cells #[.int .i64 s.long, .int .i64 s.wide, .int .i64 s.kerf, .int .i64 s.across] 37)).alloc (.cells #[.int .i64 x, .int .i64 y] 39))) := below_alloc' (below_alloc' (below_self _ _) _) _
  have S0 := Lib.hid ((Blk.new (w.alloc (.cells #[.slice B.A B.n B.c, .slice B.A' B.n' B.c', .int .i64 B.bend, .slice B.K B.m B.d] 25)) 37 #[.int .i64 s.long, .int .i64 s.wide, .int .i64 s.kerf, .int .i64 s.across] (g := w.heap.size + 1) (by simp)).alloc (.cells #[.int .i64 x, .int .i64 y] 39))
  have Q0 := Lib.hid (Blk.new ((w.alloc (.cells #[.slice B.A B.n B.c, .slice B.A' B.n' B.c', .int .i64 B.bend, .slice B.K B.m B.d] 25)).alloc (.cells #[.int .i64 s.long, .int .i64 s.wide, .int .i64 s.kerf, .int .i64 s.across] 37)) 39 #[.int .i64 x, .int .i64 y] (g := w.heap.size + 1 + 1) (by simp))
  have HC := Lib.hid (ready_top B s _ (h.below E0.out))
  have HK := Lib.hid h
  clear h
  unfold Bl.val Sw.val at *
  go_enter Try.func26, Try.ntmps26
  go_wp2_with fail
  refine HC.out.mono ?_
  rintro e w2 ⟨hb2, ⟨herr, rfl⟩ | ⟨hok, g, cap, g', cap', rfl, P, P', hgg⟩⟩
  · have B2 := Lib.hid (below_then E0.out hb2)
    have Herr := Lib.hid herr
    have hz : (B.err s == 0) = false := by simpa using herr
    have hz2 : (B.err s != 0) = true := by simpa using herr
    clear hb2 herr HC
    unfold zeroCurved
    go_wp2
    go_ret3
    exact ⟨below_alloc' B2.out _, .inl ⟨Herr.out, rfl⟩⟩
  · have B2 := Lib.hid (below_then E0.out hb2)
    have S2 := Lib.hid (blk_keep hb2 S0.out)
    have Q2 := Lib.hid (blk_keep hb2 Q0.out)
    have Hok := Lib.hid (err_ok hok)
    have hP := Lib.hid P
    have hP' := Lib.hid P'
    have s2 := (S2.out.alloc (.cells #[.slice B.A B.n B.c, .slice B.A' B.n' B.c', .int .i64 B.bend, .slice B.K B.m B.d, .slice (some ⟨g, 0, none⟩) B.n cap, .slice (some ⟨g', 0, none⟩) B.n cap'] 106)).cell
    have q2 := (Q2.out.alloc (.cells #[.slice B.A B.n B.c, .slice B.A' B.n' B.c', .int .i64 B.bend, .slice B.K B.m B.d, .slice (some ⟨g, 0, none⟩) B.n cap, .slice (some ⟨g', 0, none⟩) B.n cap'] 106)).cell
    have hg1 : g < w2.heap.size := by obtain ⟨b, o, e, hb, _⟩ := P.2 (by have := Hok.out.2.1.n1; omega); cases e; exact hb
    have hg2 : g' < w2.heap.size := by obtain ⟨b, o, e, hb, _⟩ := P'.2 (by have := Hok.out.2.1.n1; omega); cases e; exact hb
    have HG := Lib.hid (And.intro hg1 hg2)
    have Hok0 := Lib.hid hok
    have E3 := Lib.hid ((below_self w2 (.cells #[.slice B.A B.n B.c, .slice B.A' B.n' B.c', .int .i64 B.bend, .slice B.K B.m B.d, .slice (some ⟨g, 0, none⟩) B.n cap, .slice (some ⟨g', 0, none⟩) B.n cap'] 106)).alloc (by simp) (.cells #[.int .i64 x, .int .i64 y] 39))
    have C3 := Lib.hid ((Blk.new w2 106 #[.slice B.A B.n B.c, .slice B.A' B.n' B.c', .int .i64 B.bend, .slice B.K B.m B.d, .slice (some ⟨g, 0, none⟩) B.n cap, .slice (some ⟨g', 0, none⟩) B.n cap'] (g := w2.heap.size) rfl).alloc (.cells #[.int .i64 x, .int .i64 y] 39))
    have S3 := Lib.hid ((S2.out.alloc (.cells #[.slice B.A B.n B.c, .slice B.A' B.n' B.c', .int .i64 B.bend, .slice B.K B.m B.d, .slice (some ⟨g, 0, none⟩) B.n cap, .slice (some ⟨g', 0, none⟩) B.n cap'] 106)).alloc (.cells #[.int .i64 x, .int .i64 y] 39))
    have Q3 := Lib.hid ((Q2.out.alloc (.cells #[.slice B.A B.n B.c, .slice B.A' B.n' B.c', .int .i64 B.bend, .slice B.K B.m B.d, .slice (some ⟨g, 0, none⟩) B.n cap, .slice (some ⟨g', 0, none⟩) B.n cap'] 106)).alloc (.cells #[.int .i64 x, .int .i64 y] 39))
    have HH := Lib.hid (holds_any B s g cap g' cap' _ 1 1 [(x, y)] _ Hok.out.2.1 Hok.out.2.2 (pairs_new1 (w2.alloc (.cells #[.slice B.A B.n B.c, .slice B.A' B.n' B.c', .int .i64 B.bend, .slice B.K B.m B.d, .slice (some ⟨g, 0, none⟩) B.n cap, .slice (some ⟨g', 0, none⟩) B.n cap'] 106)) x y 39 (g := w2.heap.size + 1) (by simp)) (by decide))
    clear hb2 hok P P' HC hgg hg1 hg2
    unfold Bl.curved Sw.val at HH
    unfold Bl.curved
    go_wp2_with fail
    refine HH.out.mono ?_
    rintro e w3 ⟨rfl, hb3⟩
    have G3 := Lib.hid (E3.out.trans (hb3.mono E3.out.size))
    have B3 := Lib.hid (below_then B2.out G3.out)
    have C3' := Lib.hid (blk_keep hb3 C3.out)
    have S3' := Lib.hid (blk_keep hb3 S3.out)
    have Q3' := Lib.hid (blk_keep hb3 Q3.out)
    clear hb3 HH E3 C3 S3 Q3 s2 q2
    cases hx : holdsB B.n s.long [(x, y)]
    · have Hx := Lib.hid hx
      clear hx
      go_wp2
      go_ret3
      exact ⟨B3.out, .inr (.inl ⟨Hok0.out, Hx.out, rfl⟩)⟩
    · have Hx := Lib.hid hx
      obtain ⟨k, rfl⟩ := Int.eq_ofNat_of_zero_le (holds_xy hx).1.1
      have HXL := Lib.hid (holds_xy hx).1.2
      have HYY := Lib.hid (holds_xy hx).2
      clear hx
      have HWT := Lib.hid (fun W (hb : Below w3.heap.size w3 W) => worst_top B s g cap g' cap' W Hok.out.2.1 (hP.out.below (below_then G3.out hb)) (hP'.out.below (below_then G3.out hb)) (HK.out.below (below_then B3.out hb)).hk)
      have HPO := Lib.hid (fun W (hb : Below w3.heap.size w3 W) => possibly_any B s g cap g' cap' k y W Hok.out.2.1 Hok.out.2.2 (err_cracks Hok.out.1) (hP.out.below (below_then G3.out hb)) (hP'.out.below (below_then G3.out hb)) (HK.out.below (below_then B3.out hb)).hk HXL.out HYY.out.1 HYY.out.2 (Nat.lt_of_lt_of_le HG.out.1 (below_then G3.out hb).size) (Nat.lt_of_lt_of_le HG.out.2 (below_then G3.out hb).size))
      have HSS : Hid (∀ V, Below w3.heap.size w3 V → S6 B s g cap g' cap' w2.heap.size w.heap.size k y V) := fun V hV => by
        have c := blk_keep hV C3'.out
        have u := blk_keep hV S3'.out
        have v := blk_keep hV Q3'.out
        exact ⟨c.cell 0, c.cell 1, c.cell 2, c.cell 3, c.cell 4, c.cell 5, u.cell 0, u.cell 1, u.cell 2, u.cell 3, v.cell 0, v.cell 1⟩
      have D0 : Hid (Below w3.heap.size w3 w3.drew) := (Below.refl _ _).drew
      unfold Bl.curved Sw.val at HWT HPO
      clear S0 Q0 S2 Q2 C3' S3' Q3'
      go_upto_region 6 with (fail)
      refine wp_region_held_drew (S := S6 B s g cap g' cap' w2.heap.size w.heap.size k y) (by kernel_rfl) (HSS.out _ D0.out) (fun _ => ?_)
      generalize w3.drew = wd at *
      refine heldTake (i := 0) 25 (v := ?v1) rfl (by kernel_rfl) (by kernel_rfl) (by kernel_rfl) (by kernel_rfl) (fun _ _ _ h => h) (Or.inl ⟨by rfl, ?y1⟩) (by assumption) ?r1
      case y1 => (intro w hSw; obtain ⟨g0, g1, g2, g3, g4, g5, g6, g7, g8, g9, g10, g11⟩ := hSw; go_simp; try with_reducible rfl)
      refine heldTake (i := 1) 26 (v := ?v2) rfl (by kernel_rfl) (by kernel_rfl) (by kernel_rfl) (by kernel_rfl) (fun _ _ _ h => h) (Or.inl ⟨by rfl, ?y2⟩) (by assumption) ?r2
      case y2 => (intro w hSw; obtain ⟨g0, g1, g2, g3, g4, g5, g6, g7, g8, g9, g10, g11⟩ := hSw; go_simp; try with_reducible rfl)
      refine heldTake (i := 3) 28 (v := ?v3) rfl (by kernel_rfl) (by kernel_rfl) (by kernel_rfl) (by kernel_rfl) (fun _ _ _ h => h) (Or.inl ⟨by rfl, ?y3⟩) (by assumption) ?r3
      case y3 => (intro w hSw; obtain ⟨g0, g1, g2, g3, g4, g5, g6, g7, g8, g9, g10, g11⟩ := hSw; go_simp; try with_reducible rfl)
      refine heldTake (i := 5) 30 (v := ?v4) rfl (by kernel_rfl) (by kernel_rfl) (by kernel_rfl) (by kernel_rfl) (fun _ _ _ h => h) (Or.inl ⟨by rfl, ?y4⟩) (by assumption) ?r4
      case y4 => (intro w hSw; obtain ⟨g0, g1, g2, g3, g4, g5, g6, g7, g8, g9, g10, g11⟩ := hSw; go_simp; try with_reducible rfl)
      refine heldTake (i := 6) 31 (v := ?v5) rfl (by kernel_rfl) (by kernel_rfl) (by kernel_rfl) (by kernel_rfl) (fun _ _ _ h => h) (Or.inl ⟨by rfl, ?y5⟩) (by assumption) ?r5
      case y5 => (intro w hSw; obtain ⟨g0, g1, g2, g3, g4, g5, g6, g7, g8, g9, g10, g11⟩ := hSw; go_simp; try with_reducible rfl)
      refine heldTake (i := 7) 32 (v := ?v6) rfl (by kernel_rfl) (by kernel_rfl) (by kernel_rfl) (by kernel_rfl) (fun _ _ _ h => h) (Or.inl ⟨by rfl, ?y6⟩) (by assumption) ?r6
      case y6 => (intro w hSw; obtain ⟨g0, g1, g2, g3, g4, g5, g6, g7, g8, g9, g10, g11⟩ := hSw; go_simp; try with_reducible rfl)
      simp only [Act.put, List.setIfInBounds_toArray, List.set_cons_zero, List.set_cons_succ]
      refine wpAnyH_ready (rs := [2]) (by kernel_rfl) (by simp) ?_
      refine AllReadyH.cons rfl (fun K0_1 hK0_1 => ?_) AllReadyH.nil
      go_simp
      refine (HWT.out _ D0.out).mono ?_
      rintro e V1 ⟨hb1, b, o, b', o', c, c', K, d, rfl, hs, hc, hc', hm⟩
      have E1 := Lib.hid (below_then D0.out hb1)
      have HSO := Lib.hid (fun V (hV : Below V1.heap.size V1 V) => sound_any (B.worst s) b o b' o' B.n c c' K B.m d k y V (hs.below hV) hc hc' hm (worst_bounds Hok.out.2.1 Hok.out.2.2) HXL.out Hok.out.2.1.n2 Hok.out.2.1.m4 HYY.out.1 HYY.out.2)
      clear hs hc hc' hm
      clear hb1
      refine hK0_1.out _ _ (HSS.out _ E1.out) (fun _ => ?_)
      refine wpAnyH_ready (rs := [4]) (by kernel_rfl) (by simp) ?_
      refine AllReadyH.cons rfl (fun K1_2 hK1_2 => ?_) AllReadyH.nil
      go_simp
      refine (HSO.out _ (Below.refl _ _)).mono ?_
      rintro e V2 ⟨rfl, hb2⟩
      have E2 := Lib.hid (below_then E1.out hb2)
      clear hb2
      refine hK1_2.out _ _ (HSS.out _ E2.out) (fun _ => ?_)
      refine wpAnyH_ready (rs := [8]) (by kernel_rfl) (by simp) ?_
      refine AllReadyH.cons rfl (fun K2_3 hK2_3 => ?_) AllReadyH.nil
      go_simp
      refine (HPO.out _ E2.out).mono ?_
      rintro e V3 ⟨rfl, hb3⟩
      have E3 := Lib.hid (below_then E2.out hb3)
      have S3 := Lib.hid hb3
      clear hb3
      refine hK2_3.out _ _ (HSS.out _ E3.out) (fun _ => ?_)
      refine heldTake (i := 9) 6 (v := ?v7) rfl (by kernel_rfl) (by kernel_rfl) (by kernel_rfl) (by kernel_rfl) (fun _ _ _ h => h) (Or.inl ⟨by rfl, ?y7⟩) (by assumption) ?r7
      case y7 => (intro w hSw; obtain ⟨g0, g1, g2, g3, g4, g5, g6, g7, g8, g9, g10, g11⟩ := hSw; go_simp; try with_reducible rfl)
      refine heldTake (i := 10) 7 (v := ?v8) rfl (by kernel_rfl) (by kernel_rfl) (by kernel_rfl) (by kernel_rfl) (fun _ _ _ h => h) (Or.inl ⟨by rfl, ?y8⟩) (by assumption) ?r8
      case y8 => (intro w hSw; obtain ⟨g0, g1, g2, g3, g4, g5, g6, g7, g8, g9, g10, g11⟩ := hSw; go_simp; try with_reducible rfl)
      refine heldTake (i := 11) 8 (v := ?v9) rfl (by kernel_rfl) (by kernel_rfl) (by kernel_rfl) (by kernel_rfl) (fun _ _ _ h => h) (Or.inl ⟨by rfl, ?y9⟩) (by assumption) ?r9
      case y9 => (intro w hSw; obtain ⟨g0, g1, g2, g3, g4, g5, g6, g7, g8, g9, g10, g11⟩ := hSw; go_simp; try with_reducible rfl)
      refine wpAnyH_done (by kernel_rfl) ?_ _
      go_wp2_with fail
      go_ret3
      exact ⟨below_then B3.out E3.out, .inr (.inr ⟨Hok0.out, Hx.out, rfl⟩)⟩
end Go.Proofs.Ytiflhimmieflpaa

/- Walks: Fits and Fault of one stick of a valid blade. -/
namespace Go.Proofs.Ytiflhimmieflpaa
open Go.RowKit Go.Maps

theorem holds_one {n : Nat} {long : Int} {z y : Nat} (hz : (z : Int) + long ≤ n) (hy : y ≤ 300) : holdsB n long [((z : Int), (y : Int))] = true := by
  simp only [holdsB, noneOf, placeOk, within, List.all_cons, List.all_nil, Bool.and_true, Bool.not_not, Bool.and_eq_true, decide_eq_true_eq]
  omega
theorem fits_like {B B' : Bl} (hl : B.Like B') (s : Sw) (z y : Nat) (w : World) (h : B'.At w) (hc : B.cerr = 0) (hs : s.Ok) (hz : (z : Int) + s.long ≤ B.n) (hy : y ≤ 300) : Calls Try.prog 26 #[B'.val, s.val, .agg #[.int .i64 z, .int .i64 y]] w fun e w' => e = .returned (.tuple #[.bool (soundS (B.worst s) z y), .bool (possB B s z y), .int .i64 0]) ∧ Below w.heap.size w w' := by
  refine (Fits_any B' s z y w h).mono ?_
  rintro e w' ⟨hb, ⟨he, _⟩ | ⟨_, hh, _⟩ | ⟨_, _, rfl⟩⟩
  · exact absurd (saw_err (by rw [hl.cerr]; exact hc) hs) he
  · rw [holds_one (by rw [hl.n]; exact hz) hy] at hh
    exact absurd hh (by decide)
  · refine ⟨?_, hb⟩
    rw [hl.worst, hl.possB, Int.toNat_natCast]
theorem wrong_one (S : Sawing) (z y : Nat) : wrongS S [((z : Int), (y : Int))] 0 = !soundS S z y := by
  unfold wrongS
  simp
theorem fault_one {B B' : Bl} (hl : B.Like B') (s : Sw) (z y : Nat) (A : Option Addr) (cp : Nat) (w : World) (h : B'.At w) (hp : Pairs w A 1 [((z : Int), (y : Int))]) (h1 : 1 ≤ cp) (hc : B.cerr = 0) (hs : s.Ok) (hz : (z : Int) + s.long ≤ B.n) (hy : y ≤ 300) : Calls Try.prog 38 #[B'.val, s.val, .slice A 1 cp] w fun e w' => e = .returned (.tuple #[.int .i64 0, .int .i64 (if soundS (B.worst s) z y = true then 7 else 0)]) ∧ Below w.heap.size w w' := by
  refine (Fault_any B' s A 1 cp _ w h hp (by unfold maxLen; omega) h1).mono fun e w' hr => ?_
  obtain ⟨hb, h2 | h2 | h2 | ⟨_, _, _, ⟨k, hk, hq, _, he⟩ | ⟨hq, he⟩⟩⟩ := hr
  · exact absurd (saw_err (by rw [hl.cerr]; exact hc) hs) h2.1
  · omega
  · have hh := h2.2.2.1
    rw [holds_one (by rw [hl.n]; exact hz) hy] at hh
    exact absurd hh (by decide)
  · obtain rfl : k = 0 := by omega
    rw [wrong_one, hl.worst] at hq
    have hq' : soundS (B.worst s) z y = false := by simpa using hq
    rw [if_neg (by rw [hq']; decide)]
    exact ⟨he, hb⟩
  · have hq := hq 0 (by omega)
    rw [wrong_one, hl.worst] at hq
    have hq' : soundS (B.worst s) z y = true := by simpa using hq
    rw [if_pos hq']
    exact ⟨he, hb⟩
end Go.Proofs.Ytiflhimmieflpaa

/- Pure facts: narrower sticks, thinner saws, fewer cracks: no fewer sticks; what is surely sound of a layout is no more than Most. -/
namespace Go.Proofs.Ytiflhimmieflpaa
open Go.RowKit Go.Maps

section
variable {B B' : Bl} {s s' : Sw}
/-- Where each stick of one saw and blade is one of another, there are no more of them. -/
theorem count_over (hok : B.Ok) (hs : s.Ok) (hc : B.cerr = 0) (hb : B.bot.length = B.n) (ht : B.top.length = B.n') (hok' : B'.Ok) (hs' : s'.Ok) (hc' : B'.cerr = 0) (hb' : B'.bot.length = B'.n) (ht' : B'.top.length = B'.n')
    (hn : B'.n = B.n) (hl : s'.long = s.long) (ha : s'.across = s.across) (hst : s'.wide + s'.kerf ≤ s.wide + s.kerf)
    (h : ∀ z y : Nat, (z : Int) + s.long ≤ B.n → soundS (B.worst s) z y = true → soundS (B'.worst s') z y = true) : countL (B.worst s) B.n ≤ countL (B'.worst s') B'.n := by
  obtain ⟨hpw, hpm⟩ := layout_places hok hs hc hb ht
  have e := layout_len hok hs hc hb ht
  have q := layout_short hok' hs' hc' hb' ht' B'.n 0 (layoutL (B.worst s) B.n) (Nat.sub_le _ _) (hpw.imp fun {a b} hab => by
    unfold Behind at hab ⊢
    rw [hl, ha]
    omega) (fun p hp => by
    obtain ⟨z, e1, e2, e3, e4, e5⟩ := hpm p hp
    obtain ⟨y, hy⟩ := Int.eq_ofNat_of_zero_le e3
    rw [hy] at e4 e5
    refine ⟨z, y, Prod.ext e1 hy, Nat.zero_le _, by rw [hl, hn]; exact e2, by omega, h z y e2 e5⟩)
  have e2 : aheadAt (B'.worst s') B'.n B'.n 0 = countL (B'.worst s') B'.n := rfl
  omega
theorem sound_narrow (hl : s'.long = s.long) (hw : s'.wide ≤ s.wide) {z y : Nat} (h : soundS (B.worst s) z y = true) : soundS (B.worst s') z y = true := by
  unfold soundS at h ⊢
  simp only [Bool.and_eq_true, decide_eq_true_eq] at h ⊢
  obtain ⟨⟨h1, h2⟩, h3⟩ := h
  have er : roomL (B.worst s') z = roomL (B.worst s) z := by
    unfold roomL
    rw [show (B.worst s').long = (B.worst s).long from hl]
    rfl
  rw [er]
  have w1 : (B.worst s').wide = s'.wide := rfl
  have w2 : (B.worst s).wide = s.wide := rfl
  rw [w2] at h2
  rw [w1]
  refine ⟨⟨h1, by omega⟩, ?_⟩
  have q1 : (B.worst s').splits = (B.worst s).splits := rfl
  rw [q1]
  unfold noneOf at h3 ⊢
  rw [List.all_eq_true] at h3 ⊢
  intro k hk
  have a := h3 k hk
  have l1 : (B.worst s').long = s'.long := rfl
  have l2 : (B.worst s).long = s.long := rfl
  unfold spoilB at a ⊢
  rw [w2, l2] at a
  rw [w1, l1]
  simp only [Bool.not_eq_true', Bool.and_eq_false_iff, decide_eq_false_iff_not] at a ⊢
  omega
/-- With a narrower stick and a thinner saw there are no fewer. -/
theorem count_thinner (hok : B.Ok) (hs : s.Ok) (hs' : s'.Ok) (hc : B.cerr = 0) (hb : B.bot.length = B.n) (ht : B.top.length = B.n') (hl : s'.long = s.long) (ha : s'.across = s.across) (hw : s'.wide ≤ s.wide) (hk : s'.kerf ≤ s.kerf) : countL (B.worst s) B.n ≤ countL (B.worst s') B.n :=
  count_over hok hs hc hb ht hok hs' hc hb ht rfl hl ha (by omega) fun _ _ _ h => sound_narrow hl hw h
theorem sound_less {k : Nat} {z y : Nat} (h : soundS (B.worst s) z y = true) : soundS (B.worstX s k) z y = true := by
  unfold soundS at h ⊢
  simp only [Bool.and_eq_true, decide_eq_true_eq] at h ⊢
  obtain ⟨⟨h1, h2⟩, h3⟩ := h
  refine ⟨⟨h1, h2⟩, ?_⟩
  unfold noneOf at h3 ⊢
  rw [List.all_eq_true] at h3 ⊢
  intro k2 hk2
  obtain ⟨c, hc, rfl⟩ := List.mem_map.1 hk2
  exact h3 _ (List.mem_map.2 ⟨c, List.mem_of_mem_eraseIdx hc, rfl⟩)
/-- Without a crack there are no fewer. -/
theorem cost_pos (hok : B.Ok) (hs : s.Ok) (hc : B.cerr = 0) (hb : B.bot.length = B.n) (ht : B.top.length = B.n') (k : Nat) : 0 ≤ costAt B s k := by
  have hc' := less_cerr hc k
  have q := count_over (B' := B.less k 0 0) (s' := s) hok hs hc hb ht (curveErr_ok hc') hs hc' hb ht rfl rfl rfl (Int.le_refl _) fun _ _ _ h => sound_less h
  have e : countL ((B.less k 0 0).worst s) (B.less k 0 0).n = countL (B.worstX s k) B.n := rfl
  unfold costAt
  omega
/-- Those of a layout that are surely sound are no more than Most. -/
theorem sure_short (hok : B.Ok) (hs : s.Ok) (hc : B.cerr = 0) (hb : B.bot.length = B.n) (ht : B.top.length = B.n') {sd : Nat → Nat → Bool} {ps : List (Int × Int)} (h : Sawn B.n sd s.long (s.wide + s.kerf) (s.long + s.across) ps) (j : Nat) : ((((ps.take j).filter fun p => soundS (B.worst s) p.1.toNat p.2).length : Nat) : Int) ≤ countL (B.worst s) B.n := by
  refine layout_short hok hs hc hb ht B.n 0 _ (Nat.sub_le _ _) ((h.pw.take).filter _) fun p hp => ?_
  obtain ⟨h1, h2⟩ := List.mem_filter.1 hp
  obtain ⟨z, y, rfl, h3, h4, h5⟩ := h.mem p (List.mem_of_mem_take h1)
  refine ⟨z, y, rfl, Nat.zero_le _, h3, h4, ?_⟩
  simpa using h2
end
end Go.Proofs.Ytiflhimmieflpaa

/- Walks: Costs and Widest of a valid blade; a blade without its last crack. -/
namespace Go.Proofs.Ytiflhimmieflpaa
open Go.RowKit Go.Maps

theorem Bl.Like.costsN {B B' : Bl} (h : B.Like B') (s : Sw) : costsL B' s = costsL B s := by
  obtain ⟨A, A', K, n, c, n', c', m, d, bend, bot, top, cr⟩ := B
  obtain ⟨E, E', F, k1, c2, k2, c3, k3, d2, bd, b2, t2, r2⟩ := B'
  obtain ⟨g1, g2, g3, g4, g5, g6, g7⟩ := h
  dsimp only at g1 g2 g3 g4 g5 g6 g7
  subst g1 g2 g3 g4 g5 g6 g7
  rfl
theorem costs_like {B B' : Bl} (hl : B.Like B') (s : Sw) (w : World) (h : B'.At w) (hc : B.cerr = 0) (hs : s.Ok) : Calls Try.prog 44 #[B'.val, s.val] w fun e w' => ∃ A c, e = .returned (.tuple #[.slice A B.m c, .int .i64 0]) ∧ Ints w' A B.m (costsL B s) ∧ Below w.heap.size w w' := by
  refine (Costs_any B' s w h).mono ?_
  rintro e w' ⟨hb, ⟨he, _⟩ | ⟨_, v, rfl, hown⟩⟩
  · exact absurd (saw_err (by rw [hl.cerr]; exact hc) hs) he
  · rw [hl.m, hl.costsN] at hown
    obtain ⟨A, c, rfl⟩ := own_slice hown
    exact ⟨A, c, rfl, (reads_of_own hown).r, hb⟩
theorem widest_like {B B' : Bl} (hl : B.Like B') (s : Sw) (x : Int) (w : World) (h : B'.At w) (hc : B.cerr = 0) (hs : s.Ok) (h1 : 1 ≤ x) (h2 : x ≤ 400) : Calls Try.prog 48 #[B'.val, s.val, .int .i64 x] w fun e w' => e = .returned (.tuple #[.int .i64 (widestL B s x), .int .i64 (if widestL B s x = 0 then 7 else 0)]) ∧ Below w.heap.size w w' := by
  refine (Widest_any B' s x w h).mono ?_
  rintro e w' ⟨hb, ⟨he, _⟩ | ⟨_, he, _⟩ | ⟨_, _, e0, rfl⟩ | ⟨_, _, e0, rfl⟩⟩
  · exact absurd (saw_err (by rw [hl.cerr]; exact hc) hs) he
  · have hin : within 1 400 [x] = true := by
      simp only [within, List.all_cons, List.all_nil, Bool.and_true, Bool.and_eq_true, decide_eq_true_eq]
      omega
    rw [hin] at he
    exact absurd he (by decide)
  · rw [hl.widestL] at e0
    rw [if_pos e0, e0]
    exact ⟨rfl, hb⟩
  · rw [hl.widestL] at e0 ⊢
    rw [if_neg e0]
    exact ⟨rfl, hb⟩
/-- A blade with the first of its cracks only. -/
def Bl.cutTo (B : Bl) (q : Nat) : Bl := ⟨B.A, B.A', B.K, B.n, B.c, B.n', B.c', q, B.d, B.bend, B.bot, B.top, B.cr.take q⟩
theorem cut_at {B : Bl} {W : World} (h : B.At W) {q : Nat} (hq : q ≤ B.m) : (B.cutTo q).At W := by
  have hl := h.hk.len
  refine ⟨h.hb, h.ht, ⟨?_, fun h0 => ?_⟩, h.n1, h.n2, Nat.le_trans hq h.n3⟩
  · rw [flat6_length]
    show (B.cr.take q).length * 6 = q * 6
    rw [List.length_take, Nat.min_eq_left (by omega)]
  · obtain ⟨b, off, e, hb, hc⟩ := h.hk.2 (by have h0 : 0 < q := h0; omega)
    refine ⟨b, off, e, hb, fun j u hu => hc j u ?_⟩
    have e2 : flat6 B.cr = flat6 (B.cr.take q) ++ flat6 (B.cr.drop q) := by
      unfold flat6
      rw [← List.flatMap_append, List.take_append_drop]
    have hj : j < (flat6 (B.cr.take q)).length := (List.getElem?_eq_some_iff.1 hu).1
    rw [e2, List.getElem?_append_left hj]
    exact hu
theorem cut_like {B B3 : Bl} (hl : B.Like B3) {q : Nat} (hm : B.m = q + 1) (hcl : B.cr.length = B.m) : (B.less q 0 0).Like (B3.cutTo q) := by
  refine ⟨hl.n, hl.n', ?_, hl.bend, hl.bot, hl.top, ?_⟩
  · show q = B.m - 1
    omega
  · show B3.cr.take q = B.cr.eraseIdx q
    rw [hl.cr, List.eraseIdx_eq_take_drop_succ, List.drop_eq_nil_of_le (by omega), List.append_nil]
theorem less_len {B : Bl} {s : Sw} (hs : s.Ok) (hc : B.cerr = 0) (hb : B.bot.length = B.n) (ht : B.top.length = B.n') (q : Nat) : ((layoutL ((B.less q 0 0).worst s) (B.less q 0 0).n).length : Int) = countL (B.worst s) B.n + costAt B s q := by
  have hc' := less_cerr hc q
  have hok' : (B.less q 0 0).Ok := curveErr_ok hc'
  rw [layout_len hok' hs hc' hb ht]
  unfold costAt
  show countL (B.worstX s q) B.n = _
  omega
theorem less_bd {B : Bl} {s : Sw} (hs : s.Ok) (hc : B.cerr = 0) (hb : B.bot.length = B.n) (ht : B.top.length = B.n') (hn : B.n ≤ 30) (q : Nat) : ((layoutL ((B.less q 0 0).worst s) (B.less q 0 0).n).length : Int) ≤ 9060 := by
  have hc' := less_cerr hc q
  have hok' : (B.less q 0 0).Ok := curveErr_ok hc'
  rw [layout_len hok' hs hc' hb ht]
  exact (countL_in _ _ hn).2
theorem costs_at (B : Bl) (s : Sw) {q : Nat} (hq : q < B.m) : (costsL B s).getD q 0 = costAt B s q := by
  unfold costsL
  simp [List.getD, hq]
/-- How many of the first places of a layout are surely sound. -/
def sureTo (B : Bl) (s : Sw) (ps : List (Int × Int)) (j : Nat) : Nat := ((ps.take j).filter fun p => soundS (B.worst s) p.1.toNat p.2).length
theorem sureTo_succ (B : Bl) (s : Sw) (ps : List (Int × Int)) {j z y : Nat} (hj : j < ps.length) (e : ps.getD j (0, 0) = ((z : Int), (y : Int))) : sureTo B s ps (j + 1) = sureTo B s ps j + if soundS (B.worst s) z y = true then 1 else 0 := by
  have e2 : ps[j] = ((z : Int), (y : Int)) := by rw [← e]; simp [List.getD, hj]
  unfold sureTo
  rw [List.take_succ_eq_append_getElem hj, List.filter_append, List.length_append, e2]
  congr 1
  cases h : soundS (B.worst s) z y
  · rw [List.filter_cons_of_neg (by simp [h])]; rfl
  · rw [List.filter_cons_of_pos (by simp [h])]; rfl
theorem slim_put {W : World} {g : Nat} {t : TypeId} {a b c d x y : Value} (h : Blk W g t #[a, b, c, d]) : Blk ((W.setCell ⟨g, 1, none⟩ x).setCell ⟨g, 2, none⟩ y).drew g t #[a, x, y, d] := by
  have q := (h.set_ 1 x).set_ 2 y
  have q2 : Blk ((W.setCell ⟨g, 1, none⟩ x).setCell ⟨g, 2, none⟩ y) g t #[a, x, y, d] := by simpa using q
  exact q2
theorem slim_bel {w W : World} {g : Nat} {x y : Value} (h : Below g w W) : Below g w ((W.setCell ⟨g, 1, none⟩ x).setCell ⟨g, 2, none⟩ y).drew := ((h.setCell (p := ⟨g, 1, none⟩) (Nat.le_refl _) x).setCell (p := ⟨g, 2, none⟩) (Nat.le_refl _) y).drew
/-- A saw that is thinner by one, and a stick that is narrower. -/
def Sw.slim (s : Sw) : Sw := ⟨s.long, max 1 (s.wide - 1), max 0 (s.kerf - 1), s.across⟩
theorem Sw.Ok.slim {s : Sw} (h : s.Ok) : s.slim.Ok := by
  obtain ⟨h1, h2, h3, h4, h5, h6, h7, h8⟩ := h
  exact ⟨h1, h2, by show 1 ≤ max 1 (s.wide - 1); omega, by show max 1 (s.wide - 1) ≤ 300; omega, by show 0 ≤ max 0 (s.kerf - 1); omega, by show max 0 (s.kerf - 1) ≤ 50; omega, h7, h8⟩
theorem thin_len {B : Bl} {s : Sw} (hs : s.Ok) (hc : B.cerr = 0) (hb : B.bot.length = B.n) (ht : B.top.length = B.n') : countL (B.worst s) B.n ≤ ((layoutL (B.worst s.slim) B.n).length : Int) := by
  have hok : B.Ok := curveErr_ok hc
  have h1 := hs.w1
  have h2 := hs.k1
  rw [layout_len hok hs.slim hc hb ht]
  exact count_thinner hok hs hs.slim hc hb ht rfl rfl (by show max 1 (s.wide - 1) ≤ s.wide; omega) (by show max 0 (s.kerf - 1) ≤ s.kerf; omega)
/-- With the width that Widest names there are as many as were asked for, with one more there are not. -/
theorem widest_len {B : Bl} {s : Sw} (hs : s.Ok) (hc : B.cerr = 0) (hb : B.bot.length = B.n) (ht : B.top.length = B.n') (x : Int) {k : Nat} (h1 : 1 ≤ k) (h2 : k ≤ 300) (h3 : widestL B s x ≤ k) (h4 : k ≤ widestL B s x + 1) :
    (k = widestL B s x → x ≤ ((layoutL (B.worst (s.width k)) B.n).length : Int)) ∧ (k ≠ widestL B s x → ((layoutL (B.worst (s.width k)) B.n).length : Int) < x) := by
  have hok : B.Ok := curveErr_ok hc
  obtain ⟨-, p2, p3⟩ := widest_spec (B := B) (s := s) x hok hs hc hb ht
  rw [layout_len hok (hs.width (by omega) (by omega)) hc hb ht]
  exact ⟨fun e => p2 k h1 (by omega), fun e => p3 k (by omega) h2⟩
end Go.Proofs.Ytiflhimmieflpaa

/- Walks: the law ToothNoMore. -/
namespace Go.Proofs.Ytiflhimmieflpaa
open Go.RowKit Go.Maps

set_option maxRecDepth 100000 in
set_option maxHeartbeats 8000000 in
theorem ToothNoMore_any (T : Tk) (K1 : Option Addr) (bm bd : Nat) (xs : List Int) (mx : Int) (w : World) (h : T.At w) (hB : Hid (Reads w 1 K1 bm (xs.map (Value.int .u8)))) (hxb : Hid (∀ x ∈ xs, Byte x)) (hbm : Hid (bm ≤ maxLen)) (hmx : Hid (Byte mx)) : Calls Try.prog 14 #[T.val, .slice K1 bm bd, .int .u8 mx] w (Yes w) := by
  have B0 := Lib.hid (Blk.new w 83 #[.slice T.A T.n T.c, .int .u8 T.bend, .slice T.K T.m T.d, .int .u8 T.s0, .int .u8 T.s1, .int .u8 T.s2, .int .u8 T.s3] (g := w.heap.size) rfl)
  have b0 := B0.out.cell
  have D0 := Lib.hid (below_self w (.cells #[.slice T.A T.n T.c, .int .u8 T.bend, .slice T.K T.m T.d, .int .u8 T.s0, .int .u8 T.s1, .int .u8 T.s2, .int .u8 T.s3] 83))
  have HB := Lib.hid (tusk_blade T _ (h.below D0.out))
  have HBF := Lib.hid (fun A A' K ca ca' m cd (hm : m ≤ 3) => Tk.bf h.bc h.bk A A' K ca ca' m cd hm)
  have HKN := Lib.hid (fun W => known_any W)
  clear h
  unfold Tk.val at *
  go_enter Try.func14, Try.ntmps14
  go_wp2_with fail
  refine HB.out.mono ?_
  rintro e w1 ⟨A, A', K, K', ca, ca', cd, cd', m, g1, g2, c1, c2, rfl, hm, p1, p2, sp, q1, q2, o1, o2, hg, b1⟩
  obtain ⟨B, hB⟩ : ∃ B, B = T.blade A A' K ca ca' m cd := ⟨_, rfl⟩
  obtain ⟨s, hs⟩ : ∃ s : Sw, s = ⟨1 + T.s0 % 4, 8 + T.s1 % 40, T.s2 % 6, T.s3 % 3⟩ := ⟨_, rfl⟩
  have k0 : 1 + T.s0 % 4 = s.long := by rw [hs]
  have k1 : 8 + T.s1 % 40 = s.wide := by rw [hs]
  have k2 : T.s2 % 6 = s.kerf := by rw [hs]
  have k3 : T.s3 % 3 = s.across := by rw [hs]
  have HSO : Hid s.Ok := ⟨by omega, by omega, by omega, by omega, by omega, by omega, by omega, by omega⟩
  have HW8 : Hid (8 ≤ s.wide) := by show (8 : Int) ≤ s.wide; omega
  have HMM : Hid (m = B.m) := by rw [hB]; rfl
  have hn : T.len = B.n := by rw [hB]; rfl
  have HF : Hid (BF B T.low T.high) := by rw [hB]; exact HBF.out A A' K ca ca' m cd (by omega)
  have hn10 := HF.out.n10
  have hm3 := HF.out.m3
  have HAT : Hid (B.At w1) := by
    have e1 : B.n ≤ maxLen := by unfold maxLen; omega
    have e2 : B.m ≤ maxLen := by unfold maxLen; omega
    rw [hB] at e1 e2 ⊢
    exact ⟨(reads_of_own p1).r, (reads_of_own p2).r, (reads_of_own q1).r, e1, e1, e2⟩
  have I1 : Hid (Ints w1 (some ⟨g1, 0, none⟩) B.n ((List.range B.n).map T.low)) := by rw [← hn]; exact (reads_of_own o1).r
  have HRK : Hid (∀ W, Below w1.heap.size w1 W → Reads W 3 K' B.m (flat3 ((List.range m).map fun i => T.realL i T.len))) := fun W hb => by rw [hB]; exact (reads_of_own q2).r.below hb
  have HRO : Hid (RealOf B.cr ((List.range m).map fun i => T.realL i T.len)) := by
    have q := HF.out.ck
    rw [hB] at q ⊢
    exact real_of q
  have I2 : Hid (Ints w1 (some ⟨g2, 0, none⟩) B.n ((List.range B.n).map T.high)) := by rw [← hn]; exact (reads_of_own o2).r
  have D1 := Lib.hid (below_then D0.out b1)
  rw [← hB, hn, k0, k1, k2, k3]
  generalize ((List.range m).map fun i => T.realL i T.len) = ck at *
  generalize T.low = L at *
  generalize T.high = H at *
  clear p1 p2 sp q1 q2 o1 o2 hg b1 hB hs k0 k1 k2 k3 hn hm hn10 hm3 HB HBF b0 B0 D0
  have E3 : Hid (Below w1.heap.size w1 (((w1.alloc (.cells #[.slice B.A B.n B.c, .slice B.A' B.n' B.c', .int .i64 B.bend, .slice B.K B.m B.d] 25)).alloc (.cells #[.int .i64 s.long, .int .i64 s.wide, .int .i64 s.kerf, .int .i64 s.across] 37)).alloc (.cells #[.slice (some ⟨g1, 0, none⟩) B.n c1, .slice (some ⟨g2, 0, none⟩) B.n c2, .slice K' m cd'] 86))) := below_alloc' (below_alloc' (below_self _ _) _) _
  have C3 : Hid (CV w B L H w1.heap.size g1 c1 g2 c2 (.slice K' m cd') #[.int .i64 s.long, .int .i64 s.wide, .int .i64 s.kerf, .int .i64 s.across] (((w1.alloc (.cells #[.slice B.A B.n B.c, .slice B.A' B.n' B.c', .int .i64 B.bend, .slice B.K B.m B.d] 25)).alloc (.cells #[.int .i64 s.long, .int .i64 s.wide, .int .i64 s.kerf, .int .i64 s.across] 37)).alloc (.cells #[.slice (some ⟨g1, 0, none⟩) B.n c1, .slice (some ⟨g2, 0, none⟩) B.n c2, .slice K' m cd'] 86))) :=
    ⟨((Blk.new _ _ _ rfl).alloc _).alloc _, (Blk.new _ _ _ (by simp)).alloc _, Blk.new _ _ _ (by simp), HAT.out.below E3.out, I1.out.below E3.out, I2.out.below E3.out, below_then D1.out E3.out⟩
  have HR3 := Lib.hid (HRK.out _ E3.out)
  clear HAT I1 I2 D1 E3
  unfold Bl.val
  go_upto_region 2 with (fail)
  generalize (((w1.alloc (.cells #[.slice B.A B.n B.c, .slice B.A' B.n' B.c', .int .i64 B.bend, .slice B.K B.m B.d] 25)).alloc (.cells #[.int .i64 s.long, .int .i64 s.wide, .int .i64 s.kerf, .int .i64 s.across] 37)).alloc (.cells #[.slice (some ⟨g1, 0, none⟩) B.n c1, .slice (some ⟨g2, 0, none⟩) B.n c2, .slice K' m cd'] 86)) = w3 at *
  generalize w1.heap.size = gb at *
  have hm3 := HF.out.m3
  have hn10 := HF.out.n10
  have hmm := HMM.out
  have hct := HF.out.ok
  have hok : B.Ok := curveErr_ok hct
  have hbl := HF.out.lb
  have htl : B.top.length = B.n' := by rw [HF.out.lt, HF.out.nn]
  have hcl : B.cr.length = B.m := C3.out.at_.hk.len
  have HSW := Lib.hid (fun W (hc : CV w B L H gb g1 c1 g2 c2 (.slice K' m cd') #[.int .i64 s.long, .int .i64 s.wide, .int .i64 s.kerf, .int .i64 s.across] W) (hr : Reads W 3 K' m (flat3 ck)) => sawn_any (some ⟨g1, 0, none⟩) (some ⟨g2, 0, none⟩) K' K1 B.n c1 c2 m cd' bm bd ((List.range B.n).map L) ((List.range B.n).map H) ck s xs W hc.i1 hc.i2 hr (by rw [HRO.out.len, hmm]; exact hcl) (by omega) (by omega) HSO.out (hB.out.below hc.bel) hxb.out hbm.out)
  unfold SawnRes at HSW
  generalize soundT ((List.range B.n).map L) ((List.range B.n).map H) ck s.long s.wide = sd at *
  have HRR : Hid (Reads w3 3 K' m (flat3 ck)) := by unfold Hid; rw [hmm]; exact HR3.out
  have HCN := Lib.hid (fun ps (hS : Sawn B.n sd s.long (s.wide + s.kerf) (s.long + s.across) ps) j => show ((sureTo B s ps j : Nat) : Int) ≤ countL (B.worst s) B.n from sure_short hok HSO.out hct hbl htl hS j)
  have HLS := Lib.hid (layout_len hok HSO.out hct hbl htl)
  have HCI := Lib.hid (countL_in (B.worst s) B.n (by omega))
  have HLE := Lib.hid (fun q => And.intro (less_len HSO.out hct hbl htl q) (less_bd HSO.out hct hbl htl (by omega) q))
  have HCP := Lib.hid (fun q => cost_pos hok HSO.out hct hbl htl q)
  have HTL := Lib.hid (thin_len HSO.out hct hbl htl)
  have HWL := Lib.hid (fun x (k : Nat) h1 h2 h3 h4 => widest_len HSO.out hct hbl htl x (k := k) h1 h2 h3 h4)
  have HWB := Lib.hid (fun x => (widest_spec (B := B) (s := s) x hok HSO.out hct hbl htl).1)
  have HCLN := Lib.hid hcl
  have HOW := Lib.hid (fun W (hc : CV w B L H gb g1 c1 g2 c2 (.slice K' m cd') #[.int .i64 s.long, .int .i64 s.wide, .int .i64 s.kerf, .int .i64 s.across] W) => own_any B W hc.at_ (by omega) (by have := HF.out.nn; omega) (by omega))
  unfold Bl.val at HOW
  have HMO := Lib.hid (fun (B' : Bl) (hl : B.Like B') W (hat : B'.At W) => most_list_like hl s W hat hct HSO.out)
  have HMT := Lib.hid (fun (B' : Bl) (hl : B.Like B') W (hat : B'.At W) => most_list_like hl s.slim W hat hct HSO.out.slim)
  have HMW := Lib.hid (fun (k : Nat) (h1 : 1 ≤ k) (h2 : k ≤ 300) (B' : Bl) (hl : B.Like B') W (hat : B'.At W) => most_list_like hl (s.width k) W hat hct (HSO.out.width (x := k) (by omega) (by omega)))
  have HML := Lib.hid (fun q (B' : Bl) (hl : (B.less q 0 0).Like B') W (hat : B'.At W) => most_list_like hl s W hat (less_cerr hct q) HSO.out)
  have HCO := Lib.hid (fun (B' : Bl) (hl : B.Like B') W (hat : B'.At W) => costs_like hl s W hat hct HSO.out)
  have HWI := Lib.hid (fun (x : Int) (h1 : 1 ≤ x) (h2 : x ≤ 400) (B' : Bl) (hl : B.Like B') W (hat : B'.At W) => widest_like hl s x W hat hct HSO.out h1 h2)
  have HFI := Lib.hid (fun (z y : Nat) (hz : (z : Int) + s.long ≤ B.n) (hy : y ≤ 300) (B' : Bl) (hl : B.Like B') W (hat : B'.At W) => fits_like hl s z y W hat hct HSO.out hz hy)
  unfold Sw.val at HMO HMT HMW HML HCO HWI HFI HSW
  have HM3L : Hid (B.m ≤ 3) := hm3
  generalize (layoutL (B.worst s) B.n).length = ls at *
  generalize countL (B.worst s) B.n = cw at *
  clear hm3 hn10 hmm hct hok hbl htl hcl HRO HRK HR3 HW8 HMM
  have N2 := Lib.hid (C3.out.below (Below.refl _ _).drew)
  have HR2 := Lib.hid (Reads.below HRR.out (Below.refl _ _).drew)
  clear C3 HRR
  go_region_held3 (fun W => (W.cell? ⟨gb, 0, none⟩ = some (.slice B.A B.n B.c) ∧ W.cell? ⟨gb, 1, none⟩ = some (.slice B.A' B.n' B.c') ∧ W.cell? ⟨gb, 2, none⟩ = some (.int .i64 B.bend) ∧ W.cell? ⟨gb, 3, none⟩ = some (.slice B.K B.m B.d)) ∧ W.cell? ⟨gb + 1, 0, none⟩ = some (.int .i64 s.long) ∧ W.cell? ⟨gb + 1, 1, none⟩ = some (.int .i64 s.wide) ∧ W.cell? ⟨gb + 1, 2, none⟩ = some (.int .i64 s.kerf) ∧ W.cell? ⟨gb + 1, 3, none⟩ = some (.int .i64 s.across)) (first | with_reducible exact N2.out.get8 | with_reducible exact N3.out.get8 | with_reducible exact N4.out.get8)
    (first
      | (go_at_call 52; refine (HOW.out _ N2.out).mono ?_; rintro e W5 ⟨B3, rfl, hl, hat, b3, -⟩; have N3 := Lib.hid (N2.out.below b3); have HR4 := Lib.hid (Reads.below HR2.out b3); have HM3 := Lib.hid (HMO.out B3 hl W5 hat); clear hl hat b3)
      | (go_at_call 34; refine HM3.out.mono ?_; rintro e W6 ⟨A6, c6, rfl, -, b6⟩; have N4 := Lib.hid (N3.out.below b6); have HR6 := Lib.hid (Reads.below HR4.out b6); clear b6))
  clear HM3 N3 N2 HR2 HR4
  have rg : W6.cell? ⟨gb + 1 + 1, 0, none⟩ = some (.slice (some ⟨g1, 0, none⟩) B.n c1) ∧ W6.cell? ⟨gb + 1 + 1, 1, none⟩ = some (.slice (some ⟨g2, 0, none⟩) B.n c2) ∧ W6.cell? ⟨gb + 1 + 1, 2, none⟩ = some (.slice K' m cd') := ⟨N4.out.rl.cell 0, N4.out.rl.cell 1, N4.out.rl.cell 2⟩
  have sg := N4.out.get8
  go_wp2_with fail
  refine (HSW.out _ N4.out HR6.out).mono ?_
  rintro e W7 ⟨A7, c7, ps, rfl, hO, hS, hl6, b7⟩
  have P7 : Hid (Pairs W7 A7 ps.length ps) := (reads_of_own hO).r
  have N7 := Lib.hid (N4.out.below b7)
  have hcn := HCN.out ps hS
  have HAT : Hid (∀ i, i < ps.length → ∃ z y : Nat, ps.getD i (0, 0) = ((z : Int), (y : Int)) ∧ (z : Int) + s.long ≤ B.n ∧ y ≤ 300 ∧ sureTo B s ps (i + 1) = sureTo B s ps i + if soundS (B.worst s) z y = true then 1 else 0) := fun i hi => by
    have e : ps.getD i (0, 0) = ps[i] := by simp [List.getD, hi]
    obtain ⟨z, y, e2, e3, e4, -⟩ := hS.mem _ (List.getElem_mem hi)
    exact ⟨z, y, by rw [e, e2], e3, e4, sureTo_succ B s ps hi (by rw [e, e2])⟩
  have HC0 : Hid (sureTo B s ps 0 = 0) := rfl
  generalize sureTo B s ps = cn at *
  have HCB := Lib.hid hcn
  clear rg sg hO hS b7 N4 HSW HR6 HCN hcn
  go_wp2_with fail
  obtain ⟨nn, hnn⟩ : ∃ q, min ps.length 60 = q := ⟨_, rfl⟩
  have HNN := Lib.hid hnn
  have HPL := Lib.hid hl6
  clear hnn
  go_loopw [14, 13] (fun iv nv wr => ∃ i : Nat, i ≤ nn ∧ iv = .int .i64 i ∧ nv = .int .i64 (cn i : Nat) ∧ CV w B L H gb g1 c1 g2 c2 (.slice K' m cd') #[.int .i64 s.long, .int .i64 s.wide, .int .i64 s.kerf, .int .i64 s.across] wr ∧ Pairs wr A7 ps.length ps) (fun iv _ _ => nn - (intOf iv).toNat)
  case atStart => exact ⟨0, Nat.zero_le _, rfl, by rw [HC0.out]; rfl, N7.out, P7.out⟩
  case round =>
    obtain ⟨i, hi, rfl, rfl, hv, hp⟩ := hrel
    have NL := Lib.hid hv
    have PL := Lib.hid hp
    clear hv hp N7 P7
    go_upto_region 7 with (fail)
    go_cut [60] from 53 to 60 (fun s60 W => s60 = .bool (decide (i < nn)) ∧ wr = W)
    case first =>
      have hn6 := HNN.out
      by_cases g1' : i < ps.length
      · have g1i : (i : Int) < (ps.length : Int) := by omega
        by_cases g2' : (i : Int) < 60
        · have g4 : decide (i < nn) = true := decide_eq_true (by omega)
          go_wp2_with fail
          go_meet
          exact ⟨by rw [g4], rfl⟩
        · have g4 : decide (i < nn) = false := decide_eq_false (by omega)
          go_wp2_with fail
          go_meet
          exact ⟨by rw [g4], rfl⟩
      · have g1i : ¬ (i : Int) < (ps.length : Int) := by omega
        have g4 : decide (i < nn) = false := decide_eq_false (by omega)
        go_wp2_with fail
        go_meet
        exact ⟨by rw [g4], rfl⟩
    case rest =>
    obtain ⟨rfl, rfl⟩ := hcut
    by_cases hltn : i < nn
    · rw [decide_eq_true hltn]
      have hlt : i < ps.length := by have := HNN.out; omega
      have hlt2 : (i : Int) < (ps.length : Int) := by omega
      obtain ⟨z, y, e, h1, h2, h3⟩ := HAT.out i hlt
      have ND := Lib.hid (NL.out.below (Below.refl _ _).drew)
      have PD := Lib.hid (Reads.below PL.out (Below.refl _ _).drew)
      obtain ⟨b, off, hA, -, q0, q1⟩ := Pairs.at_ PD.out hlt
      subst hA
      clear q0 q1
      have HPC : Hid (∀ W, Pairs W (some ⟨b, off, none⟩) ps.length ps → W.cell? ⟨b, off + i * 2, none⟩ = some (.int .i64 (z : Int)) ∧ W.cell? ⟨b, off + i * 2 + 1, none⟩ = some (.int .i64 (y : Int))) := fun W hp => by
        obtain ⟨b', off', hA, -, q0, q1⟩ := Pairs.at_ hp hlt
        simp only [Option.some.injEq, Addr.mk.injEq, and_true] at hA
        obtain ⟨rfl, rfl⟩ := hA
        rw [e] at q0 q1
        exact ⟨q0, q1⟩
      have HF1 := Lib.hid (fun B' hl W hat => HFI.out z y h1 h2 B' hl W hat)
      have hcb := HCB.out i
      have hci := HCI.out
      have wn : IntKind.i64.wrap ((cn i : Int) + 1) = (cn i : Int) + 1 := IntWalk.i64_in _ (by omega)
      have wi : IntKind.i64.wrap ((i : Int) + 1) = (i : Int) + 1 := IntWalk.i64_in _ (by have := HPL.out; omega)
      generalize soundS (B.worst s) z y = su at *
      generalize possB B s z y = pb at *
      have HST := Lib.hid h3
      clear e h1 h2 h3 hcb hci
      go_upto_region 9 with (fail)
      have S9 : (fun W => (((W.cell? ⟨gb, 0, none⟩ = some (.slice B.A B.n B.c) ∧ W.cell? ⟨gb, 1, none⟩ = some (.slice B.A' B.n' B.c') ∧ W.cell? ⟨gb, 2, none⟩ = some (.int .i64 B.bend) ∧ W.cell? ⟨gb, 3, none⟩ = some (.slice B.K B.m B.d)) ∧ W.cell? ⟨gb + 1, 0, none⟩ = some (.int .i64 s.long) ∧ W.cell? ⟨gb + 1, 1, none⟩ = some (.int .i64 s.wide) ∧ W.cell? ⟨gb + 1, 2, none⟩ = some (.int .i64 s.kerf) ∧ W.cell? ⟨gb + 1, 3, none⟩ = some (.int .i64 s.across)) ∧ W.cell? ⟨b, off + i * 2, none⟩ = some (.int .i64 (z : Int)) ∧ W.cell? ⟨b, off + i * 2 + 1, none⟩ = some (.int .i64 (y : Int)))) wr.drew := ⟨ND.out.get8, HPC.out _ PD.out⟩
      go_cut [15, 16, 17] from 63 to 74 (fun s15 s16 s17 W => s15 = .bool su ∧ s16 = .bool pb ∧ s17 = .int .i64 0 ∧ ∃ w6, w6 = W ∧ CV w B L H gb g1 c1 g2 c2 (.slice K' m cd') #[.int .i64 s.long, .int .i64 s.wide, .int .i64 s.kerf, .int .i64 s.across] W ∧ Pairs W (some ⟨b, off, none⟩) ps.length ps)
      case first =>
        refine wp_region_untl (S := (fun W => (((W.cell? ⟨gb, 0, none⟩ = some (.slice B.A B.n B.c) ∧ W.cell? ⟨gb, 1, none⟩ = some (.slice B.A' B.n' B.c') ∧ W.cell? ⟨gb, 2, none⟩ = some (.int .i64 B.bend) ∧ W.cell? ⟨gb, 3, none⟩ = some (.slice B.K B.m B.d)) ∧ W.cell? ⟨gb + 1, 0, none⟩ = some (.int .i64 s.long) ∧ W.cell? ⟨gb + 1, 1, none⟩ = some (.int .i64 s.wide) ∧ W.cell? ⟨gb + 1, 2, none⟩ = some (.int .i64 s.kerf) ∧ W.cell? ⟨gb + 1, 3, none⟩ = some (.int .i64 s.across)) ∧ W.cell? ⟨b, off + i * 2, none⟩ = some (.int .i64 (z : Int)) ∧ W.cell? ⟨b, off + i * 2 + 1, none⟩ = some (.int .i64 (y : Int))))) [] (by kernel_rfl) S9 (fun _ => ?_)
        generalize wr.drew = wd at *
        refine untlTake (i := 0) 64 (v := ?v135) rfl (by kernel_rfl) (by kernel_rfl) (by kernel_rfl) (by kernel_rfl) (by kernel_rfl) (by kernel_rfl) (fun _ _ _ h => h) (Or.inl ⟨by kernel_rfl, ?y135⟩) (by assumption) ?r135
        case y135 => (intro w hSw; obtain ⟨⟨⟨h0, h1, h2, h3⟩, h4, h5, h6, h7⟩, h8, h9⟩ := hSw; go_simp; try with_reducible rfl)
        refine untlTake (i := 2) 66 (v := ?v136) rfl (by kernel_rfl) (by kernel_rfl) (by kernel_rfl) (by kernel_rfl) (by kernel_rfl) (by kernel_rfl) (fun _ _ _ h => h) (Or.inl ⟨by kernel_rfl, ?y136⟩) (by assumption) ?r136
        case y136 => (intro w hSw; obtain ⟨⟨⟨h0, h1, h2, h3⟩, h4, h5, h6, h7⟩, h8, h9⟩ := hSw; go_simp; try with_reducible rfl)
        refine untlTake (i := 3) 67 (v := ?v137) rfl (by kernel_rfl) (by kernel_rfl) (by kernel_rfl) (by kernel_rfl) (by kernel_rfl) (by kernel_rfl) (fun _ _ _ h => h) (Or.inl ⟨by kernel_rfl, ?y137⟩) (by assumption) ?r137
        case y137 => (intro w hSw; obtain ⟨⟨⟨h0, h1, h2, h3⟩, h4, h5, h6, h7⟩, h8, h9⟩ := hSw; go_simp; try with_reducible rfl)
        simp only [Act.put, List.setIfInBounds_toArray, List.set_cons_zero, List.set_cons_succ]
        refine untlTake (i := 4) 68 (v := ?v138) rfl (by kernel_rfl) (by kernel_rfl) (by kernel_rfl) (by kernel_rfl) (by kernel_rfl) (by kernel_rfl) (fun _ _ _ h => h) (Or.inl ⟨by kernel_rfl, ?y138⟩) (by assumption) ?r138
        case y138 => (intro w hSw; obtain ⟨⟨⟨h0, h1, h2, h3⟩, h4, h5, h6, h7⟩, h8, h9⟩ := hSw; go_simp; try with_reducible rfl)
        refine untlReady (rs := [1, 5]) (by kernel_rfl) (by simp) ?_
        refine UReady.cons rfl (fun K139 hK139 => ?_) ?_
        · skip
          go_simp
          refine (HOW.out _ ND.out).mono ?_
          rintro e W143 ⟨B146, rfl, hl, hat, b3, -⟩
          have N140 := Lib.hid (ND.out.below b3)
          have P141 := Lib.hid (Reads.below PD.out b3)
          have HL144 := Lib.hid hl
          have HA145 := Lib.hid hat
          clear hl hat b3
          have S142 : (fun W => (((W.cell? ⟨gb, 0, none⟩ = some (.slice B.A B.n B.c) ∧ W.cell? ⟨gb, 1, none⟩ = some (.slice B.A' B.n' B.c') ∧ W.cell? ⟨gb, 2, none⟩ = some (.int .i64 B.bend) ∧ W.cell? ⟨gb, 3, none⟩ = some (.slice B.K B.m B.d)) ∧ W.cell? ⟨gb + 1, 0, none⟩ = some (.int .i64 s.long) ∧ W.cell? ⟨gb + 1, 1, none⟩ = some (.int .i64 s.wide) ∧ W.cell? ⟨gb + 1, 2, none⟩ = some (.int .i64 s.kerf) ∧ W.cell? ⟨gb + 1, 3, none⟩ = some (.int .i64 s.across)) ∧ W.cell? ⟨b, off + i * 2, none⟩ = some (.int .i64 (z : Int)) ∧ W.cell? ⟨b, off + i * 2 + 1, none⟩ = some (.int .i64 (y : Int)))) W143 := ⟨N140.out.get8, HPC.out _ P141.out⟩
          refine hK139.out _ _ (.inr S142) ?_
          refine untlStep (i := 5) (by kernel_rfl) rfl (fun K147 hK147 => ?_)
          go_simp
          refine hK147.out _ _ (.inr S142) ?_
          refine untlTake (i := 6) 70 (v := ?v148) rfl (by kernel_rfl) (by kernel_rfl) (by kernel_rfl) (by kernel_rfl) (by kernel_rfl) (by kernel_rfl) (fun _ _ _ h => h) (Or.inl ⟨by kernel_rfl, ?y148⟩) (by assumption) ?r148
          case y148 => (intro w hSw; obtain ⟨⟨⟨h0, h1, h2, h3⟩, h4, h5, h6, h7⟩, h8, h9⟩ := hSw; go_simp; try with_reducible rfl)
          refine untlStep (i := 7) (by kernel_rfl) rfl (fun K149 hK149 => ?_)
          go_simp
          refine (HF1.out B146 HL144.out _ HA145.out).mono ?_
          rintro e W153 ⟨rfl, b6⟩
          have N150 := Lib.hid (N140.out.below b6)
          have P151 := Lib.hid (Reads.below P141.out b6)
          have S152 : (fun W => (((W.cell? ⟨gb, 0, none⟩ = some (.slice B.A B.n B.c) ∧ W.cell? ⟨gb, 1, none⟩ = some (.slice B.A' B.n' B.c') ∧ W.cell? ⟨gb, 2, none⟩ = some (.int .i64 B.bend) ∧ W.cell? ⟨gb, 3, none⟩ = some (.slice B.K B.m B.d)) ∧ W.cell? ⟨gb + 1, 0, none⟩ = some (.int .i64 s.long) ∧ W.cell? ⟨gb + 1, 1, none⟩ = some (.int .i64 s.wide) ∧ W.cell? ⟨gb + 1, 2, none⟩ = some (.int .i64 s.kerf) ∧ W.cell? ⟨gb + 1, 3, none⟩ = some (.int .i64 s.across)) ∧ W.cell? ⟨b, off + i * 2, none⟩ = some (.int .i64 (z : Int)) ∧ W.cell? ⟨b, off + i * 2 + 1, none⟩ = some (.int .i64 (y : Int)))) W153 := ⟨N150.out.get8, HPC.out _ P151.out⟩
          refine hK149.out _ _ (.inr S152) ?_
          refine untlTake (i := 8) 63 (v := ?v154) rfl (by kernel_rfl) (by kernel_rfl) (by kernel_rfl) (by kernel_rfl) (by kernel_rfl) (by kernel_rfl) (fun _ _ _ h => h) (Or.inl ⟨by kernel_rfl, ?y154⟩) (by assumption) ?r154
          case y154 => (intro w hSw; obtain ⟨⟨⟨h0, h1, h2, h3⟩, h4, h5, h6, h7⟩, h8, h9⟩ := hSw; go_simp; try with_reducible rfl)
          refine untlTake (i := 9) 72 (v := ?v155) rfl (by kernel_rfl) (by kernel_rfl) (by kernel_rfl) (by kernel_rfl) (by kernel_rfl) (by kernel_rfl) (fun _ _ _ h => h) (Or.inl ⟨by kernel_rfl, ?y155⟩) (by assumption) ?r155
          case y155 => (intro w hSw; obtain ⟨⟨⟨h0, h1, h2, h3⟩, h4, h5, h6, h7⟩, h8, h9⟩ := hSw; go_simp; try with_reducible rfl)
          simp only [Act.put, List.setIfInBounds_toArray, List.set_cons_zero, List.set_cons_succ]
          refine untlTake (i := 10) 73 (v := ?v156) rfl (by kernel_rfl) (by kernel_rfl) (by kernel_rfl) (by kernel_rfl) (by kernel_rfl) (by kernel_rfl) (fun _ _ _ h => h) (Or.inl ⟨by kernel_rfl, ?y156⟩) (by assumption) ?r156
          case y156 => (intro w hSw; obtain ⟨⟨⟨h0, h1, h2, h3⟩, h4, h5, h6, h7⟩, h8, h9⟩ := hSw; go_simp; try with_reducible rfl)
          refine untlTake (i := 11) 74 (v := ?v157) rfl (by kernel_rfl) (by kernel_rfl) (by kernel_rfl) (by kernel_rfl) (by kernel_rfl) (by kernel_rfl) (fun _ _ _ h => h) (Or.inl ⟨by kernel_rfl, ?y157⟩) (by assumption) ?r157
          case y157 => (intro w hSw; obtain ⟨⟨⟨h0, h1, h2, h3⟩, h4, h5, h6, h7⟩, h8, h9⟩ := hSw; go_simp; try with_reducible rfl)
          refine untlTake (i := 12) 15 (v := ?v158) rfl (by kernel_rfl) (by kernel_rfl) (by kernel_rfl) (by kernel_rfl) (by kernel_rfl) (by kernel_rfl) (fun _ _ _ h => h) (Or.inl ⟨by kernel_rfl, ?y158⟩) (by assumption) ?r158
          case y158 => (intro w hSw; obtain ⟨⟨⟨h0, h1, h2, h3⟩, h4, h5, h6, h7⟩, h8, h9⟩ := hSw; go_simp; try with_reducible rfl)
          simp only [Act.put, List.setIfInBounds_toArray, List.set_cons_zero, List.set_cons_succ]
          refine untlTake (i := 13) 16 (v := ?v159) rfl (by kernel_rfl) (by kernel_rfl) (by kernel_rfl) (by kernel_rfl) (by kernel_rfl) (by kernel_rfl) (fun _ _ _ h => h) (Or.inl ⟨by kernel_rfl, ?y159⟩) (by assumption) ?r159
          case y159 => (intro w hSw; obtain ⟨⟨⟨h0, h1, h2, h3⟩, h4, h5, h6, h7⟩, h8, h9⟩ := hSw; go_simp; try with_reducible rfl)
          refine untlTake (i := 14) 17 (v := ?v160) rfl (by kernel_rfl) (by kernel_rfl) (by kernel_rfl) (by kernel_rfl) (by kernel_rfl) (by kernel_rfl) (fun _ _ _ h => h) (Or.inl ⟨by kernel_rfl, ?y160⟩) (by assumption) ?r160
          case y160 => (intro w hSw; obtain ⟨⟨⟨h0, h1, h2, h3⟩, h4, h5, h6, h7⟩, h8, h9⟩ := hSw; go_simp; try with_reducible rfl)
          refine untlDone (by kernel_rfl) ?_ _
          clear S152
          go_wp2_with fail
          go_meet
          exact ⟨rfl, rfl, rfl, _, rfl, N150.out, P151.out⟩
        refine UReady.cons rfl (fun K161 hK161 => ?_) UReady.nil
        go_simp
        refine hK161.out _ _ (.inr S9) ?_
        refine untlTake (i := 6) 70 (v := ?v162) rfl (by kernel_rfl) (by kernel_rfl) (by kernel_rfl) (by kernel_rfl) (by kernel_rfl) (by kernel_rfl) (fun _ _ _ h => h) (Or.inl ⟨by kernel_rfl, ?y162⟩) (by assumption) ?r162
        case y162 => (intro w hSw; obtain ⟨⟨⟨h0, h1, h2, h3⟩, h4, h5, h6, h7⟩, h8, h9⟩ := hSw; go_simp; try with_reducible rfl)
        refine untlStep (i := 1) (by kernel_rfl) rfl (fun K163 hK163 => ?_)
        go_simp
        refine (HOW.out _ ND.out).mono ?_
        rintro e W167 ⟨B170, rfl, hl, hat, b3, -⟩
        have N164 := Lib.hid (ND.out.below b3)
        have P165 := Lib.hid (Reads.below PD.out b3)
        have HL168 := Lib.hid hl
        have HA169 := Lib.hid hat
        clear hl hat b3
        have S166 : (fun W => (((W.cell? ⟨gb, 0, none⟩ = some (.slice B.A B.n B.c) ∧ W.cell? ⟨gb, 1, none⟩ = some (.slice B.A' B.n' B.c') ∧ W.cell? ⟨gb, 2, none⟩ = some (.int .i64 B.bend) ∧ W.cell? ⟨gb, 3, none⟩ = some (.slice B.K B.m B.d)) ∧ W.cell? ⟨gb + 1, 0, none⟩ = some (.int .i64 s.long) ∧ W.cell? ⟨gb + 1, 1, none⟩ = some (.int .i64 s.wide) ∧ W.cell? ⟨gb + 1, 2, none⟩ = some (.int .i64 s.kerf) ∧ W.cell? ⟨gb + 1, 3, none⟩ = some (.int .i64 s.across)) ∧ W.cell? ⟨b, off + i * 2, none⟩ = some (.int .i64 (z : Int)) ∧ W.cell? ⟨b, off + i * 2 + 1, none⟩ = some (.int .i64 (y : Int)))) W167 := ⟨N164.out.get8, HPC.out _ P165.out⟩
        refine hK163.out _ _ (.inr S166) ?_
        refine untlStep (i := 7) (by kernel_rfl) rfl (fun K171 hK171 => ?_)
        go_simp
        refine (HF1.out B170 HL168.out _ HA169.out).mono ?_
        rintro e W175 ⟨rfl, b6⟩
        have N172 := Lib.hid (N164.out.below b6)
        have P173 := Lib.hid (Reads.below P165.out b6)
        have S174 : (fun W => (((W.cell? ⟨gb, 0, none⟩ = some (.slice B.A B.n B.c) ∧ W.cell? ⟨gb, 1, none⟩ = some (.slice B.A' B.n' B.c') ∧ W.cell? ⟨gb, 2, none⟩ = some (.int .i64 B.bend) ∧ W.cell? ⟨gb, 3, none⟩ = some (.slice B.K B.m B.d)) ∧ W.cell? ⟨gb + 1, 0, none⟩ = some (.int .i64 s.long) ∧ W.cell? ⟨gb + 1, 1, none⟩ = some (.int .i64 s.wide) ∧ W.cell? ⟨gb + 1, 2, none⟩ = some (.int .i64 s.kerf) ∧ W.cell? ⟨gb + 1, 3, none⟩ = some (.int .i64 s.across)) ∧ W.cell? ⟨b, off + i * 2, none⟩ = some (.int .i64 (z : Int)) ∧ W.cell? ⟨b, off + i * 2 + 1, none⟩ = some (.int .i64 (y : Int)))) W175 := ⟨N172.out.get8, HPC.out _ P173.out⟩
        refine hK171.out _ _ (.inr S174) ?_
        refine untlTake (i := 8) 63 (v := ?v176) rfl (by kernel_rfl) (by kernel_rfl) (by kernel_rfl) (by kernel_rfl) (by kernel_rfl) (by kernel_rfl) (fun _ _ _ h => h) (Or.inl ⟨by kernel_rfl, ?y176⟩) (by assumption) ?r176
        case y176 => (intro w hSw; obtain ⟨⟨⟨h0, h1, h2, h3⟩, h4, h5, h6, h7⟩, h8, h9⟩ := hSw; go_simp; try with_reducible rfl)
        refine untlTake (i := 9) 72 (v := ?v177) rfl (by kernel_rfl) (by kernel_rfl) (by kernel_rfl) (by kernel_rfl) (by kernel_rfl) (by kernel_rfl) (fun _ _ _ h => h) (Or.inl ⟨by kernel_rfl, ?y177⟩) (by assumption) ?r177
        case y177 => (intro w hSw; obtain ⟨⟨⟨h0, h1, h2, h3⟩, h4, h5, h6, h7⟩, h8, h9⟩ := hSw; go_simp; try with_reducible rfl)
        simp only [Act.put, List.setIfInBounds_toArray, List.set_cons_zero, List.set_cons_succ]
        refine untlTake (i := 10) 73 (v := ?v178) rfl (by kernel_rfl) (by kernel_rfl) (by kernel_rfl) (by kernel_rfl) (by kernel_rfl) (by kernel_rfl) (fun _ _ _ h => h) (Or.inl ⟨by kernel_rfl, ?y178⟩) (by assumption) ?r178
        case y178 => (intro w hSw; obtain ⟨⟨⟨h0, h1, h2, h3⟩, h4, h5, h6, h7⟩, h8, h9⟩ := hSw; go_simp; try with_reducible rfl)
        refine untlTake (i := 11) 74 (v := ?v179) rfl (by kernel_rfl) (by kernel_rfl) (by kernel_rfl) (by kernel_rfl) (by kernel_rfl) (by kernel_rfl) (fun _ _ _ h => h) (Or.inl ⟨by kernel_rfl, ?y179⟩) (by assumption) ?r179
        case y179 => (intro w hSw; obtain ⟨⟨⟨h0, h1, h2, h3⟩, h4, h5, h6, h7⟩, h8, h9⟩ := hSw; go_simp; try with_reducible rfl)
        refine untlTake (i := 12) 15 (v := ?v180) rfl (by kernel_rfl) (by kernel_rfl) (by kernel_rfl) (by kernel_rfl) (by kernel_rfl) (by kernel_rfl) (fun _ _ _ h => h) (Or.inl ⟨by kernel_rfl, ?y180⟩) (by assumption) ?r180
        case y180 => (intro w hSw; obtain ⟨⟨⟨h0, h1, h2, h3⟩, h4, h5, h6, h7⟩, h8, h9⟩ := hSw; go_simp; try with_reducible rfl)
        simp only [Act.put, List.setIfInBounds_toArray, List.set_cons_zero, List.set_cons_succ]
        refine untlTake (i := 13) 16 (v := ?v181) rfl (by kernel_rfl) (by kernel_rfl) (by kernel_rfl) (by kernel_rfl) (by kernel_rfl) (by kernel_rfl) (fun _ _ _ h => h) (Or.inl ⟨by kernel_rfl, ?y181⟩) (by assumption) ?r181
        case y181 => (intro w hSw; obtain ⟨⟨⟨h0, h1, h2, h3⟩, h4, h5, h6, h7⟩, h8, h9⟩ := hSw; go_simp; try with_reducible rfl)
        refine untlTake (i := 14) 17 (v := ?v182) rfl (by kernel_rfl) (by kernel_rfl) (by kernel_rfl) (by kernel_rfl) (by kernel_rfl) (by kernel_rfl) (fun _ _ _ h => h) (Or.inl ⟨by kernel_rfl, ?y182⟩) (by assumption) ?r182
        case y182 => (intro w hSw; obtain ⟨⟨⟨h0, h1, h2, h3⟩, h4, h5, h6, h7⟩, h8, h9⟩ := hSw; go_simp; try with_reducible rfl)
        refine untlDone (by kernel_rfl) ?_ _
        clear S174
        go_wp2_with fail
        go_meet
        exact ⟨rfl, rfl, rfl, _, rfl, N172.out, P173.out⟩
      case rest =>
        obtain ⟨rfl, rfl, rfl, w6, rfl, hv, hp⟩ := hcut
        have N6 := Lib.hid hv
        have P6 := Lib.hid hp
        clear hv hp ND PD S9 NL PL
        cases su
        all_goals
          go_wp2_with fail
          go_roundw
          case rel => exact ⟨i + 1, by omega, by go_num, by rw [HST.out]; first | (rw [if_pos rfl]; go_num) | (rw [if_neg (by simp)]; rfl), N6.out, P6.out⟩
          case measure => simp [intOf]; omega
    · rw [decide_eq_false hltn]
      obtain rfl : i = nn := by omega
      have hci := HCI.out
      have hcb := HCB.out i
      have hls := HLS.out
      have HNI : Hid ((cn i : Int) ≤ (ls : Int)) := by unfold Hid; omega
      clear PL HAT HNN HC0 HCB HFI hcb hci hls HPL
      go_upto_region 14 with (fail)
      have N10 := Lib.hid (NL.out.below (Below.refl _ _).drew)
      go_region_held3 (fun W => (W.cell? ⟨gb, 0, none⟩ = some (.slice B.A B.n B.c) ∧ W.cell? ⟨gb, 1, none⟩ = some (.slice B.A' B.n' B.c') ∧ W.cell? ⟨gb, 2, none⟩ = some (.int .i64 B.bend) ∧ W.cell? ⟨gb, 3, none⟩ = some (.slice B.K B.m B.d)) ∧ W.cell? ⟨gb + 1, 0, none⟩ = some (.int .i64 s.long) ∧ W.cell? ⟨gb + 1, 1, none⟩ = some (.int .i64 s.wide) ∧ W.cell? ⟨gb + 1, 2, none⟩ = some (.int .i64 s.kerf) ∧ W.cell? ⟨gb + 1, 3, none⟩ = some (.int .i64 s.across)) (first | with_reducible exact N10.out.get8 | with_reducible exact N11.out.get8 | with_reducible exact N12.out.get8)
        (first
          | (go_at_call 52; refine (HOW.out _ N10.out).mono ?_; rintro e W10 ⟨B10, rfl, hl, hat, b3, -⟩; have N11 := Lib.hid (N10.out.below b3); have HM := Lib.hid (HCO.out B10 hl W10 hat); clear hl hat b3)
          | (go_at_call 44; refine HM.out.mono ?_; rintro e W11 ⟨A11, c11, rfl, hint, b6⟩; have N12 := Lib.hid (N11.out.below b6); have I12 := Lib.hid hint; clear hint; clear b6))
      clear HM N11 N10 NL

      go_upto_region 15 with (fail)
      have t1 : ¬ (ls : Int) < (cn i : Int) := by have := HNI.out; omega
      have ng := N12.out.get8
      have hm3 := HM3L.out
      obtain ⟨kk, hkk⟩ : ∃ q : Int, (B.m : Int) - 1 = q := ⟨_, rfl⟩
      have wkk : IntKind.i64.wrap ((B.m : Int) - 1) = kk := by rw [hkk]; exact IntWalk.i64_in _ (by omega)
      have HKK := Lib.hid hkk
      clear hkk hm3
      go_upto_region 18 with (fail)
      go_upto_if 108 with (fail)
      go_cut [21, 22, 23] from 108 to 142 (fun s21 s22 s23 W => ∃ w20, w20 = W ∧ CV w B L H gb g1 c1 g2 c2 (.slice K' m cd') #[.int .i64 s.long, .int .i64 s.wide, .int .i64 s.kerf, .int .i64 s.across] W)
      case first =>
        by_cases hm0 : B.m = 0
        · have hk0 : ¬ 0 ≤ kk := by have := HKK.out; omega
          have hk1 : (0 ≤ kk) = False := eq_false hk0
          have hk2 : decide (0 ≤ kk) = false := decide_eq_false hk0
          clear hm0
          go_wp2_with fail
          go_meet
          exact ⟨_, rfl, N12.out⟩
        · obtain ⟨q, hmq⟩ : ∃ q, B.m = q + 1 := ⟨B.m - 1, by omega⟩
          have hkq : kk = (q : Int) := by have := HKK.out; omega
          subst hkq
          have HMQ := Lib.hid hmq
          clear hm0 hmq wkk
          have ng := N12.out.get8
          go_wp2_with fail
          refine (HOW.out _ N12.out).mono ?_
          rintro e W13 ⟨B3, rfl, hl, hat, b13, -, -, hon, -⟩
          have hcap : B3.m ≤ B3.d := (own_cap (hon.own (by rw [hl.m]; have := HMQ.out; omega))).1
          have hcq : (q : Int) ≤ (B3.d : Int) := by have := HMQ.out; have := hl.m; omega
          have N13 := Lib.hid (N12.out.below b13)
          have I13 := Lib.hid (I12.out.below b13)
          have HA3 := Lib.hid hat
          have HL3 := Lib.hid (cut_like hl HMQ.out HCLN.out)
          have HQ3 : Hid (q ≤ B3.m) := by unfold Hid; rw [hl.m]; have := HMQ.out; omega
          clear hl hat b13 hon hcap ng I12 N12
          unfold Bl.val
          obtain ⟨e1, e2, e3, e4, e5, e6, e7, e8, e9, e10, e11, e12, e13⟩ := B3
          simp only at hcq ⊢
          have C14 : Hid (Blk (W13.alloc (.cells #[.slice e1 e4 e5, .slice e2 e6 e7, .int .i64 e10, .slice e3 e8 e9] 25)) W13.heap.size 25 #[.slice e1 e4 e5, .slice e2 e6 e7, .int .i64 e10, .slice e3 e8 e9]) := Blk.new W13 _ _ rfl
          have D14 := Lib.hid (below_self W13 (.cells #[.slice e1 e4 e5, .slice e2 e6 e7, .int .i64 e10, .slice e3 e8 e9] 25))
          have N14 := Lib.hid (N13.out.below D14.out)
          have c0 := C14.out.cell 0
          have c1' := C14.out.cell 1
          have c2' := C14.out.cell 2
          have c3 := C14.out.cell 3
          have f3 := C14.out.frozen 3
          have D15 := Lib.hid (below_self W13 (.cells #[.slice e1 e4 e5, .slice e2 e6 e7, .int .i64 e10, .slice e3 q e9] 25))
          have E15 : Hid (Blk (W13.alloc (.cells #[.slice e1 e4 e5, .slice e2 e6 e7, .int .i64 e10, .slice e3 q e9] 25)) W13.heap.size 25 #[.slice e1 e4 e5, .slice e2 e6 e7, .int .i64 e10, .slice e3 q e9]) := Blk.new W13 _ _ rfl
          have N15 := Lib.hid (N13.out.below D15.out)
          have I15 := Lib.hid (I13.out.below D15.out)
          have HM5 := Lib.hid (HML.out q (Bl.cutTo ⟨e1, e2, e3, e4, e5, e6, e7, e8, e9, e10, e11, e12, e13⟩ q) HL3.out _ (cut_at (HA3.out.below D15.out) HQ3.out))
          dsimp only [Bl.cutTo, Bl.val] at HM5
          clear N13 I13 HA3 HL3 HQ3 D15 D14 C14 N14
          go_upto_region 21 with (fail)
          clear c0 c1' c2' c3 f3
          generalize W13.alloc (.cells #[.slice e1 e4 e5, .slice e2 e6 e7, .int .i64 e10, .slice e3 q e9] 25) = W15 at *
          generalize W13.heap.size = g15 at *
          have c0 := E15.out.cell 0
          have c1' := E15.out.cell 1
          have c2' := E15.out.cell 2
          have c3 := E15.out.cell 3
          have sg := N15.out.get8
          have hle := HLE.out q
          have hcp := HCP.out q
          have hls := HLS.out
          have hci := HCI.out
          generalize (layoutL (Bl.worst (B.less q 0 0) s) (B.less q 0 0).n).length = l2 at *
          obtain ⟨ab, ao, hA11, -, hcell⟩ := I15.out.at_ (show q < B.m by have := HMQ.out; omega)
          rw [costs_at B s (by have := HMQ.out; omega)] at hcell
          subst hA11
          generalize costAt B s q = cv at *
          have IC : Hid (W15.cell? ⟨ab, ao + q, none⟩ = some (.int .i64 cv)) := hcell
          clear hcell I15 HLE HCP
          go_wp2_with fail
          refine HM5.out.mono ?_
          rintro e W16 ⟨A16, c16, rfl, -, b16⟩
          have N16 := Lib.hid (N15.out.below b16)
          have ic := (b16.cell (lt_of_cell IC.out)).trans IC.out
          have v1 : ¬ cv < 0 := by omega
          have v2 : (l2 : Int) = (ls : Int) + cv := by omega
          have v3 : IntKind.i64.wrap ((ls : Int) + cv) = (ls : Int) + cv := by rw [← v2]; exact IntWalk.i64_in _ (by omega)
          have v4 : (q : Int) < (B.m : Int) := by have := HMQ.out; omega
          have v5 : (0 : Int) ≤ (q : Int) := by omega
          clear hle hcp hls hci sg c0 c1' c2' c3 b16 N15 E15 IC
          go_wp2_with fail
          go_meet
          exact ⟨_, rfl, N16.out⟩
      case rest =>
        obtain ⟨w20, rfl, hv⟩ := hcut
        have N20 := Lib.hid hv
        clear hv ng N12 I12 wkk HKK HLE HCP HML HCO HCLN HNI t1
        have sg := N20.out.get8
        go_upto_region 25 with (fail)
        have D21 := Lib.hid (below_self w20 (.cells #[.int .i64 s.long, .int .i64 s.wide, .int .i64 s.kerf, .int .i64 s.across] 37))
        have Q21 : Hid (Blk (w20.alloc (.cells #[.int .i64 s.long, .int .i64 s.wide, .int .i64 s.kerf, .int .i64 s.across] 37)) w20.heap.size 37 #[.int .i64 s.long, .int .i64 s.wide, .int .i64 s.kerf, .int .i64 s.across]) := Blk.new w20 _ _ rfl
        generalize w20.alloc (.cells #[.int .i64 s.long, .int .i64 s.wide, .int .i64 s.kerf, .int .i64 s.across] 37) = w21 at *
        have N21 := Lib.hid (N20.out.below D21.out)
        clear sg
        have sg := N21.out.get8
        have q1 := Q21.out.cell 1
        have q2 := Q21.out.cell 2
        have z1 := Q21.out.frozen 1
        have z2 := Q21.out.frozen 2
        have so := HSO.out
        have s3 := so.w1
        have s4 := so.w2
        have s5 := so.k1
        have s6 := so.k2
        obtain ⟨wm, hwm⟩ : ∃ z, s.wide - 1 = z := ⟨_, rfl⟩
        obtain ⟨km, hkm⟩ : ∃ z, s.kerf - 1 = z := ⟨_, rfl⟩
        have y1 : IntKind.i64.wrap (s.wide - 1) = wm := by rw [hwm]; exact IntWalk.i64_in _ (by omega)
        have y2 : IntKind.i64.wrap (s.kerf - 1) = km := by rw [hkm]; exact IntWalk.i64_in _ (by omega)
        obtain ⟨wd, hwd⟩ : ∃ z, max 1 wm = z := ⟨_, rfl⟩
        obtain ⟨kd, hkd⟩ : ∃ z, max 0 km = z := ⟨_, rfl⟩
        have HSL : Hid (s.slim = ⟨s.long, wd, kd, s.across⟩) := by
          unfold Hid Sw.slim
          rw [hwm, hkm, hwd, hkd]
        clear so s3 s4 s5 s6 hwm hkm
        go_cut [] from 144 to 153 (fun W => ∃ w22, w22 = W ∧ CV w B L H gb g1 c1 g2 c2 (.slice K' m cd') #[.int .i64 s.long, .int .i64 s.wide, .int .i64 s.kerf, .int .i64 s.across] W ∧ Blk W w20.heap.size 37 #[.int .i64 s.long, .int .i64 wd, .int .i64 kd, .int .i64 s.across])
        case first =>
          have h1 : (1 < wm ∧ wd = wm) ∨ (¬ 1 < wm ∧ wd = 1) := by omega
          have h2 : (0 < km ∧ kd = km) ∨ (¬ 0 < km ∧ kd = 0) := by omega
          clear hwd hkd
          rcases h1 with ⟨h1, rfl⟩ | ⟨h1, rfl⟩ <;> rcases h2 with ⟨h2, rfl⟩ | ⟨h2, rfl⟩
          all_goals
            go_region
            go_wp2_with fail
            go_meet
            exact ⟨_, rfl, N20.out.below (slim_bel D21.out), slim_put Q21.out⟩
        case rest =>
          obtain ⟨w22, rfl, hv, hq⟩ := hcut
          have N22 := Lib.hid hv
          have Q22 := Lib.hid hq
          clear hv hq N20 D21 Q21 N21 sg q1 q2 z1 z2 y1 y2 hwd hkd
          generalize w20.heap.size = gq at *
          rw [HSL.out] at HMT HTL
          dsimp only at HMT
          have htl := HTL.out
          have hls := HLS.out
          generalize (layoutL (B.worst ⟨s.long, wd, kd, s.across⟩) B.n).length = l3 at *
          have t27 : ¬ (l3 : Int) < (ls : Int) := by omega
          clear htl hls HTL HSL HLS
          go_upto_region 26 with (fail)
          have N26 := Lib.hid (N22.out.below (Below.refl _ _).drew)
          have Q26 := Lib.hid (blk_keep (Below.refl _ _).drew Q22.out)
          have G26 : Hid (∀ W, CV w B L H gb g1 c1 g2 c2 (.slice K' m cd') #[.int .i64 s.long, .int .i64 s.wide, .int .i64 s.kerf, .int .i64 s.across] W → Blk W gq 37 #[.int .i64 s.long, .int .i64 wd, .int .i64 kd, .int .i64 s.across] → ((W.cell? ⟨gb, 0, none⟩ = some (.slice B.A B.n B.c) ∧ W.cell? ⟨gb, 1, none⟩ = some (.slice B.A' B.n' B.c') ∧ W.cell? ⟨gb, 2, none⟩ = some (.int .i64 B.bend) ∧ W.cell? ⟨gb, 3, none⟩ = some (.slice B.K B.m B.d)) ∧ W.cell? ⟨gq, 0, none⟩ = some (.int .i64 s.long) ∧ W.cell? ⟨gq, 1, none⟩ = some (.int .i64 wd) ∧ W.cell? ⟨gq, 2, none⟩ = some (.int .i64 kd) ∧ W.cell? ⟨gq, 3, none⟩ = some (.int .i64 s.across))) := fun W hc hq => ⟨hc.get8.1, hq.cell 0, hq.cell 1, hq.cell 2, hq.cell 3⟩
          go_region_held3 (fun W => ((W.cell? ⟨gb, 0, none⟩ = some (.slice B.A B.n B.c) ∧ W.cell? ⟨gb, 1, none⟩ = some (.slice B.A' B.n' B.c') ∧ W.cell? ⟨gb, 2, none⟩ = some (.int .i64 B.bend) ∧ W.cell? ⟨gb, 3, none⟩ = some (.slice B.K B.m B.d)) ∧ W.cell? ⟨gq, 0, none⟩ = some (.int .i64 s.long) ∧ W.cell? ⟨gq, 1, none⟩ = some (.int .i64 wd) ∧ W.cell? ⟨gq, 2, none⟩ = some (.int .i64 kd) ∧ W.cell? ⟨gq, 3, none⟩ = some (.int .i64 s.across))) (first | with_reducible exact G26.out _ N26.out Q26.out | with_reducible exact G26.out _ N27.out Q27.out | with_reducible exact G26.out _ M27.out R27.out)
            (first
              | (go_at_call 52; refine (HOW.out _ N26.out).mono ?_; rintro e W26 ⟨B27, rfl, hl, hat, b3, -⟩; have N27 := Lib.hid (N26.out.below b3); have Q27 := Lib.hid (blk_keep b3 Q26.out); have HM := Lib.hid (HMT.out B27 hl W26 hat); clear hl hat b3)
              | (go_at_call 34; refine HM.out.mono ?_; rintro e W27 ⟨A27, c27, rfl, -, b6⟩; have M27 := Lib.hid (N27.out.below b6); have R27 := Lib.hid (blk_keep b6 Q27.out); clear b6))
          clear HM N27 Q27 N26 Q26 N22 Q22 G26 R27
          clear HMT
          have hmb := hmx.out
          unfold Byte at hmb
          obtain ⟨r, hr⟩ : ∃ z, mx % 30 = z := ⟨_, rfl⟩
          have hr2 : 0 ≤ r ∧ r ≤ 29 := by omega
          have a0 : IntKind.i64.wrap mx = mx := IntWalk.i64_in _ (by omega)
          have a1 : mx.tmod 30 = r := by rw [Int.tmod_eq_emod_of_nonneg (by omega)]; exact hr
          have a2 : IntKind.i64.wrap r = r := IntWalk.i64_in _ (by omega)
          obtain ⟨wt, hwt⟩ : ∃ z, 1 + r = z := ⟨_, rfl⟩
          have a3 : IntKind.i64.wrap (1 + r) = wt := by rw [hwt]; exact IntWalk.i64_in _ (by omega)
          have hw1 : 1 ≤ wt ∧ wt ≤ 30 := by omega
          have HWT := Lib.hid hw1
          have HW2 := Lib.hid (fun B' hl W hat => HWI.out wt (by omega) (by omega) B' hl W hat)
          obtain ⟨fo, hfo⟩ : ∃ q : Int, (if widestL B s wt = 0 then 7 else 0) = q := ⟨_, rfl⟩
          rw [hfo] at HW2
          have HWL2 := Lib.hid (HWL.out wt)
          have HWB2 := Lib.hid (HWB.out wt)
          generalize widestL B s wt = wl at *
          have HFO := Lib.hid hfo
          clear hmb hr hr2 hwt hw1 hfo HWI HWL HWB
          go_upto_region 30 with (fail)
          clear a0 a1 a2 a3 t27
          have N30 := Lib.hid (M27.out.below (Below.refl _ _).drew)
          go_region_held3 (fun W => (W.cell? ⟨gb, 0, none⟩ = some (.slice B.A B.n B.c) ∧ W.cell? ⟨gb, 1, none⟩ = some (.slice B.A' B.n' B.c') ∧ W.cell? ⟨gb, 2, none⟩ = some (.int .i64 B.bend) ∧ W.cell? ⟨gb, 3, none⟩ = some (.slice B.K B.m B.d)) ∧ W.cell? ⟨gb + 1, 0, none⟩ = some (.int .i64 s.long) ∧ W.cell? ⟨gb + 1, 1, none⟩ = some (.int .i64 s.wide) ∧ W.cell? ⟨gb + 1, 2, none⟩ = some (.int .i64 s.kerf) ∧ W.cell? ⟨gb + 1, 3, none⟩ = some (.int .i64 s.across)) (first | with_reducible exact N30.out.get8 | with_reducible exact N31.out.get8 | with_reducible exact N32.out.get8)
            (first
              | (go_at_call 52; refine (HOW.out _ N30.out).mono ?_; rintro e W30 ⟨B30, rfl, hl, hat, b3, -⟩; have N31 := Lib.hid (N30.out.below b3); have HM := Lib.hid (HW2.out B30 hl W30 hat); clear hl hat b3)
              | (go_at_call 48; refine HM.out.mono ?_; rintro e W31 ⟨rfl, b6⟩; have N32 := Lib.hid (N31.out.below b6); clear b6))
          clear HM N31 N30 M27 HW2
          go_upto_region 31 with (fail)
          go_cut [202] from 182 to 202 (fun s202 W => s202 = .bool false ∧ W31 = W)
          case first =>
            have hfo := HFO.out
            have hwb := HWB2.out
            have t1' : ¬ (wl : Int) < 0 := by omega
            have t2' : ¬ (300 : Int) < (wl : Int) := by omega
            by_cases h0 : wl = 0
            · rw [if_pos h0] at hfo
              subst hfo
              have t3' : ¬ (0 : Int) < (wl : Int) := by omega
              have t4' : ((0 : Int) < (wl : Int)) = False := eq_false t3'
              have t5' : decide ((0 : Int) < (wl : Int)) = false := decide_eq_false t3'
              have t6' : (0 < wl) = False := eq_false (by omega)
              clear h0 hwb
              go_wp2_with fail
              go_meet
              exact ⟨rfl, rfl⟩
            · rw [if_neg h0] at hfo
              subst hfo
              have t3' : (0 : Int) < (wl : Int) := by omega
              have HTW : Hid (decide (0 < wl) = true) := decide_eq_true (by omega)
              clear h0 hwb
              go_wp2_with fail
              go_meet
              exact ⟨by rw [HTW.out]; rfl, rfl⟩
          case rest =>
          obtain ⟨rfl, rfl⟩ := hcut
          clear HFO
          go_wp2_with fail
          go_loopw [30] (fun kv wr => ∃ k : Nat, wl ≤ k ∧ k ≤ wl + 2 ∧ kv = .int .i64 k ∧ CV w B L H gb g1 c1 g2 c2 (.slice K' m cd') #[.int .i64 s.long, .int .i64 s.wide, .int .i64 s.kerf, .int .i64 s.across] wr) (fun kv _ => wl + 3 - (intOf kv).toNat)
          case atStart => exact ⟨wl, Nat.le_refl _, by omega, rfl, N32.out⟩
          case round =>
            obtain ⟨k, hk1, hk2, rfl, hv⟩ := hrel
            have NL := Lib.hid hv
            clear hv N32
            have hwb := HWB2.out
            have y1 : IntKind.i64.wrap ((wl : Int) + 1) = (wl : Int) + 1 := IntWalk.i64_in _ (by omega)
            have y2 : IntKind.i64.wrap ((k : Int) + 1) = (k : Int) + 1 := IntWalk.i64_in _ (by omega)
            by_cases ha : k ≤ wl + 1
            · have ha1 : (k : Int) ≤ (wl : Int) + 1 := by omega
              by_cases hb : k ≤ 300
              · have hb1 : (k : Int) ≤ 300 := by omega
                have sg := NL.out.get8
                have D31 := Lib.hid (below_self wr (.cells #[.int .i64 s.long, .int .i64 (k : Int), .int .i64 s.kerf, .int .i64 s.across] 37))
                have Q31 : Hid (Blk (wr.alloc (.cells #[.int .i64 s.long, .int .i64 (k : Int), .int .i64 s.kerf, .int .i64 s.across] 37)) wr.heap.size 37 #[.int .i64 s.long, .int .i64 (k : Int), .int .i64 s.kerf, .int .i64 s.across]) := Blk.new wr _ _ rfl
                have P31 := (Blk.new wr 37 #[.int .i64 s.long, .int .i64 s.wide, .int .i64 s.kerf, .int .i64 s.across] (g := wr.heap.size) rfl).cell
                have F31 := (Blk.new wr 37 #[.int .i64 s.long, .int .i64 s.wide, .int .i64 s.kerf, .int .i64 s.across] (g := wr.heap.size) rfl).frozen
                have N31 := Lib.hid (NL.out.below D31.out)
                by_cases hk0 : k = 0
                · have e0 : ((k : Int) == 0) = true := by simp; omega
                  have e1 : ((k : Int) = 0) = True := eq_true (by omega)
                  have HK0 := Lib.hid hk0
                  clear hk0
                  go_wp2_with fail
                  go_roundw
                  case rel => exact ⟨k + 1, by omega, by omega, by go_num, N31.out⟩
                  case measure => simp [intOf]; omega
                · have e0 : ((k : Int) == 0) = false := by simp; omega
                  have e1 : ((k : Int) = 0) = False := eq_false (by omega)
                  have e2 : (k = 0) = False := eq_false hk0
                  have hwl := HWL2.out k (by omega) hb hk1 ha
                  have HM0 := Lib.hid (HMW.out k (by omega) hb)
                  dsimp only [Sw.width] at HM0
                  unfold Sw.width at hwl
                  generalize (layoutL (B.worst ⟨s.long, (k : Int), s.kerf, s.across⟩) B.n).length = l4 at *
                  have HL4 := Lib.hid hwl
                  have HKB := Lib.hid (And.intro hk1 hk2)
                  clear hwl hk0 hwb hb
                  go_upto_region 39 with (fail)
                  clear P31 F31 sg e0 e1 e2
                  generalize wr.alloc (.cells #[.int .i64 s.long, .int .i64 (k : Int), .int .i64 s.kerf, .int .i64 s.across] 37) = wq at *
                  generalize wr.heap.size = g3 at *
                  have N39 := Lib.hid (N31.out.below (Below.refl _ _).drew)
                  have Q39 := Lib.hid (blk_keep (Below.refl _ _).drew Q31.out)
                  have G39 : Hid (∀ W, CV w B L H gb g1 c1 g2 c2 (.slice K' m cd') #[.int .i64 s.long, .int .i64 s.wide, .int .i64 s.kerf, .int .i64 s.across] W → Blk W g3 37 #[.int .i64 s.long, .int .i64 (k : Int), .int .i64 s.kerf, .int .i64 s.across] → ((W.cell? ⟨gb, 0, none⟩ = some (.slice B.A B.n B.c) ∧ W.cell? ⟨gb, 1, none⟩ = some (.slice B.A' B.n' B.c') ∧ W.cell? ⟨gb, 2, none⟩ = some (.int .i64 B.bend) ∧ W.cell? ⟨gb, 3, none⟩ = some (.slice B.K B.m B.d)) ∧ W.cell? ⟨g3, 0, none⟩ = some (.int .i64 s.long) ∧ W.cell? ⟨g3, 1, none⟩ = some (.int .i64 (k : Int)) ∧ W.cell? ⟨g3, 2, none⟩ = some (.int .i64 s.kerf) ∧ W.cell? ⟨g3, 3, none⟩ = some (.int .i64 s.across))) := fun W hc hq => ⟨hc.get8.1, hq.cell 0, hq.cell 1, hq.cell 2, hq.cell 3⟩
                  go_region_held3 (fun W => ((W.cell? ⟨gb, 0, none⟩ = some (.slice B.A B.n B.c) ∧ W.cell? ⟨gb, 1, none⟩ = some (.slice B.A' B.n' B.c') ∧ W.cell? ⟨gb, 2, none⟩ = some (.int .i64 B.bend) ∧ W.cell? ⟨gb, 3, none⟩ = some (.slice B.K B.m B.d)) ∧ W.cell? ⟨g3, 0, none⟩ = some (.int .i64 s.long) ∧ W.cell? ⟨g3, 1, none⟩ = some (.int .i64 (k : Int)) ∧ W.cell? ⟨g3, 2, none⟩ = some (.int .i64 s.kerf) ∧ W.cell? ⟨g3, 3, none⟩ = some (.int .i64 s.across))) (first | with_reducible exact G39.out _ N39.out Q39.out | with_reducible exact G39.out _ N40.out Q40.out | with_reducible exact G39.out _ M40.out R40.out)
                    (first
                      | (go_at_call 52; refine (HOW.out _ N39.out).mono ?_; rintro e W39 ⟨B40, rfl, hl, hat, b3, -⟩; have N40 := Lib.hid (N39.out.below b3); have Q40 := Lib.hid (blk_keep b3 Q39.out); have HM := Lib.hid (HM0.out B40 hl W39 hat); clear hl hat b3)
                      | (go_at_call 34; refine HM.out.mono ?_; rintro e W40 ⟨A40, c40, rfl, -, b6⟩; have M40 := Lib.hid (N40.out.below b6); have R40 := Lib.hid (blk_keep b6 Q40.out); clear b6))
                  clear HM N40 Q40 N39 Q39 N31 Q31 G39 R40
                  by_cases hkw : k = wl
                  · have e3 : wt ≤ (l4 : Int) := HL4.out.1 hkw
                    have e4 : ((k : Int) == (wl : Int)) = true := by simp; omega
                    have e5 : ((k : Int) = (wl : Int)) = True := eq_true (by omega)
                    have e6 : (k = wl) = True := eq_true hkw
                    have HKW := Lib.hid hkw
                    clear hkw
                    go_wp2_with fail
                    go_roundw
                    case rel => exact ⟨k + 1, by have := HKB.out; omega, by omega, by go_num, M40.out⟩
                    case measure => simp [intOf]; omega
                  · have e3 : ¬ wt ≤ (l4 : Int) := by have := HL4.out.2 hkw; omega
                    have e4 : ((k : Int) == (wl : Int)) = false := by simp; omega
                    have e5 : ((k : Int) = (wl : Int)) = False := eq_false (by omega)
                    have e6 : (k = wl) = False := eq_false hkw
                    go_wp2_with fail
                    go_roundw
                    case rel => exact ⟨k + 1, by have := HKB.out; omega, by omega, by go_num, M40.out⟩
                    case measure => simp [intOf]; omega
              · have hb1 : ¬ (k : Int) ≤ 300 := by omega
                go_wp2_with (go_at_call 18; refine (HKN.out _).mono ?_; rintro e w9 ⟨rfl, b9⟩; have D9 := Lib.hid (below_then NL.out.bel b9); clear b9)
                go_ret
                exact ⟨rfl, D9.out⟩
            · have ha1 : ¬ (k : Int) ≤ (wl : Int) + 1 := by omega
              go_wp2_with (go_at_call 18; refine (HKN.out _).mono ?_; rintro e w9 ⟨rfl, b9⟩; have D9 := Lib.hid (below_then NL.out.bel b9); clear b9)
              go_ret
              exact ⟨rfl, D9.out⟩
end Go.Proofs.Ytiflhimmieflpaa
