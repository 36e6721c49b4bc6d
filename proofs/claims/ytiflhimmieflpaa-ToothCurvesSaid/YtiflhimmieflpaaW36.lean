/- Walks: the reference's Copy. -/
import Derived.Test.YtiflhimmieflpaaW35
import Derived.Deep.RegionHeld3
import Derived.Deep.DrawnRows
namespace Go.Proofs.Ytiflhimmieflpaa
open Go.RowKit Go.Maps

/-- What Copy's own variables hold. -/
structure CW (w : World) (B : Bl) (W : World) : Prop where
  b : Blk W w.heap.size 25 #[.slice B.A B.n B.c, .slice B.A' B.n' B.c', .int .i64 B.bend, .slice B.K B.m B.d]
  z : Blk W (w.heap.size + 1) 25 #[.slice none 0 0, .slice none 0 0, .int .i64 0, .slice none 0 0]
  bel : Below w.heap.size w W
theorem CW.below {w W W' : World} {B : Bl} (h : CW w B W) (hb : Below W.heap.size W W') : CW w B W' := ⟨blk_keep hb h.b, blk_keep hb h.z, below_then h.bel hb⟩
theorem CW.alloc {w W : World} {B : Bl} (h : CW w B W) (o : Obj) : CW w B (W.alloc o) := h.below (below_self W o)
theorem CW.s {w W : World} {B : Bl} (h : CW w B W) : W.cell? ⟨w.heap.size, 0, none⟩ = some (.slice B.A B.n B.c) ∧ W.cell? ⟨w.heap.size, 1, none⟩ = some (.slice B.A' B.n' B.c') ∧ W.cell? ⟨w.heap.size, 2, none⟩ = some (.int .i64 B.bend) ∧ W.cell? ⟨w.heap.size, 3, none⟩ = some (.slice B.K B.m B.d) := ⟨h.b.cell 0, h.b.cell 1, h.b.cell 2, h.b.cell 3⟩
theorem CW.drew {w W : World} {B : Bl} (h : CW w B W) : CW w B W.drew := ⟨h.b, h.z, h.bel.drew⟩
theorem CW.s4 {w W : World} {B : Bl} (h : CW w B W) (u0 u1 u2 u3 : Value) : ((((W.setCell ⟨w.heap.size + 1, 0, none⟩ u0).setCell ⟨w.heap.size + 1, 1, none⟩ u1).setCell ⟨w.heap.size + 1, 2, none⟩ u2).setCell ⟨w.heap.size + 1, 3, none⟩ u3).cell? ⟨w.heap.size, 0, none⟩ = some (.slice B.A B.n B.c) ∧ ((((W.setCell ⟨w.heap.size + 1, 0, none⟩ u0).setCell ⟨w.heap.size + 1, 1, none⟩ u1).setCell ⟨w.heap.size + 1, 2, none⟩ u2).setCell ⟨w.heap.size + 1, 3, none⟩ u3).cell? ⟨w.heap.size, 1, none⟩ = some (.slice B.A' B.n' B.c') ∧ ((((W.setCell ⟨w.heap.size + 1, 0, none⟩ u0).setCell ⟨w.heap.size + 1, 1, none⟩ u1).setCell ⟨w.heap.size + 1, 2, none⟩ u2).setCell ⟨w.heap.size + 1, 3, none⟩ u3).cell? ⟨w.heap.size, 2, none⟩ = some (.int .i64 B.bend) ∧ ((((W.setCell ⟨w.heap.size + 1, 0, none⟩ u0).setCell ⟨w.heap.size + 1, 1, none⟩ u1).setCell ⟨w.heap.size + 1, 2, none⟩ u2).setCell ⟨w.heap.size + 1, 3, none⟩ u3).cell? ⟨w.heap.size, 3, none⟩ = some (.slice B.K B.m B.d) := by
  have hb := (((h.b.far (p := ⟨w.heap.size + 1, 0, none⟩) (by simp) u0).far (p := ⟨w.heap.size + 1, 1, none⟩) (by simp) u1).far (p := ⟨w.heap.size + 1, 2, none⟩) (by simp) u2).far (p := ⟨w.heap.size + 1, 3, none⟩) (by simp) u3
  exact ⟨hb.cell 0, hb.cell 1, hb.cell 2, hb.cell 3⟩
theorem CW.zs {w W : World} {B : Bl} (h : CW w B W) : (W.cell? ⟨w.heap.size + 1, 0, none⟩ = some (.slice none 0 0) ∧ W.cell? ⟨w.heap.size + 1, 1, none⟩ = some (.slice none 0 0) ∧ W.cell? ⟨w.heap.size + 1, 2, none⟩ = some (.int .i64 0) ∧ W.cell? ⟨w.heap.size + 1, 3, none⟩ = some (.slice none 0 0)) ∧
    W.frozen? ⟨w.heap.size + 1, 0, none⟩ = false ∧ W.frozen? ⟨w.heap.size + 1, 1, none⟩ = false ∧ W.frozen? ⟨w.heap.size + 1, 2, none⟩ = false ∧ W.frozen? ⟨w.heap.size + 1, 3, none⟩ = false :=
  ⟨⟨h.z.cell 0, h.z.cell 1, h.z.cell 2, h.z.cell 3⟩, h.z.frozen 0, h.z.frozen 1, h.z.frozen 2, h.z.frozen 3⟩
theorem NR.more {b b' : Nat} {w : World} {size n : Nat} {A : Option Addr} {xs : List Value} (h : NR b w size A n xs) (hb : b' < b) : NR (b' + 1) w size A n xs := ⟨h.r, fun hn g o e => Nat.le_trans hb (h.far hn g o e)⟩
def CopyRes (w : World) (B : Bl) (e : Ending) (w' : World) : Prop := ∃ B' : Bl, e = .returned B'.val ∧ B.Like B' ∧ B'.At w' ∧ Below w.heap.size w w'

theorem NR.set4 {g b : Nat} {W : World} {size n : Nat} {A : Option Addr} {xs : List Value} (h : NR b W size A n xs) (hb : g < b) (u0 u1 u2 u3 : Value) : Reads ((((W.setCell ⟨g, 0, none⟩ u0).setCell ⟨g, 1, none⟩ u1).setCell ⟨g, 2, none⟩ u2).setCell ⟨g, 3, none⟩ u3) size A n xs :=
  ((((h.setCell (p := ⟨g, 0, none⟩) hb u0).setCell (p := ⟨g, 1, none⟩) hb u1).setCell (p := ⟨g, 2, none⟩) hb u2).setCell (p := ⟨g, 3, none⟩) hb u3).r
theorem copy_end {w W : World} {B : Bl} {a1 b1 c1 : Option Addr} {a2 b2 c2 : Nat} (h : CW w B W) (ha : B.At w) (qa : NR (w.heap.size + 1 + 1) W 2 a1 B.n (flat2 B.bot)) (qb : NR (w.heap.size + 1 + 1) W 2 b1 B.n' (flat2 B.top)) (qc : NR (w.heap.size + 1 + 1) W 6 c1 B.m (flat6 B.cr)) :
    CopyRes w B (.returned (.agg #[.slice a1 B.n a2, .slice b1 B.n' b2, .int .i64 B.bend, .slice c1 B.m c2])) ((((W.setCell ⟨w.heap.size + 1, 0, none⟩ (.slice a1 B.n a2)).setCell ⟨w.heap.size + 1, 1, none⟩ (.slice b1 B.n' b2)).setCell ⟨w.heap.size + 1, 2, none⟩ (.int .i64 B.bend)).setCell ⟨w.heap.size + 1, 3, none⟩ (.slice c1 B.m c2)) :=
  ⟨⟨a1, b1, c1, B.n, a2, B.n', b2, B.m, c2, B.bend, B.bot, B.top, B.cr⟩, rfl, ⟨rfl, rfl, rfl, rfl, rfl, rfl, rfl⟩,
    ⟨qa.set4 (Nat.lt_succ_self _) _ _ _ _, qb.set4 (Nat.lt_succ_self _) _ _ _ _, qc.set4 (Nat.lt_succ_self _) _ _ _ _, ha.n1, ha.n2, ha.n3⟩,
    (((h.bel.setCell (p := ⟨w.heap.size + 1, 0, none⟩) (by simp) _).setCell (p := ⟨w.heap.size + 1, 1, none⟩) (by simp) _).setCell (p := ⟨w.heap.size + 1, 2, none⟩) (by simp) _).setCell (p := ⟨w.heap.size + 1, 3, none⟩) (by simp) _⟩
attribute [local go_sem ↓] Go.wp_at_zero Go.wp_at_succ
set_option maxRecDepth 100000 in
set_option maxHeartbeats 8000000 in
theorem RefCopy_any (B : Bl) (w : World) (h : B.At w) (hn : B.n ≤ 1000) (hn' : B.n' ≤ 1000) (hm : B.m ≤ 1000) : Calls Try.prog 19 #[B.val] w (CopyRes w B) := by
  obtain ⟨i0, hi, hz0, hz1, hz2⟩ := info_parts Try.infoSpan
  obtain ⟨j0, hj, hy0, hy1, hy2⟩ := info_parts Try.infoCrack
  have HW : Hid (CW w B ((w.alloc (.cells #[.slice B.A B.n B.c, .slice B.A' B.n' B.c', .int .i64 B.bend, .slice B.K B.m B.d] 25)).alloc (.cells #[.slice none 0 0, .slice none 0 0, .int .i64 0, .slice none 0 0] 25)).drew) :=
    ⟨(Blk.new w _ _ rfl).alloc _, Blk.new _ _ _ (by simp), (below_alloc' (below_self _ _) _).drew⟩
  have HA := Lib.hid h
  clear h
  unfold Bl.val
  go_enter Try.func19, Try.ntmps19
  go_wp2_with fail
  obtain ⟨s0, s1, s2, s3⟩ := HW.out.s
  go_region_held3 (fun w' => w'.cell? ⟨w.heap.size, 0, none⟩ = some (.slice B.A B.n B.c) ∧ w'.cell? ⟨w.heap.size, 1, none⟩ = some (.slice B.A' B.n' B.c') ∧ w'.cell? ⟨w.heap.size, 2, none⟩ = some (.int .i64 B.bend) ∧ w'.cell? ⟨w.heap.size, 3, none⟩ = some (.slice B.K B.m B.d)) (first | with_reducible exact HW.out.s4 _ _ _ _ | exact HW.out.s | exact (HW.out.alloc _).s | exact ((HW.out.alloc _).alloc _).s | exact (((HW.out.alloc _).alloc _).alloc _).s)
    (first
    | (refine step_append_copy rfl (.tmp 3) (.tmp 5) 22 rfl 98 i0 _ 2 16 Try.underlying22 hi hz0 hz1 hz2 rfl (by decide) _ (by rfl) B.A B.n B.c (by rfl) _ (by first | exact HA.out.hb.below HW.out.bel | exact HA.out.hb.below (HW.out.alloc _).bel | exact HA.out.hb.below ((HW.out.alloc _).alloc _).bel | exact HA.out.hb.below (((HW.out.alloc _).alloc _).alloc _).bel) (by have := hn; unfold maxLen; omega) (by have := hn; omega) ?_; intro a1 a2 x1 h1 h2; have E1 := Lib.hid (CW.below (by first | exact HW.out | exact (HW.out.alloc _) | exact ((HW.out.alloc _).alloc _) | exact (((HW.out.alloc _).alloc _).alloc _)) h2); have Qa := Lib.hid (NR.more h1 (by first | exact HW.out.z.lt | exact (HW.out.alloc _).z.lt | exact ((HW.out.alloc _).alloc _).z.lt | exact (((HW.out.alloc _).alloc _).alloc _).z.lt)); clear HW h1 h2 s0 s1 s2 s3; have HW := E1; clear E1; obtain ⟨s0, s1, s2, s3⟩ := HW.out.s; obtain ⟨⟨z0, z1, z2, z3⟩, f0, f1, f2, f3⟩ := HW.out.zs)
    | (refine step_append_copy rfl (.tmp 7) (.tmp 9) 22 rfl 98 i0 _ 2 16 Try.underlying22 hi hz0 hz1 hz2 rfl (by decide) _ (by rfl) B.A' B.n' B.c' (by rfl) _ (by first | exact HA.out.ht.below HW.out.bel | exact HA.out.ht.below (HW.out.alloc _).bel | exact HA.out.ht.below ((HW.out.alloc _).alloc _).bel | exact HA.out.ht.below (((HW.out.alloc _).alloc _).alloc _).bel) (by have := hn'; unfold maxLen; omega) (by have := hn'; omega) ?_; intro b1 b2 x1 h1 h2; have E1 := Lib.hid (CW.below (by first | exact HW.out | exact (HW.out.alloc _) | exact ((HW.out.alloc _).alloc _) | exact (((HW.out.alloc _).alloc _).alloc _)) h2); have Qb := Lib.hid (NR.more h1 (by first | exact HW.out.z.lt | exact (HW.out.alloc _).z.lt | exact ((HW.out.alloc _).alloc _).z.lt | exact (((HW.out.alloc _).alloc _).alloc _).z.lt)); have Za := Lib.hid (NR.below (by first | exact Qa.out | exact Qa.out.alloc _ | exact (Qa.out.alloc _).alloc _ | exact ((Qa.out.alloc _).alloc _).alloc _) h2); clear Qa; have Qa := Za; clear Za; clear z0 z1 z2 z3 f0 f1 f2 f3 HW h1 h2 s0 s1 s2 s3; have HW := E1; clear E1; obtain ⟨s0, s1, s2, s3⟩ := HW.out.s; obtain ⟨⟨z0, z1, z2, z3⟩, f0, f1, f2, f3⟩ := HW.out.zs)
    | (refine step_append_copy rfl (.tmp 13) (.tmp 15) 23 rfl 111 j0 _ 6 48 Try.underlying23 hj hy0 hy1 hy2 rfl (by decide) _ (by rfl) B.K B.m B.d (by rfl) _ (by first | exact HA.out.hk.below HW.out.bel | exact HA.out.hk.below (HW.out.alloc _).bel | exact HA.out.hk.below ((HW.out.alloc _).alloc _).bel | exact HA.out.hk.below (((HW.out.alloc _).alloc _).alloc _).bel) (by have := hm; unfold maxLen; omega) (by have := hm; omega) ?_; intro c1 c2 x1 h1 h2; have E1 := Lib.hid (CW.below (by first | exact HW.out | exact (HW.out.alloc _) | exact ((HW.out.alloc _).alloc _) | exact (((HW.out.alloc _).alloc _).alloc _)) h2); have Qc := Lib.hid (NR.more h1 (by first | exact HW.out.z.lt | exact (HW.out.alloc _).z.lt | exact ((HW.out.alloc _).alloc _).z.lt | exact (((HW.out.alloc _).alloc _).alloc _).z.lt)); have Za := Lib.hid (NR.below (by first | exact Qa.out | exact Qa.out.alloc _ | exact (Qa.out.alloc _).alloc _ | exact ((Qa.out.alloc _).alloc _).alloc _) h2); clear Qa; have Qa := Za; clear Za; have Zb := Lib.hid (NR.below (by first | exact Qb.out | exact Qb.out.alloc _ | exact (Qb.out.alloc _).alloc _ | exact ((Qb.out.alloc _).alloc _).alloc _) h2); clear Qb; have Qb := Zb; clear Zb; clear z0 z1 z2 z3 f0 f1 f2 f3 HW h1 h2 s0 s1 s2 s3; have HW := E1; clear E1; obtain ⟨s0, s1, s2, s3⟩ := HW.out.s; obtain ⟨⟨z0, z1, z2, z3⟩, f0, f1, f2, f3⟩ := HW.out.zs))
  all_goals
    clear z0 z1 z2 z3 f0 f1 f2 f3 s0 s1 s2 s3
    go_wp2
    exact bodyPost_ret (results_c rfl _ _ _ _ _ _ _ rfl ((((HW.out.z.set_ 0 _).set_ 1 _).set_ 2 _).set_ 3 _) Try.underlying25 (by kernel_rfl)) rfl (copy_end HW.out HA.out Qa.out Qb.out Qc.out)
end Go.Proofs.Ytiflhimmieflpaa
