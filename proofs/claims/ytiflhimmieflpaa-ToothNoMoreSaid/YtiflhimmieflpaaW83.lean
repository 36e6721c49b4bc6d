/- Walks: the law's own copy. -/
import Derived.Test.YtiflhimmieflpaaW74
namespace Go.Proofs.Ytiflhimmieflpaa
open Go.RowKit Go.Maps

set_option maxRecDepth 100000 in
set_option maxHeartbeats 8000000 in
theorem own_any (B : Bl) (w : World) (h : B.At w) (hn : B.n ≤ 1000) (hn' : B.n' ≤ 1000) (hm : B.m ≤ 1000) : Calls Try.prog 52 #[B.val] w (CopyRes2 w B) := by
  obtain ⟨i0, hi, hz0, hz1, hz2⟩ := info_parts Try.infoSpan
  obtain ⟨j0, hj, hy0, hy1, hy2⟩ := info_parts Try.infoCrack
  have HW : Hid (CW w B ((w.alloc (.cells #[.slice B.A B.n B.c, .slice B.A' B.n' B.c', .int .i64 B.bend, .slice B.K B.m B.d] 25)).alloc (.cells #[.slice none 0 0, .slice none 0 0, .int .i64 0, .slice none 0 0] 25)).drew) :=
    ⟨(Blk.new w _ _ rfl).alloc _, Blk.new _ _ _ (by simp), (below_alloc' (below_self _ _) _).drew⟩
  have HA := Lib.hid h
  clear h
  unfold Bl.val
  go_enter Try.func52, Try.ntmps52
  go_wp2_with fail
  obtain ⟨s0, s1, s2, s3⟩ := HW.out.s
  go_region_held3 (fun w' => w'.cell? ⟨w.heap.size, 0, none⟩ = some (.slice B.A B.n B.c) ∧ w'.cell? ⟨w.heap.size, 1, none⟩ = some (.slice B.A' B.n' B.c') ∧ w'.cell? ⟨w.heap.size, 2, none⟩ = some (.int .i64 B.bend) ∧ w'.cell? ⟨w.heap.size, 3, none⟩ = some (.slice B.K B.m B.d)) (first | with_reducible exact HW.out.s4 _ _ _ _ | exact HW.out.s | exact (HW.out.alloc _).s | exact ((HW.out.alloc _).alloc _).s | exact (((HW.out.alloc _).alloc _).alloc _).s)
    (first
    | (refine step_append_copy2 rfl (.tmp 3) (.tmp 5) 22 rfl 98 i0 _ 2 16 Try.underlying22 hi hz0 hz1 hz2 rfl (by decide) _ (by rfl) B.A B.n B.c (by rfl) _ (by first | exact HA.out.hb.below HW.out.bel | exact HA.out.hb.below (HW.out.alloc _).bel | exact HA.out.hb.below ((HW.out.alloc _).alloc _).bel | exact HA.out.hb.below (((HW.out.alloc _).alloc _).alloc _).bel) (by have := hn; unfold maxLen; omega) (by have := hn; omega) ?_; intro a1 a2 x1 h1 h2; have E1 := Lib.hid (CW.below (by first | exact HW.out | exact (HW.out.alloc _) | exact ((HW.out.alloc _).alloc _) | exact (((HW.out.alloc _).alloc _).alloc _)) h2); have Qa := Lib.hid (ON.more h1 (by first | exact HW.out.z.lt | exact (HW.out.alloc _).z.lt | exact ((HW.out.alloc _).alloc _).z.lt | exact (((HW.out.alloc _).alloc _).alloc _).z.lt)); clear HW h1 h2 s0 s1 s2 s3; have HW := E1; clear E1; obtain ⟨s0, s1, s2, s3⟩ := HW.out.s; obtain ⟨⟨z0, z1, z2, z3⟩, f0, f1, f2, f3⟩ := HW.out.zs)
    | (refine step_append_copy2 rfl (.tmp 7) (.tmp 9) 22 rfl 98 i0 _ 2 16 Try.underlying22 hi hz0 hz1 hz2 rfl (by decide) _ (by rfl) B.A' B.n' B.c' (by rfl) _ (by first | exact HA.out.ht.below HW.out.bel | exact HA.out.ht.below (HW.out.alloc _).bel | exact HA.out.ht.below ((HW.out.alloc _).alloc _).bel | exact HA.out.ht.below (((HW.out.alloc _).alloc _).alloc _).bel) (by have := hn'; unfold maxLen; omega) (by have := hn'; omega) ?_; intro b1 b2 x1 h1 h2; have E1 := Lib.hid (CW.below (by first | exact HW.out | exact (HW.out.alloc _) | exact ((HW.out.alloc _).alloc _) | exact (((HW.out.alloc _).alloc _).alloc _)) h2); have Qb := Lib.hid (ON.more h1 (by first | exact HW.out.z.lt | exact (HW.out.alloc _).z.lt | exact ((HW.out.alloc _).alloc _).z.lt | exact (((HW.out.alloc _).alloc _).alloc _).z.lt)); have HNE : Hid (∀ ga oa gb ob, 0 < B.n → 0 < B.n' → a1 = some ⟨ga, oa, none⟩ → b1 = some ⟨gb, ob, none⟩ → ga ≠ gb) := fun ga oa gb ob m1 m2 e1 e2 => sep_of (by first | exact Qa.out | exact Qa.out.alloc _ | exact (Qa.out.alloc _).alloc _ | exact ((Qa.out.alloc _).alloc _).alloc _) h1 m1 m2 e1 e2; have Za := Lib.hid (ON.below (by first | exact Qa.out | exact Qa.out.alloc _ | exact (Qa.out.alloc _).alloc _ | exact ((Qa.out.alloc _).alloc _).alloc _) h2); clear Qa; have Qa := Za; clear Za; clear z0 z1 z2 z3 f0 f1 f2 f3 HW h1 h2 s0 s1 s2 s3; have HW := E1; clear E1; obtain ⟨s0, s1, s2, s3⟩ := HW.out.s; obtain ⟨⟨z0, z1, z2, z3⟩, f0, f1, f2, f3⟩ := HW.out.zs)
    | (refine step_append_copy2 rfl (.tmp 13) (.tmp 15) 23 rfl 111 j0 _ 6 48 Try.underlying23 hj hy0 hy1 hy2 rfl (by decide) _ (by rfl) B.K B.m B.d (by rfl) _ (by first | exact HA.out.hk.below HW.out.bel | exact HA.out.hk.below (HW.out.alloc _).bel | exact HA.out.hk.below ((HW.out.alloc _).alloc _).bel | exact HA.out.hk.below (((HW.out.alloc _).alloc _).alloc _).bel) (by have := hm; unfold maxLen; omega) (by have := hm; omega) ?_; intro c1 c2 x1 h1 h2; have E1 := Lib.hid (CW.below (by first | exact HW.out | exact (HW.out.alloc _) | exact ((HW.out.alloc _).alloc _) | exact (((HW.out.alloc _).alloc _).alloc _)) h2); have Qc := Lib.hid (ON.more h1 (by first | exact HW.out.z.lt | exact (HW.out.alloc _).z.lt | exact ((HW.out.alloc _).alloc _).z.lt | exact (((HW.out.alloc _).alloc _).alloc _).z.lt)); have Za := Lib.hid (ON.below (by first | exact Qa.out | exact Qa.out.alloc _ | exact (Qa.out.alloc _).alloc _ | exact ((Qa.out.alloc _).alloc _).alloc _) h2); clear Qa; have Qa := Za; clear Za; have Zb := Lib.hid (ON.below (by first | exact Qb.out | exact Qb.out.alloc _ | exact (Qb.out.alloc _).alloc _ | exact ((Qb.out.alloc _).alloc _).alloc _) h2); clear Qb; have Qb := Zb; clear Zb; clear z0 z1 z2 z3 f0 f1 f2 f3 HW h1 h2 s0 s1 s2 s3; have HW := E1; clear E1; obtain ⟨s0, s1, s2, s3⟩ := HW.out.s; obtain ⟨⟨z0, z1, z2, z3⟩, f0, f1, f2, f3⟩ := HW.out.zs))
  all_goals
    clear z0 z1 z2 z3 f0 f1 f2 f3 s0 s1 s2 s3
    go_wp2
    exact bodyPost_ret (results_c rfl _ _ _ _ _ _ _ rfl ((((HW.out.z.set_ 0 _).set_ 1 _).set_ 2 _).set_ 3 _) Try.underlying25 (by kernel_rfl)) rfl (copy_end2 HW.out HA.out Qa.out Qb.out Qc.out HNE.out)
end Go.Proofs.Ytiflhimmieflpaa
