/- Walks: copied. -/
import Derived.Test.YtpbepipnfpgoiaaVa
import Derived.Test.YtpbepipnfpgoiaaSk
namespace Go.Proofs.Ytpbepipnfpgoiaa
open Go.RowKit

def SFan (w : World) (x0 x1 x2 x3 x4 : Value) (W : World) : Prop := W.cell? ⟨w.heap.size, 0, none⟩ = some x0 ∧ W.cell? ⟨w.heap.size, 1, none⟩ = some x1 ∧ W.cell? ⟨w.heap.size, 2, none⟩ = some x2 ∧ W.cell? ⟨w.heap.size, 3, none⟩ = some x3 ∧ W.cell? ⟨w.heap.size, 4, none⟩ = some x4
theorem ones5v (a b c d : Int) (A : Option Addr) (n k : Nat) : (#[Value.int .i64 a, Value.int .i64 b, Value.int .i64 c, Value.int .i64 d, Value.slice A n k]).all (·.oneCell') = true := all_oneCell_toArray (cs := [.int .i64 a, .int .i64 b, .int .i64 c, .int .i64 d, .slice A n k]) (fun v hv => by simp only [List.mem_cons, List.not_mem_nil, or_false] at hv; rcases hv with rfl | rfl | rfl | rfl | rfl <;> rfl)
theorem OwnG.rowT {W : World} {b g n : Nat} {A : Option Addr} {xs : List Gap} {cs : Array Value} (h : OwnG b W A n xs) (hB : Blk W g 26 cs) (cs' : Array Value) : OwnG b (W.setRow g cs') A n xs := by
  rcases Nat.eq_zero_or_pos n with rfl | h0
  · exact ⟨⟨h.1.1, fun h => absurd h (by omega)⟩, fun h => absurd h (by omega)⟩
  · obtain ⟨r, rfl, hr, hR⟩ := h.2 h0
    have hne : r ≠ g := by
      rintro rfl
      obtain ⟨c2, h1, _⟩ := hR
      have e := h1.symm.trans hB
      simp only [Option.some.injEq, Obj.cells.injEq] at e
      exact absurd e.2.1 (by decide)
    have R2 : RB (W.setRow g cs') r 42 (flatG xs) := by
      obtain ⟨c2, h1, h2⟩ := hR
      exact ⟨c2, h1.setRow_far hne cs', h2⟩
    have G2 := R2.gaps
    rw [h.1.len] at G2
    exact ⟨G2, fun _ => ⟨r, rfl, hr, R2⟩⟩

set_option maxRecDepth 100000 in
set_option maxHeartbeats 4000000 in
theorem copied_any (f : Fan) (A : Option Addr) (n c : Nat) (w : World) (h : Gaps w A n f.gs) (hn : n ≤ 1000) :
    Calls Try.prog 49 #[.agg (fanA f A n c)] w (OwnRes w f n) := by
  obtain ⟨i0, hi, hz0, hz1, hz2⟩ := info_parts Try.infoGap
  have E0 := Lib.hid (Env2.start w 26 26 (fanA f A n c) #[.int .i64 0, .int .i64 0, .int .i64 0, .int .i64 0, .slice none 0 0]).drewd
  have HG := Lib.hid h
  clear h
  have HE := Lib.hid (fun W a1 a2 (ho : OwnG w.heap.size W a1 n f.gs) (hb : Below w.heap.size w W) => show OwnRes w f n (.returned (.agg (fanA f a1 n a2))) W from ⟨a1, a2, rfl, ho, hb⟩)
  generalize OwnRes w f n = RR at *
  obtain ⟨fa, fb, fc, fd, gs⟩ := f
  simp only [fanA] at *
  go_enter Try.func49, Try.ntmps49
  go_wp2_with fail
  refine wp_region_untl (S := SFan w (.int .i64 fa) (.int .i64 fb) (.int .i64 fc) (.int .i64 fd) (.slice A n c)) [9] (by kernel_rfl) (fan_get E0.out.p) (fun _ => ?_)
  generalize (((w.alloc (.cells #[.int .i64 fa, .int .i64 fb, .int .i64 fc, .int .i64 fd, .slice A n c] 26)).alloc (.cells #[.int .i64 0, .int .i64 0, .int .i64 0, .int .i64 0, .slice none 0 0] 26)).drew) = wd at *
  refine untlTake (i := 0) 3 (v := ?v1) rfl (by kernel_rfl) (by kernel_rfl) (by kernel_rfl) (by kernel_rfl) (by kernel_rfl) (by kernel_rfl) (fun _ _ _ h => h) (Or.inl ⟨by rfl, ?y1⟩) (by assumption) ?r1
  case y1 => (intro w hSw; obtain ⟨g0, g1, g2, g3, g4⟩ := hSw; go_simp; try with_reducible rfl)
  refine untlTake (i := 1) 4 (v := ?v2) rfl (by kernel_rfl) (by kernel_rfl) (by kernel_rfl) (by kernel_rfl) (by kernel_rfl) (by kernel_rfl) (fun _ _ _ h => h) (Or.inl ⟨by rfl, ?y2⟩) (by assumption) ?r2
  case y2 => (intro w hSw; obtain ⟨g0, g1, g2, g3, g4⟩ := hSw; go_simp; try with_reducible rfl)
  refine untlTake (i := 2) 5 (v := ?v3) rfl (by kernel_rfl) (by kernel_rfl) (by kernel_rfl) (by kernel_rfl) (by kernel_rfl) (by kernel_rfl) (fun _ _ _ h => h) (Or.inl ⟨by rfl, ?y3⟩) (by assumption) ?r3
  case y3 => (intro w hSw; obtain ⟨g0, g1, g2, g3, g4⟩ := hSw; go_simp; try with_reducible rfl)
  refine untlTake (i := 3) 6 (v := ?v4) rfl (by kernel_rfl) (by kernel_rfl) (by kernel_rfl) (by kernel_rfl) (by kernel_rfl) (by kernel_rfl) (fun _ _ _ h => h) (Or.inl ⟨by rfl, ?y4⟩) (by assumption) ?r4
  case y4 => (intro w hSw; obtain ⟨g0, g1, g2, g3, g4⟩ := hSw; go_simp; try with_reducible rfl)
  refine untlTake (i := 5) 8 (v := ?v5) rfl (by kernel_rfl) (by kernel_rfl) (by kernel_rfl) (by kernel_rfl) (by kernel_rfl) (by kernel_rfl) (fun _ _ _ h => h) (Or.inl ⟨by rfl, ?y5⟩) (by assumption) ?r5
  case y5 => (intro w hSw; obtain ⟨g0, g1, g2, g3, g4⟩ := hSw; go_simp; try with_reducible rfl)
  refine untlTake (i := 6) 9 (v := ?v6) rfl (by kernel_rfl) (by kernel_rfl) (by kernel_rfl) (by kernel_rfl) (by kernel_rfl) (by kernel_rfl) (fun _ _ _ h => h) (Or.inl ⟨by rfl, ?y6⟩) (by assumption) ?r6
  case y6 => (intro w hSw; obtain ⟨g0, g1, g2, g3, g4⟩ := hSw; go_simp; try with_reducible rfl)
  simp only [Act.put, List.setIfInBounds_toArray, List.set_cons_zero, List.set_cons_succ]
  refine untlStep (i := 4) (by kernel_rfl) rfl (fun K4 hK4 => ?_)
  go_simp
  have E1 := Lib.hid (E0.out.alloc (.cells #[] 42))
  refine hK4.out _ _ (.inr (fan_get E1.out.p)) ?_
  generalize hV1 : wd.alloc (.cells #[] 42) = V1 at *
  clear hV1
  refine untlStep (i := 7) (by kernel_rfl) rfl (fun K7 hK7 => ?_)
  refine step_append_copyG rfl (.tmp 7) (.tmp 9) 24 rfl i0 _ 32 Try.underlying24 hi hz0 hz1 hz2 rfl _ (by rfl) A n c (by rfl) _ (HG.out.below E1.out.bel) (by unfold maxLen; omega) (by omega) ?_
  intro a1 a2 V2 h1 h2
  have E2 := Lib.hid (E1.out.below h2)
  have O2 := Lib.hid h1
  have HZ := Lib.hid E1.out.q.lt
  clear h1 h2
  have s2 : SFan w (.int .i64 fa) (.int .i64 fb) (.int .i64 fc) (.int .i64 fd) (.slice A n c) V2 := fan_get E2.out.p
  refine hK7.out _ _ (.inr s2) ?_
  refine untlTake (i := 8) 11 (v := ?v7) rfl (by kernel_rfl) (by kernel_rfl) (by kernel_rfl) (by kernel_rfl) (by kernel_rfl) (by kernel_rfl) (fun _ _ _ h => h) (Or.inl ⟨by rfl, ?y7⟩) (by assumption) ?r7
  case y7 => (intro w hSw; obtain ⟨g0, g1, g2, g3, g4⟩ := hSw; go_simp; try with_reducible rfl)
  refine untlStep (i := 9) (by kernel_rfl) rfl (fun K9 hK9 => ?_)
  rw [if_pos (by rfl)]
  refine wp_store_rowN rfl _ _ _ rfl _ _ rfl rfl _ _ E2.out.q (by kernel_rfl) rfl (ones5v _ _ _ _ _ _ _) ?_
  have O3 := Lib.hid (O2.out.rowT E2.out.q #[.int .i64 fa, .int .i64 fb, .int .i64 fc, .int .i64 fd, .slice a1 n a2])
  have Q3 := Lib.hid (E2.out.q.setRow #[.int .i64 fa, .int .i64 fb, .int .i64 fc, .int .i64 fd, .slice a1 n a2])
  have B3 := Lib.hid (below_setR E2.out.bel (g := w.heap.size + 1) (Nat.le_succ _) #[.int .i64 fa, .int .i64 fb, .int .i64 fc, .int .i64 fd, .slice a1 n a2])
  refine hK9.out _ _ (.inl (by decide)) ?_
  refine untlDone (by kernel_rfl) ?_ _
  go_wp2_with fail
  exact bodyPost_ret (results_c rfl _ _ _ (w.heap.size + 1) _ _ _ rfl Q3.out Try.underlying26 (by kernel_rfl)) rfl (HE.out _ _ _ (O3.out.less (by have := HZ.out; omega)) B3.out)
end Go.Proofs.Ytpbepipnfpgoiaa
