/- Walks: Widest, the face. -/
import Derived.Test.YtiflhimmieflpaaW27
namespace Go.Proofs.Ytiflhimmieflpaa
open Go.RowKit Go.Maps

def WidestRes (w : World) (B : Bl) (s : Sw) (sticks : Int) (e : Ending) (w' : World) : Prop :=
  Below w.heap.size w w' ∧ ((B.err s ≠ 0 ∧ e = .returned (.tuple #[.int .i64 0, .int .i64 (B.err s)])) ∨
    (B.err s = 0 ∧ within 1 400 [sticks] = false ∧ e = .returned (.tuple #[.int .i64 0, .int .i64 2])) ∨
    (B.err s = 0 ∧ within 1 400 [sticks] = true ∧ widestL B s sticks = 0 ∧ e = .returned (.tuple #[.int .i64 0, .int .i64 7])) ∨
    (B.err s = 0 ∧ within 1 400 [sticks] = true ∧ widestL B s sticks ≠ 0 ∧ e = .returned (.tuple #[.int .i64 (widestL B s sticks), .int .i64 0])))

set_option maxRecDepth 100000 in
set_option maxHeartbeats 2000000 in
theorem Widest_any (B : Bl) (s : Sw) (sticks : Int) (w : World) (h : B.At w) : Calls Try.prog 48 #[B.val, s.val, .int .i64 sticks] w (WidestRes w B s sticks) := by
  have hmf : ∀ (fn : Fn) (first cap : Array Value) (w : World), (Instr.makeFunc fn first cap).run Try.prog w = .ok (.func fn first cap) w := fun _ _ _ _ => rfl
  have E0 : Hid (Below w.heap.size w (((w.alloc (.cells #[.slice B.A B.n B.c, .slice B.A' B.n' B.c', .int .i64 B.bend, .slice B.K B.m B.d] 25)).alloc (.cells #[.int .i64 s.long, .int .i64 s.wide, .int .i64 s.kerf, .int .i64 s.across] 37)).alloc (.cells #[.int .i64 sticks] 3))) := below_alloc' (below_alloc' (below_self _ _) _) _
  have S0 := Lib.hid ((Blk.new (w.alloc (.cells #[.slice B.A B.n B.c, .slice B.A' B.n' B.c', .int .i64 B.bend, .slice B.K B.m B.d] 25)) 37 #[.int .i64 s.long, .int .i64 s.wide, .int .i64 s.kerf, .int .i64 s.across] (g := w.heap.size + 1) (by simp)).alloc (.cells #[.int .i64 sticks] 3))
  have N0 := Lib.hid (Blk.new ((w.alloc (.cells #[.slice B.A B.n B.c, .slice B.A' B.n' B.c', .int .i64 B.bend, .slice B.K B.m B.d] 25)).alloc (.cells #[.int .i64 s.long, .int .i64 s.wide, .int .i64 s.kerf, .int .i64 s.across] 37)) 3 #[.int .i64 sticks] (g := w.heap.size + 2) (by simp))
  have HC := Lib.hid (ready_top B s _ (h.below E0.out))
  have HK := Lib.hid h
  clear h
  unfold Bl.val Sw.val at *
  go_enter Try.func48, Try.ntmps48
  go_wp2_with fail
  refine HC.out.mono ?_
  rintro e w2 ⟨hb2, ⟨herr, rfl⟩ | ⟨hok, g, cap, g', cap', rfl, P, P', hg⟩⟩
  · have B2 := Lib.hid (below_then E0.out hb2)
    have Herr := Lib.hid herr
    have hz : (B.err s == 0) = false := by simpa using herr
    have hz2 : (B.err s != 0) = true := by simpa using herr
    clear hb2 herr HC
    unfold zeroCurved
    go_wp2
    go_ret2
    exact ⟨below_alloc' B2.out _, .inl ⟨Herr.out, rfl⟩⟩
  · have B2 := Lib.hid (below_then E0.out hb2)
    have S2 := Lib.hid (blk_keep hb2 S0.out)
    have N2 := Lib.hid (blk_keep hb2 N0.out)
    have n2 := N2.out.cell
    have z2 := N2.out.lt
    have Hok := Lib.hid (err_ok hok)
    have Hok0 := Lib.hid hok
    have Hg : Hid (w.heap.size + 2 < g ∧ w.heap.size + 2 < g') := by unfold Hid; simp at hg; omega
    have HE : Hid (WEnv w B s sticks g cap g' cap' w2.heap.size ((w2.alloc (.cells #[.slice B.A B.n B.c, .slice B.A' B.n' B.c', .int .i64 B.bend, .slice B.K B.m B.d, .slice (some ⟨g, 0, none⟩) B.n cap, .slice (some ⟨g', 0, none⟩) B.n cap'] 106)).alloc (.cells #[.int .i64 sticks] 3))) :=
      ⟨⟨_, (S2.out.alloc _).alloc _⟩, (Blk.new w2 _ _ rfl).alloc _, (N2.out.alloc _).alloc _, (P.below (below_self _ _)).below (below_self _ _), (P'.below (below_self _ _)).below (below_self _ _), below_alloc' (below_alloc' B2.out _) _⟩
    have HSE := Lib.hid (Search_any (fewP B s sticks) 300 (WEnv w B s sticks g cap g' cap' w2.heap.size) (.pointer (some ⟨w.heap.size + 1, 0, none⟩)) (.pointer (some ⟨w2.heap.size, 0, none⟩)) (.pointer (some ⟨w.heap.size + 2, 0, none⟩)) _ (by omega) HE.out
      (fun k W hk hI => widest1_any B s sticks g cap g' cap' w2.heap.size w Hok.out.2.1 Hok.out.2.2 HK.out z2 Hg.out.1 Hg.out.2 k W hk hI))
    have hWL : Hid (widestL B s sticks = searchL (fewP B s sticks) 300) := rfl
    clear hb2 hok P P' HC hg S0 N0 S2
    unfold Bl.curved
    cases hx : within 1 400 [sticks]
    · have Hx := Lib.hid hx
      clear HSE
      go_wp2_with (go_at_call 88; refine (within1 _ _ _ _ _ _ (by simp)).mono ?_; rintro e w' ⟨rfl, rfl⟩)
      go_ret2
      exact ⟨HE.out.bel, .inr (.inl ⟨Hok0.out, Hx.out, rfl⟩)⟩
    · have Hx := Lib.hid hx
      go_wp2_with (first | (go_at_call 88; refine (within1 _ _ _ _ _ _ (by simp)).mono ?_; rintro e w' ⟨rfl, rfl⟩) | (go_at_call 89; fail))
      refine HSE.out.mono ?_
      rintro e w5 ⟨rfl, hE5⟩
      have HE5 := Lib.hid hE5.bel
      rw [← hWL.out]
      clear hE5 HSE HE
      cases hv : widestL B s sticks with
      | zero =>
        have Hv := Lib.hid hv
        clear hv
        go_wp2
        go_ret2
        exact ⟨HE5.out, .inr (.inr (.inl ⟨Hok0.out, Hx.out, Hv.out, rfl⟩))⟩
      | succ v =>
        have Hv := Lib.hid hv
        have hv0 : (((v + 1 : Nat) : Int) == 0) = false := by simp; omega
        clear hv
        go_wp2
        go_ret2
        exact ⟨HE5.out, .inr (.inr (.inr ⟨Hok0.out, Hx.out, by rw [Hv.out]; omega, by rw [Hv.out]; rfl⟩))⟩
end Go.Proofs.Ytiflhimmieflpaa
