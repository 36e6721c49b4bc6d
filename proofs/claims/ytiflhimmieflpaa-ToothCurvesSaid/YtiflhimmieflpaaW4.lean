/- Walks: bent's closure. -/
import Derived.Test.YtiflhimmieflpaaW3
import Derived.BigRegion
import Derived.StillTailTactics
import Derived.ChangeAlike
namespace Go.Proofs.Ytiflhimmieflpaa
open Go.RowKit

theorem drew2 (X : World) (a : Addr) (v : Value) (n : Nat) : ((X.drew).setCell a v).drew.drewN n = (X.setCell a v).drewN (n + 2) := by
  simp only [World.drewN, World.drew, World.setCell, World.mk.injEq, and_true, true_and]
  omega

set_option maxRecDepth 100000 in
set_option maxHeartbeats 2000000 in
theorem near_any (x y L Bd g n cap : Nat) (lx hx ly hy bend : Int) (w : World) (hxn : x < n) (hyn : y < n)
    (hL : w.cell? ⟨L, 0, none⟩ = some (.slice (some ⟨g, 0, none⟩) n cap)) (hB : w.cell? ⟨Bd, 0, none⟩ = some (.int .i64 bend))
    (c1 : w.cell? ⟨g, x * 2, none⟩ = some (.int .i64 lx)) (c2 : w.cell? ⟨g, x * 2 + 1, none⟩ = some (.int .i64 hx))
    (c3 : w.cell? ⟨g, y * 2, none⟩ = some (.int .i64 ly)) (c4 : w.cell? ⟨g, y * 2 + 1, none⟩ = some (.int .i64 hy))
    (f1 : w.frozen? ⟨g, x * 2, none⟩ = false) (f2 : w.frozen? ⟨g, x * 2 + 1, none⟩ = false)
    (hgL : L ≠ g) (hgB : Bd ≠ g)
    (b1 : -1000000 ≤ lx) (b1' : lx ≤ 1000000) (b3 : -1000000 ≤ ly) (b3' : ly ≤ 1000000) (b4 : -1000000 ≤ hy) (b4' : hy ≤ 1000000) (b5 : 0 ≤ bend) (b5' : bend ≤ 1000000) :
    Calls Try.prog 114 #[.int .i64 x, .int .i64 y, .pointer (some ⟨L, 0, none⟩), .pointer (some ⟨Bd, 0, none⟩)] w
      fun e w' => e = .returned (.bool (decide (max lx (ly - bend) ≤ min hx (hy + bend)))) ∧ ∃ m, w' = ((w.setCell ⟨g, x * 2, none⟩ (.int .i64 (max lx (ly - bend)))).setCell ⟨g, x * 2 + 1, none⟩ (.int .i64 (min hx (hy + bend)))).drewN m := by
  go_enter Try.func114, Try.ntmps114
  go_wp2
  have V1 : Hid ((if lx < ly - bend then ly - bend else lx) = max lx (ly - bend)) := by unfold Hid; split <;> omega
  have b6 : -3000000 ≤ max lx (ly - bend) := by omega
  have b6' : max lx (ly - bend) ≤ 3000000 := by omega
  have k1 : IntKind.i64.wrap (ly - bend) = ly - bend := IntWalk.i64_in _ (by omega)
  go_still_tail 17, (by kernel_rfl)
  clear k1
  change wpList _ _ _ _ _ w.drew
  rw [V1.out]
  clear V1
  generalize hv1 : max lx (ly - bend) = v1 at *
  have HV1 := Lib.hid hv1
  clear hv1
  go_wp2
  have d0 : ∀ (p : Addr), p ≠ ⟨g, x * 2, none⟩ → ((w.setCell ⟨g, x * 2, none⟩ (.int .i64 v1)).drew).cell? p = w.cell? p := fun p hp => World.cell?_setCell_other _ _ _ _ (fun e => hp e.symm)
  have e0 := (d0 ⟨L, 0, none⟩ (by simp)).trans hL
  have e1 := (d0 ⟨Bd, 0, none⟩ (by simp)).trans hB
  have e2 := (d0 ⟨g, x * 2 + 1, none⟩ (by simp)).trans c2
  have e3 := (d0 ⟨g, y * 2 + 1, none⟩ (by simp <;> omega)).trans c4
  have e4 : ((w.setCell ⟨g, x * 2, none⟩ (.int .i64 v1)).drew).cell? ⟨g, x * 2, none⟩ = some (.int .i64 v1) := World.cell?_setCell_same _ _ _ c1
  have e5 : ((w.setCell ⟨g, x * 2, none⟩ (.int .i64 v1)).drew).frozen? ⟨g, x * 2 + 1, none⟩ = false := (World.frozen?_setCell _ _ _ _).trans f2
  clear d0
  obtain ⟨W1, hW1⟩ : ∃ W1, W1 = (w.setCell ⟨g, x * 2, none⟩ (.int .i64 v1)).drew := ⟨_, rfl⟩
  rw [← hW1] at e0 e1 e2 e3 e4 e5 ⊢
  have HW1 := Lib.hid hW1
  clear hW1 hL hB c1 c2 c3 c4 f1 f2
  have V2 : Hid ((if hy + bend < hx then hy + bend else hx) = min hx (hy + bend)) := by unfold Hid; split <;> omega
  have k2 : IntKind.i64.wrap (hy + bend) = hy + bend := IntWalk.i64_in _ (by omega)
  go_still_tail 17, (by kernel_rfl)
  clear k2
  change wpList _ _ _ _ _ W1.drew
  rw [V2.out]
  clear V2
  generalize hv2 : min hx (hy + bend) = v2 at *
  have HV2 := Lib.hid hv2
  clear hv2
  go_wp2
  have d0 : ∀ (p : Addr), p ≠ ⟨g, x * 2 + 1, none⟩ → ((W1.setCell ⟨g, x * 2 + 1, none⟩ (.int .i64 v2)).drew).cell? p = W1.cell? p := fun p hp => World.cell?_setCell_other _ _ _ _ (fun e => hp e.symm)
  have g0 := (d0 ⟨L, 0, none⟩ (by simp)).trans e0
  have g1 := (d0 ⟨g, x * 2, none⟩ (by simp)).trans e4
  have g2 : ((W1.setCell ⟨g, x * 2 + 1, none⟩ (.int .i64 v2)).drew).cell? ⟨g, x * 2 + 1, none⟩ = some (.int .i64 v2) := World.cell?_setCell_same _ _ _ e2
  obtain ⟨W2, hW2⟩ : ∃ W2, W2 = (W1.setCell ⟨g, x * 2 + 1, none⟩ (.int .i64 v2)).drew := ⟨_, rfl⟩
  rw [← hW2] at g0 g1 g2 ⊢
  have HW2 := Lib.hid hW2
  clear hW2 d0 e0 e1 e2 e3 e4 e5
  go_quiet (fail)
  go_wp2
  go_ret
  exact ⟨ret_bool (by rw [HV1.out, HV2.out]), nq + 2, by rw [HW2.out, HW1.out, HV1.out, HV2.out]; exact drew2 _ _ _ _⟩
end Go.Proofs.Ytiflhimmieflpaa
