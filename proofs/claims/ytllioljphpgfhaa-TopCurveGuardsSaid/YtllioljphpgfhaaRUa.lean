/- What is needed of Ua. -/
import Derived.Test.YtllioljphpgfhaaRKe
namespace Go.Proofs.Ytllioljphpgfhaa
open Go.RowKit
theorem weightOf_any (wl wh tl th pl : Int) (w : World) : Calls Try.prog 19 #[.agg #[.int .i64 wl, .int .i64 wh, .int .i64 tl, .int .i64 th, .int .i64 pl]] w fun e w' => e = .returned (.agg #[.int .i64 wl, .int .i64 wh]) ∧ Below w.heap.size w w' := by
  have E0 := Lib.hid (Env2.start w 49 36 #[.int .i64 wl, .int .i64 wh, .int .i64 tl, .int .i64 th, .int .i64 pl] #[.int .i64 wl, .int .i64 wh])
  go_enter Try.func19, Try.ntmps19
  go_wp2
  exact bodyPost_ret (results_c rfl _ _ _ (w.heap.size + 1) _ _ _ rfl E0.out.q Try.underlying36 (by kernel_rfl)) rfl ⟨rfl, E0.out.bel⟩
theorem thickOf_any (wl wh tl th pl : Int) (w : World) : Calls Try.prog 20 #[.agg #[.int .i64 wl, .int .i64 wh, .int .i64 tl, .int .i64 th, .int .i64 pl]] w fun e w' => e = .returned (.agg #[.int .i64 tl, .int .i64 th]) ∧ Below w.heap.size w w' := by
  have E0 := Lib.hid (Env2.start w 49 36 #[.int .i64 wl, .int .i64 wh, .int .i64 tl, .int .i64 th, .int .i64 pl] #[.int .i64 tl, .int .i64 th])
  go_enter Try.func20, Try.ntmps20
  go_wp2
  exact bodyPost_ret (results_c rfl _ _ _ (w.heap.size + 1) _ _ _ rfl E0.out.q Try.underlying36 (by kernel_rfl)) rfl ⟨rfl, E0.out.bel⟩
end Go.Proofs.Ytllioljphpgfhaa
