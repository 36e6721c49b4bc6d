/- Walks: the law TopRivetPair. -/
import Derived.Test.YtllioljphpgfhaaGG
import Derived.Test.YtllioljphpgfhaaFKk
namespace Go.Proofs.Ytllioljphpgfhaa
open Go.RowKit

set_option maxRecDepth 100000 in
set_option maxHeartbeats 4000000 in
theorem TopRivetPair_any (b0 b1 b2 b3 c : Int) (w : World) (h0 : Byte b0) (h1 : Byte b1) (h2 : Byte b2) (h3 : Byte b3) (hc : Byte c) :
    Calls Try.prog 3 #[.agg #[.int .u8 b0, .int .u8 b1, .int .u8 b2, .int .u8 b3], .int .u8 c] w fun e w' => e = .returned (.bool true) ∧ Below w.heap.size w w' := by
  unfold Byte at *
  have t0 : 0 ≤ b0.tmod 64 ∧ b0.tmod 64 ≤ 63 := by rw [Int.tmod_eq_emod_of_nonneg h0.1]; omega
  have t1 : 0 ≤ b1.tmod 64 ∧ b1.tmod 64 ≤ 63 := by rw [Int.tmod_eq_emod_of_nonneg h1.1]; omega
  have t2 : 0 ≤ b2.tmod 8 ∧ b2.tmod 8 ≤ 7 := by rw [Int.tmod_eq_emod_of_nonneg h2.1]; omega
  have e0 : IntKind.i64.wrap b0 = b0 := IntWalk.i64_in _ (by omega)
  have e1 : IntKind.i64.wrap b1 = b1 := IntWalk.i64_in _ (by omega)
  have e2 : IntKind.i64.wrap b2 = b2 := IntWalk.i64_in _ (by omega)
  have e3 : IntKind.i64.wrap b3 = b3 := IntWalk.i64_in _ (by omega)
  have e4 : IntKind.i64.wrap c = c := IntWalk.i64_in _ (by omega)
  generalize hz0 : b0.tmod 64 = z0 at *
  generalize hz1 : b1.tmod 64 = z1 at *
  generalize hz2 : b2.tmod 8 = z2 at *
  have f0 : IntKind.i64.wrap z0 = z0 := IntWalk.i64_in _ (by omega)
  have f1 : IntKind.i64.wrap z1 = z1 := IntWalk.i64_in _ (by omega)
  have f2 : IntKind.i64.wrap z2 = z2 := IntWalk.i64_in _ (by omega)
  have g0 : IntKind.i64.wrap (1000 + z0) = 1000 + z0 := IntWalk.i64_in _ (by omega)
  have g1 : IntKind.i64.wrap (1000 + z1) = 1000 + z1 := IntWalk.i64_in _ (by omega)
  have g2 : IntKind.i64.wrap (2 * c) = 2 * c := IntWalk.i64_in _ (by omega)
  have HC := Lib.hid (fun W => oakRivetPair_any (1000 + z0) (1000 + z1) z2 b3 (2 * c) W ⟨by omega, by omega, by omega, by omega, by omega, by omega, by omega, by omega, by omega, by omega⟩ h3)
  have B1 := Lib.hid (below_self w (.cells #[.int .u8 b0, .int .u8 b1, .int .u8 b2, .int .u8 b3] 22))
  clear h0 h1 h2 h3 hc t0 t1 t2
  go_enter Try.func3, Try.ntmps3
  go_wp2_with (go_at_call 5; refine (HC.out _).mono ?_; rintro e W2 ⟨rfl, b2⟩)
  go_ret
  exact ⟨rfl, below_then B1.out b2⟩
end Go.Proofs.Ytllioljphpgfhaa
