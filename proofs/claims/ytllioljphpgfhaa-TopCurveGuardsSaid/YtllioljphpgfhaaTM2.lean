/- What is needed of M2. -/
import Derived.Test.YtllioljphpgfhaaTM1
import Derived.BigQuiet
import Derived.Maps.Own
import Derived.Maps.Views
import Derived.Deep.OwnRows
import Derived.StillTailTactics
namespace Go.Proofs.Ytllioljphpgfhaa.Tooth
open Go.RowKit
theorem below_alloc' {w W : World} (h : Below w.heap.size w W) (o : Obj) : Below w.heap.size w (W.alloc o) := h.alloc h.size o
theorem below_then {w W W' : World} (h : Below w.heap.size w W) (hb : Below W.heap.size W W') : Below w.heap.size w W' := h.trans (hb.mono h.size)
theorem below_self (W : World) (o : Obj) : Below W.heap.size W (W.alloc o) := (Below.refl _ _).alloc (Nat.le_refl _) o
end Go.Proofs.Ytllioljphpgfhaa.Tooth

namespace Go.Proofs.Ytllioljphpgfhaa.Tooth
open Go.RowKit
def CurveOut (w : World) (n n' m : Nat) (bend : Int) (bot top : List (Int × Int)) (cr : List Crack) (e : Ending) (w' : World) : Prop :=
  Below w.heap.size w w' ∧ ((curveErr n n' m bend bot top cr ≠ 0 ∧ e = .returned (.tuple #[.slice none 0 0, .slice none 0 0, .int .i64 (curveErr n n' m bend bot top cr)])) ∨
    (curveErr n n' m bend bot top cr = 0 ∧ ∃ g cap g' cap', e = .returned (.tuple #[.slice (some ⟨g, 0, none⟩) n cap, .slice (some ⟨g', 0, none⟩) n cap', .int .i64 0]) ∧ Pairs w' (some ⟨g, 0, none⟩) n (bentL bot bend) ∧ Pairs w' (some ⟨g', 0, none⟩) n (bentL top bend)))
set_option maxRecDepth 100000 in
set_option maxHeartbeats 2000000 in
theorem Curve_any (A A' K : Option Addr) (n c n' c' m d : Nat) (bend : Int) (bot top : List (Int × Int)) (cr : List Crack) (w : World) (h : Pairs w A n bot) (h' : Pairs w A' n' top) (hk : Cracks w K m cr) (hn : n ≤ maxLen) (hn' : n' ≤ maxLen) (hm : m ≤ maxLen) :
    Calls Try.prog 8 #[.agg #[.slice A n c, .slice A' n' c', .int .i64 bend, .slice K m d]] w (CurveOut w n n' m bend bot top cr) := by
  have B1 := below_self w (.cells #[.slice A n c, .slice A' n' c', .int .i64 bend, .slice K m d] 30)
  have HC := Lib.hid (curve_any A A' K n c n' c' m d bend bot top cr _ (h.below B1) (h'.below B1) (hk.below B1) hn hn' hm)
  generalize hE : curveErr n n' m bend bot top cr = E at *
  have HE := Lib.hid hE
  clear hE
  go_enter Try.func8, Try.ntmps8
  go_wp2_with fail
  refine HC.out.mono ?_
  rintro e w2 ⟨hb2, ⟨herr, rfl⟩ | ⟨hok, g, cap, g', cap', rfl, P, P', -⟩⟩
  · have B2 := below_then B1 hb2
    have Herr := Lib.hid herr
    rw [HE.out]
    clear hb2 herr HC
    unfold zeroCurved
    go_wp2
    go_quiet (fail)
    go_wp2
    go_ret3
    exact ⟨below_drewN (below_alloc' B2 _) _, .inl ⟨Herr.out, by rw [HE.out]; rfl⟩⟩
  · have B2 := below_then B1 hb2
    have Hok := Lib.hid hok
    clear hb2 HC hok
    go_wp2
    go_quiet (fail)
    go_wp2
    go_ret3
    exact ⟨below_drewN (below_alloc' B2 _) _, .inr ⟨Hok.out, g, cap, g', cap', rfl, P.below (below_drewN (below_self _ _) _), P'.below (below_drewN (below_self _ _) _)⟩⟩
end Go.Proofs.Ytllioljphpgfhaa.Tooth
