/- The document's example: closed facts. -/
import Derived.Test.YtdekickmplkdiaaRz
import Derived.Test.YtdekickmplkdiaaRo
import Derived.Test.YtdekickmplkdiaaRi
import Derived.Test.YtdekickmplkdiaaRg
import Derived.Test.YtdekickmplkdiaaRu
import Derived.KernelRfl
import Derived.Test.YtdekickmplkdiaaSb
namespace Go.Proofs.Ytdekickmplkdiaa
open Go.RowKit

def exT : List Stk := [⟨100, 120, 1, 1, 50⟩, ⟨30, 40, 1, 1, 200⟩]
theorem ex_err : fanErr exF = 0 := by decide
theorem ex_opens : opensL exF = (16, 19) := by decide
theorem ex_stops : stopsL exF = [1, 3] := by decide
theorem ex_widen : widenR exF 100 = (0, 18, 0) := by decide
theorem ex_stick : stickR exF 45 = (5, 0) := by decide
theorem ex_pleat : pleatR exF 18 = (235, 0) := by decide
theorem ex_bal : balR exT = ((80, 1), (650, 7), 0) := by decide
theorem ex_wrongE : wrongE exF (10, 14) = 0 := by decide
theorem ex_sort2 : sortL [10000, 4000] = [4000, 10000] := by simp [sortL, List.mergeSort, List.MergeSort.Internal.splitInTwo]
theorem ex_sort1 : sortL [4000] = [4000] := by simp [sortL]
theorem ex_sort0 : sortL [] = [] := by simp [sortL]
theorem ex_angles : anglesF false exF = [10000, 4000] := by decide
theorem ex_great1 : greatL [10000, 4000] 1 = [10000] := by unfold greatL; rw [ex_sort2]; rfl
theorem ex_manyP : manyP exF 14 1 = true := by unfold manyP; rw [ex_angles, ex_great1]; decide
theorem ex_many : manyL exF 14 = 1 := by unfold manyL; show manyGo (manyP exF 14) 2 1 = 1; unfold manyGo; rw [if_pos ex_manyP]
theorem ex_step0 : stepOk exF 14 0 ([], 0) = true := by
  unfold stepOk
  rw [ex_many, ex_angles]
  have e : greatL (([10000, 4000] : List Int).drop (0 + 1)) (1 - (([], 0) : List Int × Int).1.length - 1) = [] := by
    show greatL [4000] 0 = []
    unfold greatL; rw [ex_sort1]; rfl
  rw [e]; decide
theorem ex_go1 : wrongGo exF 14 1 = ([0], 10000) := by
  unfold wrongGo
  have e0 : wrongGo exF 14 0 = ([], 0) := rfl
  rw [e0, ex_many, ex_angles, ex_step0]; rfl
theorem ex_go2 : wrongGo exF 14 2 = ([0], 10000) := by
  unfold wrongGo
  rw [ex_go1, ex_many]; rfl
theorem ex_few : fewestL exF 14 = [0] := by unfold fewestL; show (wrongGo exF 14 2).1 = [0]; rw [ex_go2]
theorem ex_wrongL : wrongL exF (10, 14) = [0] := by
  unfold wrongL
  rw [if_pos ex_wrongE]
  exact ex_few
end Go.Proofs.Ytdekickmplkdiaa
