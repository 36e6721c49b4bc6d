/- Closed facts: what the document's example comes to. -/
import Derived.Test.YtiflhimmieflpaaW30
namespace Go.Proofs.Ytiflhimmieflpaa
open Go.RowKit Go.Maps

structure Bl.Ex (B : Bl) : Prop where
  n : B.n = 6
  n' : B.n' = 6
  m : B.m = 1
  bend : B.bend = 10
  bot : B.bot = botX
  top : B.top = topX
  cr : B.cr = crX
def sawX : Sw := ⟨2, 6, 1, 0⟩
theorem ex_curve {B : Bl} (h : B.Ex) : curveErr B.n B.n' B.m B.bend B.bot B.top B.cr = 0 := by
  rw [h.n, h.n', h.m, h.bend, h.bot, h.top, h.cr]; kernel_rfl
theorem ex_err {B : Bl} (h : B.Ex) : B.err sawX = 0 := by
  unfold Bl.err; rw [h.n, h.n', h.m, h.bend, h.bot, h.top, h.cr]; kernel_rfl
theorem ex_worst {B : Bl} (h : B.Ex) (s : Sw) : B.worst s = worstL s.long s.wide s.kerf s.across (bentL botX 10) (bentL topX 10) crX := by
  unfold Bl.worst; rw [h.bend, h.bot, h.top, h.cr]
theorem ex_bot {B : Bl} (h : B.Ex) : (bentL B.bot B.bend).getD 2 (0, 0) = (1, 4) := by rw [h.bend, h.bot]; kernel_rfl
theorem ex_top {B : Bl} (h : B.Ex) : (bentL B.top B.bend).getD 2 (0, 0) = (20, 22) := by rw [h.bend, h.top]; kernel_rfl
theorem ex_block0 {B : Bl} (h : B.Ex) : blockL (B.worst sawX) 0 = [2, 9, 16, 23] := by rw [ex_worst h]; kernel_rfl
theorem ex_block4 {B : Bl} (h : B.Ex) : blockL (B.worst sawX) 4 = [3, 14, 21] := by rw [ex_worst h]; kernel_rfl
theorem ex_most {B : Bl} (h : B.Ex) : (layoutL (B.worst sawX) B.n).length = 9 := by rw [ex_worst h, h.n]; kernel_rfl
theorem ex_bound {B : Bl} (h : B.Ex) : boundL B sawX = 9 := by unfold boundL; rw [ex_worst h, h.n]; kernel_rfl
theorem ex_class {B : Bl} (h : B.Ex) : classL B sawX = 0 := by unfold classL; rw [ex_bound h, ex_worst h, h.n]; kernel_rfl
theorem ex_costs {B : Bl} (h : B.Ex) : costsL B sawX = [1] := by unfold costsL costAt Bl.worstX Bl.worst; rw [h.n, h.m, h.bend, h.bot, h.top, h.cr]; kernel_rfl
theorem ex_widest {B : Bl} (h : B.Ex) : widestL B sawX 9 = 6 := by unfold widestL fewP Bl.worst; rw [h.n, h.bend, h.bot, h.top, h.cr]; kernel_rfl
theorem ex_holds {B : Bl} (h : B.Ex) : holdsB B.n sawX.long [((0 : Int), (0 : Int))] = true ∧ holdsB B.n sawX.long [((4 : Int), (0 : Int))] = true := by rw [h.n]; exact ⟨by kernel_rfl, by kernel_rfl⟩
end Go.Proofs.Ytiflhimmieflpaa
