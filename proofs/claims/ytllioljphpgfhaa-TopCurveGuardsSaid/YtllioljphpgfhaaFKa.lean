/- What is needed of Ka. -/
import Derived.Test.YtllioljphpgfhaaRUd
import Derived.Test.YtllioljphpgfhaaProg
import Derived.WalkKit
import Derived.WalkSpells
import Derived.Lib.Hide
import Derived.WalkSmall
import Derived.Deep.QuietTactic
import Derived.Laws.Rows
import Derived.WalkLawsBesides
import Derived.BigQuiet
import Derived.BigRegion
import Derived.StillTailTactics
import Derived.ChangeAlike
import Derived.Lib.LazyBuf
import Derived.Maps.AppendAt
import Derived.Deep.LoopGhost
import Derived.Laws.ResultCell
import Derived.Deep.RegionHeld3
import Derived.Lib.QuietBelow
import Derived.IntWalk
namespace Go.Proofs.Ytllioljphpgfhaa
open Go.RowKit
theorem lt_of_cell {w : World} {a : Addr} {v : Value} (h : w.cell? a = some v) : a.block < w.heap.size := by
  rcases Nat.lt_or_ge a.block w.heap.size with hlt | hge
  · exact hlt
  · have : w.heap[a.block]? = none := Array.getElem?_eq_none hge
    simp [World.cell?, this] at h
end Go.Proofs.Ytllioljphpgfhaa
