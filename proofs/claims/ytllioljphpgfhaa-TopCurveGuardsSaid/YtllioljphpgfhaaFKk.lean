/- What is needed of Kk. -/
import Derived.Test.YtllioljphpgfhaaRUd
import Derived.Test.YtllioljphpgfhaaFKa
import Derived.Deep.RegionHeld3
import Derived.Deep.DrawnRows
import Derived.ArgAppend
namespace Go.Proofs.Ytllioljphpgfhaa
open Go.RowKit
def Byte (x : Int) : Prop := 0 ≤ x ∧ x ≤ 255
/-- A slice reads as bytes. -/
structure Bytes (w : World) (B : Option Addr) (m : Nat) (xs : List Int) : Prop where
  r : Reads w 1 B m (xs.map (Value.int .u8))
  b : ∀ x ∈ xs, Byte x
end Go.Proofs.Ytllioljphpgfhaa
