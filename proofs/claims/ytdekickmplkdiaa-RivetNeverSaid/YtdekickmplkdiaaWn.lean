/- The law of what never opens less, or more: its rounds put together. -/
import Derived.Test.YtdekickmplkdiaaWk0z
import Derived.Test.YtdekickmplkdiaaWk0p
import Derived.Test.YtdekickmplkdiaaWk1z
import Derived.Test.YtdekickmplkdiaaWk1p
import Derived.Test.YtdekickmplkdiaaWk2z
import Derived.Test.YtdekickmplkdiaaWk2p
import Derived.Test.YtdekickmplkdiaaWk3z
import Derived.Test.YtdekickmplkdiaaWk3p
import Derived.Test.YtdekickmplkdiaaWk4z
import Derived.Test.YtdekickmplkdiaaWk4p
import Derived.Test.YtdekickmplkdiaaWk5z
import Derived.Test.YtdekickmplkdiaaWk5p
namespace Go.Proofs.Ytdekickmplkdiaa
open Go.RowKit

theorem RivetNever_any (x : Fo) (xs : List Int) (B : Option Addr) (m dc : Nat) (b0 b1 b2 b3 : Int) (w : World) (h0 : Hid (x.At w)) (hB0 : Hid (Bytes w B m xs)) (hm0 : Hid (m ≤ maxLen)) (hc0 : Hid (Byte b0)) (hc1 : Hid (Byte b1)) (hc2 : Hid (Byte b2)) (hc3 : Hid (Byte b3)) :
    Calls Try.prog 13 #[.agg x.cells, .slice B m dc, .agg #[.int .u8 b0, .int .u8 b1, .int .u8 b2, .int .u8 b3]] w fun e w' => e = .returned (.bool true) ∧ Below w.heap.size w w' :=
  (never_1 x xs B m dc b0 b1 b2 b3 w h0 hB0 hm0 hc0 hc1 hc2 hc3).2 ((never_2 x xs B m dc b0 b1 b2 b3 w h0 hB0 hm0 hc0 hc1 hc2 hc3).2.2.2.2.2.2.2.2.2.2.2.2 (never_r0z x xs B m dc b0 b1 b2 b3 w h0 hB0 hm0 hc0 hc1 hc2 hc3) (never_r0p x xs B m dc b0 b1 b2 b3 w h0 hB0 hm0 hc0 hc1 hc2 hc3) (never_r1z x xs B m dc b0 b1 b2 b3 w h0 hB0 hm0 hc0 hc1 hc2 hc3) (never_r1p x xs B m dc b0 b1 b2 b3 w h0 hB0 hm0 hc0 hc1 hc2 hc3) (never_r2z x xs B m dc b0 b1 b2 b3 w h0 hB0 hm0 hc0 hc1 hc2 hc3) (never_r2p x xs B m dc b0 b1 b2 b3 w h0 hB0 hm0 hc0 hc1 hc2 hc3) (never_r3z x xs B m dc b0 b1 b2 b3 w h0 hB0 hm0 hc0 hc1 hc2 hc3) (never_r3p x xs B m dc b0 b1 b2 b3 w h0 hB0 hm0 hc0 hc1 hc2 hc3) (never_r4z x xs B m dc b0 b1 b2 b3 w h0 hB0 hm0 hc0 hc1 hc2 hc3) (never_r4p x xs B m dc b0 b1 b2 b3 w h0 hB0 hm0 hc0 hc1 hc2 hc3) (never_r5z x xs B m dc b0 b1 b2 b3 w h0 hB0 hm0 hc0 hc1 hc2 hc3) (never_r5p x xs B m dc b0 b1 b2 b3 w h0 hB0 hm0 hc0 hc1 hc2 hc3))
end Go.Proofs.Ytdekickmplkdiaa
