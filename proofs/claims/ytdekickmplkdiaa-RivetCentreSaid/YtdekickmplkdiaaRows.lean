/-
  No cell of these rows narrows 'for every input' (looked for: loops, veiled, ifaces, maps, wideKeys, modest, calm, conditions, laid).
  DERIVED. THE GIVEN ROWS OF THIS SEAT. 14 by the template 'for every input the law returns true; each argument reads behind the call as it read before'; 0 by the template 'total and deterministic' (their statements: YtdekickmplkdiaaTotals.lean).
  GIVEN WITH THE SEED: the statements are not yours to turn. If you find one false, say at which input.
  Laid BY PROGRAM, IN A SANDBOX (cutbox-rows.mjs): the forced cells as the released guide's own fill.sh prints them over the translation 0c8817f4f9ccca99… (all of the seat's roots in one cut). By AI agents, Wed Nov 11 2026. No macro, syntax, notation, axiom, sorry.
-/
import Derived.Test.YtdekickmplkdiaaChecked
import GoSem.Claim
import GoSem.ClaimJoined
import GoSem.ClaimMapViews
import Derived.JoinedTies
import Derived.KernelRfl
namespace Go.Proofs.Ytdekickmplkdiaa
/- THE CELL 'sum', in the pinned program and in every row, IS THE sha256 OF THE DUMP (.gsa) THAT YtdekickmplkdiaaProg.lean LOADS. Nothing in Lean hashes anything: it is a label: what it is worth is what the hold of that sum in a sandbox is worth. -/
noncomputable def Try.pinned : Pinned := { name := "ytdekickmplkdiaa", sum := "0c8817f4f9ccca99448407986ff5c74e19761a9771d82d96f3cb8e60327b1325", checked := Try.checked }
namespace Rows
def none {H : Type} : Left H := { results := [], args := [] }

/-- 'panachelaw05.RivetOpens': WHATEVER THE INPUT: true; the input reads as it did. -/
def rivetOpensSpec : ChangeSpec := { name := "rivetOpens", fn := fun _ => fun
  | [d] => { results := [.lit (.bool true)], args := [d] }
  | _ => none }
def rivetOpensRow : OpenClaim := { program := "ytdekickmplkdiaa", sum := "0c8817f4f9ccca99448407986ff5c74e19761a9771d82d96f3cb8e60327b1325", func := "panache/panachelaw05.RivetOpens", spec := "rivetOpens", unfollowed := true, recurses := true, apart := false }
def RivetOpensSaid : Prop := rivetOpensRow.holds Try.pinned (OpenSpec.ofChange rivetOpensSpec)

/-- ITS FALSE NEIGHBOUR: 'it returns false'. Refute it at one input. -/
def rivetOpensWrong : ChangeSpec := { name := "rivetOpens", fn := fun _ => fun
  | [d] => { results := [.lit (.bool false)], args := [d] }
  | _ => none }
def RivetOpensWrongFalsely : Prop := rivetOpensRow.holds Try.pinned (OpenSpec.ofChange rivetOpensWrong)

/-- 'panachelaw05.RivetStops': WHATEVER THE INPUT: true; the input reads as it did. -/
def rivetStopsSpec : ChangeSpec := { name := "rivetStops", fn := fun _ => fun
  | [d] => { results := [.lit (.bool true)], args := [d] }
  | _ => none }
def rivetStopsRow : OpenClaim := { program := "ytdekickmplkdiaa", sum := "0c8817f4f9ccca99448407986ff5c74e19761a9771d82d96f3cb8e60327b1325", func := "panache/panachelaw05.RivetStops", spec := "rivetStops", unfollowed := true, recurses := true, apart := false }
def RivetStopsSaid : Prop := rivetStopsRow.holds Try.pinned (OpenSpec.ofChange rivetStopsSpec)

/-- ITS FALSE NEIGHBOUR: 'it returns false'. Refute it at one input. -/
def rivetStopsWrong : ChangeSpec := { name := "rivetStops", fn := fun _ => fun
  | [d] => { results := [.lit (.bool false)], args := [d] }
  | _ => none }
def RivetStopsWrongFalsely : Prop := rivetStopsRow.holds Try.pinned (OpenSpec.ofChange rivetStopsWrong)

/-- 'panachelaw05.RivetCompares': WHATEVER THE INPUT: true; the input reads as it did. -/
def rivetComparesSpec : ChangeSpec := { name := "rivetCompares", fn := fun _ => fun
  | [d1, d2] => { results := [.lit (.bool true)], args := [d1, d2] }
  | _ => none }
def rivetComparesRow : OpenClaim := { program := "ytdekickmplkdiaa", sum := "0c8817f4f9ccca99448407986ff5c74e19761a9771d82d96f3cb8e60327b1325", func := "panache/panachelaw05.RivetCompares", spec := "rivetCompares", unfollowed := true, recurses := true, apart := false }
def RivetComparesSaid : Prop := rivetComparesRow.holds Try.pinned (OpenSpec.ofChange rivetComparesSpec)

/-- ITS FALSE NEIGHBOUR: 'it returns false'. Refute it at one input. -/
def rivetComparesWrong : ChangeSpec := { name := "rivetCompares", fn := fun _ => fun
  | [d1, d2] => { results := [.lit (.bool false)], args := [d1, d2] }
  | _ => none }
def RivetComparesWrongFalsely : Prop := rivetComparesRow.holds Try.pinned (OpenSpec.ofChange rivetComparesWrong)

/-- 'panachelaw05.RivetWidens': WHATEVER THE INPUT: true; the input reads as it did. -/
def rivetWidensSpec : ChangeSpec := { name := "rivetWidens", fn := fun _ => fun
  | [d1, d2] => { results := [.lit (.bool true)], args := [d1, d2] }
  | _ => none }
def rivetWidensRow : OpenClaim := { program := "ytdekickmplkdiaa", sum := "0c8817f4f9ccca99448407986ff5c74e19761a9771d82d96f3cb8e60327b1325", func := "panache/panachelaw05.RivetWidens", spec := "rivetWidens", unfollowed := true, recurses := true, apart := false }
def RivetWidensSaid : Prop := rivetWidensRow.holds Try.pinned (OpenSpec.ofChange rivetWidensSpec)

/-- ITS FALSE NEIGHBOUR: 'it returns false'. Refute it at one input. -/
def rivetWidensWrong : ChangeSpec := { name := "rivetWidens", fn := fun _ => fun
  | [d1, d2] => { results := [.lit (.bool false)], args := [d1, d2] }
  | _ => none }
def RivetWidensWrongFalsely : Prop := rivetWidensRow.holds Try.pinned (OpenSpec.ofChange rivetWidensWrong)

/-- 'panachelaw05.RivetWrongs': WHATEVER THE INPUT: true; the input reads as it did. -/
def rivetWrongsSpec : ChangeSpec := { name := "rivetWrongs", fn := fun _ => fun
  | [d1, d2] => { results := [.lit (.bool true)], args := [d1, d2] }
  | _ => none }
def rivetWrongsRow : OpenClaim := { program := "ytdekickmplkdiaa", sum := "0c8817f4f9ccca99448407986ff5c74e19761a9771d82d96f3cb8e60327b1325", func := "panache/panachelaw05.RivetWrongs", spec := "rivetWrongs", unfollowed := true, recurses := true, apart := false }
def RivetWrongsSaid : Prop := rivetWrongsRow.holds Try.pinned (OpenSpec.ofChange rivetWrongsSpec)

/-- ITS FALSE NEIGHBOUR: 'it returns false'. Refute it at one input. -/
def rivetWrongsWrong : ChangeSpec := { name := "rivetWrongs", fn := fun _ => fun
  | [d1, d2] => { results := [.lit (.bool false)], args := [d1, d2] }
  | _ => none }
def RivetWrongsWrongFalsely : Prop := rivetWrongsRow.holds Try.pinned (OpenSpec.ofChange rivetWrongsWrong)

/-- 'panachelaw05.RivetSticks': WHATEVER THE INPUT: true; the input reads as it did. -/
def rivetSticksSpec : ChangeSpec := { name := "rivetSticks", fn := fun _ => fun
  | [d1, d2] => { results := [.lit (.bool true)], args := [d1, d2] }
  | _ => none }
def rivetSticksRow : OpenClaim := { program := "ytdekickmplkdiaa", sum := "0c8817f4f9ccca99448407986ff5c74e19761a9771d82d96f3cb8e60327b1325", func := "panache/panachelaw05.RivetSticks", spec := "rivetSticks", unfollowed := true, recurses := true, apart := false }
def RivetSticksSaid : Prop := rivetSticksRow.holds Try.pinned (OpenSpec.ofChange rivetSticksSpec)

/-- ITS FALSE NEIGHBOUR: 'it returns false'. Refute it at one input. -/
def rivetSticksWrong : ChangeSpec := { name := "rivetSticks", fn := fun _ => fun
  | [d1, d2] => { results := [.lit (.bool false)], args := [d1, d2] }
  | _ => none }
def RivetSticksWrongFalsely : Prop := rivetSticksRow.holds Try.pinned (OpenSpec.ofChange rivetSticksWrong)

/-- 'panachelaw05.RivetPleats': WHATEVER THE INPUT: true; the input reads as it did. -/
def rivetPleatsSpec : ChangeSpec := { name := "rivetPleats", fn := fun _ => fun
  | [d1, d2] => { results := [.lit (.bool true)], args := [d1, d2] }
  | _ => none }
def rivetPleatsRow : OpenClaim := { program := "ytdekickmplkdiaa", sum := "0c8817f4f9ccca99448407986ff5c74e19761a9771d82d96f3cb8e60327b1325", func := "panache/panachelaw05.RivetPleats", spec := "rivetPleats", unfollowed := true, recurses := true, apart := false }
def RivetPleatsSaid : Prop := rivetPleatsRow.holds Try.pinned (OpenSpec.ofChange rivetPleatsSpec)

/-- ITS FALSE NEIGHBOUR: 'it returns false'. Refute it at one input. -/
def rivetPleatsWrong : ChangeSpec := { name := "rivetPleats", fn := fun _ => fun
  | [d1, d2] => { results := [.lit (.bool false)], args := [d1, d2] }
  | _ => none }
def RivetPleatsWrongFalsely : Prop := rivetPleatsRow.holds Try.pinned (OpenSpec.ofChange rivetPleatsWrong)

/-- 'panachelaw05.RivetCloses': WHATEVER THE INPUT: true; the input reads as it did. -/
def rivetClosesSpec : ChangeSpec := { name := "rivetCloses", fn := fun _ => fun
  | [d1, d2] => { results := [.lit (.bool true)], args := [d1, d2] }
  | _ => none }
def rivetClosesRow : OpenClaim := { program := "ytdekickmplkdiaa", sum := "0c8817f4f9ccca99448407986ff5c74e19761a9771d82d96f3cb8e60327b1325", func := "panache/panachelaw05.RivetCloses", spec := "rivetCloses", unfollowed := true, recurses := true, apart := false }
def RivetClosesSaid : Prop := rivetClosesRow.holds Try.pinned (OpenSpec.ofChange rivetClosesSpec)

/-- ITS FALSE NEIGHBOUR: 'it returns false'. Refute it at one input. -/
def rivetClosesWrong : ChangeSpec := { name := "rivetCloses", fn := fun _ => fun
  | [d1, d2] => { results := [.lit (.bool false)], args := [d1, d2] }
  | _ => none }
def RivetClosesWrongFalsely : Prop := rivetClosesRow.holds Try.pinned (OpenSpec.ofChange rivetClosesWrong)

/-- 'panachelaw05.RivetBalances': WHATEVER THE INPUT: true; the input reads as it did. -/
def rivetBalancesSpec : ChangeSpec := { name := "rivetBalances", fn := fun _ => fun
  | [d] => { results := [.lit (.bool true)], args := [d] }
  | _ => none }
def rivetBalancesRow : OpenClaim := { program := "ytdekickmplkdiaa", sum := "0c8817f4f9ccca99448407986ff5c74e19761a9771d82d96f3cb8e60327b1325", func := "panache/panachelaw05.RivetBalances", spec := "rivetBalances", unfollowed := true, recurses := true, apart := false }
def RivetBalancesSaid : Prop := rivetBalancesRow.holds Try.pinned (OpenSpec.ofChange rivetBalancesSpec)

/-- ITS FALSE NEIGHBOUR: 'it returns false'. Refute it at one input. -/
def rivetBalancesWrong : ChangeSpec := { name := "rivetBalances", fn := fun _ => fun
  | [d] => { results := [.lit (.bool false)], args := [d] }
  | _ => none }
def RivetBalancesWrongFalsely : Prop := rivetBalancesRow.holds Try.pinned (OpenSpec.ofChange rivetBalancesWrong)

/-- 'panachelaw05.RivetTurns': WHATEVER THE INPUT: true; the input reads as it did. -/
def rivetTurnsSpec : ChangeSpec := { name := "rivetTurns", fn := fun _ => fun
  | [d1, d2] => { results := [.lit (.bool true)], args := [d1, d2] }
  | _ => none }
def rivetTurnsRow : OpenClaim := { program := "ytdekickmplkdiaa", sum := "0c8817f4f9ccca99448407986ff5c74e19761a9771d82d96f3cb8e60327b1325", func := "panache/panachelaw05.RivetTurns", spec := "rivetTurns", unfollowed := true, recurses := true, apart := false }
def RivetTurnsSaid : Prop := rivetTurnsRow.holds Try.pinned (OpenSpec.ofChange rivetTurnsSpec)

/-- ITS FALSE NEIGHBOUR: 'it returns false'. Refute it at one input. -/
def rivetTurnsWrong : ChangeSpec := { name := "rivetTurns", fn := fun _ => fun
  | [d1, d2] => { results := [.lit (.bool false)], args := [d1, d2] }
  | _ => none }
def RivetTurnsWrongFalsely : Prop := rivetTurnsRow.holds Try.pinned (OpenSpec.ofChange rivetTurnsWrong)

/-- 'panachelaw05.RivetNever': WHATEVER THE INPUT: true; the input reads as it did. -/
def rivetNeverSpec : ChangeSpec := { name := "rivetNever", fn := fun _ => fun
  | [d1, d2, d3] => { results := [.lit (.bool true)], args := [d1, d2, d3] }
  | _ => none }
def rivetNeverRow : OpenClaim := { program := "ytdekickmplkdiaa", sum := "0c8817f4f9ccca99448407986ff5c74e19761a9771d82d96f3cb8e60327b1325", func := "panache/panachelaw05.RivetNever", spec := "rivetNever", unfollowed := true, recurses := true, apart := false }
def RivetNeverSaid : Prop := rivetNeverRow.holds Try.pinned (OpenSpec.ofChange rivetNeverSpec)

/-- ITS FALSE NEIGHBOUR: 'it returns false'. Refute it at one input. -/
def rivetNeverWrong : ChangeSpec := { name := "rivetNever", fn := fun _ => fun
  | [d1, d2, d3] => { results := [.lit (.bool false)], args := [d1, d2, d3] }
  | _ => none }
def RivetNeverWrongFalsely : Prop := rivetNeverRow.holds Try.pinned (OpenSpec.ofChange rivetNeverWrong)

/-- 'panachelaw05.RivetSeen': WHATEVER THE INPUT: true; the input reads as it did. -/
def rivetSeenSpec : ChangeSpec := { name := "rivetSeen", fn := fun _ => fun
  | [d1, d2, d3] => { results := [.lit (.bool true)], args := [d1, d2, d3] }
  | _ => none }
def rivetSeenRow : OpenClaim := { program := "ytdekickmplkdiaa", sum := "0c8817f4f9ccca99448407986ff5c74e19761a9771d82d96f3cb8e60327b1325", func := "panache/panachelaw05.RivetSeen", spec := "rivetSeen", unfollowed := true, recurses := true, apart := false }
def RivetSeenSaid : Prop := rivetSeenRow.holds Try.pinned (OpenSpec.ofChange rivetSeenSpec)

/-- ITS FALSE NEIGHBOUR: 'it returns false'. Refute it at one input. -/
def rivetSeenWrong : ChangeSpec := { name := "rivetSeen", fn := fun _ => fun
  | [d1, d2, d3] => { results := [.lit (.bool false)], args := [d1, d2, d3] }
  | _ => none }
def RivetSeenWrongFalsely : Prop := rivetSeenRow.holds Try.pinned (OpenSpec.ofChange rivetSeenWrong)

/-- 'panachelaw05.RivetEnough': WHATEVER THE INPUT: true; the input reads as it did. -/
def rivetEnoughSpec : ChangeSpec := { name := "rivetEnough", fn := fun _ => fun
  | [d1, d2, d3] => { results := [.lit (.bool true)], args := [d1, d2, d3] }
  | _ => none }
def rivetEnoughRow : OpenClaim := { program := "ytdekickmplkdiaa", sum := "0c8817f4f9ccca99448407986ff5c74e19761a9771d82d96f3cb8e60327b1325", func := "panache/panachelaw05.RivetEnough", spec := "rivetEnough", unfollowed := true, recurses := true, apart := false }
def RivetEnoughSaid : Prop := rivetEnoughRow.holds Try.pinned (OpenSpec.ofChange rivetEnoughSpec)

/-- ITS FALSE NEIGHBOUR: 'it returns false'. Refute it at one input. -/
def rivetEnoughWrong : ChangeSpec := { name := "rivetEnough", fn := fun _ => fun
  | [d1, d2, d3] => { results := [.lit (.bool false)], args := [d1, d2, d3] }
  | _ => none }
def RivetEnoughWrongFalsely : Prop := rivetEnoughRow.holds Try.pinned (OpenSpec.ofChange rivetEnoughWrong)

/-- 'panachelaw05.RivetCentre': WHATEVER THE INPUT: true; the input reads as it did. -/
def rivetCentreSpec : ChangeSpec := { name := "rivetCentre", fn := fun _ => fun
  | [d1, d2, d3] => { results := [.lit (.bool true)], args := [d1, d2, d3] }
  | _ => none }
def rivetCentreRow : OpenClaim := { program := "ytdekickmplkdiaa", sum := "0c8817f4f9ccca99448407986ff5c74e19761a9771d82d96f3cb8e60327b1325", func := "panache/panachelaw05.RivetCentre", spec := "rivetCentre", unfollowed := true, recurses := true, apart := false }
def RivetCentreSaid : Prop := rivetCentreRow.holds Try.pinned (OpenSpec.ofChange rivetCentreSpec)

/-- ITS FALSE NEIGHBOUR: 'it returns false'. Refute it at one input. -/
def rivetCentreWrong : ChangeSpec := { name := "rivetCentre", fn := fun _ => fun
  | [d1, d2, d3] => { results := [.lit (.bool false)], args := [d1, d2, d3] }
  | _ => none }
def RivetCentreWrongFalsely : Prop := rivetCentreRow.holds Try.pinned (OpenSpec.ofChange rivetCentreWrong)

/- THE SECOND FORM. 'bulk': how many values and letters a reading holds, each counted each time it is reached (what is shared counts as often as it is met; a slice's spare places count too). A statement '..UptoSaid' is the law's where the arguments, and the package variables that the reading takes, are together of bulk at most 1048576: NARROWER than '..Said'. Prove '..Said' where nothing that the law and all that it calls make is longer than what came in: it says more and counts as full. Else prove '..UptoSaid'. A law counts once. -/
mutual
def uptoBulk {H : Type} : DataW H → Nat
  | .lit (.string bytes) => bytes.length + 1
  | .lit _ => 1
  | .nil => 1
  | .ptr d => uptoBulk d + 1
  | .slice elems spare => uptoBulkAll elems + uptoBulkAll spare + 1
  | .agg parts => uptoBulkAll parts + 1
  | .iface _ d => uptoBulk d + 1
  | .map entries => uptoBulkEntries entries + 1
  | .held _ => 1
def uptoBulkAll {H : Type} : List (DataW H) → Nat
  | [] => 0
  | d :: r => uptoBulk d + uptoBulkAll r
def uptoBulkEntries {H : Type} : List (Lit × DataW H) → Nat
  | [] => 0
  | x :: r => uptoBulkEntry x + uptoBulkEntries r
def uptoBulkEntry {H : Type} : Lit × DataW H → Nat
  | (.string bytes, d) => bytes.length + uptoBulk d + 1
  | (_, d) => uptoBulk d + 1
 end
def uptoSmall : (H : Type) → List (DataW H) → Bool := fun _ ds => decide (uptoBulkAll ds ≤ 1048576)
def OpenSpec.upto (s : _root_.Go.ChangeSpec) : _root_.Go.OpenSpec := { _root_.Go.OpenSpec.ofChange s with cond := some uptoSmall }

/-- 'panachelaw05.RivetOpens', WHERE WHAT IT READS IS OF BULK AT MOST 1048576: true; the input reads as it did. -/
def rivetOpensUptoRow : OpenClaim := { program := "ytdekickmplkdiaa", sum := "0c8817f4f9ccca99448407986ff5c74e19761a9771d82d96f3cb8e60327b1325", func := "panache/panachelaw05.RivetOpens", spec := "rivetOpens", unfollowed := true, recurses := true, apart := false, narrowed := true }
def RivetOpensUptoSaid : Prop := rivetOpensUptoRow.holds Try.pinned (OpenSpec.upto rivetOpensSpec)

/-- 'panachelaw05.RivetStops', WHERE WHAT IT READS IS OF BULK AT MOST 1048576: true; the input reads as it did. -/
def rivetStopsUptoRow : OpenClaim := { program := "ytdekickmplkdiaa", sum := "0c8817f4f9ccca99448407986ff5c74e19761a9771d82d96f3cb8e60327b1325", func := "panache/panachelaw05.RivetStops", spec := "rivetStops", unfollowed := true, recurses := true, apart := false, narrowed := true }
def RivetStopsUptoSaid : Prop := rivetStopsUptoRow.holds Try.pinned (OpenSpec.upto rivetStopsSpec)

/-- 'panachelaw05.RivetCompares', WHERE WHAT IT READS IS OF BULK AT MOST 1048576: true; the input reads as it did. -/
def rivetComparesUptoRow : OpenClaim := { program := "ytdekickmplkdiaa", sum := "0c8817f4f9ccca99448407986ff5c74e19761a9771d82d96f3cb8e60327b1325", func := "panache/panachelaw05.RivetCompares", spec := "rivetCompares", unfollowed := true, recurses := true, apart := false, narrowed := true }
def RivetComparesUptoSaid : Prop := rivetComparesUptoRow.holds Try.pinned (OpenSpec.upto rivetComparesSpec)

/-- 'panachelaw05.RivetWidens', WHERE WHAT IT READS IS OF BULK AT MOST 1048576: true; the input reads as it did. -/
def rivetWidensUptoRow : OpenClaim := { program := "ytdekickmplkdiaa", sum := "0c8817f4f9ccca99448407986ff5c74e19761a9771d82d96f3cb8e60327b1325", func := "panache/panachelaw05.RivetWidens", spec := "rivetWidens", unfollowed := true, recurses := true, apart := false, narrowed := true }
def RivetWidensUptoSaid : Prop := rivetWidensUptoRow.holds Try.pinned (OpenSpec.upto rivetWidensSpec)

/-- 'panachelaw05.RivetWrongs', WHERE WHAT IT READS IS OF BULK AT MOST 1048576: true; the input reads as it did. -/
def rivetWrongsUptoRow : OpenClaim := { program := "ytdekickmplkdiaa", sum := "0c8817f4f9ccca99448407986ff5c74e19761a9771d82d96f3cb8e60327b1325", func := "panache/panachelaw05.RivetWrongs", spec := "rivetWrongs", unfollowed := true, recurses := true, apart := false, narrowed := true }
def RivetWrongsUptoSaid : Prop := rivetWrongsUptoRow.holds Try.pinned (OpenSpec.upto rivetWrongsSpec)

/-- 'panachelaw05.RivetSticks', WHERE WHAT IT READS IS OF BULK AT MOST 1048576: true; the input reads as it did. -/
def rivetSticksUptoRow : OpenClaim := { program := "ytdekickmplkdiaa", sum := "0c8817f4f9ccca99448407986ff5c74e19761a9771d82d96f3cb8e60327b1325", func := "panache/panachelaw05.RivetSticks", spec := "rivetSticks", unfollowed := true, recurses := true, apart := false, narrowed := true }
def RivetSticksUptoSaid : Prop := rivetSticksUptoRow.holds Try.pinned (OpenSpec.upto rivetSticksSpec)

/-- 'panachelaw05.RivetPleats', WHERE WHAT IT READS IS OF BULK AT MOST 1048576: true; the input reads as it did. -/
def rivetPleatsUptoRow : OpenClaim := { program := "ytdekickmplkdiaa", sum := "0c8817f4f9ccca99448407986ff5c74e19761a9771d82d96f3cb8e60327b1325", func := "panache/panachelaw05.RivetPleats", spec := "rivetPleats", unfollowed := true, recurses := true, apart := false, narrowed := true }
def RivetPleatsUptoSaid : Prop := rivetPleatsUptoRow.holds Try.pinned (OpenSpec.upto rivetPleatsSpec)

/-- 'panachelaw05.RivetCloses', WHERE WHAT IT READS IS OF BULK AT MOST 1048576: true; the input reads as it did. -/
def rivetClosesUptoRow : OpenClaim := { program := "ytdekickmplkdiaa", sum := "0c8817f4f9ccca99448407986ff5c74e19761a9771d82d96f3cb8e60327b1325", func := "panache/panachelaw05.RivetCloses", spec := "rivetCloses", unfollowed := true, recurses := true, apart := false, narrowed := true }
def RivetClosesUptoSaid : Prop := rivetClosesUptoRow.holds Try.pinned (OpenSpec.upto rivetClosesSpec)

/-- 'panachelaw05.RivetBalances', WHERE WHAT IT READS IS OF BULK AT MOST 1048576: true; the input reads as it did. -/
def rivetBalancesUptoRow : OpenClaim := { program := "ytdekickmplkdiaa", sum := "0c8817f4f9ccca99448407986ff5c74e19761a9771d82d96f3cb8e60327b1325", func := "panache/panachelaw05.RivetBalances", spec := "rivetBalances", unfollowed := true, recurses := true, apart := false, narrowed := true }
def RivetBalancesUptoSaid : Prop := rivetBalancesUptoRow.holds Try.pinned (OpenSpec.upto rivetBalancesSpec)

/-- 'panachelaw05.RivetTurns', WHERE WHAT IT READS IS OF BULK AT MOST 1048576: true; the input reads as it did. -/
def rivetTurnsUptoRow : OpenClaim := { program := "ytdekickmplkdiaa", sum := "0c8817f4f9ccca99448407986ff5c74e19761a9771d82d96f3cb8e60327b1325", func := "panache/panachelaw05.RivetTurns", spec := "rivetTurns", unfollowed := true, recurses := true, apart := false, narrowed := true }
def RivetTurnsUptoSaid : Prop := rivetTurnsUptoRow.holds Try.pinned (OpenSpec.upto rivetTurnsSpec)

/-- 'panachelaw05.RivetNever', WHERE WHAT IT READS IS OF BULK AT MOST 1048576: true; the input reads as it did. -/
def rivetNeverUptoRow : OpenClaim := { program := "ytdekickmplkdiaa", sum := "0c8817f4f9ccca99448407986ff5c74e19761a9771d82d96f3cb8e60327b1325", func := "panache/panachelaw05.RivetNever", spec := "rivetNever", unfollowed := true, recurses := true, apart := false, narrowed := true }
def RivetNeverUptoSaid : Prop := rivetNeverUptoRow.holds Try.pinned (OpenSpec.upto rivetNeverSpec)

/-- 'panachelaw05.RivetSeen', WHERE WHAT IT READS IS OF BULK AT MOST 1048576: true; the input reads as it did. -/
def rivetSeenUptoRow : OpenClaim := { program := "ytdekickmplkdiaa", sum := "0c8817f4f9ccca99448407986ff5c74e19761a9771d82d96f3cb8e60327b1325", func := "panache/panachelaw05.RivetSeen", spec := "rivetSeen", unfollowed := true, recurses := true, apart := false, narrowed := true }
def RivetSeenUptoSaid : Prop := rivetSeenUptoRow.holds Try.pinned (OpenSpec.upto rivetSeenSpec)

/-- 'panachelaw05.RivetEnough', WHERE WHAT IT READS IS OF BULK AT MOST 1048576: true; the input reads as it did. -/
def rivetEnoughUptoRow : OpenClaim := { program := "ytdekickmplkdiaa", sum := "0c8817f4f9ccca99448407986ff5c74e19761a9771d82d96f3cb8e60327b1325", func := "panache/panachelaw05.RivetEnough", spec := "rivetEnough", unfollowed := true, recurses := true, apart := false, narrowed := true }
def RivetEnoughUptoSaid : Prop := rivetEnoughUptoRow.holds Try.pinned (OpenSpec.upto rivetEnoughSpec)

/-- 'panachelaw05.RivetCentre', WHERE WHAT IT READS IS OF BULK AT MOST 1048576: true; the input reads as it did. -/
def rivetCentreUptoRow : OpenClaim := { program := "ytdekickmplkdiaa", sum := "0c8817f4f9ccca99448407986ff5c74e19761a9771d82d96f3cb8e60327b1325", func := "panache/panachelaw05.RivetCentre", spec := "rivetCentre", unfollowed := true, recurses := true, apart := false, narrowed := true }
def RivetCentreUptoSaid : Prop := rivetCentreUptoRow.holds Try.pinned (OpenSpec.upto rivetCentreSpec)

end Rows
end Go.Proofs.Ytdekickmplkdiaa
