/-
  No cell of these rows narrows 'for every input' (looked for: loops, veiled, ifaces, maps, wideKeys, modest, calm, conditions, laid).
  DERIVED. THE GIVEN ROWS OF THIS SEAT. 14 by the template 'for every input the law returns true; each argument reads behind the call as it read before'; 0 by the template 'total and deterministic' (their statements: YtiflhimmieflpaaTotals.lean).
  GIVEN WITH THE SEED: the statements are not yours to turn. If you find one false, say at which input.
  Laid BY PROGRAM, IN A SANDBOX (cutbox-rows.mjs): the forced cells as the released guide's own fill.sh prints them over the translation 267a89f6fecf3e45… (all of the seat's roots in one cut). By AI agents, Wed Nov 11 2026. No macro, syntax, notation, axiom, sorry.
-/
import Derived.Test.YtiflhimmieflpaaChecked
import GoSem.Claim
import GoSem.ClaimJoined
import GoSem.ClaimMapViews
import Derived.JoinedTies
import Derived.KernelRfl
namespace Go.Proofs.Ytiflhimmieflpaa
/- THE CELL 'sum', in the pinned program and in every row, IS THE sha256 OF THE DUMP (.gsa) THAT YtiflhimmieflpaaProg.lean LOADS. Nothing in Lean hashes anything: it is a label: what it is worth is what the hold of that sum in a sandbox is worth. -/
noncomputable def Try.pinned : Pinned := { name := "ytiflhimmieflpaa", sum := "267a89f6fecf3e45eb2cc9d329c7979fc18c4474bed07d14141d8949b40ff07b", checked := Try.checked }
namespace Rows
def none {H : Type} : Left H := { results := [], args := [] }

/-- 'panachelaw01.ToothCurves': WHATEVER THE INPUT: true; the input reads as it did. -/
def toothCurvesSpec : ChangeSpec := { name := "toothCurves", fn := fun _ => fun
  | [d] => { results := [.lit (.bool true)], args := [d] }
  | _ => none }
def toothCurvesRow : OpenClaim := { program := "ytiflhimmieflpaa", sum := "267a89f6fecf3e45eb2cc9d329c7979fc18c4474bed07d14141d8949b40ff07b", func := "panache/panachelaw01.ToothCurves", spec := "toothCurves", unfollowed := true, recurses := true, apart := false }
def ToothCurvesSaid : Prop := toothCurvesRow.holds Try.pinned (OpenSpec.ofChange toothCurvesSpec)

/-- ITS FALSE NEIGHBOUR: 'it returns false'. Refute it at one input. -/
def toothCurvesWrong : ChangeSpec := { name := "toothCurves", fn := fun _ => fun
  | [d] => { results := [.lit (.bool false)], args := [d] }
  | _ => none }
def ToothCurvesWrongFalsely : Prop := toothCurvesRow.holds Try.pinned (OpenSpec.ofChange toothCurvesWrong)

/-- 'panachelaw01.ToothFits': WHATEVER THE INPUT: true; the input reads as it did. -/
def toothFitsSpec : ChangeSpec := { name := "toothFits", fn := fun _ => fun
  | [d1, d2, d3] => { results := [.lit (.bool true)], args := [d1, d2, d3] }
  | _ => none }
def toothFitsRow : OpenClaim := { program := "ytiflhimmieflpaa", sum := "267a89f6fecf3e45eb2cc9d329c7979fc18c4474bed07d14141d8949b40ff07b", func := "panache/panachelaw01.ToothFits", spec := "toothFits", unfollowed := true, recurses := true, apart := false }
def ToothFitsSaid : Prop := toothFitsRow.holds Try.pinned (OpenSpec.ofChange toothFitsSpec)

/-- ITS FALSE NEIGHBOUR: 'it returns false'. Refute it at one input. -/
def toothFitsWrong : ChangeSpec := { name := "toothFits", fn := fun _ => fun
  | [d1, d2, d3] => { results := [.lit (.bool false)], args := [d1, d2, d3] }
  | _ => none }
def ToothFitsWrongFalsely : Prop := toothFitsRow.holds Try.pinned (OpenSpec.ofChange toothFitsWrong)

/-- 'panachelaw01.ToothBlocks': WHATEVER THE INPUT: true; the input reads as it did. -/
def toothBlocksSpec : ChangeSpec := { name := "toothBlocks", fn := fun _ => fun
  | [d1, d2, d3] => { results := [.lit (.bool true)], args := [d1, d2, d3] }
  | _ => none }
def toothBlocksRow : OpenClaim := { program := "ytiflhimmieflpaa", sum := "267a89f6fecf3e45eb2cc9d329c7979fc18c4474bed07d14141d8949b40ff07b", func := "panache/panachelaw01.ToothBlocks", spec := "toothBlocks", unfollowed := true, recurses := true, apart := false }
def ToothBlocksSaid : Prop := toothBlocksRow.holds Try.pinned (OpenSpec.ofChange toothBlocksSpec)

/-- ITS FALSE NEIGHBOUR: 'it returns false'. Refute it at one input. -/
def toothBlocksWrong : ChangeSpec := { name := "toothBlocks", fn := fun _ => fun
  | [d1, d2, d3] => { results := [.lit (.bool false)], args := [d1, d2, d3] }
  | _ => none }
def ToothBlocksWrongFalsely : Prop := toothBlocksRow.holds Try.pinned (OpenSpec.ofChange toothBlocksWrong)

/-- 'panachelaw01.ToothMosts': WHATEVER THE INPUT: true; the input reads as it did. -/
def toothMostsSpec : ChangeSpec := { name := "toothMosts", fn := fun _ => fun
  | [d1, d2] => { results := [.lit (.bool true)], args := [d1, d2] }
  | _ => none }
def toothMostsRow : OpenClaim := { program := "ytiflhimmieflpaa", sum := "267a89f6fecf3e45eb2cc9d329c7979fc18c4474bed07d14141d8949b40ff07b", func := "panache/panachelaw01.ToothMosts", spec := "toothMosts", unfollowed := true, recurses := true, apart := false }
def ToothMostsSaid : Prop := toothMostsRow.holds Try.pinned (OpenSpec.ofChange toothMostsSpec)

/-- ITS FALSE NEIGHBOUR: 'it returns false'. Refute it at one input. -/
def toothMostsWrong : ChangeSpec := { name := "toothMosts", fn := fun _ => fun
  | [d1, d2] => { results := [.lit (.bool false)], args := [d1, d2] }
  | _ => none }
def ToothMostsWrongFalsely : Prop := toothMostsRow.holds Try.pinned (OpenSpec.ofChange toothMostsWrong)

/-- 'panachelaw01.ToothFaults': WHATEVER THE INPUT: true; the input reads as it did. -/
def toothFaultsSpec : ChangeSpec := { name := "toothFaults", fn := fun _ => fun
  | [d1, d2, d3] => { results := [.lit (.bool true)], args := [d1, d2, d3] }
  | _ => none }
def toothFaultsRow : OpenClaim := { program := "ytiflhimmieflpaa", sum := "267a89f6fecf3e45eb2cc9d329c7979fc18c4474bed07d14141d8949b40ff07b", func := "panache/panachelaw01.ToothFaults", spec := "toothFaults", unfollowed := true, recurses := true, apart := false }
def ToothFaultsSaid : Prop := toothFaultsRow.holds Try.pinned (OpenSpec.ofChange toothFaultsSpec)

/-- ITS FALSE NEIGHBOUR: 'it returns false'. Refute it at one input. -/
def toothFaultsWrong : ChangeSpec := { name := "toothFaults", fn := fun _ => fun
  | [d1, d2, d3] => { results := [.lit (.bool false)], args := [d1, d2, d3] }
  | _ => none }
def ToothFaultsWrongFalsely : Prop := toothFaultsRow.holds Try.pinned (OpenSpec.ofChange toothFaultsWrong)

/-- 'panachelaw01.ToothBounds': WHATEVER THE INPUT: true; the input reads as it did. -/
def toothBoundsSpec : ChangeSpec := { name := "toothBounds", fn := fun _ => fun
  | [d1, d2] => { results := [.lit (.bool true)], args := [d1, d2] }
  | _ => none }
def toothBoundsRow : OpenClaim := { program := "ytiflhimmieflpaa", sum := "267a89f6fecf3e45eb2cc9d329c7979fc18c4474bed07d14141d8949b40ff07b", func := "panache/panachelaw01.ToothBounds", spec := "toothBounds", unfollowed := true, recurses := true, apart := false }
def ToothBoundsSaid : Prop := toothBoundsRow.holds Try.pinned (OpenSpec.ofChange toothBoundsSpec)

/-- ITS FALSE NEIGHBOUR: 'it returns false'. Refute it at one input. -/
def toothBoundsWrong : ChangeSpec := { name := "toothBounds", fn := fun _ => fun
  | [d1, d2] => { results := [.lit (.bool false)], args := [d1, d2] }
  | _ => none }
def ToothBoundsWrongFalsely : Prop := toothBoundsRow.holds Try.pinned (OpenSpec.ofChange toothBoundsWrong)

/-- 'panachelaw01.ToothPossibles': WHATEVER THE INPUT: true; the input reads as it did. -/
def toothPossiblesSpec : ChangeSpec := { name := "toothPossibles", fn := fun _ => fun
  | [d1, d2] => { results := [.lit (.bool true)], args := [d1, d2] }
  | _ => none }
def toothPossiblesRow : OpenClaim := { program := "ytiflhimmieflpaa", sum := "267a89f6fecf3e45eb2cc9d329c7979fc18c4474bed07d14141d8949b40ff07b", func := "panache/panachelaw01.ToothPossibles", spec := "toothPossibles", unfollowed := true, recurses := true, apart := false }
def ToothPossiblesSaid : Prop := toothPossiblesRow.holds Try.pinned (OpenSpec.ofChange toothPossiblesSpec)

/-- ITS FALSE NEIGHBOUR: 'it returns false'. Refute it at one input. -/
def toothPossiblesWrong : ChangeSpec := { name := "toothPossibles", fn := fun _ => fun
  | [d1, d2] => { results := [.lit (.bool false)], args := [d1, d2] }
  | _ => none }
def ToothPossiblesWrongFalsely : Prop := toothPossiblesRow.holds Try.pinned (OpenSpec.ofChange toothPossiblesWrong)

/-- 'panachelaw01.ToothCosts': WHATEVER THE INPUT: true; the input reads as it did. -/
def toothCostsSpec : ChangeSpec := { name := "toothCosts", fn := fun _ => fun
  | [d1, d2] => { results := [.lit (.bool true)], args := [d1, d2] }
  | _ => none }
def toothCostsRow : OpenClaim := { program := "ytiflhimmieflpaa", sum := "267a89f6fecf3e45eb2cc9d329c7979fc18c4474bed07d14141d8949b40ff07b", func := "panache/panachelaw01.ToothCosts", spec := "toothCosts", unfollowed := true, recurses := true, apart := false }
def ToothCostsSaid : Prop := toothCostsRow.holds Try.pinned (OpenSpec.ofChange toothCostsSpec)

/-- ITS FALSE NEIGHBOUR: 'it returns false'. Refute it at one input. -/
def toothCostsWrong : ChangeSpec := { name := "toothCosts", fn := fun _ => fun
  | [d1, d2] => { results := [.lit (.bool false)], args := [d1, d2] }
  | _ => none }
def ToothCostsWrongFalsely : Prop := toothCostsRow.holds Try.pinned (OpenSpec.ofChange toothCostsWrong)

/-- 'panachelaw01.ToothWidests': WHATEVER THE INPUT: true; the input reads as it did. -/
def toothWidestsSpec : ChangeSpec := { name := "toothWidests", fn := fun _ => fun
  | [d1, d2, d3] => { results := [.lit (.bool true)], args := [d1, d2, d3] }
  | _ => none }
def toothWidestsRow : OpenClaim := { program := "ytiflhimmieflpaa", sum := "267a89f6fecf3e45eb2cc9d329c7979fc18c4474bed07d14141d8949b40ff07b", func := "panache/panachelaw01.ToothWidests", spec := "toothWidests", unfollowed := true, recurses := true, apart := false }
def ToothWidestsSaid : Prop := toothWidestsRow.holds Try.pinned (OpenSpec.ofChange toothWidestsSpec)

/-- ITS FALSE NEIGHBOUR: 'it returns false'. Refute it at one input. -/
def toothWidestsWrong : ChangeSpec := { name := "toothWidests", fn := fun _ => fun
  | [d1, d2, d3] => { results := [.lit (.bool false)], args := [d1, d2, d3] }
  | _ => none }
def ToothWidestsWrongFalsely : Prop := toothWidestsRow.holds Try.pinned (OpenSpec.ofChange toothWidestsWrong)

/-- 'panachelaw01.ToothSure': WHATEVER THE INPUT: true; the input reads as it did. -/
def toothSureSpec : ChangeSpec := { name := "toothSure", fn := fun _ => fun
  | [d] => { results := [.lit (.bool true)], args := [d] }
  | _ => none }
def toothSureRow : OpenClaim := { program := "ytiflhimmieflpaa", sum := "267a89f6fecf3e45eb2cc9d329c7979fc18c4474bed07d14141d8949b40ff07b", func := "panache/panachelaw01.ToothSure", spec := "toothSure", unfollowed := true, recurses := true, apart := false }
def ToothSureSaid : Prop := toothSureRow.holds Try.pinned (OpenSpec.ofChange toothSureSpec)

/-- ITS FALSE NEIGHBOUR: 'it returns false'. Refute it at one input. -/
def toothSureWrong : ChangeSpec := { name := "toothSure", fn := fun _ => fun
  | [d] => { results := [.lit (.bool false)], args := [d] }
  | _ => none }
def ToothSureWrongFalsely : Prop := toothSureRow.holds Try.pinned (OpenSpec.ofChange toothSureWrong)

/-- 'panachelaw01.ToothMay': WHATEVER THE INPUT: true; the input reads as it did. -/
def toothMaySpec : ChangeSpec := { name := "toothMay", fn := fun _ => fun
  | [d1, d2] => { results := [.lit (.bool true)], args := [d1, d2] }
  | _ => none }
def toothMayRow : OpenClaim := { program := "ytiflhimmieflpaa", sum := "267a89f6fecf3e45eb2cc9d329c7979fc18c4474bed07d14141d8949b40ff07b", func := "panache/panachelaw01.ToothMay", spec := "toothMay", unfollowed := true, recurses := true, apart := false }
def ToothMaySaid : Prop := toothMayRow.holds Try.pinned (OpenSpec.ofChange toothMaySpec)

/-- ITS FALSE NEIGHBOUR: 'it returns false'. Refute it at one input. -/
def toothMayWrong : ChangeSpec := { name := "toothMay", fn := fun _ => fun
  | [d1, d2] => { results := [.lit (.bool false)], args := [d1, d2] }
  | _ => none }
def ToothMayWrongFalsely : Prop := toothMayRow.holds Try.pinned (OpenSpec.ofChange toothMayWrong)

/-- 'panachelaw01.ToothNoMore': WHATEVER THE INPUT: true; the input reads as it did. -/
def toothNoMoreSpec : ChangeSpec := { name := "toothNoMore", fn := fun _ => fun
  | [d1, d2, d3] => { results := [.lit (.bool true)], args := [d1, d2, d3] }
  | _ => none }
def toothNoMoreRow : OpenClaim := { program := "ytiflhimmieflpaa", sum := "267a89f6fecf3e45eb2cc9d329c7979fc18c4474bed07d14141d8949b40ff07b", func := "panache/panachelaw01.ToothNoMore", spec := "toothNoMore", unfollowed := true, recurses := true, apart := false }
def ToothNoMoreSaid : Prop := toothNoMoreRow.holds Try.pinned (OpenSpec.ofChange toothNoMoreSpec)

/-- ITS FALSE NEIGHBOUR: 'it returns false'. Refute it at one input. -/
def toothNoMoreWrong : ChangeSpec := { name := "toothNoMore", fn := fun _ => fun
  | [d1, d2, d3] => { results := [.lit (.bool false)], args := [d1, d2, d3] }
  | _ => none }
def ToothNoMoreWrongFalsely : Prop := toothNoMoreRow.holds Try.pinned (OpenSpec.ofChange toothNoMoreWrong)

/-- 'panachelaw01.ToothCurved': WHATEVER THE INPUT: true; the input reads as it did. -/
def toothCurvedSpec : ChangeSpec := { name := "toothCurved", fn := fun _ => fun
  | [d1, d2, d3] => { results := [.lit (.bool true)], args := [d1, d2, d3] }
  | _ => none }
def toothCurvedRow : OpenClaim := { program := "ytiflhimmieflpaa", sum := "267a89f6fecf3e45eb2cc9d329c7979fc18c4474bed07d14141d8949b40ff07b", func := "panache/panachelaw01.ToothCurved", spec := "toothCurved", unfollowed := true, recurses := true, apart := false }
def ToothCurvedSaid : Prop := toothCurvedRow.holds Try.pinned (OpenSpec.ofChange toothCurvedSpec)

/-- ITS FALSE NEIGHBOUR: 'it returns false'. Refute it at one input. -/
def toothCurvedWrong : ChangeSpec := { name := "toothCurved", fn := fun _ => fun
  | [d1, d2, d3] => { results := [.lit (.bool false)], args := [d1, d2, d3] }
  | _ => none }
def ToothCurvedWrongFalsely : Prop := toothCurvedRow.holds Try.pinned (OpenSpec.ofChange toothCurvedWrong)

/-- 'panachelaw01.ToothLooked': WHATEVER THE INPUT: true; the input reads as it did. -/
def toothLookedSpec : ChangeSpec := { name := "toothLooked", fn := fun _ => fun
  | [d1, d2] => { results := [.lit (.bool true)], args := [d1, d2] }
  | _ => none }
def toothLookedRow : OpenClaim := { program := "ytiflhimmieflpaa", sum := "267a89f6fecf3e45eb2cc9d329c7979fc18c4474bed07d14141d8949b40ff07b", func := "panache/panachelaw01.ToothLooked", spec := "toothLooked", unfollowed := true, recurses := true, apart := false }
def ToothLookedSaid : Prop := toothLookedRow.holds Try.pinned (OpenSpec.ofChange toothLookedSpec)

/-- ITS FALSE NEIGHBOUR: 'it returns false'. Refute it at one input. -/
def toothLookedWrong : ChangeSpec := { name := "toothLooked", fn := fun _ => fun
  | [d1, d2] => { results := [.lit (.bool false)], args := [d1, d2] }
  | _ => none }
def ToothLookedWrongFalsely : Prop := toothLookedRow.holds Try.pinned (OpenSpec.ofChange toothLookedWrong)

/- THE SECOND FORM. 'bulk': how many values and letters a reading holds, each counted each time it is reached (what is shared counts as often as it is met; a slice's spare places count too). A statement '..UptoSaid' is the law's where the arguments, and the package variables that the reading takes, are together of bulk at most 1048576: NARROWER than '..Said'. Prove '..Said' where nothing that the law and all that it calls make is longer than what came in: it says more and counts as full. Else prove '..UptoSaid'. A law counts once. -/
mutual
def uptoBulk {H : Type} : DataW H → Nat
  | .lit (.string bytes) => bytes.length + 1
  | .lit _ => 1
  | .nil => 1
  | .ptr d => uptoBulk d + 1
  | .slice elems spare => uptoBulkAll elems + uptoBulkAll spare + 1
  | .agg parts => uptoBulkAll parts + 1
  | .iface _ d => uptoBulk d + 1
  | .map entries => uptoBulkEntries entries + 1
  | .held _ => 1
def uptoBulkAll {H : Type} : List (DataW H) → Nat
  | [] => 0
  | d :: r => uptoBulk d + uptoBulkAll r
def uptoBulkEntries {H : Type} : List (Lit × DataW H) → Nat
  | [] => 0
  | x :: r => uptoBulkEntry x + uptoBulkEntries r
def uptoBulkEntry {H : Type} : Lit × DataW H → Nat
  | (.string bytes, d) => bytes.length + uptoBulk d + 1
  | (_, d) => uptoBulk d + 1
 end
def uptoSmall : (H : Type) → List (DataW H) → Bool := fun _ ds => decide (uptoBulkAll ds ≤ 1048576)
def OpenSpec.upto (s : _root_.Go.ChangeSpec) : _root_.Go.OpenSpec := { _root_.Go.OpenSpec.ofChange s with cond := some uptoSmall }

/-- 'panachelaw01.ToothCurves', WHERE WHAT IT READS IS OF BULK AT MOST 1048576: true; the input reads as it did. -/
def toothCurvesUptoRow : OpenClaim := { program := "ytiflhimmieflpaa", sum := "267a89f6fecf3e45eb2cc9d329c7979fc18c4474bed07d14141d8949b40ff07b", func := "panache/panachelaw01.ToothCurves", spec := "toothCurves", unfollowed := true, recurses := true, apart := false, narrowed := true }
def ToothCurvesUptoSaid : Prop := toothCurvesUptoRow.holds Try.pinned (OpenSpec.upto toothCurvesSpec)

/-- 'panachelaw01.ToothFits', WHERE WHAT IT READS IS OF BULK AT MOST 1048576: true; the input reads as it did. -/
def toothFitsUptoRow : OpenClaim := { program := "ytiflhimmieflpaa", sum := "267a89f6fecf3e45eb2cc9d329c7979fc18c4474bed07d14141d8949b40ff07b", func := "panache/panachelaw01.ToothFits", spec := "toothFits", unfollowed := true, recurses := true, apart := false, narrowed := true }
def ToothFitsUptoSaid : Prop := toothFitsUptoRow.holds Try.pinned (OpenSpec.upto toothFitsSpec)

/-- 'panachelaw01.ToothBlocks', WHERE WHAT IT READS IS OF BULK AT MOST 1048576: true; the input reads as it did. -/
def toothBlocksUptoRow : OpenClaim := { program := "ytiflhimmieflpaa", sum := "267a89f6fecf3e45eb2cc9d329c7979fc18c4474bed07d14141d8949b40ff07b", func := "panache/panachelaw01.ToothBlocks", spec := "toothBlocks", unfollowed := true, recurses := true, apart := false, narrowed := true }
def ToothBlocksUptoSaid : Prop := toothBlocksUptoRow.holds Try.pinned (OpenSpec.upto toothBlocksSpec)

/-- 'panachelaw01.ToothMosts', WHERE WHAT IT READS IS OF BULK AT MOST 1048576: true; the input reads as it did. -/
def toothMostsUptoRow : OpenClaim := { program := "ytiflhimmieflpaa", sum := "267a89f6fecf3e45eb2cc9d329c7979fc18c4474bed07d14141d8949b40ff07b", func := "panache/panachelaw01.ToothMosts", spec := "toothMosts", unfollowed := true, recurses := true, apart := false, narrowed := true }
def ToothMostsUptoSaid : Prop := toothMostsUptoRow.holds Try.pinned (OpenSpec.upto toothMostsSpec)

/-- 'panachelaw01.ToothFaults', WHERE WHAT IT READS IS OF BULK AT MOST 1048576: true; the input reads as it did. -/
def toothFaultsUptoRow : OpenClaim := { program := "ytiflhimmieflpaa", sum := "267a89f6fecf3e45eb2cc9d329c7979fc18c4474bed07d14141d8949b40ff07b", func := "panache/panachelaw01.ToothFaults", spec := "toothFaults", unfollowed := true, recurses := true, apart := false, narrowed := true }
def ToothFaultsUptoSaid : Prop := toothFaultsUptoRow.holds Try.pinned (OpenSpec.upto toothFaultsSpec)

/-- 'panachelaw01.ToothBounds', WHERE WHAT IT READS IS OF BULK AT MOST 1048576: true; the input reads as it did. -/
def toothBoundsUptoRow : OpenClaim := { program := "ytiflhimmieflpaa", sum := "267a89f6fecf3e45eb2cc9d329c7979fc18c4474bed07d14141d8949b40ff07b", func := "panache/panachelaw01.ToothBounds", spec := "toothBounds", unfollowed := true, recurses := true, apart := false, narrowed := true }
def ToothBoundsUptoSaid : Prop := toothBoundsUptoRow.holds Try.pinned (OpenSpec.upto toothBoundsSpec)

/-- 'panachelaw01.ToothPossibles', WHERE WHAT IT READS IS OF BULK AT MOST 1048576: true; the input reads as it did. -/
def toothPossiblesUptoRow : OpenClaim := { program := "ytiflhimmieflpaa", sum := "267a89f6fecf3e45eb2cc9d329c7979fc18c4474bed07d14141d8949b40ff07b", func := "panache/panachelaw01.ToothPossibles", spec := "toothPossibles", unfollowed := true, recurses := true, apart := false, narrowed := true }
def ToothPossiblesUptoSaid : Prop := toothPossiblesUptoRow.holds Try.pinned (OpenSpec.upto toothPossiblesSpec)

/-- 'panachelaw01.ToothCosts', WHERE WHAT IT READS IS OF BULK AT MOST 1048576: true; the input reads as it did. -/
def toothCostsUptoRow : OpenClaim := { program := "ytiflhimmieflpaa", sum := "267a89f6fecf3e45eb2cc9d329c7979fc18c4474bed07d14141d8949b40ff07b", func := "panache/panachelaw01.ToothCosts", spec := "toothCosts", unfollowed := true, recurses := true, apart := false, narrowed := true }
def ToothCostsUptoSaid : Prop := toothCostsUptoRow.holds Try.pinned (OpenSpec.upto toothCostsSpec)

/-- 'panachelaw01.ToothWidests', WHERE WHAT IT READS IS OF BULK AT MOST 1048576: true; the input reads as it did. -/
def toothWidestsUptoRow : OpenClaim := { program := "ytiflhimmieflpaa", sum := "267a89f6fecf3e45eb2cc9d329c7979fc18c4474bed07d14141d8949b40ff07b", func := "panache/panachelaw01.ToothWidests", spec := "toothWidests", unfollowed := true, recurses := true, apart := false, narrowed := true }
def ToothWidestsUptoSaid : Prop := toothWidestsUptoRow.holds Try.pinned (OpenSpec.upto toothWidestsSpec)

/-- 'panachelaw01.ToothSure', WHERE WHAT IT READS IS OF BULK AT MOST 1048576: true; the input reads as it did. -/
def toothSureUptoRow : OpenClaim := { program := "ytiflhimmieflpaa", sum := "267a89f6fecf3e45eb2cc9d329c7979fc18c4474bed07d14141d8949b40ff07b", func := "panache/panachelaw01.ToothSure", spec := "toothSure", unfollowed := true, recurses := true, apart := false, narrowed := true }
def ToothSureUptoSaid : Prop := toothSureUptoRow.holds Try.pinned (OpenSpec.upto toothSureSpec)

/-- 'panachelaw01.ToothMay', WHERE WHAT IT READS IS OF BULK AT MOST 1048576: true; the input reads as it did. -/
def toothMayUptoRow : OpenClaim := { program := "ytiflhimmieflpaa", sum := "267a89f6fecf3e45eb2cc9d329c7979fc18c4474bed07d14141d8949b40ff07b", func := "panache/panachelaw01.ToothMay", spec := "toothMay", unfollowed := true, recurses := true, apart := false, narrowed := true }
def ToothMayUptoSaid : Prop := toothMayUptoRow.holds Try.pinned (OpenSpec.upto toothMaySpec)

/-- 'panachelaw01.ToothNoMore', WHERE WHAT IT READS IS OF BULK AT MOST 1048576: true; the input reads as it did. -/
def toothNoMoreUptoRow : OpenClaim := { program := "ytiflhimmieflpaa", sum := "267a89f6fecf3e45eb2cc9d329c7979fc18c4474bed07d14141d8949b40ff07b", func := "panache/panachelaw01.ToothNoMore", spec := "toothNoMore", unfollowed := true, recurses := true, apart := false, narrowed := true }
def ToothNoMoreUptoSaid : Prop := toothNoMoreUptoRow.holds Try.pinned (OpenSpec.upto toothNoMoreSpec)

/-- 'panachelaw01.ToothCurved', WHERE WHAT IT READS IS OF BULK AT MOST 1048576: true; the input reads as it did. -/
def toothCurvedUptoRow : OpenClaim := { program := "ytiflhimmieflpaa", sum := "267a89f6fecf3e45eb2cc9d329c7979fc18c4474bed07d14141d8949b40ff07b", func := "panache/panachelaw01.ToothCurved", spec := "toothCurved", unfollowed := true, recurses := true, apart := false, narrowed := true }
def ToothCurvedUptoSaid : Prop := toothCurvedUptoRow.holds Try.pinned (OpenSpec.upto toothCurvedSpec)

/-- 'panachelaw01.ToothLooked', WHERE WHAT IT READS IS OF BULK AT MOST 1048576: true; the input reads as it did. -/
def toothLookedUptoRow : OpenClaim := { program := "ytiflhimmieflpaa", sum := "267a89f6fecf3e45eb2cc9d329c7979fc18c4474bed07d14141d8949b40ff07b", func := "panache/panachelaw01.ToothLooked", spec := "toothLooked", unfollowed := true, recurses := true, apart := false, narrowed := true }
def ToothLookedUptoSaid : Prop := toothLookedUptoRow.holds Try.pinned (OpenSpec.upto toothLookedSpec)

end Rows
end Go.Proofs.Ytiflhimmieflpaa
