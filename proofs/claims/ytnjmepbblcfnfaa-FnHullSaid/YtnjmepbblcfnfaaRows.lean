/-
  No cell of these rows narrows 'for every input' (looked for: loops, veiled, ifaces, maps, wideKeys, modest, calm, conditions, laid).
  DERIVED. THE GIVEN ROWS OF THIS SEAT. 12 by the template 'for every input the law returns true; each argument reads behind the call as it read before'; 0 by the template 'total and deterministic' (their statements: YtnjmepbblcfnfaaTotals.lean).
  GIVEN WITH THE SEED: the statements are not yours to turn. If you find one false, say at which input.
  Laid BY PROGRAM, IN A SANDBOX (cutbox-rows.mjs): the forced cells as the released guide's own fill.sh prints them over the translation 8dce22241251fe9c… (all of the seat's roots in one cut). By AI agents, Wed Nov 11 2026. No macro, syntax, notation, axiom, sorry.
-/
import Derived.Test.YtnjmepbblcfnfaaChecked
import GoSem.Claim
import GoSem.ClaimJoined
import GoSem.ClaimMapViews
import Derived.JoinedTies
import Derived.KernelRfl
namespace Go.Proofs.Ytnjmepbblcfnfaa
/- THE CELL 'sum', in the pinned program and in every row, IS THE sha256 OF THE DUMP (.gsa) THAT YtnjmepbblcfnfaaProg.lean LOADS. Nothing in Lean hashes anything: it is a label: what it is worth is what the hold of that sum in a sandbox is worth. -/
noncomputable def Try.pinned : Pinned := { name := "ytnjmepbblcfnfaa", sum := "8dce22241251fe9c2b5770028753dddfd3844e16b88f05f25c279ae4cb5adfdb", checked := Try.checked }
namespace Rows
def none {H : Type} : Left H := { results := [], args := [] }

/-- 'laws.FnHull': WHATEVER THE INPUT: true; the input reads as it did. -/
def fnHullSpec : ChangeSpec := { name := "fnHull", fn := fun _ => fun
  | [d] => { results := [.lit (.bool true)], args := [d] }
  | _ => none }
def fnHullRow : OpenClaim := { program := "ytnjmepbblcfnfaa", sum := "8dce22241251fe9c2b5770028753dddfd3844e16b88f05f25c279ae4cb5adfdb", func := "loop.example/planargeometry/laws.FnHull", spec := "fnHull", unfollowed := true, recurses := true, apart := false }
def FnHullSaid : Prop := fnHullRow.holds Try.pinned (OpenSpec.ofChange fnHullSpec)

/-- ITS FALSE NEIGHBOUR: 'it returns false'. Refute it at one input. -/
def fnHullWrong : ChangeSpec := { name := "fnHull", fn := fun _ => fun
  | [d] => { results := [.lit (.bool false)], args := [d] }
  | _ => none }
def FnHullWrongFalsely : Prop := fnHullRow.holds Try.pinned (OpenSpec.ofChange fnHullWrong)

/-- 'laws.FnExactDiameter': WHATEVER THE INPUT: true; the input reads as it did. -/
def fnExactDiameterSpec : ChangeSpec := { name := "fnExactDiameter", fn := fun _ => fun
  | [d] => { results := [.lit (.bool true)], args := [d] }
  | _ => none }
def fnExactDiameterRow : OpenClaim := { program := "ytnjmepbblcfnfaa", sum := "8dce22241251fe9c2b5770028753dddfd3844e16b88f05f25c279ae4cb5adfdb", func := "loop.example/planargeometry/laws.FnExactDiameter", spec := "fnExactDiameter", unfollowed := true, recurses := true, apart := false }
def FnExactDiameterSaid : Prop := fnExactDiameterRow.holds Try.pinned (OpenSpec.ofChange fnExactDiameterSpec)

/-- ITS FALSE NEIGHBOUR: 'it returns false'. Refute it at one input. -/
def fnExactDiameterWrong : ChangeSpec := { name := "fnExactDiameter", fn := fun _ => fun
  | [d] => { results := [.lit (.bool false)], args := [d] }
  | _ => none }
def FnExactDiameterWrongFalsely : Prop := fnExactDiameterRow.holds Try.pinned (OpenSpec.ofChange fnExactDiameterWrong)

/-- 'laws.FnDiameter': WHATEVER THE INPUT: true; the input reads as it did. -/
def fnDiameterSpec : ChangeSpec := { name := "fnDiameter", fn := fun _ => fun
  | [d] => { results := [.lit (.bool true)], args := [d] }
  | _ => none }
def fnDiameterRow : OpenClaim := { program := "ytnjmepbblcfnfaa", sum := "8dce22241251fe9c2b5770028753dddfd3844e16b88f05f25c279ae4cb5adfdb", func := "loop.example/planargeometry/laws.FnDiameter", spec := "fnDiameter", unfollowed := true, recurses := true, apart := false }
def FnDiameterSaid : Prop := fnDiameterRow.holds Try.pinned (OpenSpec.ofChange fnDiameterSpec)

/-- ITS FALSE NEIGHBOUR: 'it returns false'. Refute it at one input. -/
def fnDiameterWrong : ChangeSpec := { name := "fnDiameter", fn := fun _ => fun
  | [d] => { results := [.lit (.bool false)], args := [d] }
  | _ => none }
def FnDiameterWrongFalsely : Prop := fnDiameterRow.holds Try.pinned (OpenSpec.ofChange fnDiameterWrong)

/-- 'laws.FnDiameterHull': WHATEVER THE INPUT: true; the input reads as it did. -/
def fnDiameterHullSpec : ChangeSpec := { name := "fnDiameterHull", fn := fun _ => fun
  | [d] => { results := [.lit (.bool true)], args := [d] }
  | _ => none }
def fnDiameterHullRow : OpenClaim := { program := "ytnjmepbblcfnfaa", sum := "8dce22241251fe9c2b5770028753dddfd3844e16b88f05f25c279ae4cb5adfdb", func := "loop.example/planargeometry/laws.FnDiameterHull", spec := "fnDiameterHull", unfollowed := true, recurses := true, apart := false }
def FnDiameterHullSaid : Prop := fnDiameterHullRow.holds Try.pinned (OpenSpec.ofChange fnDiameterHullSpec)

/-- ITS FALSE NEIGHBOUR: 'it returns false'. Refute it at one input. -/
def fnDiameterHullWrong : ChangeSpec := { name := "fnDiameterHull", fn := fun _ => fun
  | [d] => { results := [.lit (.bool false)], args := [d] }
  | _ => none }
def FnDiameterHullWrongFalsely : Prop := fnDiameterHullRow.holds Try.pinned (OpenSpec.ofChange fnDiameterHullWrong)

/-- 'laws.FnExactMaxima': WHATEVER THE INPUT: true; the input reads as it did. -/
def fnExactMaximaSpec : ChangeSpec := { name := "fnExactMaxima", fn := fun _ => fun
  | [d] => { results := [.lit (.bool true)], args := [d] }
  | _ => none }
def fnExactMaximaRow : OpenClaim := { program := "ytnjmepbblcfnfaa", sum := "8dce22241251fe9c2b5770028753dddfd3844e16b88f05f25c279ae4cb5adfdb", func := "loop.example/planargeometry/laws.FnExactMaxima", spec := "fnExactMaxima", unfollowed := true, recurses := true, apart := false }
def FnExactMaximaSaid : Prop := fnExactMaximaRow.holds Try.pinned (OpenSpec.ofChange fnExactMaximaSpec)

/-- ITS FALSE NEIGHBOUR: 'it returns false'. Refute it at one input. -/
def fnExactMaximaWrong : ChangeSpec := { name := "fnExactMaxima", fn := fun _ => fun
  | [d] => { results := [.lit (.bool false)], args := [d] }
  | _ => none }
def FnExactMaximaWrongFalsely : Prop := fnExactMaximaRow.holds Try.pinned (OpenSpec.ofChange fnExactMaximaWrong)

/-- 'laws.FnMaxima': WHATEVER THE INPUT: true; the input reads as it did. -/
def fnMaximaSpec : ChangeSpec := { name := "fnMaxima", fn := fun _ => fun
  | [d] => { results := [.lit (.bool true)], args := [d] }
  | _ => none }
def fnMaximaRow : OpenClaim := { program := "ytnjmepbblcfnfaa", sum := "8dce22241251fe9c2b5770028753dddfd3844e16b88f05f25c279ae4cb5adfdb", func := "loop.example/planargeometry/laws.FnMaxima", spec := "fnMaxima", unfollowed := true, recurses := true, apart := false }
def FnMaximaSaid : Prop := fnMaximaRow.holds Try.pinned (OpenSpec.ofChange fnMaximaSpec)

/-- ITS FALSE NEIGHBOUR: 'it returns false'. Refute it at one input. -/
def fnMaximaWrong : ChangeSpec := { name := "fnMaxima", fn := fun _ => fun
  | [d] => { results := [.lit (.bool false)], args := [d] }
  | _ => none }
def FnMaximaWrongFalsely : Prop := fnMaximaRow.holds Try.pinned (OpenSpec.ofChange fnMaximaWrong)

/-- 'laws.FnMaximaExtreme': WHATEVER THE INPUT: true; the input reads as it did. -/
def fnMaximaExtremeSpec : ChangeSpec := { name := "fnMaximaExtreme", fn := fun _ => fun
  | [d] => { results := [.lit (.bool true)], args := [d] }
  | _ => none }
def fnMaximaExtremeRow : OpenClaim := { program := "ytnjmepbblcfnfaa", sum := "8dce22241251fe9c2b5770028753dddfd3844e16b88f05f25c279ae4cb5adfdb", func := "loop.example/planargeometry/laws.FnMaximaExtreme", spec := "fnMaximaExtreme", unfollowed := true, recurses := true, apart := false }
def FnMaximaExtremeSaid : Prop := fnMaximaExtremeRow.holds Try.pinned (OpenSpec.ofChange fnMaximaExtremeSpec)

/-- ITS FALSE NEIGHBOUR: 'it returns false'. Refute it at one input. -/
def fnMaximaExtremeWrong : ChangeSpec := { name := "fnMaximaExtreme", fn := fun _ => fun
  | [d] => { results := [.lit (.bool false)], args := [d] }
  | _ => none }
def FnMaximaExtremeWrongFalsely : Prop := fnMaximaExtremeRow.holds Try.pinned (OpenSpec.ofChange fnMaximaExtremeWrong)

/-- 'laws.FnDominatedCount': WHATEVER THE INPUT: true; the input reads as it did. -/
def fnDominatedCountSpec : ChangeSpec := { name := "fnDominatedCount", fn := fun _ => fun
  | [d] => { results := [.lit (.bool true)], args := [d] }
  | _ => none }
def fnDominatedCountRow : OpenClaim := { program := "ytnjmepbblcfnfaa", sum := "8dce22241251fe9c2b5770028753dddfd3844e16b88f05f25c279ae4cb5adfdb", func := "loop.example/planargeometry/laws.FnDominatedCount", spec := "fnDominatedCount", unfollowed := true, recurses := true, apart := false }
def FnDominatedCountSaid : Prop := fnDominatedCountRow.holds Try.pinned (OpenSpec.ofChange fnDominatedCountSpec)

/-- ITS FALSE NEIGHBOUR: 'it returns false'. Refute it at one input. -/
def fnDominatedCountWrong : ChangeSpec := { name := "fnDominatedCount", fn := fun _ => fun
  | [d] => { results := [.lit (.bool false)], args := [d] }
  | _ => none }
def FnDominatedCountWrongFalsely : Prop := fnDominatedCountRow.holds Try.pinned (OpenSpec.ofChange fnDominatedCountWrong)

/-- 'laws.FnTotalLength': WHATEVER THE INPUT: true; the input reads as it did. -/
def fnTotalLengthSpec : ChangeSpec := { name := "fnTotalLength", fn := fun _ => fun
  | [d1, d2] => { results := [.lit (.bool true)], args := [d1, d2] }
  | _ => none }
def fnTotalLengthRow : OpenClaim := { program := "ytnjmepbblcfnfaa", sum := "8dce22241251fe9c2b5770028753dddfd3844e16b88f05f25c279ae4cb5adfdb", func := "loop.example/planargeometry/laws.FnTotalLength", spec := "fnTotalLength", apart := false }
def FnTotalLengthSaid : Prop := fnTotalLengthRow.holds Try.pinned (OpenSpec.ofChange fnTotalLengthSpec)

/-- ITS FALSE NEIGHBOUR: 'it returns false'. Refute it at one input. -/
def fnTotalLengthWrong : ChangeSpec := { name := "fnTotalLength", fn := fun _ => fun
  | [d1, d2] => { results := [.lit (.bool false)], args := [d1, d2] }
  | _ => none }
def FnTotalLengthWrongFalsely : Prop := fnTotalLengthRow.holds Try.pinned (OpenSpec.ofChange fnTotalLengthWrong)

/-- 'laws.FnInRegion': WHATEVER THE INPUT: true; the input reads as it did. -/
def fnInRegionSpec : ChangeSpec := { name := "fnInRegion", fn := fun _ => fun
  | [d] => { results := [.lit (.bool true)], args := [d] }
  | _ => none }
def fnInRegionRow : OpenClaim := { program := "ytnjmepbblcfnfaa", sum := "8dce22241251fe9c2b5770028753dddfd3844e16b88f05f25c279ae4cb5adfdb", func := "loop.example/planargeometry/laws.FnInRegion", spec := "fnInRegion", apart := false }
def FnInRegionSaid : Prop := fnInRegionRow.holds Try.pinned (OpenSpec.ofChange fnInRegionSpec)

/-- ITS FALSE NEIGHBOUR: 'it returns false'. Refute it at one input. -/
def fnInRegionWrong : ChangeSpec := { name := "fnInRegion", fn := fun _ => fun
  | [d] => { results := [.lit (.bool false)], args := [d] }
  | _ => none }
def FnInRegionWrongFalsely : Prop := fnInRegionRow.holds Try.pinned (OpenSpec.ofChange fnInRegionWrong)

/-- 'laws.FnExactMeetingPairs': WHATEVER THE INPUT: true; the input reads as it did. -/
def fnExactMeetingPairsSpec : ChangeSpec := { name := "fnExactMeetingPairs", fn := fun _ => fun
  | [d] => { results := [.lit (.bool true)], args := [d] }
  | _ => none }
def fnExactMeetingPairsRow : OpenClaim := { program := "ytnjmepbblcfnfaa", sum := "8dce22241251fe9c2b5770028753dddfd3844e16b88f05f25c279ae4cb5adfdb", func := "loop.example/planargeometry/laws.FnExactMeetingPairs", spec := "fnExactMeetingPairs", unfollowed := true, recurses := true, apart := false }
def FnExactMeetingPairsSaid : Prop := fnExactMeetingPairsRow.holds Try.pinned (OpenSpec.ofChange fnExactMeetingPairsSpec)

/-- ITS FALSE NEIGHBOUR: 'it returns false'. Refute it at one input. -/
def fnExactMeetingPairsWrong : ChangeSpec := { name := "fnExactMeetingPairs", fn := fun _ => fun
  | [d] => { results := [.lit (.bool false)], args := [d] }
  | _ => none }
def FnExactMeetingPairsWrongFalsely : Prop := fnExactMeetingPairsRow.holds Try.pinned (OpenSpec.ofChange fnExactMeetingPairsWrong)

/-- 'laws.FnExactIsDrawing': WHATEVER THE INPUT: true; the input reads as it did. -/
def fnExactIsDrawingSpec : ChangeSpec := { name := "fnExactIsDrawing", fn := fun _ => fun
  | [d] => { results := [.lit (.bool true)], args := [d] }
  | _ => none }
def fnExactIsDrawingRow : OpenClaim := { program := "ytnjmepbblcfnfaa", sum := "8dce22241251fe9c2b5770028753dddfd3844e16b88f05f25c279ae4cb5adfdb", func := "loop.example/planargeometry/laws.FnExactIsDrawing", spec := "fnExactIsDrawing", unfollowed := true, recurses := true, apart := false }
def FnExactIsDrawingSaid : Prop := fnExactIsDrawingRow.holds Try.pinned (OpenSpec.ofChange fnExactIsDrawingSpec)

/-- ITS FALSE NEIGHBOUR: 'it returns false'. Refute it at one input. -/
def fnExactIsDrawingWrong : ChangeSpec := { name := "fnExactIsDrawing", fn := fun _ => fun
  | [d] => { results := [.lit (.bool false)], args := [d] }
  | _ => none }
def FnExactIsDrawingWrongFalsely : Prop := fnExactIsDrawingRow.holds Try.pinned (OpenSpec.ofChange fnExactIsDrawingWrong)

/- THE SECOND FORM. 'bulk': how many values and letters a reading holds, each counted each time it is reached (what is shared counts as often as it is met; a slice's spare places count too). A statement '..UptoSaid' is the law's where the arguments, and the package variables that the reading takes, are together of bulk at most 1048576: NARROWER than '..Said'. Prove '..Said' where nothing that the law and all that it calls make is longer than what came in: it says more and counts as full. Else prove '..UptoSaid'. A law counts once. -/
mutual
def uptoBulk {H : Type} : DataW H → Nat
  | .lit (.string bytes) => bytes.length + 1
  | .lit _ => 1
  | .nil => 1
  | .ptr d => uptoBulk d + 1
  | .slice elems spare => uptoBulkAll elems + uptoBulkAll spare + 1
  | .agg parts => uptoBulkAll parts + 1
  | .iface _ d => uptoBulk d + 1
  | .map entries => uptoBulkEntries entries + 1
  | .held _ => 1
def uptoBulkAll {H : Type} : List (DataW H) → Nat
  | [] => 0
  | d :: r => uptoBulk d + uptoBulkAll r
def uptoBulkEntries {H : Type} : List (Lit × DataW H) → Nat
  | [] => 0
  | x :: r => uptoBulkEntry x + uptoBulkEntries r
def uptoBulkEntry {H : Type} : Lit × DataW H → Nat
  | (.string bytes, d) => bytes.length + uptoBulk d + 1
  | (_, d) => uptoBulk d + 1
 end
def uptoSmall : (H : Type) → List (DataW H) → Bool := fun _ ds => decide (uptoBulkAll ds ≤ 1048576)
def OpenSpec.upto (s : _root_.Go.ChangeSpec) : _root_.Go.OpenSpec := { _root_.Go.OpenSpec.ofChange s with cond := some uptoSmall }

/-- 'laws.FnHull', WHERE WHAT IT READS IS OF BULK AT MOST 1048576: true; the input reads as it did. -/
def fnHullUptoRow : OpenClaim := { program := "ytnjmepbblcfnfaa", sum := "8dce22241251fe9c2b5770028753dddfd3844e16b88f05f25c279ae4cb5adfdb", func := "loop.example/planargeometry/laws.FnHull", spec := "fnHull", unfollowed := true, recurses := true, apart := false, narrowed := true }
def FnHullUptoSaid : Prop := fnHullUptoRow.holds Try.pinned (OpenSpec.upto fnHullSpec)

/-- 'laws.FnExactDiameter', WHERE WHAT IT READS IS OF BULK AT MOST 1048576: true; the input reads as it did. -/
def fnExactDiameterUptoRow : OpenClaim := { program := "ytnjmepbblcfnfaa", sum := "8dce22241251fe9c2b5770028753dddfd3844e16b88f05f25c279ae4cb5adfdb", func := "loop.example/planargeometry/laws.FnExactDiameter", spec := "fnExactDiameter", unfollowed := true, recurses := true, apart := false, narrowed := true }
def FnExactDiameterUptoSaid : Prop := fnExactDiameterUptoRow.holds Try.pinned (OpenSpec.upto fnExactDiameterSpec)

/-- 'laws.FnDiameter', WHERE WHAT IT READS IS OF BULK AT MOST 1048576: true; the input reads as it did. -/
def fnDiameterUptoRow : OpenClaim := { program := "ytnjmepbblcfnfaa", sum := "8dce22241251fe9c2b5770028753dddfd3844e16b88f05f25c279ae4cb5adfdb", func := "loop.example/planargeometry/laws.FnDiameter", spec := "fnDiameter", unfollowed := true, recurses := true, apart := false, narrowed := true }
def FnDiameterUptoSaid : Prop := fnDiameterUptoRow.holds Try.pinned (OpenSpec.upto fnDiameterSpec)

/-- 'laws.FnDiameterHull', WHERE WHAT IT READS IS OF BULK AT MOST 1048576: true; the input reads as it did. -/
def fnDiameterHullUptoRow : OpenClaim := { program := "ytnjmepbblcfnfaa", sum := "8dce22241251fe9c2b5770028753dddfd3844e16b88f05f25c279ae4cb5adfdb", func := "loop.example/planargeometry/laws.FnDiameterHull", spec := "fnDiameterHull", unfollowed := true, recurses := true, apart := false, narrowed := true }
def FnDiameterHullUptoSaid : Prop := fnDiameterHullUptoRow.holds Try.pinned (OpenSpec.upto fnDiameterHullSpec)

/-- 'laws.FnExactMaxima', WHERE WHAT IT READS IS OF BULK AT MOST 1048576: true; the input reads as it did. -/
def fnExactMaximaUptoRow : OpenClaim := { program := "ytnjmepbblcfnfaa", sum := "8dce22241251fe9c2b5770028753dddfd3844e16b88f05f25c279ae4cb5adfdb", func := "loop.example/planargeometry/laws.FnExactMaxima", spec := "fnExactMaxima", unfollowed := true, recurses := true, apart := false, narrowed := true }
def FnExactMaximaUptoSaid : Prop := fnExactMaximaUptoRow.holds Try.pinned (OpenSpec.upto fnExactMaximaSpec)

/-- 'laws.FnMaxima', WHERE WHAT IT READS IS OF BULK AT MOST 1048576: true; the input reads as it did. -/
def fnMaximaUptoRow : OpenClaim := { program := "ytnjmepbblcfnfaa", sum := "8dce22241251fe9c2b5770028753dddfd3844e16b88f05f25c279ae4cb5adfdb", func := "loop.example/planargeometry/laws.FnMaxima", spec := "fnMaxima", unfollowed := true, recurses := true, apart := false, narrowed := true }
def FnMaximaUptoSaid : Prop := fnMaximaUptoRow.holds Try.pinned (OpenSpec.upto fnMaximaSpec)

/-- 'laws.FnMaximaExtreme', WHERE WHAT IT READS IS OF BULK AT MOST 1048576: true; the input reads as it did. -/
def fnMaximaExtremeUptoRow : OpenClaim := { program := "ytnjmepbblcfnfaa", sum := "8dce22241251fe9c2b5770028753dddfd3844e16b88f05f25c279ae4cb5adfdb", func := "loop.example/planargeometry/laws.FnMaximaExtreme", spec := "fnMaximaExtreme", unfollowed := true, recurses := true, apart := false, narrowed := true }
def FnMaximaExtremeUptoSaid : Prop := fnMaximaExtremeUptoRow.holds Try.pinned (OpenSpec.upto fnMaximaExtremeSpec)

/-- 'laws.FnDominatedCount', WHERE WHAT IT READS IS OF BULK AT MOST 1048576: true; the input reads as it did. -/
def fnDominatedCountUptoRow : OpenClaim := { program := "ytnjmepbblcfnfaa", sum := "8dce22241251fe9c2b5770028753dddfd3844e16b88f05f25c279ae4cb5adfdb", func := "loop.example/planargeometry/laws.FnDominatedCount", spec := "fnDominatedCount", unfollowed := true, recurses := true, apart := false, narrowed := true }
def FnDominatedCountUptoSaid : Prop := fnDominatedCountUptoRow.holds Try.pinned (OpenSpec.upto fnDominatedCountSpec)

/-- 'laws.FnTotalLength', WHERE WHAT IT READS IS OF BULK AT MOST 1048576: true; the input reads as it did. -/
def fnTotalLengthUptoRow : OpenClaim := { program := "ytnjmepbblcfnfaa", sum := "8dce22241251fe9c2b5770028753dddfd3844e16b88f05f25c279ae4cb5adfdb", func := "loop.example/planargeometry/laws.FnTotalLength", spec := "fnTotalLength", apart := false, narrowed := true }
def FnTotalLengthUptoSaid : Prop := fnTotalLengthUptoRow.holds Try.pinned (OpenSpec.upto fnTotalLengthSpec)

/-- 'laws.FnInRegion', WHERE WHAT IT READS IS OF BULK AT MOST 1048576: true; the input reads as it did. -/
def fnInRegionUptoRow : OpenClaim := { program := "ytnjmepbblcfnfaa", sum := "8dce22241251fe9c2b5770028753dddfd3844e16b88f05f25c279ae4cb5adfdb", func := "loop.example/planargeometry/laws.FnInRegion", spec := "fnInRegion", apart := false, narrowed := true }
def FnInRegionUptoSaid : Prop := fnInRegionUptoRow.holds Try.pinned (OpenSpec.upto fnInRegionSpec)

/-- 'laws.FnExactMeetingPairs', WHERE WHAT IT READS IS OF BULK AT MOST 1048576: true; the input reads as it did. -/
def fnExactMeetingPairsUptoRow : OpenClaim := { program := "ytnjmepbblcfnfaa", sum := "8dce22241251fe9c2b5770028753dddfd3844e16b88f05f25c279ae4cb5adfdb", func := "loop.example/planargeometry/laws.FnExactMeetingPairs", spec := "fnExactMeetingPairs", unfollowed := true, recurses := true, apart := false, narrowed := true }
def FnExactMeetingPairsUptoSaid : Prop := fnExactMeetingPairsUptoRow.holds Try.pinned (OpenSpec.upto fnExactMeetingPairsSpec)

/-- 'laws.FnExactIsDrawing', WHERE WHAT IT READS IS OF BULK AT MOST 1048576: true; the input reads as it did. -/
def fnExactIsDrawingUptoRow : OpenClaim := { program := "ytnjmepbblcfnfaa", sum := "8dce22241251fe9c2b5770028753dddfd3844e16b88f05f25c279ae4cb5adfdb", func := "loop.example/planargeometry/laws.FnExactIsDrawing", spec := "fnExactIsDrawing", unfollowed := true, recurses := true, apart := false, narrowed := true }
def FnExactIsDrawingUptoSaid : Prop := fnExactIsDrawingUptoRow.holds Try.pinned (OpenSpec.upto fnExactIsDrawingSpec)

end Rows
end Go.Proofs.Ytnjmepbblcfnfaa
