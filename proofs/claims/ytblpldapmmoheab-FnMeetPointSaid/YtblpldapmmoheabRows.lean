/-
  No cell of these rows narrows 'for every input' (looked for: loops, veiled, ifaces, maps, wideKeys, modest, calm, conditions, laid).
  DERIVED. THE GIVEN ROWS OF THIS SEAT. 12 by the template 'for every input the law returns true; each argument reads behind the call as it read before'; 0 by the template 'total and deterministic' (their statements: YtblpldapmmoheabTotals.lean).
  GIVEN WITH THE SEED: the statements are not yours to turn. If you find one false, say at which input.
  Laid BY PROGRAM, IN A SANDBOX (cutbox-rows.mjs): the forced cells as the released guide's own fill.sh prints them over the translation 6cf008b2b516e3c2… (all of the seat's roots in one cut). By AI agents, Wed Nov 11 2026. No macro, syntax, notation, axiom, sorry.
-/
import Derived.Test.YtblpldapmmoheabChecked
import GoSem.Claim
import GoSem.ClaimJoined
import GoSem.ClaimMapViews
import Derived.JoinedTies
import Derived.KernelRfl
namespace Go.Proofs.Ytblpldapmmoheab
/- THE CELL 'sum', in the pinned program and in every row, IS THE sha256 OF THE DUMP (.gsa) THAT YtblpldapmmoheabProg.lean LOADS. Nothing in Lean hashes anything: it is a label: what it is worth is what the hold of that sum in a sandbox is worth. -/
noncomputable def Try.pinned : Pinned := { name := "ytblpldapmmoheab", sum := "6cf008b2b516e3c27a2191459e74d79afb0855a39c4237053944e37d6cb7da71", checked := Try.checked }
namespace Rows
def none {H : Type} : Left H := { results := [], args := [] }

/-- 'laws.FnMeetLines': WHATEVER THE INPUT: true; the input reads as it did. -/
def fnMeetLinesSpec : ChangeSpec := { name := "fnMeetLines", fn := fun _ => fun
  | [d] => { results := [.lit (.bool true)], args := [d] }
  | _ => none }
def fnMeetLinesRow : OpenClaim := { program := "ytblpldapmmoheab", sum := "6cf008b2b516e3c27a2191459e74d79afb0855a39c4237053944e37d6cb7da71", func := "loop.example/planargeometry/laws.FnMeetLines", spec := "fnMeetLines", apart := false }
def FnMeetLinesSaid : Prop := fnMeetLinesRow.holds Try.pinned (OpenSpec.ofChange fnMeetLinesSpec)

/-- ITS FALSE NEIGHBOUR: 'it returns false'. Refute it at one input. -/
def fnMeetLinesWrong : ChangeSpec := { name := "fnMeetLines", fn := fun _ => fun
  | [d] => { results := [.lit (.bool false)], args := [d] }
  | _ => none }
def FnMeetLinesWrongFalsely : Prop := fnMeetLinesRow.holds Try.pinned (OpenSpec.ofChange fnMeetLinesWrong)

/-- 'laws.FnSideOfRat': WHATEVER THE INPUT: true; the input reads as it did. -/
def fnSideOfRatSpec : ChangeSpec := { name := "fnSideOfRat", fn := fun _ => fun
  | [d1, d2] => { results := [.lit (.bool true)], args := [d1, d2] }
  | _ => none }
def fnSideOfRatRow : OpenClaim := { program := "ytblpldapmmoheab", sum := "6cf008b2b516e3c27a2191459e74d79afb0855a39c4237053944e37d6cb7da71", func := "loop.example/planargeometry/laws.FnSideOfRat", spec := "fnSideOfRat", apart := false }
def FnSideOfRatSaid : Prop := fnSideOfRatRow.holds Try.pinned (OpenSpec.ofChange fnSideOfRatSpec)

/-- ITS FALSE NEIGHBOUR: 'it returns false'. Refute it at one input. -/
def fnSideOfRatWrong : ChangeSpec := { name := "fnSideOfRat", fn := fun _ => fun
  | [d1, d2] => { results := [.lit (.bool false)], args := [d1, d2] }
  | _ => none }
def FnSideOfRatWrongFalsely : Prop := fnSideOfRatRow.holds Try.pinned (OpenSpec.ofChange fnSideOfRatWrong)

/-- 'laws.FnMeetPoint': WHATEVER THE INPUT: true; the input reads as it did. -/
def fnMeetPointSpec : ChangeSpec := { name := "fnMeetPoint", fn := fun _ => fun
  | [d] => { results := [.lit (.bool true)], args := [d] }
  | _ => none }
def fnMeetPointRow : OpenClaim := { program := "ytblpldapmmoheab", sum := "6cf008b2b516e3c27a2191459e74d79afb0855a39c4237053944e37d6cb7da71", func := "loop.example/planargeometry/laws.FnMeetPoint", spec := "fnMeetPoint", apart := false }
def FnMeetPointSaid : Prop := fnMeetPointRow.holds Try.pinned (OpenSpec.ofChange fnMeetPointSpec)

/-- ITS FALSE NEIGHBOUR: 'it returns false'. Refute it at one input. -/
def fnMeetPointWrong : ChangeSpec := { name := "fnMeetPoint", fn := fun _ => fun
  | [d] => { results := [.lit (.bool false)], args := [d] }
  | _ => none }
def FnMeetPointWrongFalsely : Prop := fnMeetPointRow.holds Try.pinned (OpenSpec.ofChange fnMeetPointWrong)

/-- 'laws.FnCrossingLines': WHATEVER THE INPUT: true; the input reads as it did. -/
def fnCrossingLinesSpec : ChangeSpec := { name := "fnCrossingLines", fn := fun _ => fun
  | [d] => { results := [.lit (.bool true)], args := [d] }
  | _ => none }
def fnCrossingLinesRow : OpenClaim := { program := "ytblpldapmmoheab", sum := "6cf008b2b516e3c27a2191459e74d79afb0855a39c4237053944e37d6cb7da71", func := "loop.example/planargeometry/laws.FnCrossingLines", spec := "fnCrossingLines", apart := false }
def FnCrossingLinesSaid : Prop := fnCrossingLinesRow.holds Try.pinned (OpenSpec.ofChange fnCrossingLinesSpec)

/-- ITS FALSE NEIGHBOUR: 'it returns false'. Refute it at one input. -/
def fnCrossingLinesWrong : ChangeSpec := { name := "fnCrossingLines", fn := fun _ => fun
  | [d] => { results := [.lit (.bool false)], args := [d] }
  | _ => none }
def FnCrossingLinesWrongFalsely : Prop := fnCrossingLinesRow.holds Try.pinned (OpenSpec.ofChange fnCrossingLinesWrong)

/-- 'laws.FnSegmentParts': WHATEVER THE INPUT: true; the input reads as it did. -/
def fnSegmentPartsSpec : ChangeSpec := { name := "fnSegmentParts", fn := fun _ => fun
  | [d] => { results := [.lit (.bool true)], args := [d] }
  | _ => none }
def fnSegmentPartsRow : OpenClaim := { program := "ytblpldapmmoheab", sum := "6cf008b2b516e3c27a2191459e74d79afb0855a39c4237053944e37d6cb7da71", func := "loop.example/planargeometry/laws.FnSegmentParts", spec := "fnSegmentParts", unfollowed := true, recurses := true, apart := false }
def FnSegmentPartsSaid : Prop := fnSegmentPartsRow.holds Try.pinned (OpenSpec.ofChange fnSegmentPartsSpec)

/-- ITS FALSE NEIGHBOUR: 'it returns false'. Refute it at one input. -/
def fnSegmentPartsWrong : ChangeSpec := { name := "fnSegmentParts", fn := fun _ => fun
  | [d] => { results := [.lit (.bool false)], args := [d] }
  | _ => none }
def FnSegmentPartsWrongFalsely : Prop := fnSegmentPartsRow.holds Try.pinned (OpenSpec.ofChange fnSegmentPartsWrong)

/-- 'laws.FnExactInTriangle': WHATEVER THE INPUT: true; the input reads as it did. -/
def fnExactInTriangleSpec : ChangeSpec := { name := "fnExactInTriangle", fn := fun _ => fun
  | [d1, d2, d3, d4] => { results := [.lit (.bool true)], args := [d1, d2, d3, d4] }
  | _ => none }
def fnExactInTriangleRow : OpenClaim := { program := "ytblpldapmmoheab", sum := "6cf008b2b516e3c27a2191459e74d79afb0855a39c4237053944e37d6cb7da71", func := "loop.example/planargeometry/laws.FnExactInTriangle", spec := "fnExactInTriangle", unfollowed := true, recurses := true, apart := false }
def FnExactInTriangleSaid : Prop := fnExactInTriangleRow.holds Try.pinned (OpenSpec.ofChange fnExactInTriangleSpec)

/-- ITS FALSE NEIGHBOUR: 'it returns false'. Refute it at one input. -/
def fnExactInTriangleWrong : ChangeSpec := { name := "fnExactInTriangle", fn := fun _ => fun
  | [d1, d2, d3, d4] => { results := [.lit (.bool false)], args := [d1, d2, d3, d4] }
  | _ => none }
def FnExactInTriangleWrongFalsely : Prop := fnExactInTriangleRow.holds Try.pinned (OpenSpec.ofChange fnExactInTriangleWrong)

/-- 'laws.FnInTriangle': WHATEVER THE INPUT: true; the input reads as it did. -/
def fnInTriangleSpec : ChangeSpec := { name := "fnInTriangle", fn := fun _ => fun
  | [d] => { results := [.lit (.bool true)], args := [d] }
  | _ => none }
def fnInTriangleRow : OpenClaim := { program := "ytblpldapmmoheab", sum := "6cf008b2b516e3c27a2191459e74d79afb0855a39c4237053944e37d6cb7da71", func := "loop.example/planargeometry/laws.FnInTriangle", spec := "fnInTriangle", unfollowed := true, recurses := true, apart := false }
def FnInTriangleSaid : Prop := fnInTriangleRow.holds Try.pinned (OpenSpec.ofChange fnInTriangleSpec)

/-- ITS FALSE NEIGHBOUR: 'it returns false'. Refute it at one input. -/
def fnInTriangleWrong : ChangeSpec := { name := "fnInTriangle", fn := fun _ => fun
  | [d] => { results := [.lit (.bool false)], args := [d] }
  | _ => none }
def FnInTriangleWrongFalsely : Prop := fnInTriangleRow.holds Try.pinned (OpenSpec.ofChange fnInTriangleWrong)

/-- 'laws.FnInCircle': WHATEVER THE INPUT: true; the input reads as it did. -/
def fnInCircleSpec : ChangeSpec := { name := "fnInCircle", fn := fun _ => fun
  | [d] => { results := [.lit (.bool true)], args := [d] }
  | _ => none }
def fnInCircleRow : OpenClaim := { program := "ytblpldapmmoheab", sum := "6cf008b2b516e3c27a2191459e74d79afb0855a39c4237053944e37d6cb7da71", func := "loop.example/planargeometry/laws.FnInCircle", spec := "fnInCircle", apart := false }
def FnInCircleSaid : Prop := fnInCircleRow.holds Try.pinned (OpenSpec.ofChange fnInCircleSpec)

/-- ITS FALSE NEIGHBOUR: 'it returns false'. Refute it at one input. -/
def fnInCircleWrong : ChangeSpec := { name := "fnInCircle", fn := fun _ => fun
  | [d] => { results := [.lit (.bool false)], args := [d] }
  | _ => none }
def FnInCircleWrongFalsely : Prop := fnInCircleRow.holds Try.pinned (OpenSpec.ofChange fnInCircleWrong)

/-- 'laws.FnCircleInside': WHATEVER THE INPUT: true; the input reads as it did. -/
def fnCircleInsideSpec : ChangeSpec := { name := "fnCircleInside", fn := fun _ => fun
  | [d] => { results := [.lit (.bool true)], args := [d] }
  | _ => none }
def fnCircleInsideRow : OpenClaim := { program := "ytblpldapmmoheab", sum := "6cf008b2b516e3c27a2191459e74d79afb0855a39c4237053944e37d6cb7da71", func := "loop.example/planargeometry/laws.FnCircleInside", spec := "fnCircleInside", unfollowed := true, recurses := true, apart := false }
def FnCircleInsideSaid : Prop := fnCircleInsideRow.holds Try.pinned (OpenSpec.ofChange fnCircleInsideSpec)

/-- ITS FALSE NEIGHBOUR: 'it returns false'. Refute it at one input. -/
def fnCircleInsideWrong : ChangeSpec := { name := "fnCircleInside", fn := fun _ => fun
  | [d] => { results := [.lit (.bool false)], args := [d] }
  | _ => none }
def FnCircleInsideWrongFalsely : Prop := fnCircleInsideRow.holds Try.pinned (OpenSpec.ofChange fnCircleInsideWrong)

/-- 'laws.FnExactMeetingPairs': WHATEVER THE INPUT: true; the input reads as it did. -/
def fnExactMeetingPairsSpec : ChangeSpec := { name := "fnExactMeetingPairs", fn := fun _ => fun
  | [d] => { results := [.lit (.bool true)], args := [d] }
  | _ => none }
def fnExactMeetingPairsRow : OpenClaim := { program := "ytblpldapmmoheab", sum := "6cf008b2b516e3c27a2191459e74d79afb0855a39c4237053944e37d6cb7da71", func := "loop.example/planargeometry/laws.FnExactMeetingPairs", spec := "fnExactMeetingPairs", unfollowed := true, recurses := true, apart := false }
def FnExactMeetingPairsSaid : Prop := fnExactMeetingPairsRow.holds Try.pinned (OpenSpec.ofChange fnExactMeetingPairsSpec)

/-- ITS FALSE NEIGHBOUR: 'it returns false'. Refute it at one input. -/
def fnExactMeetingPairsWrong : ChangeSpec := { name := "fnExactMeetingPairs", fn := fun _ => fun
  | [d] => { results := [.lit (.bool false)], args := [d] }
  | _ => none }
def FnExactMeetingPairsWrongFalsely : Prop := fnExactMeetingPairsRow.holds Try.pinned (OpenSpec.ofChange fnExactMeetingPairsWrong)

/-- 'laws.FnExactIsDrawing': WHATEVER THE INPUT: true; the input reads as it did. -/
def fnExactIsDrawingSpec : ChangeSpec := { name := "fnExactIsDrawing", fn := fun _ => fun
  | [d] => { results := [.lit (.bool true)], args := [d] }
  | _ => none }
def fnExactIsDrawingRow : OpenClaim := { program := "ytblpldapmmoheab", sum := "6cf008b2b516e3c27a2191459e74d79afb0855a39c4237053944e37d6cb7da71", func := "loop.example/planargeometry/laws.FnExactIsDrawing", spec := "fnExactIsDrawing", unfollowed := true, recurses := true, apart := false }
def FnExactIsDrawingSaid : Prop := fnExactIsDrawingRow.holds Try.pinned (OpenSpec.ofChange fnExactIsDrawingSpec)

/-- ITS FALSE NEIGHBOUR: 'it returns false'. Refute it at one input. -/
def fnExactIsDrawingWrong : ChangeSpec := { name := "fnExactIsDrawing", fn := fun _ => fun
  | [d] => { results := [.lit (.bool false)], args := [d] }
  | _ => none }
def FnExactIsDrawingWrongFalsely : Prop := fnExactIsDrawingRow.holds Try.pinned (OpenSpec.ofChange fnExactIsDrawingWrong)

/-- 'laws.FnExactMaxima': WHATEVER THE INPUT: true; the input reads as it did. -/
def fnExactMaximaSpec : ChangeSpec := { name := "fnExactMaxima", fn := fun _ => fun
  | [d] => { results := [.lit (.bool true)], args := [d] }
  | _ => none }
def fnExactMaximaRow : OpenClaim := { program := "ytblpldapmmoheab", sum := "6cf008b2b516e3c27a2191459e74d79afb0855a39c4237053944e37d6cb7da71", func := "loop.example/planargeometry/laws.FnExactMaxima", spec := "fnExactMaxima", unfollowed := true, recurses := true, apart := false }
def FnExactMaximaSaid : Prop := fnExactMaximaRow.holds Try.pinned (OpenSpec.ofChange fnExactMaximaSpec)

/-- ITS FALSE NEIGHBOUR: 'it returns false'. Refute it at one input. -/
def fnExactMaximaWrong : ChangeSpec := { name := "fnExactMaxima", fn := fun _ => fun
  | [d] => { results := [.lit (.bool false)], args := [d] }
  | _ => none }
def FnExactMaximaWrongFalsely : Prop := fnExactMaximaRow.holds Try.pinned (OpenSpec.ofChange fnExactMaximaWrong)

/- THE SECOND FORM. 'bulk': how many values and letters a reading holds, each counted each time it is reached (what is shared counts as often as it is met; a slice's spare places count too). A statement '..UptoSaid' is the law's where the arguments, and the package variables that the reading takes, are together of bulk at most 1048576: NARROWER than '..Said'. Prove '..Said' where nothing that the law and all that it calls make is longer than what came in: it says more and counts as full. Else prove '..UptoSaid'. A law counts once. -/
mutual
def uptoBulk {H : Type} : DataW H → Nat
  | .lit (.string bytes) => bytes.length + 1
  | .lit _ => 1
  | .nil => 1
  | .ptr d => uptoBulk d + 1
  | .slice elems spare => uptoBulkAll elems + uptoBulkAll spare + 1
  | .agg parts => uptoBulkAll parts + 1
  | .iface _ d => uptoBulk d + 1
  | .map entries => uptoBulkEntries entries + 1
  | .held _ => 1
def uptoBulkAll {H : Type} : List (DataW H) → Nat
  | [] => 0
  | d :: r => uptoBulk d + uptoBulkAll r
def uptoBulkEntries {H : Type} : List (Lit × DataW H) → Nat
  | [] => 0
  | x :: r => uptoBulkEntry x + uptoBulkEntries r
def uptoBulkEntry {H : Type} : Lit × DataW H → Nat
  | (.string bytes, d) => bytes.length + uptoBulk d + 1
  | (_, d) => uptoBulk d + 1
 end
def uptoSmall : (H : Type) → List (DataW H) → Bool := fun _ ds => decide (uptoBulkAll ds ≤ 1048576)
def OpenSpec.upto (s : _root_.Go.ChangeSpec) : _root_.Go.OpenSpec := { _root_.Go.OpenSpec.ofChange s with cond := some uptoSmall }

/-- 'laws.FnMeetLines', WHERE WHAT IT READS IS OF BULK AT MOST 1048576: true; the input reads as it did. -/
def fnMeetLinesUptoRow : OpenClaim := { program := "ytblpldapmmoheab", sum := "6cf008b2b516e3c27a2191459e74d79afb0855a39c4237053944e37d6cb7da71", func := "loop.example/planargeometry/laws.FnMeetLines", spec := "fnMeetLines", apart := false, narrowed := true }
def FnMeetLinesUptoSaid : Prop := fnMeetLinesUptoRow.holds Try.pinned (OpenSpec.upto fnMeetLinesSpec)

/-- 'laws.FnSideOfRat', WHERE WHAT IT READS IS OF BULK AT MOST 1048576: true; the input reads as it did. -/
def fnSideOfRatUptoRow : OpenClaim := { program := "ytblpldapmmoheab", sum := "6cf008b2b516e3c27a2191459e74d79afb0855a39c4237053944e37d6cb7da71", func := "loop.example/planargeometry/laws.FnSideOfRat", spec := "fnSideOfRat", apart := false, narrowed := true }
def FnSideOfRatUptoSaid : Prop := fnSideOfRatUptoRow.holds Try.pinned (OpenSpec.upto fnSideOfRatSpec)

/-- 'laws.FnMeetPoint', WHERE WHAT IT READS IS OF BULK AT MOST 1048576: true; the input reads as it did. -/
def fnMeetPointUptoRow : OpenClaim := { program := "ytblpldapmmoheab", sum := "6cf008b2b516e3c27a2191459e74d79afb0855a39c4237053944e37d6cb7da71", func := "loop.example/planargeometry/laws.FnMeetPoint", spec := "fnMeetPoint", apart := false, narrowed := true }
def FnMeetPointUptoSaid : Prop := fnMeetPointUptoRow.holds Try.pinned (OpenSpec.upto fnMeetPointSpec)

/-- 'laws.FnCrossingLines', WHERE WHAT IT READS IS OF BULK AT MOST 1048576: true; the input reads as it did. -/
def fnCrossingLinesUptoRow : OpenClaim := { program := "ytblpldapmmoheab", sum := "6cf008b2b516e3c27a2191459e74d79afb0855a39c4237053944e37d6cb7da71", func := "loop.example/planargeometry/laws.FnCrossingLines", spec := "fnCrossingLines", apart := false, narrowed := true }
def FnCrossingLinesUptoSaid : Prop := fnCrossingLinesUptoRow.holds Try.pinned (OpenSpec.upto fnCrossingLinesSpec)

/-- 'laws.FnSegmentParts', WHERE WHAT IT READS IS OF BULK AT MOST 1048576: true; the input reads as it did. -/
def fnSegmentPartsUptoRow : OpenClaim := { program := "ytblpldapmmoheab", sum := "6cf008b2b516e3c27a2191459e74d79afb0855a39c4237053944e37d6cb7da71", func := "loop.example/planargeometry/laws.FnSegmentParts", spec := "fnSegmentParts", unfollowed := true, recurses := true, apart := false, narrowed := true }
def FnSegmentPartsUptoSaid : Prop := fnSegmentPartsUptoRow.holds Try.pinned (OpenSpec.upto fnSegmentPartsSpec)

/-- 'laws.FnExactInTriangle', WHERE WHAT IT READS IS OF BULK AT MOST 1048576: true; the input reads as it did. -/
def fnExactInTriangleUptoRow : OpenClaim := { program := "ytblpldapmmoheab", sum := "6cf008b2b516e3c27a2191459e74d79afb0855a39c4237053944e37d6cb7da71", func := "loop.example/planargeometry/laws.FnExactInTriangle", spec := "fnExactInTriangle", unfollowed := true, recurses := true, apart := false, narrowed := true }
def FnExactInTriangleUptoSaid : Prop := fnExactInTriangleUptoRow.holds Try.pinned (OpenSpec.upto fnExactInTriangleSpec)

/-- 'laws.FnInTriangle', WHERE WHAT IT READS IS OF BULK AT MOST 1048576: true; the input reads as it did. -/
def fnInTriangleUptoRow : OpenClaim := { program := "ytblpldapmmoheab", sum := "6cf008b2b516e3c27a2191459e74d79afb0855a39c4237053944e37d6cb7da71", func := "loop.example/planargeometry/laws.FnInTriangle", spec := "fnInTriangle", unfollowed := true, recurses := true, apart := false, narrowed := true }
def FnInTriangleUptoSaid : Prop := fnInTriangleUptoRow.holds Try.pinned (OpenSpec.upto fnInTriangleSpec)

/-- 'laws.FnInCircle', WHERE WHAT IT READS IS OF BULK AT MOST 1048576: true; the input reads as it did. -/
def fnInCircleUptoRow : OpenClaim := { program := "ytblpldapmmoheab", sum := "6cf008b2b516e3c27a2191459e74d79afb0855a39c4237053944e37d6cb7da71", func := "loop.example/planargeometry/laws.FnInCircle", spec := "fnInCircle", apart := false, narrowed := true }
def FnInCircleUptoSaid : Prop := fnInCircleUptoRow.holds Try.pinned (OpenSpec.upto fnInCircleSpec)

/-- 'laws.FnCircleInside', WHERE WHAT IT READS IS OF BULK AT MOST 1048576: true; the input reads as it did. -/
def fnCircleInsideUptoRow : OpenClaim := { program := "ytblpldapmmoheab", sum := "6cf008b2b516e3c27a2191459e74d79afb0855a39c4237053944e37d6cb7da71", func := "loop.example/planargeometry/laws.FnCircleInside", spec := "fnCircleInside", unfollowed := true, recurses := true, apart := false, narrowed := true }
def FnCircleInsideUptoSaid : Prop := fnCircleInsideUptoRow.holds Try.pinned (OpenSpec.upto fnCircleInsideSpec)

/-- 'laws.FnExactMeetingPairs', WHERE WHAT IT READS IS OF BULK AT MOST 1048576: true; the input reads as it did. -/
def fnExactMeetingPairsUptoRow : OpenClaim := { program := "ytblpldapmmoheab", sum := "6cf008b2b516e3c27a2191459e74d79afb0855a39c4237053944e37d6cb7da71", func := "loop.example/planargeometry/laws.FnExactMeetingPairs", spec := "fnExactMeetingPairs", unfollowed := true, recurses := true, apart := false, narrowed := true }
def FnExactMeetingPairsUptoSaid : Prop := fnExactMeetingPairsUptoRow.holds Try.pinned (OpenSpec.upto fnExactMeetingPairsSpec)

/-- 'laws.FnExactIsDrawing', WHERE WHAT IT READS IS OF BULK AT MOST 1048576: true; the input reads as it did. -/
def fnExactIsDrawingUptoRow : OpenClaim := { program := "ytblpldapmmoheab", sum := "6cf008b2b516e3c27a2191459e74d79afb0855a39c4237053944e37d6cb7da71", func := "loop.example/planargeometry/laws.FnExactIsDrawing", spec := "fnExactIsDrawing", unfollowed := true, recurses := true, apart := false, narrowed := true }
def FnExactIsDrawingUptoSaid : Prop := fnExactIsDrawingUptoRow.holds Try.pinned (OpenSpec.upto fnExactIsDrawingSpec)

/-- 'laws.FnExactMaxima', WHERE WHAT IT READS IS OF BULK AT MOST 1048576: true; the input reads as it did. -/
def fnExactMaximaUptoRow : OpenClaim := { program := "ytblpldapmmoheab", sum := "6cf008b2b516e3c27a2191459e74d79afb0855a39c4237053944e37d6cb7da71", func := "loop.example/planargeometry/laws.FnExactMaxima", spec := "fnExactMaxima", unfollowed := true, recurses := true, apart := false, narrowed := true }
def FnExactMaximaUptoSaid : Prop := fnExactMaximaUptoRow.holds Try.pinned (OpenSpec.upto fnExactMaximaSpec)

end Rows
end Go.Proofs.Ytblpldapmmoheab
