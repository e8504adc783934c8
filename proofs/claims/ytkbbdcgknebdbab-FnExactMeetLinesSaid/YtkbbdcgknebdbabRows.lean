/-
  No cell of these rows narrows 'for every input' (looked for: loops, veiled, ifaces, maps, wideKeys, modest, calm, conditions, laid).
  DERIVED. THE GIVEN ROWS OF THIS SEAT. 12 by the template 'for every input the law returns true; each argument reads behind the call as it read before'; 0 by the template 'total and deterministic' (their statements: YtkbbdcgknebdbabTotals.lean).
  GIVEN WITH THE SEED: the statements are not yours to turn. If you find one false, say at which input.
  Laid BY PROGRAM, IN A SANDBOX (cutbox-rows.mjs): the forced cells as the released guide's own fill.sh prints them over the translation 85f2e6cd8aad1b93… (all of the seat's roots in one cut). By AI agents, Wed Nov 11 2026. No macro, syntax, notation, axiom, sorry.
-/
import Derived.Test.YtkbbdcgknebdbabChecked
import GoSem.Claim
import GoSem.ClaimJoined
import GoSem.ClaimMapViews
import Derived.JoinedTies
import Derived.KernelRfl
namespace Go.Proofs.Ytkbbdcgknebdbab
/- THE CELL 'sum', in the pinned program and in every row, IS THE sha256 OF THE DUMP (.gsa) THAT YtkbbdcgknebdbabProg.lean LOADS. Nothing in Lean hashes anything: it is a label: what it is worth is what the hold of that sum in a sandbox is worth. -/
noncomputable def Try.pinned : Pinned := { name := "ytkbbdcgknebdbab", sum := "85f2e6cd8aad1b93d20ac23029727692372c0d425953cf798bd61eeefecdfda0", checked := Try.checked }
namespace Rows
def none {H : Type} : Left H := { results := [], args := [] }

/-- 'laws.FnExactCompareToSegment': WHATEVER THE INPUT: true; the input reads as it did. -/
def fnExactCompareToSegmentSpec : ChangeSpec := { name := "fnExactCompareToSegment", fn := fun _ => fun
  | [d1, d2, d3] => { results := [.lit (.bool true)], args := [d1, d2, d3] }
  | _ => none }
def fnExactCompareToSegmentRow : OpenClaim := { program := "ytkbbdcgknebdbab", sum := "85f2e6cd8aad1b93d20ac23029727692372c0d425953cf798bd61eeefecdfda0", func := "loop.example/planargeometry/laws.FnExactCompareToSegment", spec := "fnExactCompareToSegment", apart := false }
def FnExactCompareToSegmentSaid : Prop := fnExactCompareToSegmentRow.holds Try.pinned (OpenSpec.ofChange fnExactCompareToSegmentSpec)

/-- ITS FALSE NEIGHBOUR: 'it returns false'. Refute it at one input. -/
def fnExactCompareToSegmentWrong : ChangeSpec := { name := "fnExactCompareToSegment", fn := fun _ => fun
  | [d1, d2, d3] => { results := [.lit (.bool false)], args := [d1, d2, d3] }
  | _ => none }
def FnExactCompareToSegmentWrongFalsely : Prop := fnExactCompareToSegmentRow.holds Try.pinned (OpenSpec.ofChange fnExactCompareToSegmentWrong)

/-- 'laws.FnExactMeetLines': WHATEVER THE INPUT: true; the input reads as it did. -/
def fnExactMeetLinesSpec : ChangeSpec := { name := "fnExactMeetLines", fn := fun _ => fun
  | [d1, d2] => { results := [.lit (.bool true)], args := [d1, d2] }
  | _ => none }
def fnExactMeetLinesRow : OpenClaim := { program := "ytkbbdcgknebdbab", sum := "85f2e6cd8aad1b93d20ac23029727692372c0d425953cf798bd61eeefecdfda0", func := "loop.example/planargeometry/laws.FnExactMeetLines", spec := "fnExactMeetLines", apart := false }
def FnExactMeetLinesSaid : Prop := fnExactMeetLinesRow.holds Try.pinned (OpenSpec.ofChange fnExactMeetLinesSpec)

/-- ITS FALSE NEIGHBOUR: 'it returns false'. Refute it at one input. -/
def fnExactMeetLinesWrong : ChangeSpec := { name := "fnExactMeetLines", fn := fun _ => fun
  | [d1, d2] => { results := [.lit (.bool false)], args := [d1, d2] }
  | _ => none }
def FnExactMeetLinesWrongFalsely : Prop := fnExactMeetLinesRow.holds Try.pinned (OpenSpec.ofChange fnExactMeetLinesWrong)

/-- 'laws.FnExactLineThrough': WHATEVER THE INPUT: true; the input reads as it did. -/
def fnExactLineThroughSpec : ChangeSpec := { name := "fnExactLineThrough", fn := fun _ => fun
  | [d1, d2] => { results := [.lit (.bool true)], args := [d1, d2] }
  | _ => none }
def fnExactLineThroughRow : OpenClaim := { program := "ytkbbdcgknebdbab", sum := "85f2e6cd8aad1b93d20ac23029727692372c0d425953cf798bd61eeefecdfda0", func := "loop.example/planargeometry/laws.FnExactLineThrough", spec := "fnExactLineThrough", apart := false }
def FnExactLineThroughSaid : Prop := fnExactLineThroughRow.holds Try.pinned (OpenSpec.ofChange fnExactLineThroughSpec)

/-- ITS FALSE NEIGHBOUR: 'it returns false'. Refute it at one input. -/
def fnExactLineThroughWrong : ChangeSpec := { name := "fnExactLineThrough", fn := fun _ => fun
  | [d1, d2] => { results := [.lit (.bool false)], args := [d1, d2] }
  | _ => none }
def FnExactLineThroughWrongFalsely : Prop := fnExactLineThroughRow.holds Try.pinned (OpenSpec.ofChange fnExactLineThroughWrong)

/-- 'laws.FnExactRelation': WHATEVER THE INPUT: true; the input reads as it did. -/
def fnExactRelationSpec : ChangeSpec := { name := "fnExactRelation", fn := fun _ => fun
  | [d1, d2] => { results := [.lit (.bool true)], args := [d1, d2] }
  | _ => none }
def fnExactRelationRow : OpenClaim := { program := "ytkbbdcgknebdbab", sum := "85f2e6cd8aad1b93d20ac23029727692372c0d425953cf798bd61eeefecdfda0", func := "loop.example/planargeometry/laws.FnExactRelation", spec := "fnExactRelation", apart := false }
def FnExactRelationSaid : Prop := fnExactRelationRow.holds Try.pinned (OpenSpec.ofChange fnExactRelationSpec)

/-- ITS FALSE NEIGHBOUR: 'it returns false'. Refute it at one input. -/
def fnExactRelationWrong : ChangeSpec := { name := "fnExactRelation", fn := fun _ => fun
  | [d1, d2] => { results := [.lit (.bool false)], args := [d1, d2] }
  | _ => none }
def FnExactRelationWrongFalsely : Prop := fnExactRelationRow.holds Try.pinned (OpenSpec.ofChange fnExactRelationWrong)

/-- 'laws.FnExactMeetPoint': WHATEVER THE INPUT: true; the input reads as it did. -/
def fnExactMeetPointSpec : ChangeSpec := { name := "fnExactMeetPoint", fn := fun _ => fun
  | [d1, d2] => { results := [.lit (.bool true)], args := [d1, d2] }
  | _ => none }
def fnExactMeetPointRow : OpenClaim := { program := "ytkbbdcgknebdbab", sum := "85f2e6cd8aad1b93d20ac23029727692372c0d425953cf798bd61eeefecdfda0", func := "loop.example/planargeometry/laws.FnExactMeetPoint", spec := "fnExactMeetPoint", apart := false }
def FnExactMeetPointSaid : Prop := fnExactMeetPointRow.holds Try.pinned (OpenSpec.ofChange fnExactMeetPointSpec)

/-- ITS FALSE NEIGHBOUR: 'it returns false'. Refute it at one input. -/
def fnExactMeetPointWrong : ChangeSpec := { name := "fnExactMeetPoint", fn := fun _ => fun
  | [d1, d2] => { results := [.lit (.bool false)], args := [d1, d2] }
  | _ => none }
def FnExactMeetPointWrongFalsely : Prop := fnExactMeetPointRow.holds Try.pinned (OpenSpec.ofChange fnExactMeetPointWrong)

/-- 'laws.FnExactInTriangle': WHATEVER THE INPUT: true; the input reads as it did. -/
def fnExactInTriangleSpec : ChangeSpec := { name := "fnExactInTriangle", fn := fun _ => fun
  | [d1, d2, d3, d4] => { results := [.lit (.bool true)], args := [d1, d2, d3, d4] }
  | _ => none }
def fnExactInTriangleRow : OpenClaim := { program := "ytkbbdcgknebdbab", sum := "85f2e6cd8aad1b93d20ac23029727692372c0d425953cf798bd61eeefecdfda0", func := "loop.example/planargeometry/laws.FnExactInTriangle", spec := "fnExactInTriangle", unfollowed := true, recurses := true, apart := false }
def FnExactInTriangleSaid : Prop := fnExactInTriangleRow.holds Try.pinned (OpenSpec.ofChange fnExactInTriangleSpec)

/-- ITS FALSE NEIGHBOUR: 'it returns false'. Refute it at one input. -/
def fnExactInTriangleWrong : ChangeSpec := { name := "fnExactInTriangle", fn := fun _ => fun
  | [d1, d2, d3, d4] => { results := [.lit (.bool false)], args := [d1, d2, d3, d4] }
  | _ => none }
def FnExactInTriangleWrongFalsely : Prop := fnExactInTriangleRow.holds Try.pinned (OpenSpec.ofChange fnExactInTriangleWrong)

/-- 'laws.FnExactExtreme': WHATEVER THE INPUT: true; the input reads as it did. -/
def fnExactExtremeSpec : ChangeSpec := { name := "fnExactExtreme", fn := fun _ => fun
  | [d1, d2] => { results := [.lit (.bool true)], args := [d1, d2] }
  | _ => none }
def fnExactExtremeRow : OpenClaim := { program := "ytkbbdcgknebdbab", sum := "85f2e6cd8aad1b93d20ac23029727692372c0d425953cf798bd61eeefecdfda0", func := "loop.example/planargeometry/laws.FnExactExtreme", spec := "fnExactExtreme", unfollowed := true, recurses := true, apart := false }
def FnExactExtremeSaid : Prop := fnExactExtremeRow.holds Try.pinned (OpenSpec.ofChange fnExactExtremeSpec)

/-- ITS FALSE NEIGHBOUR: 'it returns false'. Refute it at one input. -/
def fnExactExtremeWrong : ChangeSpec := { name := "fnExactExtreme", fn := fun _ => fun
  | [d1, d2] => { results := [.lit (.bool false)], args := [d1, d2] }
  | _ => none }
def FnExactExtremeWrongFalsely : Prop := fnExactExtremeRow.holds Try.pinned (OpenSpec.ofChange fnExactExtremeWrong)

/-- 'laws.FnExactNearestTo': WHATEVER THE INPUT: true; the input reads as it did. -/
def fnExactNearestToSpec : ChangeSpec := { name := "fnExactNearestTo", fn := fun _ => fun
  | [d1, d2] => { results := [.lit (.bool true)], args := [d1, d2] }
  | _ => none }
def fnExactNearestToRow : OpenClaim := { program := "ytkbbdcgknebdbab", sum := "85f2e6cd8aad1b93d20ac23029727692372c0d425953cf798bd61eeefecdfda0", func := "loop.example/planargeometry/laws.FnExactNearestTo", spec := "fnExactNearestTo", unfollowed := true, recurses := true, apart := false }
def FnExactNearestToSaid : Prop := fnExactNearestToRow.holds Try.pinned (OpenSpec.ofChange fnExactNearestToSpec)

/-- ITS FALSE NEIGHBOUR: 'it returns false'. Refute it at one input. -/
def fnExactNearestToWrong : ChangeSpec := { name := "fnExactNearestTo", fn := fun _ => fun
  | [d1, d2] => { results := [.lit (.bool false)], args := [d1, d2] }
  | _ => none }
def FnExactNearestToWrongFalsely : Prop := fnExactNearestToRow.holds Try.pinned (OpenSpec.ofChange fnExactNearestToWrong)

/-- 'laws.FnExactCountWithin': WHATEVER THE INPUT: true; the input reads as it did. -/
def fnExactCountWithinSpec : ChangeSpec := { name := "fnExactCountWithin", fn := fun _ => fun
  | [d1, d2, d3] => { results := [.lit (.bool true)], args := [d1, d2, d3] }
  | _ => none }
def fnExactCountWithinRow : OpenClaim := { program := "ytkbbdcgknebdbab", sum := "85f2e6cd8aad1b93d20ac23029727692372c0d425953cf798bd61eeefecdfda0", func := "loop.example/planargeometry/laws.FnExactCountWithin", spec := "fnExactCountWithin", apart := false }
def FnExactCountWithinSaid : Prop := fnExactCountWithinRow.holds Try.pinned (OpenSpec.ofChange fnExactCountWithinSpec)

/-- ITS FALSE NEIGHBOUR: 'it returns false'. Refute it at one input. -/
def fnExactCountWithinWrong : ChangeSpec := { name := "fnExactCountWithin", fn := fun _ => fun
  | [d1, d2, d3] => { results := [.lit (.bool false)], args := [d1, d2, d3] }
  | _ => none }
def FnExactCountWithinWrongFalsely : Prop := fnExactCountWithinRow.holds Try.pinned (OpenSpec.ofChange fnExactCountWithinWrong)

/-- 'laws.FnExactCollinear': WHATEVER THE INPUT: true; the input reads as it did. -/
def fnExactCollinearSpec : ChangeSpec := { name := "fnExactCollinear", fn := fun _ => fun
  | [d] => { results := [.lit (.bool true)], args := [d] }
  | _ => none }
def fnExactCollinearRow : OpenClaim := { program := "ytkbbdcgknebdbab", sum := "85f2e6cd8aad1b93d20ac23029727692372c0d425953cf798bd61eeefecdfda0", func := "loop.example/planargeometry/laws.FnExactCollinear", spec := "fnExactCollinear", unfollowed := true, recurses := true, apart := false }
def FnExactCollinearSaid : Prop := fnExactCollinearRow.holds Try.pinned (OpenSpec.ofChange fnExactCollinearSpec)

/-- ITS FALSE NEIGHBOUR: 'it returns false'. Refute it at one input. -/
def fnExactCollinearWrong : ChangeSpec := { name := "fnExactCollinear", fn := fun _ => fun
  | [d] => { results := [.lit (.bool false)], args := [d] }
  | _ => none }
def FnExactCollinearWrongFalsely : Prop := fnExactCollinearRow.holds Try.pinned (OpenSpec.ofChange fnExactCollinearWrong)

/-- 'laws.FnExactSortPoints': WHATEVER THE INPUT: true; the input reads as it did. -/
def fnExactSortPointsSpec : ChangeSpec := { name := "fnExactSortPoints", fn := fun _ => fun
  | [d] => { results := [.lit (.bool true)], args := [d] }
  | _ => none }
def fnExactSortPointsRow : OpenClaim := { program := "ytkbbdcgknebdbab", sum := "85f2e6cd8aad1b93d20ac23029727692372c0d425953cf798bd61eeefecdfda0", func := "loop.example/planargeometry/laws.FnExactSortPoints", spec := "fnExactSortPoints", unfollowed := true, recurses := true, apart := false }
def FnExactSortPointsSaid : Prop := fnExactSortPointsRow.holds Try.pinned (OpenSpec.ofChange fnExactSortPointsSpec)

/-- ITS FALSE NEIGHBOUR: 'it returns false'. Refute it at one input. -/
def fnExactSortPointsWrong : ChangeSpec := { name := "fnExactSortPoints", fn := fun _ => fun
  | [d] => { results := [.lit (.bool false)], args := [d] }
  | _ => none }
def FnExactSortPointsWrongFalsely : Prop := fnExactSortPointsRow.holds Try.pinned (OpenSpec.ofChange fnExactSortPointsWrong)

/-- 'laws.FnExactDiameter': WHATEVER THE INPUT: true; the input reads as it did. -/
def fnExactDiameterSpec : ChangeSpec := { name := "fnExactDiameter", fn := fun _ => fun
  | [d] => { results := [.lit (.bool true)], args := [d] }
  | _ => none }
def fnExactDiameterRow : OpenClaim := { program := "ytkbbdcgknebdbab", sum := "85f2e6cd8aad1b93d20ac23029727692372c0d425953cf798bd61eeefecdfda0", func := "loop.example/planargeometry/laws.FnExactDiameter", spec := "fnExactDiameter", unfollowed := true, recurses := true, apart := false }
def FnExactDiameterSaid : Prop := fnExactDiameterRow.holds Try.pinned (OpenSpec.ofChange fnExactDiameterSpec)

/-- ITS FALSE NEIGHBOUR: 'it returns false'. Refute it at one input. -/
def fnExactDiameterWrong : ChangeSpec := { name := "fnExactDiameter", fn := fun _ => fun
  | [d] => { results := [.lit (.bool false)], args := [d] }
  | _ => none }
def FnExactDiameterWrongFalsely : Prop := fnExactDiameterRow.holds Try.pinned (OpenSpec.ofChange fnExactDiameterWrong)

/- THE SECOND FORM. 'bulk': how many values and letters a reading holds, each counted each time it is reached (what is shared counts as often as it is met; a slice's spare places count too). A statement '..UptoSaid' is the law's where the arguments, and the package variables that the reading takes, are together of bulk at most 1048576: NARROWER than '..Said'. Prove '..Said' where nothing that the law and all that it calls make is longer than what came in: it says more and counts as full. Else prove '..UptoSaid'. A law counts once. -/
mutual
def uptoBulk {H : Type} : DataW H → Nat
  | .lit (.string bytes) => bytes.length + 1
  | .lit _ => 1
  | .nil => 1
  | .ptr d => uptoBulk d + 1
  | .slice elems spare => uptoBulkAll elems + uptoBulkAll spare + 1
  | .agg parts => uptoBulkAll parts + 1
  | .iface _ d => uptoBulk d + 1
  | .map entries => uptoBulkEntries entries + 1
  | .held _ => 1
def uptoBulkAll {H : Type} : List (DataW H) → Nat
  | [] => 0
  | d :: r => uptoBulk d + uptoBulkAll r
def uptoBulkEntries {H : Type} : List (Lit × DataW H) → Nat
  | [] => 0
  | x :: r => uptoBulkEntry x + uptoBulkEntries r
def uptoBulkEntry {H : Type} : Lit × DataW H → Nat
  | (.string bytes, d) => bytes.length + uptoBulk d + 1
  | (_, d) => uptoBulk d + 1
 end
def uptoSmall : (H : Type) → List (DataW H) → Bool := fun _ ds => decide (uptoBulkAll ds ≤ 1048576)
def OpenSpec.upto (s : _root_.Go.ChangeSpec) : _root_.Go.OpenSpec := { _root_.Go.OpenSpec.ofChange s with cond := some uptoSmall }

/-- 'laws.FnExactCompareToSegment', WHERE WHAT IT READS IS OF BULK AT MOST 1048576: true; the input reads as it did. -/
def fnExactCompareToSegmentUptoRow : OpenClaim := { program := "ytkbbdcgknebdbab", sum := "85f2e6cd8aad1b93d20ac23029727692372c0d425953cf798bd61eeefecdfda0", func := "loop.example/planargeometry/laws.FnExactCompareToSegment", spec := "fnExactCompareToSegment", apart := false, narrowed := true }
def FnExactCompareToSegmentUptoSaid : Prop := fnExactCompareToSegmentUptoRow.holds Try.pinned (OpenSpec.upto fnExactCompareToSegmentSpec)

/-- 'laws.FnExactMeetLines', WHERE WHAT IT READS IS OF BULK AT MOST 1048576: true; the input reads as it did. -/
def fnExactMeetLinesUptoRow : OpenClaim := { program := "ytkbbdcgknebdbab", sum := "85f2e6cd8aad1b93d20ac23029727692372c0d425953cf798bd61eeefecdfda0", func := "loop.example/planargeometry/laws.FnExactMeetLines", spec := "fnExactMeetLines", apart := false, narrowed := true }
def FnExactMeetLinesUptoSaid : Prop := fnExactMeetLinesUptoRow.holds Try.pinned (OpenSpec.upto fnExactMeetLinesSpec)

/-- 'laws.FnExactLineThrough', WHERE WHAT IT READS IS OF BULK AT MOST 1048576: true; the input reads as it did. -/
def fnExactLineThroughUptoRow : OpenClaim := { program := "ytkbbdcgknebdbab", sum := "85f2e6cd8aad1b93d20ac23029727692372c0d425953cf798bd61eeefecdfda0", func := "loop.example/planargeometry/laws.FnExactLineThrough", spec := "fnExactLineThrough", apart := false, narrowed := true }
def FnExactLineThroughUptoSaid : Prop := fnExactLineThroughUptoRow.holds Try.pinned (OpenSpec.upto fnExactLineThroughSpec)

/-- 'laws.FnExactRelation', WHERE WHAT IT READS IS OF BULK AT MOST 1048576: true; the input reads as it did. -/
def fnExactRelationUptoRow : OpenClaim := { program := "ytkbbdcgknebdbab", sum := "85f2e6cd8aad1b93d20ac23029727692372c0d425953cf798bd61eeefecdfda0", func := "loop.example/planargeometry/laws.FnExactRelation", spec := "fnExactRelation", apart := false, narrowed := true }
def FnExactRelationUptoSaid : Prop := fnExactRelationUptoRow.holds Try.pinned (OpenSpec.upto fnExactRelationSpec)

/-- 'laws.FnExactMeetPoint', WHERE WHAT IT READS IS OF BULK AT MOST 1048576: true; the input reads as it did. -/
def fnExactMeetPointUptoRow : OpenClaim := { program := "ytkbbdcgknebdbab", sum := "85f2e6cd8aad1b93d20ac23029727692372c0d425953cf798bd61eeefecdfda0", func := "loop.example/planargeometry/laws.FnExactMeetPoint", spec := "fnExactMeetPoint", apart := false, narrowed := true }
def FnExactMeetPointUptoSaid : Prop := fnExactMeetPointUptoRow.holds Try.pinned (OpenSpec.upto fnExactMeetPointSpec)

/-- 'laws.FnExactInTriangle', WHERE WHAT IT READS IS OF BULK AT MOST 1048576: true; the input reads as it did. -/
def fnExactInTriangleUptoRow : OpenClaim := { program := "ytkbbdcgknebdbab", sum := "85f2e6cd8aad1b93d20ac23029727692372c0d425953cf798bd61eeefecdfda0", func := "loop.example/planargeometry/laws.FnExactInTriangle", spec := "fnExactInTriangle", unfollowed := true, recurses := true, apart := false, narrowed := true }
def FnExactInTriangleUptoSaid : Prop := fnExactInTriangleUptoRow.holds Try.pinned (OpenSpec.upto fnExactInTriangleSpec)

/-- 'laws.FnExactExtreme', WHERE WHAT IT READS IS OF BULK AT MOST 1048576: true; the input reads as it did. -/
def fnExactExtremeUptoRow : OpenClaim := { program := "ytkbbdcgknebdbab", sum := "85f2e6cd8aad1b93d20ac23029727692372c0d425953cf798bd61eeefecdfda0", func := "loop.example/planargeometry/laws.FnExactExtreme", spec := "fnExactExtreme", unfollowed := true, recurses := true, apart := false, narrowed := true }
def FnExactExtremeUptoSaid : Prop := fnExactExtremeUptoRow.holds Try.pinned (OpenSpec.upto fnExactExtremeSpec)

/-- 'laws.FnExactNearestTo', WHERE WHAT IT READS IS OF BULK AT MOST 1048576: true; the input reads as it did. -/
def fnExactNearestToUptoRow : OpenClaim := { program := "ytkbbdcgknebdbab", sum := "85f2e6cd8aad1b93d20ac23029727692372c0d425953cf798bd61eeefecdfda0", func := "loop.example/planargeometry/laws.FnExactNearestTo", spec := "fnExactNearestTo", unfollowed := true, recurses := true, apart := false, narrowed := true }
def FnExactNearestToUptoSaid : Prop := fnExactNearestToUptoRow.holds Try.pinned (OpenSpec.upto fnExactNearestToSpec)

/-- 'laws.FnExactCountWithin', WHERE WHAT IT READS IS OF BULK AT MOST 1048576: true; the input reads as it did. -/
def fnExactCountWithinUptoRow : OpenClaim := { program := "ytkbbdcgknebdbab", sum := "85f2e6cd8aad1b93d20ac23029727692372c0d425953cf798bd61eeefecdfda0", func := "loop.example/planargeometry/laws.FnExactCountWithin", spec := "fnExactCountWithin", apart := false, narrowed := true }
def FnExactCountWithinUptoSaid : Prop := fnExactCountWithinUptoRow.holds Try.pinned (OpenSpec.upto fnExactCountWithinSpec)

/-- 'laws.FnExactCollinear', WHERE WHAT IT READS IS OF BULK AT MOST 1048576: true; the input reads as it did. -/
def fnExactCollinearUptoRow : OpenClaim := { program := "ytkbbdcgknebdbab", sum := "85f2e6cd8aad1b93d20ac23029727692372c0d425953cf798bd61eeefecdfda0", func := "loop.example/planargeometry/laws.FnExactCollinear", spec := "fnExactCollinear", unfollowed := true, recurses := true, apart := false, narrowed := true }
def FnExactCollinearUptoSaid : Prop := fnExactCollinearUptoRow.holds Try.pinned (OpenSpec.upto fnExactCollinearSpec)

/-- 'laws.FnExactSortPoints', WHERE WHAT IT READS IS OF BULK AT MOST 1048576: true; the input reads as it did. -/
def fnExactSortPointsUptoRow : OpenClaim := { program := "ytkbbdcgknebdbab", sum := "85f2e6cd8aad1b93d20ac23029727692372c0d425953cf798bd61eeefecdfda0", func := "loop.example/planargeometry/laws.FnExactSortPoints", spec := "fnExactSortPoints", unfollowed := true, recurses := true, apart := false, narrowed := true }
def FnExactSortPointsUptoSaid : Prop := fnExactSortPointsUptoRow.holds Try.pinned (OpenSpec.upto fnExactSortPointsSpec)

/-- 'laws.FnExactDiameter', WHERE WHAT IT READS IS OF BULK AT MOST 1048576: true; the input reads as it did. -/
def fnExactDiameterUptoRow : OpenClaim := { program := "ytkbbdcgknebdbab", sum := "85f2e6cd8aad1b93d20ac23029727692372c0d425953cf798bd61eeefecdfda0", func := "loop.example/planargeometry/laws.FnExactDiameter", spec := "fnExactDiameter", unfollowed := true, recurses := true, apart := false, narrowed := true }
def FnExactDiameterUptoSaid : Prop := fnExactDiameterUptoRow.holds Try.pinned (OpenSpec.upto fnExactDiameterSpec)

end Rows
end Go.Proofs.Ytkbbdcgknebdbab
