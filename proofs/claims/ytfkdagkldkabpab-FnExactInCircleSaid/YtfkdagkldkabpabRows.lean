/-
  No cell of these rows narrows 'for every input' (looked for: loops, veiled, ifaces, maps, wideKeys, modest, calm, conditions, laid).
  DERIVED. THE GIVEN ROWS OF THIS SEAT. 12 by the template 'for every input the law returns true; each argument reads behind the call as it read before'; 0 by the template 'total and deterministic' (their statements: YtfkdagkldkabpabTotals.lean).
  GIVEN WITH THE SEED: the statements are not yours to turn. If you find one false, say at which input.
  Laid BY PROGRAM, IN A SANDBOX (cutbox-rows.mjs): the forced cells as the released guide's own fill.sh prints them over the translation 7a44890ef976562e… (all of the seat's roots in one cut). By AI agents, Wed Nov 11 2026. No macro, syntax, notation, axiom, sorry.
-/
import Derived.Test.YtfkdagkldkabpabChecked
import GoSem.Claim
import GoSem.ClaimJoined
import GoSem.ClaimMapViews
import Derived.JoinedTies
import Derived.KernelRfl
namespace Go.Proofs.Ytfkdagkldkabpab
/- THE CELL 'sum', in the pinned program and in every row, IS THE sha256 OF THE DUMP (.gsa) THAT YtfkdagkldkabpabProg.lean LOADS. Nothing in Lean hashes anything: it is a label: what it is worth is what the hold of that sum in a sandbox is worth. -/
noncomputable def Try.pinned : Pinned := { name := "ytfkdagkldkabpab", sum := "7a44890ef976562eefd4740caf7b5205ad27faf3dda4000b942b58b624d5f121", checked := Try.checked }
namespace Rows
def none {H : Type} : Left H := { results := [], args := [] }

/-- 'laws.FnExactValidHalves': WHATEVER THE INPUT: true; the input reads as it did. -/
def fnExactValidHalvesSpec : ChangeSpec := { name := "fnExactValidHalves", fn := fun _ => fun
  | [d] => { results := [.lit (.bool true)], args := [d] }
  | _ => none }
def fnExactValidHalvesRow : OpenClaim := { program := "ytfkdagkldkabpab", sum := "7a44890ef976562eefd4740caf7b5205ad27faf3dda4000b942b58b624d5f121", func := "loop.example/planargeometry/laws.FnExactValidHalves", spec := "fnExactValidHalves", apart := false }
def FnExactValidHalvesSaid : Prop := fnExactValidHalvesRow.holds Try.pinned (OpenSpec.ofChange fnExactValidHalvesSpec)

/-- ITS FALSE NEIGHBOUR: 'it returns false'. Refute it at one input. -/
def fnExactValidHalvesWrong : ChangeSpec := { name := "fnExactValidHalves", fn := fun _ => fun
  | [d] => { results := [.lit (.bool false)], args := [d] }
  | _ => none }
def FnExactValidHalvesWrongFalsely : Prop := fnExactValidHalvesRow.holds Try.pinned (OpenSpec.ofChange fnExactValidHalvesWrong)

/-- 'laws.FnExactInRegion': WHATEVER THE INPUT: true; the input reads as it did. -/
def fnExactInRegionSpec : ChangeSpec := { name := "fnExactInRegion", fn := fun _ => fun
  | [d1, d2] => { results := [.lit (.bool true)], args := [d1, d2] }
  | _ => none }
def fnExactInRegionRow : OpenClaim := { program := "ytfkdagkldkabpab", sum := "7a44890ef976562eefd4740caf7b5205ad27faf3dda4000b942b58b624d5f121", func := "loop.example/planargeometry/laws.FnExactInRegion", spec := "fnExactInRegion", apart := false }
def FnExactInRegionSaid : Prop := fnExactInRegionRow.holds Try.pinned (OpenSpec.ofChange fnExactInRegionSpec)

/-- ITS FALSE NEIGHBOUR: 'it returns false'. Refute it at one input. -/
def fnExactInRegionWrong : ChangeSpec := { name := "fnExactInRegion", fn := fun _ => fun
  | [d1, d2] => { results := [.lit (.bool false)], args := [d1, d2] }
  | _ => none }
def FnExactInRegionWrongFalsely : Prop := fnExactInRegionRow.holds Try.pinned (OpenSpec.ofChange fnExactInRegionWrong)

/-- 'laws.FnExactInTriangle': WHATEVER THE INPUT: true; the input reads as it did. -/
def fnExactInTriangleSpec : ChangeSpec := { name := "fnExactInTriangle", fn := fun _ => fun
  | [d1, d2, d3, d4] => { results := [.lit (.bool true)], args := [d1, d2, d3, d4] }
  | _ => none }
def fnExactInTriangleRow : OpenClaim := { program := "ytfkdagkldkabpab", sum := "7a44890ef976562eefd4740caf7b5205ad27faf3dda4000b942b58b624d5f121", func := "loop.example/planargeometry/laws.FnExactInTriangle", spec := "fnExactInTriangle", unfollowed := true, recurses := true, apart := false }
def FnExactInTriangleSaid : Prop := fnExactInTriangleRow.holds Try.pinned (OpenSpec.ofChange fnExactInTriangleSpec)

/-- ITS FALSE NEIGHBOUR: 'it returns false'. Refute it at one input. -/
def fnExactInTriangleWrong : ChangeSpec := { name := "fnExactInTriangle", fn := fun _ => fun
  | [d1, d2, d3, d4] => { results := [.lit (.bool false)], args := [d1, d2, d3, d4] }
  | _ => none }
def FnExactInTriangleWrongFalsely : Prop := fnExactInTriangleRow.holds Try.pinned (OpenSpec.ofChange fnExactInTriangleWrong)

/-- 'laws.FnExactValidRects': WHATEVER THE INPUT: true; the input reads as it did. -/
def fnExactValidRectsSpec : ChangeSpec := { name := "fnExactValidRects", fn := fun _ => fun
  | [d] => { results := [.lit (.bool true)], args := [d] }
  | _ => none }
def fnExactValidRectsRow : OpenClaim := { program := "ytfkdagkldkabpab", sum := "7a44890ef976562eefd4740caf7b5205ad27faf3dda4000b942b58b624d5f121", func := "loop.example/planargeometry/laws.FnExactValidRects", spec := "fnExactValidRects", apart := false }
def FnExactValidRectsSaid : Prop := fnExactValidRectsRow.holds Try.pinned (OpenSpec.ofChange fnExactValidRectsSpec)

/-- ITS FALSE NEIGHBOUR: 'it returns false'. Refute it at one input. -/
def fnExactValidRectsWrong : ChangeSpec := { name := "fnExactValidRects", fn := fun _ => fun
  | [d] => { results := [.lit (.bool false)], args := [d] }
  | _ => none }
def FnExactValidRectsWrongFalsely : Prop := fnExactValidRectsRow.holds Try.pinned (OpenSpec.ofChange fnExactValidRectsWrong)

/-- 'laws.FnExactMeetRects': WHATEVER THE INPUT: true; the input reads as it did. -/
def fnExactMeetRectsSpec : ChangeSpec := { name := "fnExactMeetRects", fn := fun _ => fun
  | [d1, d2] => { results := [.lit (.bool true)], args := [d1, d2] }
  | _ => none }
def fnExactMeetRectsRow : OpenClaim := { program := "ytfkdagkldkabpab", sum := "7a44890ef976562eefd4740caf7b5205ad27faf3dda4000b942b58b624d5f121", func := "loop.example/planargeometry/laws.FnExactMeetRects", spec := "fnExactMeetRects", apart := false }
def FnExactMeetRectsSaid : Prop := fnExactMeetRectsRow.holds Try.pinned (OpenSpec.ofChange fnExactMeetRectsSpec)

/-- ITS FALSE NEIGHBOUR: 'it returns false'. Refute it at one input. -/
def fnExactMeetRectsWrong : ChangeSpec := { name := "fnExactMeetRects", fn := fun _ => fun
  | [d1, d2] => { results := [.lit (.bool false)], args := [d1, d2] }
  | _ => none }
def FnExactMeetRectsWrongFalsely : Prop := fnExactMeetRectsRow.holds Try.pinned (OpenSpec.ofChange fnExactMeetRectsWrong)

/-- 'laws.FnExactInCircle': WHATEVER THE INPUT: true; the input reads as it did. -/
def fnExactInCircleSpec : ChangeSpec := { name := "fnExactInCircle", fn := fun _ => fun
  | [d1, d2, d3, d4] => { results := [.lit (.bool true)], args := [d1, d2, d3, d4] }
  | _ => none }
def fnExactInCircleRow : OpenClaim := { program := "ytfkdagkldkabpab", sum := "7a44890ef976562eefd4740caf7b5205ad27faf3dda4000b942b58b624d5f121", func := "loop.example/planargeometry/laws.FnExactInCircle", spec := "fnExactInCircle", apart := false }
def FnExactInCircleSaid : Prop := fnExactInCircleRow.holds Try.pinned (OpenSpec.ofChange fnExactInCircleSpec)

/-- ITS FALSE NEIGHBOUR: 'it returns false'. Refute it at one input. -/
def fnExactInCircleWrong : ChangeSpec := { name := "fnExactInCircle", fn := fun _ => fun
  | [d1, d2, d3, d4] => { results := [.lit (.bool false)], args := [d1, d2, d3, d4] }
  | _ => none }
def FnExactInCircleWrongFalsely : Prop := fnExactInCircleRow.holds Try.pinned (OpenSpec.ofChange fnExactInCircleWrong)

/-- 'laws.FnExactCheckEnclosing': WHATEVER THE INPUT: true; the input reads as it did. -/
def fnExactCheckEnclosingSpec : ChangeSpec := { name := "fnExactCheckEnclosing", fn := fun _ => fun
  | [d1, d2] => { results := [.lit (.bool true)], args := [d1, d2] }
  | _ => none }
def fnExactCheckEnclosingRow : OpenClaim := { program := "ytfkdagkldkabpab", sum := "7a44890ef976562eefd4740caf7b5205ad27faf3dda4000b942b58b624d5f121", func := "loop.example/planargeometry/laws.FnExactCheckEnclosing", spec := "fnExactCheckEnclosing", unfollowed := true, recurses := true, apart := false }
def FnExactCheckEnclosingSaid : Prop := fnExactCheckEnclosingRow.holds Try.pinned (OpenSpec.ofChange fnExactCheckEnclosingSpec)

/-- ITS FALSE NEIGHBOUR: 'it returns false'. Refute it at one input. -/
def fnExactCheckEnclosingWrong : ChangeSpec := { name := "fnExactCheckEnclosing", fn := fun _ => fun
  | [d1, d2] => { results := [.lit (.bool false)], args := [d1, d2] }
  | _ => none }
def FnExactCheckEnclosingWrongFalsely : Prop := fnExactCheckEnclosingRow.holds Try.pinned (OpenSpec.ofChange fnExactCheckEnclosingWrong)

/-- 'laws.FnExactSortPoints': WHATEVER THE INPUT: true; the input reads as it did. -/
def fnExactSortPointsSpec : ChangeSpec := { name := "fnExactSortPoints", fn := fun _ => fun
  | [d] => { results := [.lit (.bool true)], args := [d] }
  | _ => none }
def fnExactSortPointsRow : OpenClaim := { program := "ytfkdagkldkabpab", sum := "7a44890ef976562eefd4740caf7b5205ad27faf3dda4000b942b58b624d5f121", func := "loop.example/planargeometry/laws.FnExactSortPoints", spec := "fnExactSortPoints", unfollowed := true, recurses := true, apart := false }
def FnExactSortPointsSaid : Prop := fnExactSortPointsRow.holds Try.pinned (OpenSpec.ofChange fnExactSortPointsSpec)

/-- ITS FALSE NEIGHBOUR: 'it returns false'. Refute it at one input. -/
def fnExactSortPointsWrong : ChangeSpec := { name := "fnExactSortPoints", fn := fun _ => fun
  | [d] => { results := [.lit (.bool false)], args := [d] }
  | _ => none }
def FnExactSortPointsWrongFalsely : Prop := fnExactSortPointsRow.holds Try.pinned (OpenSpec.ofChange fnExactSortPointsWrong)

/-- 'laws.FnExactRelation': WHATEVER THE INPUT: true; the input reads as it did. -/
def fnExactRelationSpec : ChangeSpec := { name := "fnExactRelation", fn := fun _ => fun
  | [d1, d2] => { results := [.lit (.bool true)], args := [d1, d2] }
  | _ => none }
def fnExactRelationRow : OpenClaim := { program := "ytfkdagkldkabpab", sum := "7a44890ef976562eefd4740caf7b5205ad27faf3dda4000b942b58b624d5f121", func := "loop.example/planargeometry/laws.FnExactRelation", spec := "fnExactRelation", apart := false }
def FnExactRelationSaid : Prop := fnExactRelationRow.holds Try.pinned (OpenSpec.ofChange fnExactRelationSpec)

/-- ITS FALSE NEIGHBOUR: 'it returns false'. Refute it at one input. -/
def fnExactRelationWrong : ChangeSpec := { name := "fnExactRelation", fn := fun _ => fun
  | [d1, d2] => { results := [.lit (.bool false)], args := [d1, d2] }
  | _ => none }
def FnExactRelationWrongFalsely : Prop := fnExactRelationRow.holds Try.pinned (OpenSpec.ofChange fnExactRelationWrong)

/-- 'laws.FnExactMeetPoint': WHATEVER THE INPUT: true; the input reads as it did. -/
def fnExactMeetPointSpec : ChangeSpec := { name := "fnExactMeetPoint", fn := fun _ => fun
  | [d1, d2] => { results := [.lit (.bool true)], args := [d1, d2] }
  | _ => none }
def fnExactMeetPointRow : OpenClaim := { program := "ytfkdagkldkabpab", sum := "7a44890ef976562eefd4740caf7b5205ad27faf3dda4000b942b58b624d5f121", func := "loop.example/planargeometry/laws.FnExactMeetPoint", spec := "fnExactMeetPoint", apart := false }
def FnExactMeetPointSaid : Prop := fnExactMeetPointRow.holds Try.pinned (OpenSpec.ofChange fnExactMeetPointSpec)

/-- ITS FALSE NEIGHBOUR: 'it returns false'. Refute it at one input. -/
def fnExactMeetPointWrong : ChangeSpec := { name := "fnExactMeetPoint", fn := fun _ => fun
  | [d1, d2] => { results := [.lit (.bool false)], args := [d1, d2] }
  | _ => none }
def FnExactMeetPointWrongFalsely : Prop := fnExactMeetPointRow.holds Try.pinned (OpenSpec.ofChange fnExactMeetPointWrong)

/-- 'laws.FnExactDiameter': WHATEVER THE INPUT: true; the input reads as it did. -/
def fnExactDiameterSpec : ChangeSpec := { name := "fnExactDiameter", fn := fun _ => fun
  | [d] => { results := [.lit (.bool true)], args := [d] }
  | _ => none }
def fnExactDiameterRow : OpenClaim := { program := "ytfkdagkldkabpab", sum := "7a44890ef976562eefd4740caf7b5205ad27faf3dda4000b942b58b624d5f121", func := "loop.example/planargeometry/laws.FnExactDiameter", spec := "fnExactDiameter", unfollowed := true, recurses := true, apart := false }
def FnExactDiameterSaid : Prop := fnExactDiameterRow.holds Try.pinned (OpenSpec.ofChange fnExactDiameterSpec)

/-- ITS FALSE NEIGHBOUR: 'it returns false'. Refute it at one input. -/
def fnExactDiameterWrong : ChangeSpec := { name := "fnExactDiameter", fn := fun _ => fun
  | [d] => { results := [.lit (.bool false)], args := [d] }
  | _ => none }
def FnExactDiameterWrongFalsely : Prop := fnExactDiameterRow.holds Try.pinned (OpenSpec.ofChange fnExactDiameterWrong)

/-- 'laws.FnExactIsDrawing': WHATEVER THE INPUT: true; the input reads as it did. -/
def fnExactIsDrawingSpec : ChangeSpec := { name := "fnExactIsDrawing", fn := fun _ => fun
  | [d] => { results := [.lit (.bool true)], args := [d] }
  | _ => none }
def fnExactIsDrawingRow : OpenClaim := { program := "ytfkdagkldkabpab", sum := "7a44890ef976562eefd4740caf7b5205ad27faf3dda4000b942b58b624d5f121", func := "loop.example/planargeometry/laws.FnExactIsDrawing", spec := "fnExactIsDrawing", unfollowed := true, recurses := true, apart := false }
def FnExactIsDrawingSaid : Prop := fnExactIsDrawingRow.holds Try.pinned (OpenSpec.ofChange fnExactIsDrawingSpec)

/-- ITS FALSE NEIGHBOUR: 'it returns false'. Refute it at one input. -/
def fnExactIsDrawingWrong : ChangeSpec := { name := "fnExactIsDrawing", fn := fun _ => fun
  | [d] => { results := [.lit (.bool false)], args := [d] }
  | _ => none }
def FnExactIsDrawingWrongFalsely : Prop := fnExactIsDrawingRow.holds Try.pinned (OpenSpec.ofChange fnExactIsDrawingWrong)

/- THE SECOND FORM. 'bulk': how many values and letters a reading holds, each counted each time it is reached (what is shared counts as often as it is met; a slice's spare places count too). A statement '..UptoSaid' is the law's where the arguments, and the package variables that the reading takes, are together of bulk at most 1048576: NARROWER than '..Said'. Prove '..Said' where nothing that the law and all that it calls make is longer than what came in: it says more and counts as full. Else prove '..UptoSaid'. A law counts once. -/
mutual
def uptoBulk {H : Type} : DataW H → Nat
  | .lit (.string bytes) => bytes.length + 1
  | .lit _ => 1
  | .nil => 1
  | .ptr d => uptoBulk d + 1
  | .slice elems spare => uptoBulkAll elems + uptoBulkAll spare + 1
  | .agg parts => uptoBulkAll parts + 1
  | .iface _ d => uptoBulk d + 1
  | .map entries => uptoBulkEntries entries + 1
  | .held _ => 1
def uptoBulkAll {H : Type} : List (DataW H) → Nat
  | [] => 0
  | d :: r => uptoBulk d + uptoBulkAll r
def uptoBulkEntries {H : Type} : List (Lit × DataW H) → Nat
  | [] => 0
  | x :: r => uptoBulkEntry x + uptoBulkEntries r
def uptoBulkEntry {H : Type} : Lit × DataW H → Nat
  | (.string bytes, d) => bytes.length + uptoBulk d + 1
  | (_, d) => uptoBulk d + 1
 end
def uptoSmall : (H : Type) → List (DataW H) → Bool := fun _ ds => decide (uptoBulkAll ds ≤ 1048576)
def OpenSpec.upto (s : _root_.Go.ChangeSpec) : _root_.Go.OpenSpec := { _root_.Go.OpenSpec.ofChange s with cond := some uptoSmall }

/-- 'laws.FnExactValidHalves', WHERE WHAT IT READS IS OF BULK AT MOST 1048576: true; the input reads as it did. -/
def fnExactValidHalvesUptoRow : OpenClaim := { program := "ytfkdagkldkabpab", sum := "7a44890ef976562eefd4740caf7b5205ad27faf3dda4000b942b58b624d5f121", func := "loop.example/planargeometry/laws.FnExactValidHalves", spec := "fnExactValidHalves", apart := false, narrowed := true }
def FnExactValidHalvesUptoSaid : Prop := fnExactValidHalvesUptoRow.holds Try.pinned (OpenSpec.upto fnExactValidHalvesSpec)

/-- 'laws.FnExactInRegion', WHERE WHAT IT READS IS OF BULK AT MOST 1048576: true; the input reads as it did. -/
def fnExactInRegionUptoRow : OpenClaim := { program := "ytfkdagkldkabpab", sum := "7a44890ef976562eefd4740caf7b5205ad27faf3dda4000b942b58b624d5f121", func := "loop.example/planargeometry/laws.FnExactInRegion", spec := "fnExactInRegion", apart := false, narrowed := true }
def FnExactInRegionUptoSaid : Prop := fnExactInRegionUptoRow.holds Try.pinned (OpenSpec.upto fnExactInRegionSpec)

/-- 'laws.FnExactInTriangle', WHERE WHAT IT READS IS OF BULK AT MOST 1048576: true; the input reads as it did. -/
def fnExactInTriangleUptoRow : OpenClaim := { program := "ytfkdagkldkabpab", sum := "7a44890ef976562eefd4740caf7b5205ad27faf3dda4000b942b58b624d5f121", func := "loop.example/planargeometry/laws.FnExactInTriangle", spec := "fnExactInTriangle", unfollowed := true, recurses := true, apart := false, narrowed := true }
def FnExactInTriangleUptoSaid : Prop := fnExactInTriangleUptoRow.holds Try.pinned (OpenSpec.upto fnExactInTriangleSpec)

/-- 'laws.FnExactValidRects', WHERE WHAT IT READS IS OF BULK AT MOST 1048576: true; the input reads as it did. -/
def fnExactValidRectsUptoRow : OpenClaim := { program := "ytfkdagkldkabpab", sum := "7a44890ef976562eefd4740caf7b5205ad27faf3dda4000b942b58b624d5f121", func := "loop.example/planargeometry/laws.FnExactValidRects", spec := "fnExactValidRects", apart := false, narrowed := true }
def FnExactValidRectsUptoSaid : Prop := fnExactValidRectsUptoRow.holds Try.pinned (OpenSpec.upto fnExactValidRectsSpec)

/-- 'laws.FnExactMeetRects', WHERE WHAT IT READS IS OF BULK AT MOST 1048576: true; the input reads as it did. -/
def fnExactMeetRectsUptoRow : OpenClaim := { program := "ytfkdagkldkabpab", sum := "7a44890ef976562eefd4740caf7b5205ad27faf3dda4000b942b58b624d5f121", func := "loop.example/planargeometry/laws.FnExactMeetRects", spec := "fnExactMeetRects", apart := false, narrowed := true }
def FnExactMeetRectsUptoSaid : Prop := fnExactMeetRectsUptoRow.holds Try.pinned (OpenSpec.upto fnExactMeetRectsSpec)

/-- 'laws.FnExactInCircle', WHERE WHAT IT READS IS OF BULK AT MOST 1048576: true; the input reads as it did. -/
def fnExactInCircleUptoRow : OpenClaim := { program := "ytfkdagkldkabpab", sum := "7a44890ef976562eefd4740caf7b5205ad27faf3dda4000b942b58b624d5f121", func := "loop.example/planargeometry/laws.FnExactInCircle", spec := "fnExactInCircle", apart := false, narrowed := true }
def FnExactInCircleUptoSaid : Prop := fnExactInCircleUptoRow.holds Try.pinned (OpenSpec.upto fnExactInCircleSpec)

/-- 'laws.FnExactCheckEnclosing', WHERE WHAT IT READS IS OF BULK AT MOST 1048576: true; the input reads as it did. -/
def fnExactCheckEnclosingUptoRow : OpenClaim := { program := "ytfkdagkldkabpab", sum := "7a44890ef976562eefd4740caf7b5205ad27faf3dda4000b942b58b624d5f121", func := "loop.example/planargeometry/laws.FnExactCheckEnclosing", spec := "fnExactCheckEnclosing", unfollowed := true, recurses := true, apart := false, narrowed := true }
def FnExactCheckEnclosingUptoSaid : Prop := fnExactCheckEnclosingUptoRow.holds Try.pinned (OpenSpec.upto fnExactCheckEnclosingSpec)

/-- 'laws.FnExactSortPoints', WHERE WHAT IT READS IS OF BULK AT MOST 1048576: true; the input reads as it did. -/
def fnExactSortPointsUptoRow : OpenClaim := { program := "ytfkdagkldkabpab", sum := "7a44890ef976562eefd4740caf7b5205ad27faf3dda4000b942b58b624d5f121", func := "loop.example/planargeometry/laws.FnExactSortPoints", spec := "fnExactSortPoints", unfollowed := true, recurses := true, apart := false, narrowed := true }
def FnExactSortPointsUptoSaid : Prop := fnExactSortPointsUptoRow.holds Try.pinned (OpenSpec.upto fnExactSortPointsSpec)

/-- 'laws.FnExactRelation', WHERE WHAT IT READS IS OF BULK AT MOST 1048576: true; the input reads as it did. -/
def fnExactRelationUptoRow : OpenClaim := { program := "ytfkdagkldkabpab", sum := "7a44890ef976562eefd4740caf7b5205ad27faf3dda4000b942b58b624d5f121", func := "loop.example/planargeometry/laws.FnExactRelation", spec := "fnExactRelation", apart := false, narrowed := true }
def FnExactRelationUptoSaid : Prop := fnExactRelationUptoRow.holds Try.pinned (OpenSpec.upto fnExactRelationSpec)

/-- 'laws.FnExactMeetPoint', WHERE WHAT IT READS IS OF BULK AT MOST 1048576: true; the input reads as it did. -/
def fnExactMeetPointUptoRow : OpenClaim := { program := "ytfkdagkldkabpab", sum := "7a44890ef976562eefd4740caf7b5205ad27faf3dda4000b942b58b624d5f121", func := "loop.example/planargeometry/laws.FnExactMeetPoint", spec := "fnExactMeetPoint", apart := false, narrowed := true }
def FnExactMeetPointUptoSaid : Prop := fnExactMeetPointUptoRow.holds Try.pinned (OpenSpec.upto fnExactMeetPointSpec)

/-- 'laws.FnExactDiameter', WHERE WHAT IT READS IS OF BULK AT MOST 1048576: true; the input reads as it did. -/
def fnExactDiameterUptoRow : OpenClaim := { program := "ytfkdagkldkabpab", sum := "7a44890ef976562eefd4740caf7b5205ad27faf3dda4000b942b58b624d5f121", func := "loop.example/planargeometry/laws.FnExactDiameter", spec := "fnExactDiameter", unfollowed := true, recurses := true, apart := false, narrowed := true }
def FnExactDiameterUptoSaid : Prop := fnExactDiameterUptoRow.holds Try.pinned (OpenSpec.upto fnExactDiameterSpec)

/-- 'laws.FnExactIsDrawing', WHERE WHAT IT READS IS OF BULK AT MOST 1048576: true; the input reads as it did. -/
def fnExactIsDrawingUptoRow : OpenClaim := { program := "ytfkdagkldkabpab", sum := "7a44890ef976562eefd4740caf7b5205ad27faf3dda4000b942b58b624d5f121", func := "loop.example/planargeometry/laws.FnExactIsDrawing", spec := "fnExactIsDrawing", unfollowed := true, recurses := true, apart := false, narrowed := true }
def FnExactIsDrawingUptoSaid : Prop := fnExactIsDrawingUptoRow.holds Try.pinned (OpenSpec.upto fnExactIsDrawingSpec)

end Rows
end Go.Proofs.Ytfkdagkldkabpab
