/-
  No cell of these rows narrows 'for every input' (looked for: loops, veiled, ifaces, maps, wideKeys, modest, calm, conditions, laid).
  DERIVED. THE GIVEN ROWS OF THIS SEAT. 12 by the template 'for every input the law returns true; each argument reads behind the call as it read before'; 0 by the template 'total and deterministic' (their statements: YtfkdagkldkabpaaTotals.lean).
  GIVEN WITH THE SEED: the statements are not yours to turn. If you find one false, say at which input.
  Laid BY PROGRAM, IN A SANDBOX (cutbox-rows.mjs): the forced cells as the released guide's own fill.sh prints them over the translation 3a2723dfcfc8ef71… (all of the seat's roots in one cut). By AI agents, Wed Nov 11 2026. No macro, syntax, notation, axiom, sorry.
-/
import Derived.Test.YtfkdagkldkabpaaChecked
import GoSem.Claim
import GoSem.ClaimJoined
import GoSem.ClaimMapViews
import Derived.JoinedTies
import Derived.KernelRfl
namespace Go.Proofs.Ytfkdagkldkabpaa
/- THE CELL 'sum', in the pinned program and in every row, IS THE sha256 OF THE DUMP (.gsa) THAT YtfkdagkldkabpaaProg.lean LOADS. Nothing in Lean hashes anything: it is a label: what it is worth is what the hold of that sum in a sandbox is worth. -/
noncomputable def Try.pinned : Pinned := { name := "ytfkdagkldkabpaa", sum := "3a2723dfcfc8ef71affe97f32c71595559baa1814e7a61f022709666a43a337c", checked := Try.checked }
namespace Rows
def none {H : Type} : Left H := { results := [], args := [] }

/-- 'laws.FnCross': WHATEVER THE INPUT: true; the input reads as it did. -/
def fnCrossSpec : ChangeSpec := { name := "fnCross", fn := fun _ => fun
  | [d] => { results := [.lit (.bool true)], args := [d] }
  | _ => none }
def fnCrossRow : OpenClaim := { program := "ytfkdagkldkabpaa", sum := "3a2723dfcfc8ef71affe97f32c71595559baa1814e7a61f022709666a43a337c", func := "loop.example/planargeometry/laws.FnCross", spec := "fnCross", apart := false }
def FnCrossSaid : Prop := fnCrossRow.holds Try.pinned (OpenSpec.ofChange fnCrossSpec)

/-- ITS FALSE NEIGHBOUR: 'it returns false'. Refute it at one input. -/
def fnCrossWrong : ChangeSpec := { name := "fnCross", fn := fun _ => fun
  | [d] => { results := [.lit (.bool false)], args := [d] }
  | _ => none }
def FnCrossWrongFalsely : Prop := fnCrossRow.holds Try.pinned (OpenSpec.ofChange fnCrossWrong)

/-- 'laws.FnOrient': WHATEVER THE INPUT: true; the input reads as it did. -/
def fnOrientSpec : ChangeSpec := { name := "fnOrient", fn := fun _ => fun
  | [d] => { results := [.lit (.bool true)], args := [d] }
  | _ => none }
def fnOrientRow : OpenClaim := { program := "ytfkdagkldkabpaa", sum := "3a2723dfcfc8ef71affe97f32c71595559baa1814e7a61f022709666a43a337c", func := "loop.example/planargeometry/laws.FnOrient", spec := "fnOrient", apart := false }
def FnOrientSaid : Prop := fnOrientRow.holds Try.pinned (OpenSpec.ofChange fnOrientSpec)

/-- ITS FALSE NEIGHBOUR: 'it returns false'. Refute it at one input. -/
def fnOrientWrong : ChangeSpec := { name := "fnOrient", fn := fun _ => fun
  | [d] => { results := [.lit (.bool false)], args := [d] }
  | _ => none }
def FnOrientWrongFalsely : Prop := fnOrientRow.holds Try.pinned (OpenSpec.ofChange fnOrientWrong)

/-- 'laws.FnSquaredDistance': WHATEVER THE INPUT: true; the input reads as it did. -/
def fnSquaredDistanceSpec : ChangeSpec := { name := "fnSquaredDistance", fn := fun _ => fun
  | [d] => { results := [.lit (.bool true)], args := [d] }
  | _ => none }
def fnSquaredDistanceRow : OpenClaim := { program := "ytfkdagkldkabpaa", sum := "3a2723dfcfc8ef71affe97f32c71595559baa1814e7a61f022709666a43a337c", func := "loop.example/planargeometry/laws.FnSquaredDistance", spec := "fnSquaredDistance", apart := false }
def FnSquaredDistanceSaid : Prop := fnSquaredDistanceRow.holds Try.pinned (OpenSpec.ofChange fnSquaredDistanceSpec)

/-- ITS FALSE NEIGHBOUR: 'it returns false'. Refute it at one input. -/
def fnSquaredDistanceWrong : ChangeSpec := { name := "fnSquaredDistance", fn := fun _ => fun
  | [d] => { results := [.lit (.bool false)], args := [d] }
  | _ => none }
def FnSquaredDistanceWrongFalsely : Prop := fnSquaredDistanceRow.holds Try.pinned (OpenSpec.ofChange fnSquaredDistanceWrong)

/-- 'laws.FnOrientMove': WHATEVER THE INPUT: true; the input reads as it did. -/
def fnOrientMoveSpec : ChangeSpec := { name := "fnOrientMove", fn := fun _ => fun
  | [d1, d2] => { results := [.lit (.bool true)], args := [d1, d2] }
  | _ => none }
def fnOrientMoveRow : OpenClaim := { program := "ytfkdagkldkabpaa", sum := "3a2723dfcfc8ef71affe97f32c71595559baa1814e7a61f022709666a43a337c", func := "loop.example/planargeometry/laws.FnOrientMove", spec := "fnOrientMove", apart := false }
def FnOrientMoveSaid : Prop := fnOrientMoveRow.holds Try.pinned (OpenSpec.ofChange fnOrientMoveSpec)

/-- ITS FALSE NEIGHBOUR: 'it returns false'. Refute it at one input. -/
def fnOrientMoveWrong : ChangeSpec := { name := "fnOrientMove", fn := fun _ => fun
  | [d1, d2] => { results := [.lit (.bool false)], args := [d1, d2] }
  | _ => none }
def FnOrientMoveWrongFalsely : Prop := fnOrientMoveRow.holds Try.pinned (OpenSpec.ofChange fnOrientMoveWrong)

/-- 'laws.FnCompareRats': WHATEVER THE INPUT: true; the input reads as it did. -/
def fnCompareRatsSpec : ChangeSpec := { name := "fnCompareRats", fn := fun _ => fun
  | [d] => { results := [.lit (.bool true)], args := [d] }
  | _ => none }
def fnCompareRatsRow : OpenClaim := { program := "ytfkdagkldkabpaa", sum := "3a2723dfcfc8ef71affe97f32c71595559baa1814e7a61f022709666a43a337c", func := "loop.example/planargeometry/laws.FnCompareRats", spec := "fnCompareRats", apart := false }
def FnCompareRatsSaid : Prop := fnCompareRatsRow.holds Try.pinned (OpenSpec.ofChange fnCompareRatsSpec)

/-- ITS FALSE NEIGHBOUR: 'it returns false'. Refute it at one input. -/
def fnCompareRatsWrong : ChangeSpec := { name := "fnCompareRats", fn := fun _ => fun
  | [d] => { results := [.lit (.bool false)], args := [d] }
  | _ => none }
def FnCompareRatsWrongFalsely : Prop := fnCompareRatsRow.holds Try.pinned (OpenSpec.ofChange fnCompareRatsWrong)

/-- 'laws.FnAddRats': WHATEVER THE INPUT: true; the input reads as it did. -/
def fnAddRatsSpec : ChangeSpec := { name := "fnAddRats", fn := fun _ => fun
  | [d] => { results := [.lit (.bool true)], args := [d] }
  | _ => none }
def fnAddRatsRow : OpenClaim := { program := "ytfkdagkldkabpaa", sum := "3a2723dfcfc8ef71affe97f32c71595559baa1814e7a61f022709666a43a337c", func := "loop.example/planargeometry/laws.FnAddRats", spec := "fnAddRats", apart := false }
def FnAddRatsSaid : Prop := fnAddRatsRow.holds Try.pinned (OpenSpec.ofChange fnAddRatsSpec)

/-- ITS FALSE NEIGHBOUR: 'it returns false'. Refute it at one input. -/
def fnAddRatsWrong : ChangeSpec := { name := "fnAddRats", fn := fun _ => fun
  | [d] => { results := [.lit (.bool false)], args := [d] }
  | _ => none }
def FnAddRatsWrongFalsely : Prop := fnAddRatsRow.holds Try.pinned (OpenSpec.ofChange fnAddRatsWrong)

/-- 'laws.FnMulRats': WHATEVER THE INPUT: true; the input reads as it did. -/
def fnMulRatsSpec : ChangeSpec := { name := "fnMulRats", fn := fun _ => fun
  | [d] => { results := [.lit (.bool true)], args := [d] }
  | _ => none }
def fnMulRatsRow : OpenClaim := { program := "ytfkdagkldkabpaa", sum := "3a2723dfcfc8ef71affe97f32c71595559baa1814e7a61f022709666a43a337c", func := "loop.example/planargeometry/laws.FnMulRats", spec := "fnMulRats", apart := false }
def FnMulRatsSaid : Prop := fnMulRatsRow.holds Try.pinned (OpenSpec.ofChange fnMulRatsSpec)

/-- ITS FALSE NEIGHBOUR: 'it returns false'. Refute it at one input. -/
def fnMulRatsWrong : ChangeSpec := { name := "fnMulRats", fn := fun _ => fun
  | [d] => { results := [.lit (.bool false)], args := [d] }
  | _ => none }
def FnMulRatsWrongFalsely : Prop := fnMulRatsRow.holds Try.pinned (OpenSpec.ofChange fnMulRatsWrong)

/-- 'laws.FnFloorRat': WHATEVER THE INPUT: true; the input reads as it did. -/
def fnFloorRatSpec : ChangeSpec := { name := "fnFloorRat", fn := fun _ => fun
  | [d] => { results := [.lit (.bool true)], args := [d] }
  | _ => none }
def fnFloorRatRow : OpenClaim := { program := "ytfkdagkldkabpaa", sum := "3a2723dfcfc8ef71affe97f32c71595559baa1814e7a61f022709666a43a337c", func := "loop.example/planargeometry/laws.FnFloorRat", spec := "fnFloorRat", apart := false }
def FnFloorRatSaid : Prop := fnFloorRatRow.holds Try.pinned (OpenSpec.ofChange fnFloorRatSpec)

/-- ITS FALSE NEIGHBOUR: 'it returns false'. Refute it at one input. -/
def fnFloorRatWrong : ChangeSpec := { name := "fnFloorRat", fn := fun _ => fun
  | [d] => { results := [.lit (.bool false)], args := [d] }
  | _ => none }
def FnFloorRatWrongFalsely : Prop := fnFloorRatRow.holds Try.pinned (OpenSpec.ofChange fnFloorRatWrong)

/-- 'laws.FnOnSegment': WHATEVER THE INPUT: true; the input reads as it did. -/
def fnOnSegmentSpec : ChangeSpec := { name := "fnOnSegment", fn := fun _ => fun
  | [d] => { results := [.lit (.bool true)], args := [d] }
  | _ => none }
def fnOnSegmentRow : OpenClaim := { program := "ytfkdagkldkabpaa", sum := "3a2723dfcfc8ef71affe97f32c71595559baa1814e7a61f022709666a43a337c", func := "loop.example/planargeometry/laws.FnOnSegment", spec := "fnOnSegment", apart := false }
def FnOnSegmentSaid : Prop := fnOnSegmentRow.holds Try.pinned (OpenSpec.ofChange fnOnSegmentSpec)

/-- ITS FALSE NEIGHBOUR: 'it returns false'. Refute it at one input. -/
def fnOnSegmentWrong : ChangeSpec := { name := "fnOnSegment", fn := fun _ => fun
  | [d] => { results := [.lit (.bool false)], args := [d] }
  | _ => none }
def FnOnSegmentWrongFalsely : Prop := fnOnSegmentRow.holds Try.pinned (OpenSpec.ofChange fnOnSegmentWrong)

/-- 'laws.FnLineThrough': WHATEVER THE INPUT: true; the input reads as it did. -/
def fnLineThroughSpec : ChangeSpec := { name := "fnLineThrough", fn := fun _ => fun
  | [d] => { results := [.lit (.bool true)], args := [d] }
  | _ => none }
def fnLineThroughRow : OpenClaim := { program := "ytfkdagkldkabpaa", sum := "3a2723dfcfc8ef71affe97f32c71595559baa1814e7a61f022709666a43a337c", func := "loop.example/planargeometry/laws.FnLineThrough", spec := "fnLineThrough", apart := false }
def FnLineThroughSaid : Prop := fnLineThroughRow.holds Try.pinned (OpenSpec.ofChange fnLineThroughSpec)

/-- ITS FALSE NEIGHBOUR: 'it returns false'. Refute it at one input. -/
def fnLineThroughWrong : ChangeSpec := { name := "fnLineThrough", fn := fun _ => fun
  | [d] => { results := [.lit (.bool false)], args := [d] }
  | _ => none }
def FnLineThroughWrongFalsely : Prop := fnLineThroughRow.holds Try.pinned (OpenSpec.ofChange fnLineThroughWrong)

/-- 'laws.FnSideOf': WHATEVER THE INPUT: true; the input reads as it did. -/
def fnSideOfSpec : ChangeSpec := { name := "fnSideOf", fn := fun _ => fun
  | [d1, d2] => { results := [.lit (.bool true)], args := [d1, d2] }
  | _ => none }
def fnSideOfRow : OpenClaim := { program := "ytfkdagkldkabpaa", sum := "3a2723dfcfc8ef71affe97f32c71595559baa1814e7a61f022709666a43a337c", func := "loop.example/planargeometry/laws.FnSideOf", spec := "fnSideOf", apart := false }
def FnSideOfSaid : Prop := fnSideOfRow.holds Try.pinned (OpenSpec.ofChange fnSideOfSpec)

/-- ITS FALSE NEIGHBOUR: 'it returns false'. Refute it at one input. -/
def fnSideOfWrong : ChangeSpec := { name := "fnSideOf", fn := fun _ => fun
  | [d1, d2] => { results := [.lit (.bool false)], args := [d1, d2] }
  | _ => none }
def FnSideOfWrongFalsely : Prop := fnSideOfRow.holds Try.pinned (OpenSpec.ofChange fnSideOfWrong)

/-- 'laws.FnMeetRects': WHATEVER THE INPUT: true; the input reads as it did. -/
def fnMeetRectsSpec : ChangeSpec := { name := "fnMeetRects", fn := fun _ => fun
  | [d] => { results := [.lit (.bool true)], args := [d] }
  | _ => none }
def fnMeetRectsRow : OpenClaim := { program := "ytfkdagkldkabpaa", sum := "3a2723dfcfc8ef71affe97f32c71595559baa1814e7a61f022709666a43a337c", func := "loop.example/planargeometry/laws.FnMeetRects", spec := "fnMeetRects", apart := false }
def FnMeetRectsSaid : Prop := fnMeetRectsRow.holds Try.pinned (OpenSpec.ofChange fnMeetRectsSpec)

/-- ITS FALSE NEIGHBOUR: 'it returns false'. Refute it at one input. -/
def fnMeetRectsWrong : ChangeSpec := { name := "fnMeetRects", fn := fun _ => fun
  | [d] => { results := [.lit (.bool false)], args := [d] }
  | _ => none }
def FnMeetRectsWrongFalsely : Prop := fnMeetRectsRow.holds Try.pinned (OpenSpec.ofChange fnMeetRectsWrong)

/- THE SECOND FORM. 'bulk': how many values and letters a reading holds, each counted each time it is reached (what is shared counts as often as it is met; a slice's spare places count too). A statement '..UptoSaid' is the law's where the arguments, and the package variables that the reading takes, are together of bulk at most 1048576: NARROWER than '..Said'. Prove '..Said' where nothing that the law and all that it calls make is longer than what came in: it says more and counts as full. Else prove '..UptoSaid'. A law counts once. -/
mutual
def uptoBulk {H : Type} : DataW H → Nat
  | .lit (.string bytes) => bytes.length + 1
  | .lit _ => 1
  | .nil => 1
  | .ptr d => uptoBulk d + 1
  | .slice elems spare => uptoBulkAll elems + uptoBulkAll spare + 1
  | .agg parts => uptoBulkAll parts + 1
  | .iface _ d => uptoBulk d + 1
  | .map entries => uptoBulkEntries entries + 1
  | .held _ => 1
def uptoBulkAll {H : Type} : List (DataW H) → Nat
  | [] => 0
  | d :: r => uptoBulk d + uptoBulkAll r
def uptoBulkEntries {H : Type} : List (Lit × DataW H) → Nat
  | [] => 0
  | x :: r => uptoBulkEntry x + uptoBulkEntries r
def uptoBulkEntry {H : Type} : Lit × DataW H → Nat
  | (.string bytes, d) => bytes.length + uptoBulk d + 1
  | (_, d) => uptoBulk d + 1
 end
def uptoSmall : (H : Type) → List (DataW H) → Bool := fun _ ds => decide (uptoBulkAll ds ≤ 1048576)
def OpenSpec.upto (s : _root_.Go.ChangeSpec) : _root_.Go.OpenSpec := { _root_.Go.OpenSpec.ofChange s with cond := some uptoSmall }

/-- 'laws.FnCross', WHERE WHAT IT READS IS OF BULK AT MOST 1048576: true; the input reads as it did. -/
def fnCrossUptoRow : OpenClaim := { program := "ytfkdagkldkabpaa", sum := "3a2723dfcfc8ef71affe97f32c71595559baa1814e7a61f022709666a43a337c", func := "loop.example/planargeometry/laws.FnCross", spec := "fnCross", apart := false, narrowed := true }
def FnCrossUptoSaid : Prop := fnCrossUptoRow.holds Try.pinned (OpenSpec.upto fnCrossSpec)

/-- 'laws.FnOrient', WHERE WHAT IT READS IS OF BULK AT MOST 1048576: true; the input reads as it did. -/
def fnOrientUptoRow : OpenClaim := { program := "ytfkdagkldkabpaa", sum := "3a2723dfcfc8ef71affe97f32c71595559baa1814e7a61f022709666a43a337c", func := "loop.example/planargeometry/laws.FnOrient", spec := "fnOrient", apart := false, narrowed := true }
def FnOrientUptoSaid : Prop := fnOrientUptoRow.holds Try.pinned (OpenSpec.upto fnOrientSpec)

/-- 'laws.FnSquaredDistance', WHERE WHAT IT READS IS OF BULK AT MOST 1048576: true; the input reads as it did. -/
def fnSquaredDistanceUptoRow : OpenClaim := { program := "ytfkdagkldkabpaa", sum := "3a2723dfcfc8ef71affe97f32c71595559baa1814e7a61f022709666a43a337c", func := "loop.example/planargeometry/laws.FnSquaredDistance", spec := "fnSquaredDistance", apart := false, narrowed := true }
def FnSquaredDistanceUptoSaid : Prop := fnSquaredDistanceUptoRow.holds Try.pinned (OpenSpec.upto fnSquaredDistanceSpec)

/-- 'laws.FnOrientMove', WHERE WHAT IT READS IS OF BULK AT MOST 1048576: true; the input reads as it did. -/
def fnOrientMoveUptoRow : OpenClaim := { program := "ytfkdagkldkabpaa", sum := "3a2723dfcfc8ef71affe97f32c71595559baa1814e7a61f022709666a43a337c", func := "loop.example/planargeometry/laws.FnOrientMove", spec := "fnOrientMove", apart := false, narrowed := true }
def FnOrientMoveUptoSaid : Prop := fnOrientMoveUptoRow.holds Try.pinned (OpenSpec.upto fnOrientMoveSpec)

/-- 'laws.FnCompareRats', WHERE WHAT IT READS IS OF BULK AT MOST 1048576: true; the input reads as it did. -/
def fnCompareRatsUptoRow : OpenClaim := { program := "ytfkdagkldkabpaa", sum := "3a2723dfcfc8ef71affe97f32c71595559baa1814e7a61f022709666a43a337c", func := "loop.example/planargeometry/laws.FnCompareRats", spec := "fnCompareRats", apart := false, narrowed := true }
def FnCompareRatsUptoSaid : Prop := fnCompareRatsUptoRow.holds Try.pinned (OpenSpec.upto fnCompareRatsSpec)

/-- 'laws.FnAddRats', WHERE WHAT IT READS IS OF BULK AT MOST 1048576: true; the input reads as it did. -/
def fnAddRatsUptoRow : OpenClaim := { program := "ytfkdagkldkabpaa", sum := "3a2723dfcfc8ef71affe97f32c71595559baa1814e7a61f022709666a43a337c", func := "loop.example/planargeometry/laws.FnAddRats", spec := "fnAddRats", apart := false, narrowed := true }
def FnAddRatsUptoSaid : Prop := fnAddRatsUptoRow.holds Try.pinned (OpenSpec.upto fnAddRatsSpec)

/-- 'laws.FnMulRats', WHERE WHAT IT READS IS OF BULK AT MOST 1048576: true; the input reads as it did. -/
def fnMulRatsUptoRow : OpenClaim := { program := "ytfkdagkldkabpaa", sum := "3a2723dfcfc8ef71affe97f32c71595559baa1814e7a61f022709666a43a337c", func := "loop.example/planargeometry/laws.FnMulRats", spec := "fnMulRats", apart := false, narrowed := true }
def FnMulRatsUptoSaid : Prop := fnMulRatsUptoRow.holds Try.pinned (OpenSpec.upto fnMulRatsSpec)

/-- 'laws.FnFloorRat', WHERE WHAT IT READS IS OF BULK AT MOST 1048576: true; the input reads as it did. -/
def fnFloorRatUptoRow : OpenClaim := { program := "ytfkdagkldkabpaa", sum := "3a2723dfcfc8ef71affe97f32c71595559baa1814e7a61f022709666a43a337c", func := "loop.example/planargeometry/laws.FnFloorRat", spec := "fnFloorRat", apart := false, narrowed := true }
def FnFloorRatUptoSaid : Prop := fnFloorRatUptoRow.holds Try.pinned (OpenSpec.upto fnFloorRatSpec)

/-- 'laws.FnOnSegment', WHERE WHAT IT READS IS OF BULK AT MOST 1048576: true; the input reads as it did. -/
def fnOnSegmentUptoRow : OpenClaim := { program := "ytfkdagkldkabpaa", sum := "3a2723dfcfc8ef71affe97f32c71595559baa1814e7a61f022709666a43a337c", func := "loop.example/planargeometry/laws.FnOnSegment", spec := "fnOnSegment", apart := false, narrowed := true }
def FnOnSegmentUptoSaid : Prop := fnOnSegmentUptoRow.holds Try.pinned (OpenSpec.upto fnOnSegmentSpec)

/-- 'laws.FnLineThrough', WHERE WHAT IT READS IS OF BULK AT MOST 1048576: true; the input reads as it did. -/
def fnLineThroughUptoRow : OpenClaim := { program := "ytfkdagkldkabpaa", sum := "3a2723dfcfc8ef71affe97f32c71595559baa1814e7a61f022709666a43a337c", func := "loop.example/planargeometry/laws.FnLineThrough", spec := "fnLineThrough", apart := false, narrowed := true }
def FnLineThroughUptoSaid : Prop := fnLineThroughUptoRow.holds Try.pinned (OpenSpec.upto fnLineThroughSpec)

/-- 'laws.FnSideOf', WHERE WHAT IT READS IS OF BULK AT MOST 1048576: true; the input reads as it did. -/
def fnSideOfUptoRow : OpenClaim := { program := "ytfkdagkldkabpaa", sum := "3a2723dfcfc8ef71affe97f32c71595559baa1814e7a61f022709666a43a337c", func := "loop.example/planargeometry/laws.FnSideOf", spec := "fnSideOf", apart := false, narrowed := true }
def FnSideOfUptoSaid : Prop := fnSideOfUptoRow.holds Try.pinned (OpenSpec.upto fnSideOfSpec)

/-- 'laws.FnMeetRects', WHERE WHAT IT READS IS OF BULK AT MOST 1048576: true; the input reads as it did. -/
def fnMeetRectsUptoRow : OpenClaim := { program := "ytfkdagkldkabpaa", sum := "3a2723dfcfc8ef71affe97f32c71595559baa1814e7a61f022709666a43a337c", func := "loop.example/planargeometry/laws.FnMeetRects", spec := "fnMeetRects", apart := false, narrowed := true }
def FnMeetRectsUptoSaid : Prop := fnMeetRectsUptoRow.holds Try.pinned (OpenSpec.upto fnMeetRectsSpec)

end Rows
end Go.Proofs.Ytfkdagkldkabpaa
