/-
  No cell of these rows narrows 'for every input' (looked for: loops, veiled, ifaces, maps, wideKeys, modest, calm, conditions, laid).
  DERIVED. THE GIVEN ROWS OF THIS SEAT. 12 by the template 'for every input the law returns true; each argument reads behind the call as it read before'; 0 by the template 'total and deterministic' (their statements: YtolodncpegajkaaTotals.lean).
  GIVEN WITH THE SEED: the statements are not yours to turn. If you find one false, say at which input.
  Laid BY PROGRAM, IN A SANDBOX (cutbox-rows.mjs): the forced cells as the released guide's own fill.sh prints them over the translation cd2e8b4a24dc237d… (all of the seat's roots in one cut). By AI agents, Wed Nov 11 2026. No macro, syntax, notation, axiom, sorry.
-/
import Derived.Test.YtolodncpegajkaaChecked
import GoSem.Claim
import GoSem.ClaimJoined
import GoSem.ClaimMapViews
import Derived.JoinedTies
import Derived.KernelRfl
namespace Go.Proofs.Ytolodncpegajkaa
/- THE CELL 'sum', in the pinned program and in every row, IS THE sha256 OF THE DUMP (.gsa) THAT YtolodncpegajkaaProg.lean LOADS. Nothing in Lean hashes anything: it is a label: what it is worth is what the hold of that sum in a sandbox is worth. -/
noncomputable def Try.pinned : Pinned := { name := "ytolodncpegajkaa", sum := "cd2e8b4a24dc237dc09375962f223b22fb611902c270132e284e6f022b3447cb", checked := Try.checked }
namespace Rows
def none {H : Type} : Left H := { results := [], args := [] }

/-- 'laws.FnExactMeetingPairs': WHATEVER THE INPUT: true; the input reads as it did. -/
def fnExactMeetingPairsSpec : ChangeSpec := { name := "fnExactMeetingPairs", fn := fun _ => fun
  | [d] => { results := [.lit (.bool true)], args := [d] }
  | _ => none }
def fnExactMeetingPairsRow : OpenClaim := { program := "ytolodncpegajkaa", sum := "cd2e8b4a24dc237dc09375962f223b22fb611902c270132e284e6f022b3447cb", func := "loop.example/planargeometry/laws.FnExactMeetingPairs", spec := "fnExactMeetingPairs", unfollowed := true, recurses := true, apart := false }
def FnExactMeetingPairsSaid : Prop := fnExactMeetingPairsRow.holds Try.pinned (OpenSpec.ofChange fnExactMeetingPairsSpec)

/-- ITS FALSE NEIGHBOUR: 'it returns false'. Refute it at one input. -/
def fnExactMeetingPairsWrong : ChangeSpec := { name := "fnExactMeetingPairs", fn := fun _ => fun
  | [d] => { results := [.lit (.bool false)], args := [d] }
  | _ => none }
def FnExactMeetingPairsWrongFalsely : Prop := fnExactMeetingPairsRow.holds Try.pinned (OpenSpec.ofChange fnExactMeetingPairsWrong)

/-- 'laws.FnMeetingPairs': WHATEVER THE INPUT: true; the input reads as it did. -/
def fnMeetingPairsSpec : ChangeSpec := { name := "fnMeetingPairs", fn := fun _ => fun
  | [d] => { results := [.lit (.bool true)], args := [d] }
  | _ => none }
def fnMeetingPairsRow : OpenClaim := { program := "ytolodncpegajkaa", sum := "cd2e8b4a24dc237dc09375962f223b22fb611902c270132e284e6f022b3447cb", func := "loop.example/planargeometry/laws.FnMeetingPairs", spec := "fnMeetingPairs", unfollowed := true, recurses := true, apart := false }
def FnMeetingPairsSaid : Prop := fnMeetingPairsRow.holds Try.pinned (OpenSpec.ofChange fnMeetingPairsSpec)

/-- ITS FALSE NEIGHBOUR: 'it returns false'. Refute it at one input. -/
def fnMeetingPairsWrong : ChangeSpec := { name := "fnMeetingPairs", fn := fun _ => fun
  | [d] => { results := [.lit (.bool false)], args := [d] }
  | _ => none }
def FnMeetingPairsWrongFalsely : Prop := fnMeetingPairsRow.holds Try.pinned (OpenSpec.ofChange fnMeetingPairsWrong)

/-- 'laws.FnExactIsDrawing': WHATEVER THE INPUT: true; the input reads as it did. -/
def fnExactIsDrawingSpec : ChangeSpec := { name := "fnExactIsDrawing", fn := fun _ => fun
  | [d] => { results := [.lit (.bool true)], args := [d] }
  | _ => none }
def fnExactIsDrawingRow : OpenClaim := { program := "ytolodncpegajkaa", sum := "cd2e8b4a24dc237dc09375962f223b22fb611902c270132e284e6f022b3447cb", func := "loop.example/planargeometry/laws.FnExactIsDrawing", spec := "fnExactIsDrawing", unfollowed := true, recurses := true, apart := false }
def FnExactIsDrawingSaid : Prop := fnExactIsDrawingRow.holds Try.pinned (OpenSpec.ofChange fnExactIsDrawingSpec)

/-- ITS FALSE NEIGHBOUR: 'it returns false'. Refute it at one input. -/
def fnExactIsDrawingWrong : ChangeSpec := { name := "fnExactIsDrawing", fn := fun _ => fun
  | [d] => { results := [.lit (.bool false)], args := [d] }
  | _ => none }
def FnExactIsDrawingWrongFalsely : Prop := fnExactIsDrawingRow.holds Try.pinned (OpenSpec.ofChange fnExactIsDrawingWrong)

/-- 'laws.FnIsDrawing': WHATEVER THE INPUT: true; the input reads as it did. -/
def fnIsDrawingSpec : ChangeSpec := { name := "fnIsDrawing", fn := fun _ => fun
  | [d1, d2] => { results := [.lit (.bool true)], args := [d1, d2] }
  | _ => none }
def fnIsDrawingRow : OpenClaim := { program := "ytolodncpegajkaa", sum := "cd2e8b4a24dc237dc09375962f223b22fb611902c270132e284e6f022b3447cb", func := "loop.example/planargeometry/laws.FnIsDrawing", spec := "fnIsDrawing", unfollowed := true, recurses := true, apart := false }
def FnIsDrawingSaid : Prop := fnIsDrawingRow.holds Try.pinned (OpenSpec.ofChange fnIsDrawingSpec)

/-- ITS FALSE NEIGHBOUR: 'it returns false'. Refute it at one input. -/
def fnIsDrawingWrong : ChangeSpec := { name := "fnIsDrawing", fn := fun _ => fun
  | [d1, d2] => { results := [.lit (.bool false)], args := [d1, d2] }
  | _ => none }
def FnIsDrawingWrongFalsely : Prop := fnIsDrawingRow.holds Try.pinned (OpenSpec.ofChange fnIsDrawingWrong)

/-- 'laws.FnExactCrossingPoints': WHATEVER THE INPUT: true; the input reads as it did. -/
def fnExactCrossingPointsSpec : ChangeSpec := { name := "fnExactCrossingPoints", fn := fun _ => fun
  | [d] => { results := [.lit (.bool true)], args := [d] }
  | _ => none }
def fnExactCrossingPointsRow : OpenClaim := { program := "ytolodncpegajkaa", sum := "cd2e8b4a24dc237dc09375962f223b22fb611902c270132e284e6f022b3447cb", func := "loop.example/planargeometry/laws.FnExactCrossingPoints", spec := "fnExactCrossingPoints", unfollowed := true, recurses := true, apart := false }
def FnExactCrossingPointsSaid : Prop := fnExactCrossingPointsRow.holds Try.pinned (OpenSpec.ofChange fnExactCrossingPointsSpec)

/-- ITS FALSE NEIGHBOUR: 'it returns false'. Refute it at one input. -/
def fnExactCrossingPointsWrong : ChangeSpec := { name := "fnExactCrossingPoints", fn := fun _ => fun
  | [d] => { results := [.lit (.bool false)], args := [d] }
  | _ => none }
def FnExactCrossingPointsWrongFalsely : Prop := fnExactCrossingPointsRow.holds Try.pinned (OpenSpec.ofChange fnExactCrossingPointsWrong)

/-- 'laws.FnCrossingPoints': WHATEVER THE INPUT: true; the input reads as it did. -/
def fnCrossingPointsSpec : ChangeSpec := { name := "fnCrossingPoints", fn := fun _ => fun
  | [d] => { results := [.lit (.bool true)], args := [d] }
  | _ => none }
def fnCrossingPointsRow : OpenClaim := { program := "ytolodncpegajkaa", sum := "cd2e8b4a24dc237dc09375962f223b22fb611902c270132e284e6f022b3447cb", func := "loop.example/planargeometry/laws.FnCrossingPoints", spec := "fnCrossingPoints", unfollowed := true, recurses := true, apart := false }
def FnCrossingPointsSaid : Prop := fnCrossingPointsRow.holds Try.pinned (OpenSpec.ofChange fnCrossingPointsSpec)

/-- ITS FALSE NEIGHBOUR: 'it returns false'. Refute it at one input. -/
def fnCrossingPointsWrong : ChangeSpec := { name := "fnCrossingPoints", fn := fun _ => fun
  | [d] => { results := [.lit (.bool false)], args := [d] }
  | _ => none }
def FnCrossingPointsWrongFalsely : Prop := fnCrossingPointsRow.holds Try.pinned (OpenSpec.ofChange fnCrossingPointsWrong)

/-- 'laws.FnPolygonDrawing': WHATEVER THE INPUT: true; the input reads as it did. -/
def fnPolygonDrawingSpec : ChangeSpec := { name := "fnPolygonDrawing", fn := fun _ => fun
  | [d] => { results := [.lit (.bool true)], args := [d] }
  | _ => none }
def fnPolygonDrawingRow : OpenClaim := { program := "ytolodncpegajkaa", sum := "cd2e8b4a24dc237dc09375962f223b22fb611902c270132e284e6f022b3447cb", func := "loop.example/planargeometry/laws.FnPolygonDrawing", spec := "fnPolygonDrawing", unfollowed := true, recurses := true, apart := false }
def FnPolygonDrawingSaid : Prop := fnPolygonDrawingRow.holds Try.pinned (OpenSpec.ofChange fnPolygonDrawingSpec)

/-- ITS FALSE NEIGHBOUR: 'it returns false'. Refute it at one input. -/
def fnPolygonDrawingWrong : ChangeSpec := { name := "fnPolygonDrawing", fn := fun _ => fun
  | [d] => { results := [.lit (.bool false)], args := [d] }
  | _ => none }
def FnPolygonDrawingWrongFalsely : Prop := fnPolygonDrawingRow.holds Try.pinned (OpenSpec.ofChange fnPolygonDrawingWrong)

/-- 'laws.FnTotalLength': WHATEVER THE INPUT: true; the input reads as it did. -/
def fnTotalLengthSpec : ChangeSpec := { name := "fnTotalLength", fn := fun _ => fun
  | [d1, d2] => { results := [.lit (.bool true)], args := [d1, d2] }
  | _ => none }
def fnTotalLengthRow : OpenClaim := { program := "ytolodncpegajkaa", sum := "cd2e8b4a24dc237dc09375962f223b22fb611902c270132e284e6f022b3447cb", func := "loop.example/planargeometry/laws.FnTotalLength", spec := "fnTotalLength", apart := false }
def FnTotalLengthSaid : Prop := fnTotalLengthRow.holds Try.pinned (OpenSpec.ofChange fnTotalLengthSpec)

/-- ITS FALSE NEIGHBOUR: 'it returns false'. Refute it at one input. -/
def fnTotalLengthWrong : ChangeSpec := { name := "fnTotalLength", fn := fun _ => fun
  | [d1, d2] => { results := [.lit (.bool false)], args := [d1, d2] }
  | _ => none }
def FnTotalLengthWrongFalsely : Prop := fnTotalLengthRow.holds Try.pinned (OpenSpec.ofChange fnTotalLengthWrong)

/-- 'laws.FnExactCheckEnclosing': WHATEVER THE INPUT: true; the input reads as it did. -/
def fnExactCheckEnclosingSpec : ChangeSpec := { name := "fnExactCheckEnclosing", fn := fun _ => fun
  | [d1, d2] => { results := [.lit (.bool true)], args := [d1, d2] }
  | _ => none }
def fnExactCheckEnclosingRow : OpenClaim := { program := "ytolodncpegajkaa", sum := "cd2e8b4a24dc237dc09375962f223b22fb611902c270132e284e6f022b3447cb", func := "loop.example/planargeometry/laws.FnExactCheckEnclosing", spec := "fnExactCheckEnclosing", unfollowed := true, recurses := true, apart := false }
def FnExactCheckEnclosingSaid : Prop := fnExactCheckEnclosingRow.holds Try.pinned (OpenSpec.ofChange fnExactCheckEnclosingSpec)

/-- ITS FALSE NEIGHBOUR: 'it returns false'. Refute it at one input. -/
def fnExactCheckEnclosingWrong : ChangeSpec := { name := "fnExactCheckEnclosing", fn := fun _ => fun
  | [d1, d2] => { results := [.lit (.bool false)], args := [d1, d2] }
  | _ => none }
def FnExactCheckEnclosingWrongFalsely : Prop := fnExactCheckEnclosingRow.holds Try.pinned (OpenSpec.ofChange fnExactCheckEnclosingWrong)

/-- 'laws.FnExactCircleCenter': WHATEVER THE INPUT: true; the input reads as it did. -/
def fnExactCircleCenterSpec : ChangeSpec := { name := "fnExactCircleCenter", fn := fun _ => fun
  | [d1, d2] => { results := [.lit (.bool true)], args := [d1, d2] }
  | _ => none }
def fnExactCircleCenterRow : OpenClaim := { program := "ytolodncpegajkaa", sum := "cd2e8b4a24dc237dc09375962f223b22fb611902c270132e284e6f022b3447cb", func := "loop.example/planargeometry/laws.FnExactCircleCenter", spec := "fnExactCircleCenter", unfollowed := true, recurses := true, apart := false }
def FnExactCircleCenterSaid : Prop := fnExactCircleCenterRow.holds Try.pinned (OpenSpec.ofChange fnExactCircleCenterSpec)

/-- ITS FALSE NEIGHBOUR: 'it returns false'. Refute it at one input. -/
def fnExactCircleCenterWrong : ChangeSpec := { name := "fnExactCircleCenter", fn := fun _ => fun
  | [d1, d2] => { results := [.lit (.bool false)], args := [d1, d2] }
  | _ => none }
def FnExactCircleCenterWrongFalsely : Prop := fnExactCircleCenterRow.holds Try.pinned (OpenSpec.ofChange fnExactCircleCenterWrong)

/-- 'laws.FnCircleCenter': WHATEVER THE INPUT: true; the input reads as it did. -/
def fnCircleCenterSpec : ChangeSpec := { name := "fnCircleCenter", fn := fun _ => fun
  | [d] => { results := [.lit (.bool true)], args := [d] }
  | _ => none }
def fnCircleCenterRow : OpenClaim := { program := "ytolodncpegajkaa", sum := "cd2e8b4a24dc237dc09375962f223b22fb611902c270132e284e6f022b3447cb", func := "loop.example/planargeometry/laws.FnCircleCenter", spec := "fnCircleCenter", unfollowed := true, recurses := true, apart := false }
def FnCircleCenterSaid : Prop := fnCircleCenterRow.holds Try.pinned (OpenSpec.ofChange fnCircleCenterSpec)

/-- ITS FALSE NEIGHBOUR: 'it returns false'. Refute it at one input. -/
def fnCircleCenterWrong : ChangeSpec := { name := "fnCircleCenter", fn := fun _ => fun
  | [d] => { results := [.lit (.bool false)], args := [d] }
  | _ => none }
def FnCircleCenterWrongFalsely : Prop := fnCircleCenterRow.holds Try.pinned (OpenSpec.ofChange fnCircleCenterWrong)

/-- 'laws.FnExactEnclosingSupport': WHATEVER THE INPUT: true; the input reads as it did. -/
def fnExactEnclosingSupportSpec : ChangeSpec := { name := "fnExactEnclosingSupport", fn := fun _ => fun
  | [d] => { results := [.lit (.bool true)], args := [d] }
  | _ => none }
def fnExactEnclosingSupportRow : OpenClaim := { program := "ytolodncpegajkaa", sum := "cd2e8b4a24dc237dc09375962f223b22fb611902c270132e284e6f022b3447cb", func := "loop.example/planargeometry/laws.FnExactEnclosingSupport", spec := "fnExactEnclosingSupport", unfollowed := true, recurses := true, apart := false }
def FnExactEnclosingSupportSaid : Prop := fnExactEnclosingSupportRow.holds Try.pinned (OpenSpec.ofChange fnExactEnclosingSupportSpec)

/-- ITS FALSE NEIGHBOUR: 'it returns false'. Refute it at one input. -/
def fnExactEnclosingSupportWrong : ChangeSpec := { name := "fnExactEnclosingSupport", fn := fun _ => fun
  | [d] => { results := [.lit (.bool false)], args := [d] }
  | _ => none }
def FnExactEnclosingSupportWrongFalsely : Prop := fnExactEnclosingSupportRow.holds Try.pinned (OpenSpec.ofChange fnExactEnclosingSupportWrong)

/- THE SECOND FORM. 'bulk': how many values and letters a reading holds, each counted each time it is reached (what is shared counts as often as it is met; a slice's spare places count too). A statement '..UptoSaid' is the law's where the arguments, and the package variables that the reading takes, are together of bulk at most 1048576: NARROWER than '..Said'. Prove '..Said' where nothing that the law and all that it calls make is longer than what came in: it says more and counts as full. Else prove '..UptoSaid'. A law counts once. -/
mutual
def uptoBulk {H : Type} : DataW H → Nat
  | .lit (.string bytes) => bytes.length + 1
  | .lit _ => 1
  | .nil => 1
  | .ptr d => uptoBulk d + 1
  | .slice elems spare => uptoBulkAll elems + uptoBulkAll spare + 1
  | .agg parts => uptoBulkAll parts + 1
  | .iface _ d => uptoBulk d + 1
  | .map entries => uptoBulkEntries entries + 1
  | .held _ => 1
def uptoBulkAll {H : Type} : List (DataW H) → Nat
  | [] => 0
  | d :: r => uptoBulk d + uptoBulkAll r
def uptoBulkEntries {H : Type} : List (Lit × DataW H) → Nat
  | [] => 0
  | x :: r => uptoBulkEntry x + uptoBulkEntries r
def uptoBulkEntry {H : Type} : Lit × DataW H → Nat
  | (.string bytes, d) => bytes.length + uptoBulk d + 1
  | (_, d) => uptoBulk d + 1
 end
def uptoSmall : (H : Type) → List (DataW H) → Bool := fun _ ds => decide (uptoBulkAll ds ≤ 1048576)
def OpenSpec.upto (s : _root_.Go.ChangeSpec) : _root_.Go.OpenSpec := { _root_.Go.OpenSpec.ofChange s with cond := some uptoSmall }

/-- 'laws.FnExactMeetingPairs', WHERE WHAT IT READS IS OF BULK AT MOST 1048576: true; the input reads as it did. -/
def fnExactMeetingPairsUptoRow : OpenClaim := { program := "ytolodncpegajkaa", sum := "cd2e8b4a24dc237dc09375962f223b22fb611902c270132e284e6f022b3447cb", func := "loop.example/planargeometry/laws.FnExactMeetingPairs", spec := "fnExactMeetingPairs", unfollowed := true, recurses := true, apart := false, narrowed := true }
def FnExactMeetingPairsUptoSaid : Prop := fnExactMeetingPairsUptoRow.holds Try.pinned (OpenSpec.upto fnExactMeetingPairsSpec)

/-- 'laws.FnMeetingPairs', WHERE WHAT IT READS IS OF BULK AT MOST 1048576: true; the input reads as it did. -/
def fnMeetingPairsUptoRow : OpenClaim := { program := "ytolodncpegajkaa", sum := "cd2e8b4a24dc237dc09375962f223b22fb611902c270132e284e6f022b3447cb", func := "loop.example/planargeometry/laws.FnMeetingPairs", spec := "fnMeetingPairs", unfollowed := true, recurses := true, apart := false, narrowed := true }
def FnMeetingPairsUptoSaid : Prop := fnMeetingPairsUptoRow.holds Try.pinned (OpenSpec.upto fnMeetingPairsSpec)

/-- 'laws.FnExactIsDrawing', WHERE WHAT IT READS IS OF BULK AT MOST 1048576: true; the input reads as it did. -/
def fnExactIsDrawingUptoRow : OpenClaim := { program := "ytolodncpegajkaa", sum := "cd2e8b4a24dc237dc09375962f223b22fb611902c270132e284e6f022b3447cb", func := "loop.example/planargeometry/laws.FnExactIsDrawing", spec := "fnExactIsDrawing", unfollowed := true, recurses := true, apart := false, narrowed := true }
def FnExactIsDrawingUptoSaid : Prop := fnExactIsDrawingUptoRow.holds Try.pinned (OpenSpec.upto fnExactIsDrawingSpec)

/-- 'laws.FnIsDrawing', WHERE WHAT IT READS IS OF BULK AT MOST 1048576: true; the input reads as it did. -/
def fnIsDrawingUptoRow : OpenClaim := { program := "ytolodncpegajkaa", sum := "cd2e8b4a24dc237dc09375962f223b22fb611902c270132e284e6f022b3447cb", func := "loop.example/planargeometry/laws.FnIsDrawing", spec := "fnIsDrawing", unfollowed := true, recurses := true, apart := false, narrowed := true }
def FnIsDrawingUptoSaid : Prop := fnIsDrawingUptoRow.holds Try.pinned (OpenSpec.upto fnIsDrawingSpec)

/-- 'laws.FnExactCrossingPoints', WHERE WHAT IT READS IS OF BULK AT MOST 1048576: true; the input reads as it did. -/
def fnExactCrossingPointsUptoRow : OpenClaim := { program := "ytolodncpegajkaa", sum := "cd2e8b4a24dc237dc09375962f223b22fb611902c270132e284e6f022b3447cb", func := "loop.example/planargeometry/laws.FnExactCrossingPoints", spec := "fnExactCrossingPoints", unfollowed := true, recurses := true, apart := false, narrowed := true }
def FnExactCrossingPointsUptoSaid : Prop := fnExactCrossingPointsUptoRow.holds Try.pinned (OpenSpec.upto fnExactCrossingPointsSpec)

/-- 'laws.FnCrossingPoints', WHERE WHAT IT READS IS OF BULK AT MOST 1048576: true; the input reads as it did. -/
def fnCrossingPointsUptoRow : OpenClaim := { program := "ytolodncpegajkaa", sum := "cd2e8b4a24dc237dc09375962f223b22fb611902c270132e284e6f022b3447cb", func := "loop.example/planargeometry/laws.FnCrossingPoints", spec := "fnCrossingPoints", unfollowed := true, recurses := true, apart := false, narrowed := true }
def FnCrossingPointsUptoSaid : Prop := fnCrossingPointsUptoRow.holds Try.pinned (OpenSpec.upto fnCrossingPointsSpec)

/-- 'laws.FnPolygonDrawing', WHERE WHAT IT READS IS OF BULK AT MOST 1048576: true; the input reads as it did. -/
def fnPolygonDrawingUptoRow : OpenClaim := { program := "ytolodncpegajkaa", sum := "cd2e8b4a24dc237dc09375962f223b22fb611902c270132e284e6f022b3447cb", func := "loop.example/planargeometry/laws.FnPolygonDrawing", spec := "fnPolygonDrawing", unfollowed := true, recurses := true, apart := false, narrowed := true }
def FnPolygonDrawingUptoSaid : Prop := fnPolygonDrawingUptoRow.holds Try.pinned (OpenSpec.upto fnPolygonDrawingSpec)

/-- 'laws.FnTotalLength', WHERE WHAT IT READS IS OF BULK AT MOST 1048576: true; the input reads as it did. -/
def fnTotalLengthUptoRow : OpenClaim := { program := "ytolodncpegajkaa", sum := "cd2e8b4a24dc237dc09375962f223b22fb611902c270132e284e6f022b3447cb", func := "loop.example/planargeometry/laws.FnTotalLength", spec := "fnTotalLength", apart := false, narrowed := true }
def FnTotalLengthUptoSaid : Prop := fnTotalLengthUptoRow.holds Try.pinned (OpenSpec.upto fnTotalLengthSpec)

/-- 'laws.FnExactCheckEnclosing', WHERE WHAT IT READS IS OF BULK AT MOST 1048576: true; the input reads as it did. -/
def fnExactCheckEnclosingUptoRow : OpenClaim := { program := "ytolodncpegajkaa", sum := "cd2e8b4a24dc237dc09375962f223b22fb611902c270132e284e6f022b3447cb", func := "loop.example/planargeometry/laws.FnExactCheckEnclosing", spec := "fnExactCheckEnclosing", unfollowed := true, recurses := true, apart := false, narrowed := true }
def FnExactCheckEnclosingUptoSaid : Prop := fnExactCheckEnclosingUptoRow.holds Try.pinned (OpenSpec.upto fnExactCheckEnclosingSpec)

/-- 'laws.FnExactCircleCenter', WHERE WHAT IT READS IS OF BULK AT MOST 1048576: true; the input reads as it did. -/
def fnExactCircleCenterUptoRow : OpenClaim := { program := "ytolodncpegajkaa", sum := "cd2e8b4a24dc237dc09375962f223b22fb611902c270132e284e6f022b3447cb", func := "loop.example/planargeometry/laws.FnExactCircleCenter", spec := "fnExactCircleCenter", unfollowed := true, recurses := true, apart := false, narrowed := true }
def FnExactCircleCenterUptoSaid : Prop := fnExactCircleCenterUptoRow.holds Try.pinned (OpenSpec.upto fnExactCircleCenterSpec)

/-- 'laws.FnCircleCenter', WHERE WHAT IT READS IS OF BULK AT MOST 1048576: true; the input reads as it did. -/
def fnCircleCenterUptoRow : OpenClaim := { program := "ytolodncpegajkaa", sum := "cd2e8b4a24dc237dc09375962f223b22fb611902c270132e284e6f022b3447cb", func := "loop.example/planargeometry/laws.FnCircleCenter", spec := "fnCircleCenter", unfollowed := true, recurses := true, apart := false, narrowed := true }
def FnCircleCenterUptoSaid : Prop := fnCircleCenterUptoRow.holds Try.pinned (OpenSpec.upto fnCircleCenterSpec)

/-- 'laws.FnExactEnclosingSupport', WHERE WHAT IT READS IS OF BULK AT MOST 1048576: true; the input reads as it did. -/
def fnExactEnclosingSupportUptoRow : OpenClaim := { program := "ytolodncpegajkaa", sum := "cd2e8b4a24dc237dc09375962f223b22fb611902c270132e284e6f022b3447cb", func := "loop.example/planargeometry/laws.FnExactEnclosingSupport", spec := "fnExactEnclosingSupport", unfollowed := true, recurses := true, apart := false, narrowed := true }
def FnExactEnclosingSupportUptoSaid : Prop := fnExactEnclosingSupportUptoRow.holds Try.pinned (OpenSpec.upto fnExactEnclosingSupportSpec)

end Rows
end Go.Proofs.Ytolodncpegajkaa
