/-
  No cell of these rows narrows 'for every input' (looked for: loops, veiled, ifaces, maps, wideKeys, modest, calm, conditions, laid).
  DERIVED. THE GIVEN ROWS OF THIS SEAT. 12 by the template 'for every input the law returns true; each argument reads behind the call as it read before'; 0 by the template 'total and deterministic' (their statements: YtpjdnplpiamjcaaTotals.lean).
  GIVEN WITH THE SEED: the statements are not yours to turn. If you find one false, say at which input.
  Laid BY PROGRAM, IN A SANDBOX (cutbox-rows.mjs): the forced cells as the released guide's own fill.sh prints them over the translation 3caa9d31c435456d… (all of the seat's roots in one cut). By AI agents, Wed Nov 11 2026. No macro, syntax, notation, axiom, sorry.
-/
import Derived.Test.YtpjdnplpiamjcaaChecked
import GoSem.Claim
import GoSem.ClaimJoined
import GoSem.ClaimMapViews
import Derived.JoinedTies
import Derived.KernelRfl
namespace Go.Proofs.Ytpjdnplpiamjcaa
/- THE CELL 'sum', in the pinned program and in every row, IS THE sha256 OF THE DUMP (.gsa) THAT YtpjdnplpiamjcaaProg.lean LOADS. Nothing in Lean hashes anything: it is a label: what it is worth is what the hold of that sum in a sandbox is worth. -/
noncomputable def Try.pinned : Pinned := { name := "ytpjdnplpiamjcaa", sum := "3caa9d31c435456d44c2aa9ec0e49b647e7813db71c248671b76015fd55ab357", checked := Try.checked }
namespace Rows
def none {H : Type} : Left H := { results := [], args := [] }

/-- 'laws.FnExactMeetingPairs': WHATEVER THE INPUT: true; the input reads as it did. -/
def fnExactMeetingPairsSpec : ChangeSpec := { name := "fnExactMeetingPairs", fn := fun _ => fun
  | [d] => { results := [.lit (.bool true)], args := [d] }
  | _ => none }
def fnExactMeetingPairsRow : OpenClaim := { program := "ytpjdnplpiamjcaa", sum := "3caa9d31c435456d44c2aa9ec0e49b647e7813db71c248671b76015fd55ab357", func := "loop.example/planargeometry/laws.FnExactMeetingPairs", spec := "fnExactMeetingPairs", unfollowed := true, recurses := true, apart := false }
def FnExactMeetingPairsSaid : Prop := fnExactMeetingPairsRow.holds Try.pinned (OpenSpec.ofChange fnExactMeetingPairsSpec)

/-- ITS FALSE NEIGHBOUR: 'it returns false'. Refute it at one input. -/
def fnExactMeetingPairsWrong : ChangeSpec := { name := "fnExactMeetingPairs", fn := fun _ => fun
  | [d] => { results := [.lit (.bool false)], args := [d] }
  | _ => none }
def FnExactMeetingPairsWrongFalsely : Prop := fnExactMeetingPairsRow.holds Try.pinned (OpenSpec.ofChange fnExactMeetingPairsWrong)

/-- 'laws.FnMeetingPairs': WHATEVER THE INPUT: true; the input reads as it did. -/
def fnMeetingPairsSpec : ChangeSpec := { name := "fnMeetingPairs", fn := fun _ => fun
  | [d] => { results := [.lit (.bool true)], args := [d] }
  | _ => none }
def fnMeetingPairsRow : OpenClaim := { program := "ytpjdnplpiamjcaa", sum := "3caa9d31c435456d44c2aa9ec0e49b647e7813db71c248671b76015fd55ab357", func := "loop.example/planargeometry/laws.FnMeetingPairs", spec := "fnMeetingPairs", unfollowed := true, recurses := true, apart := false }
def FnMeetingPairsSaid : Prop := fnMeetingPairsRow.holds Try.pinned (OpenSpec.ofChange fnMeetingPairsSpec)

/-- ITS FALSE NEIGHBOUR: 'it returns false'. Refute it at one input. -/
def fnMeetingPairsWrong : ChangeSpec := { name := "fnMeetingPairs", fn := fun _ => fun
  | [d] => { results := [.lit (.bool false)], args := [d] }
  | _ => none }
def FnMeetingPairsWrongFalsely : Prop := fnMeetingPairsRow.holds Try.pinned (OpenSpec.ofChange fnMeetingPairsWrong)

/-- 'laws.FnExactIsDrawing': WHATEVER THE INPUT: true; the input reads as it did. -/
def fnExactIsDrawingSpec : ChangeSpec := { name := "fnExactIsDrawing", fn := fun _ => fun
  | [d] => { results := [.lit (.bool true)], args := [d] }
  | _ => none }
def fnExactIsDrawingRow : OpenClaim := { program := "ytpjdnplpiamjcaa", sum := "3caa9d31c435456d44c2aa9ec0e49b647e7813db71c248671b76015fd55ab357", func := "loop.example/planargeometry/laws.FnExactIsDrawing", spec := "fnExactIsDrawing", unfollowed := true, recurses := true, apart := false }
def FnExactIsDrawingSaid : Prop := fnExactIsDrawingRow.holds Try.pinned (OpenSpec.ofChange fnExactIsDrawingSpec)

/-- ITS FALSE NEIGHBOUR: 'it returns false'. Refute it at one input. -/
def fnExactIsDrawingWrong : ChangeSpec := { name := "fnExactIsDrawing", fn := fun _ => fun
  | [d] => { results := [.lit (.bool false)], args := [d] }
  | _ => none }
def FnExactIsDrawingWrongFalsely : Prop := fnExactIsDrawingRow.holds Try.pinned (OpenSpec.ofChange fnExactIsDrawingWrong)

/-- 'laws.FnIsDrawing': WHATEVER THE INPUT: true; the input reads as it did. -/
def fnIsDrawingSpec : ChangeSpec := { name := "fnIsDrawing", fn := fun _ => fun
  | [d1, d2] => { results := [.lit (.bool true)], args := [d1, d2] }
  | _ => none }
def fnIsDrawingRow : OpenClaim := { program := "ytpjdnplpiamjcaa", sum := "3caa9d31c435456d44c2aa9ec0e49b647e7813db71c248671b76015fd55ab357", func := "loop.example/planargeometry/laws.FnIsDrawing", spec := "fnIsDrawing", unfollowed := true, recurses := true, apart := false }
def FnIsDrawingSaid : Prop := fnIsDrawingRow.holds Try.pinned (OpenSpec.ofChange fnIsDrawingSpec)

/-- ITS FALSE NEIGHBOUR: 'it returns false'. Refute it at one input. -/
def fnIsDrawingWrong : ChangeSpec := { name := "fnIsDrawing", fn := fun _ => fun
  | [d1, d2] => { results := [.lit (.bool false)], args := [d1, d2] }
  | _ => none }
def FnIsDrawingWrongFalsely : Prop := fnIsDrawingRow.holds Try.pinned (OpenSpec.ofChange fnIsDrawingWrong)

/-- 'laws.FnExactCrossingPoints': WHATEVER THE INPUT: true; the input reads as it did. -/
def fnExactCrossingPointsSpec : ChangeSpec := { name := "fnExactCrossingPoints", fn := fun _ => fun
  | [d] => { results := [.lit (.bool true)], args := [d] }
  | _ => none }
def fnExactCrossingPointsRow : OpenClaim := { program := "ytpjdnplpiamjcaa", sum := "3caa9d31c435456d44c2aa9ec0e49b647e7813db71c248671b76015fd55ab357", func := "loop.example/planargeometry/laws.FnExactCrossingPoints", spec := "fnExactCrossingPoints", unfollowed := true, recurses := true, apart := false }
def FnExactCrossingPointsSaid : Prop := fnExactCrossingPointsRow.holds Try.pinned (OpenSpec.ofChange fnExactCrossingPointsSpec)

/-- ITS FALSE NEIGHBOUR: 'it returns false'. Refute it at one input. -/
def fnExactCrossingPointsWrong : ChangeSpec := { name := "fnExactCrossingPoints", fn := fun _ => fun
  | [d] => { results := [.lit (.bool false)], args := [d] }
  | _ => none }
def FnExactCrossingPointsWrongFalsely : Prop := fnExactCrossingPointsRow.holds Try.pinned (OpenSpec.ofChange fnExactCrossingPointsWrong)

/-- 'laws.FnCrossingPoints': WHATEVER THE INPUT: true; the input reads as it did. -/
def fnCrossingPointsSpec : ChangeSpec := { name := "fnCrossingPoints", fn := fun _ => fun
  | [d] => { results := [.lit (.bool true)], args := [d] }
  | _ => none }
def fnCrossingPointsRow : OpenClaim := { program := "ytpjdnplpiamjcaa", sum := "3caa9d31c435456d44c2aa9ec0e49b647e7813db71c248671b76015fd55ab357", func := "loop.example/planargeometry/laws.FnCrossingPoints", spec := "fnCrossingPoints", unfollowed := true, recurses := true, apart := false }
def FnCrossingPointsSaid : Prop := fnCrossingPointsRow.holds Try.pinned (OpenSpec.ofChange fnCrossingPointsSpec)

/-- ITS FALSE NEIGHBOUR: 'it returns false'. Refute it at one input. -/
def fnCrossingPointsWrong : ChangeSpec := { name := "fnCrossingPoints", fn := fun _ => fun
  | [d] => { results := [.lit (.bool false)], args := [d] }
  | _ => none }
def FnCrossingPointsWrongFalsely : Prop := fnCrossingPointsRow.holds Try.pinned (OpenSpec.ofChange fnCrossingPointsWrong)

/-- 'laws.FnPolygonDrawing': WHATEVER THE INPUT: true; the input reads as it did. -/
def fnPolygonDrawingSpec : ChangeSpec := { name := "fnPolygonDrawing", fn := fun _ => fun
  | [d] => { results := [.lit (.bool true)], args := [d] }
  | _ => none }
def fnPolygonDrawingRow : OpenClaim := { program := "ytpjdnplpiamjcaa", sum := "3caa9d31c435456d44c2aa9ec0e49b647e7813db71c248671b76015fd55ab357", func := "loop.example/planargeometry/laws.FnPolygonDrawing", spec := "fnPolygonDrawing", unfollowed := true, recurses := true, apart := false }
def FnPolygonDrawingSaid : Prop := fnPolygonDrawingRow.holds Try.pinned (OpenSpec.ofChange fnPolygonDrawingSpec)

/-- ITS FALSE NEIGHBOUR: 'it returns false'. Refute it at one input. -/
def fnPolygonDrawingWrong : ChangeSpec := { name := "fnPolygonDrawing", fn := fun _ => fun
  | [d] => { results := [.lit (.bool false)], args := [d] }
  | _ => none }
def FnPolygonDrawingWrongFalsely : Prop := fnPolygonDrawingRow.holds Try.pinned (OpenSpec.ofChange fnPolygonDrawingWrong)

/-- 'laws.FnExactLatticeInside': WHATEVER THE INPUT: true; the input reads as it did. -/
def fnExactLatticeInsideSpec : ChangeSpec := { name := "fnExactLatticeInside", fn := fun _ => fun
  | [d] => { results := [.lit (.bool true)], args := [d] }
  | _ => none }
def fnExactLatticeInsideRow : OpenClaim := { program := "ytpjdnplpiamjcaa", sum := "3caa9d31c435456d44c2aa9ec0e49b647e7813db71c248671b76015fd55ab357", func := "loop.example/planargeometry/laws.FnExactLatticeInside", spec := "fnExactLatticeInside", unfollowed := true, recurses := true, apart := false }
def FnExactLatticeInsideSaid : Prop := fnExactLatticeInsideRow.holds Try.pinned (OpenSpec.ofChange fnExactLatticeInsideSpec)

/-- ITS FALSE NEIGHBOUR: 'it returns false'. Refute it at one input. -/
def fnExactLatticeInsideWrong : ChangeSpec := { name := "fnExactLatticeInside", fn := fun _ => fun
  | [d] => { results := [.lit (.bool false)], args := [d] }
  | _ => none }
def FnExactLatticeInsideWrongFalsely : Prop := fnExactLatticeInsideRow.holds Try.pinned (OpenSpec.ofChange fnExactLatticeInsideWrong)

/-- 'laws.FnExactWidthEdge': WHATEVER THE INPUT: true; the input reads as it did. -/
def fnExactWidthEdgeSpec : ChangeSpec := { name := "fnExactWidthEdge", fn := fun _ => fun
  | [d] => { results := [.lit (.bool true)], args := [d] }
  | _ => none }
def fnExactWidthEdgeRow : OpenClaim := { program := "ytpjdnplpiamjcaa", sum := "3caa9d31c435456d44c2aa9ec0e49b647e7813db71c248671b76015fd55ab357", func := "loop.example/planargeometry/laws.FnExactWidthEdge", spec := "fnExactWidthEdge", unfollowed := true, recurses := true, apart := false }
def FnExactWidthEdgeSaid : Prop := fnExactWidthEdgeRow.holds Try.pinned (OpenSpec.ofChange fnExactWidthEdgeSpec)

/-- ITS FALSE NEIGHBOUR: 'it returns false'. Refute it at one input. -/
def fnExactWidthEdgeWrong : ChangeSpec := { name := "fnExactWidthEdge", fn := fun _ => fun
  | [d] => { results := [.lit (.bool false)], args := [d] }
  | _ => none }
def FnExactWidthEdgeWrongFalsely : Prop := fnExactWidthEdgeRow.holds Try.pinned (OpenSpec.ofChange fnExactWidthEdgeWrong)

/-- 'laws.FnWidthEdge': WHATEVER THE INPUT: true; the input reads as it did. -/
def fnWidthEdgeSpec : ChangeSpec := { name := "fnWidthEdge", fn := fun _ => fun
  | [d] => { results := [.lit (.bool true)], args := [d] }
  | _ => none }
def fnWidthEdgeRow : OpenClaim := { program := "ytpjdnplpiamjcaa", sum := "3caa9d31c435456d44c2aa9ec0e49b647e7813db71c248671b76015fd55ab357", func := "loop.example/planargeometry/laws.FnWidthEdge", spec := "fnWidthEdge", unfollowed := true, recurses := true, apart := false }
def FnWidthEdgeSaid : Prop := fnWidthEdgeRow.holds Try.pinned (OpenSpec.ofChange fnWidthEdgeSpec)

/-- ITS FALSE NEIGHBOUR: 'it returns false'. Refute it at one input. -/
def fnWidthEdgeWrong : ChangeSpec := { name := "fnWidthEdge", fn := fun _ => fun
  | [d] => { results := [.lit (.bool false)], args := [d] }
  | _ => none }
def FnWidthEdgeWrongFalsely : Prop := fnWidthEdgeRow.holds Try.pinned (OpenSpec.ofChange fnWidthEdgeWrong)

/-- 'laws.FnExactCheckSpanning': WHATEVER THE INPUT: true; the input reads as it did. -/
def fnExactCheckSpanningSpec : ChangeSpec := { name := "fnExactCheckSpanning", fn := fun _ => fun
  | [d1, d2] => { results := [.lit (.bool true)], args := [d1, d2] }
  | _ => none }
def fnExactCheckSpanningRow : OpenClaim := { program := "ytpjdnplpiamjcaa", sum := "3caa9d31c435456d44c2aa9ec0e49b647e7813db71c248671b76015fd55ab357", func := "loop.example/planargeometry/laws.FnExactCheckSpanning", spec := "fnExactCheckSpanning", recurses := true, apart := false }
def FnExactCheckSpanningSaid : Prop := fnExactCheckSpanningRow.holds Try.pinned (OpenSpec.ofChange fnExactCheckSpanningSpec)

/-- ITS FALSE NEIGHBOUR: 'it returns false'. Refute it at one input. -/
def fnExactCheckSpanningWrong : ChangeSpec := { name := "fnExactCheckSpanning", fn := fun _ => fun
  | [d1, d2] => { results := [.lit (.bool false)], args := [d1, d2] }
  | _ => none }
def FnExactCheckSpanningWrongFalsely : Prop := fnExactCheckSpanningRow.holds Try.pinned (OpenSpec.ofChange fnExactCheckSpanningWrong)

/-- 'laws.FnTotalLength': WHATEVER THE INPUT: true; the input reads as it did. -/
def fnTotalLengthSpec : ChangeSpec := { name := "fnTotalLength", fn := fun _ => fun
  | [d1, d2] => { results := [.lit (.bool true)], args := [d1, d2] }
  | _ => none }
def fnTotalLengthRow : OpenClaim := { program := "ytpjdnplpiamjcaa", sum := "3caa9d31c435456d44c2aa9ec0e49b647e7813db71c248671b76015fd55ab357", func := "loop.example/planargeometry/laws.FnTotalLength", spec := "fnTotalLength", apart := false }
def FnTotalLengthSaid : Prop := fnTotalLengthRow.holds Try.pinned (OpenSpec.ofChange fnTotalLengthSpec)

/-- ITS FALSE NEIGHBOUR: 'it returns false'. Refute it at one input. -/
def fnTotalLengthWrong : ChangeSpec := { name := "fnTotalLength", fn := fun _ => fun
  | [d1, d2] => { results := [.lit (.bool false)], args := [d1, d2] }
  | _ => none }
def FnTotalLengthWrongFalsely : Prop := fnTotalLengthRow.holds Try.pinned (OpenSpec.ofChange fnTotalLengthWrong)

/- THE SECOND FORM. 'bulk': how many values and letters a reading holds, each counted each time it is reached (what is shared counts as often as it is met; a slice's spare places count too). A statement '..UptoSaid' is the law's where the arguments, and the package variables that the reading takes, are together of bulk at most 1048576: NARROWER than '..Said'. Prove '..Said' where nothing that the law and all that it calls make is longer than what came in: it says more and counts as full. Else prove '..UptoSaid'. A law counts once. -/
mutual
def uptoBulk {H : Type} : DataW H → Nat
  | .lit (.string bytes) => bytes.length + 1
  | .lit _ => 1
  | .nil => 1
  | .ptr d => uptoBulk d + 1
  | .slice elems spare => uptoBulkAll elems + uptoBulkAll spare + 1
  | .agg parts => uptoBulkAll parts + 1
  | .iface _ d => uptoBulk d + 1
  | .map entries => uptoBulkEntries entries + 1
  | .held _ => 1
def uptoBulkAll {H : Type} : List (DataW H) → Nat
  | [] => 0
  | d :: r => uptoBulk d + uptoBulkAll r
def uptoBulkEntries {H : Type} : List (Lit × DataW H) → Nat
  | [] => 0
  | x :: r => uptoBulkEntry x + uptoBulkEntries r
def uptoBulkEntry {H : Type} : Lit × DataW H → Nat
  | (.string bytes, d) => bytes.length + uptoBulk d + 1
  | (_, d) => uptoBulk d + 1
 end
def uptoSmall : (H : Type) → List (DataW H) → Bool := fun _ ds => decide (uptoBulkAll ds ≤ 1048576)
def OpenSpec.upto (s : _root_.Go.ChangeSpec) : _root_.Go.OpenSpec := { _root_.Go.OpenSpec.ofChange s with cond := some uptoSmall }

/-- 'laws.FnExactMeetingPairs', WHERE WHAT IT READS IS OF BULK AT MOST 1048576: true; the input reads as it did. -/
def fnExactMeetingPairsUptoRow : OpenClaim := { program := "ytpjdnplpiamjcaa", sum := "3caa9d31c435456d44c2aa9ec0e49b647e7813db71c248671b76015fd55ab357", func := "loop.example/planargeometry/laws.FnExactMeetingPairs", spec := "fnExactMeetingPairs", unfollowed := true, recurses := true, apart := false, narrowed := true }
def FnExactMeetingPairsUptoSaid : Prop := fnExactMeetingPairsUptoRow.holds Try.pinned (OpenSpec.upto fnExactMeetingPairsSpec)

/-- 'laws.FnMeetingPairs', WHERE WHAT IT READS IS OF BULK AT MOST 1048576: true; the input reads as it did. -/
def fnMeetingPairsUptoRow : OpenClaim := { program := "ytpjdnplpiamjcaa", sum := "3caa9d31c435456d44c2aa9ec0e49b647e7813db71c248671b76015fd55ab357", func := "loop.example/planargeometry/laws.FnMeetingPairs", spec := "fnMeetingPairs", unfollowed := true, recurses := true, apart := false, narrowed := true }
def FnMeetingPairsUptoSaid : Prop := fnMeetingPairsUptoRow.holds Try.pinned (OpenSpec.upto fnMeetingPairsSpec)

/-- 'laws.FnExactIsDrawing', WHERE WHAT IT READS IS OF BULK AT MOST 1048576: true; the input reads as it did. -/
def fnExactIsDrawingUptoRow : OpenClaim := { program := "ytpjdnplpiamjcaa", sum := "3caa9d31c435456d44c2aa9ec0e49b647e7813db71c248671b76015fd55ab357", func := "loop.example/planargeometry/laws.FnExactIsDrawing", spec := "fnExactIsDrawing", unfollowed := true, recurses := true, apart := false, narrowed := true }
def FnExactIsDrawingUptoSaid : Prop := fnExactIsDrawingUptoRow.holds Try.pinned (OpenSpec.upto fnExactIsDrawingSpec)

/-- 'laws.FnIsDrawing', WHERE WHAT IT READS IS OF BULK AT MOST 1048576: true; the input reads as it did. -/
def fnIsDrawingUptoRow : OpenClaim := { program := "ytpjdnplpiamjcaa", sum := "3caa9d31c435456d44c2aa9ec0e49b647e7813db71c248671b76015fd55ab357", func := "loop.example/planargeometry/laws.FnIsDrawing", spec := "fnIsDrawing", unfollowed := true, recurses := true, apart := false, narrowed := true }
def FnIsDrawingUptoSaid : Prop := fnIsDrawingUptoRow.holds Try.pinned (OpenSpec.upto fnIsDrawingSpec)

/-- 'laws.FnExactCrossingPoints', WHERE WHAT IT READS IS OF BULK AT MOST 1048576: true; the input reads as it did. -/
def fnExactCrossingPointsUptoRow : OpenClaim := { program := "ytpjdnplpiamjcaa", sum := "3caa9d31c435456d44c2aa9ec0e49b647e7813db71c248671b76015fd55ab357", func := "loop.example/planargeometry/laws.FnExactCrossingPoints", spec := "fnExactCrossingPoints", unfollowed := true, recurses := true, apart := false, narrowed := true }
def FnExactCrossingPointsUptoSaid : Prop := fnExactCrossingPointsUptoRow.holds Try.pinned (OpenSpec.upto fnExactCrossingPointsSpec)

/-- 'laws.FnCrossingPoints', WHERE WHAT IT READS IS OF BULK AT MOST 1048576: true; the input reads as it did. -/
def fnCrossingPointsUptoRow : OpenClaim := { program := "ytpjdnplpiamjcaa", sum := "3caa9d31c435456d44c2aa9ec0e49b647e7813db71c248671b76015fd55ab357", func := "loop.example/planargeometry/laws.FnCrossingPoints", spec := "fnCrossingPoints", unfollowed := true, recurses := true, apart := false, narrowed := true }
def FnCrossingPointsUptoSaid : Prop := fnCrossingPointsUptoRow.holds Try.pinned (OpenSpec.upto fnCrossingPointsSpec)

/-- 'laws.FnPolygonDrawing', WHERE WHAT IT READS IS OF BULK AT MOST 1048576: true; the input reads as it did. -/
def fnPolygonDrawingUptoRow : OpenClaim := { program := "ytpjdnplpiamjcaa", sum := "3caa9d31c435456d44c2aa9ec0e49b647e7813db71c248671b76015fd55ab357", func := "loop.example/planargeometry/laws.FnPolygonDrawing", spec := "fnPolygonDrawing", unfollowed := true, recurses := true, apart := false, narrowed := true }
def FnPolygonDrawingUptoSaid : Prop := fnPolygonDrawingUptoRow.holds Try.pinned (OpenSpec.upto fnPolygonDrawingSpec)

/-- 'laws.FnExactLatticeInside', WHERE WHAT IT READS IS OF BULK AT MOST 1048576: true; the input reads as it did. -/
def fnExactLatticeInsideUptoRow : OpenClaim := { program := "ytpjdnplpiamjcaa", sum := "3caa9d31c435456d44c2aa9ec0e49b647e7813db71c248671b76015fd55ab357", func := "loop.example/planargeometry/laws.FnExactLatticeInside", spec := "fnExactLatticeInside", unfollowed := true, recurses := true, apart := false, narrowed := true }
def FnExactLatticeInsideUptoSaid : Prop := fnExactLatticeInsideUptoRow.holds Try.pinned (OpenSpec.upto fnExactLatticeInsideSpec)

/-- 'laws.FnExactWidthEdge', WHERE WHAT IT READS IS OF BULK AT MOST 1048576: true; the input reads as it did. -/
def fnExactWidthEdgeUptoRow : OpenClaim := { program := "ytpjdnplpiamjcaa", sum := "3caa9d31c435456d44c2aa9ec0e49b647e7813db71c248671b76015fd55ab357", func := "loop.example/planargeometry/laws.FnExactWidthEdge", spec := "fnExactWidthEdge", unfollowed := true, recurses := true, apart := false, narrowed := true }
def FnExactWidthEdgeUptoSaid : Prop := fnExactWidthEdgeUptoRow.holds Try.pinned (OpenSpec.upto fnExactWidthEdgeSpec)

/-- 'laws.FnWidthEdge', WHERE WHAT IT READS IS OF BULK AT MOST 1048576: true; the input reads as it did. -/
def fnWidthEdgeUptoRow : OpenClaim := { program := "ytpjdnplpiamjcaa", sum := "3caa9d31c435456d44c2aa9ec0e49b647e7813db71c248671b76015fd55ab357", func := "loop.example/planargeometry/laws.FnWidthEdge", spec := "fnWidthEdge", unfollowed := true, recurses := true, apart := false, narrowed := true }
def FnWidthEdgeUptoSaid : Prop := fnWidthEdgeUptoRow.holds Try.pinned (OpenSpec.upto fnWidthEdgeSpec)

/-- 'laws.FnExactCheckSpanning', WHERE WHAT IT READS IS OF BULK AT MOST 1048576: true; the input reads as it did. -/
def fnExactCheckSpanningUptoRow : OpenClaim := { program := "ytpjdnplpiamjcaa", sum := "3caa9d31c435456d44c2aa9ec0e49b647e7813db71c248671b76015fd55ab357", func := "loop.example/planargeometry/laws.FnExactCheckSpanning", spec := "fnExactCheckSpanning", recurses := true, apart := false, narrowed := true }
def FnExactCheckSpanningUptoSaid : Prop := fnExactCheckSpanningUptoRow.holds Try.pinned (OpenSpec.upto fnExactCheckSpanningSpec)

/-- 'laws.FnTotalLength', WHERE WHAT IT READS IS OF BULK AT MOST 1048576: true; the input reads as it did. -/
def fnTotalLengthUptoRow : OpenClaim := { program := "ytpjdnplpiamjcaa", sum := "3caa9d31c435456d44c2aa9ec0e49b647e7813db71c248671b76015fd55ab357", func := "loop.example/planargeometry/laws.FnTotalLength", spec := "fnTotalLength", apart := false, narrowed := true }
def FnTotalLengthUptoSaid : Prop := fnTotalLengthUptoRow.holds Try.pinned (OpenSpec.upto fnTotalLengthSpec)

end Rows
end Go.Proofs.Ytpjdnplpiamjcaa
