/-
  No cell of these rows narrows 'for every input' (looked for: loops, veiled, ifaces, maps, wideKeys, modest, calm, conditions, laid).
  DERIVED. THE GIVEN ROWS OF THIS SEAT. 12 by the template 'for every input the law returns true; each argument reads behind the call as it read before'; 0 by the template 'total and deterministic' (their statements: YtfechmgkifjieabTotals.lean).
  GIVEN WITH THE SEED: the statements are not yours to turn. If you find one false, say at which input.
  Laid BY PROGRAM, IN A SANDBOX (cutbox-rows.mjs): the forced cells as the released guide's own fill.sh prints them over the translation ecbc5ed9522570e8… (all of the seat's roots in one cut). By AI agents, Wed Nov 11 2026. No macro, syntax, notation, axiom, sorry.
-/
import Derived.Test.YtfechmgkifjieabChecked
import GoSem.Claim
import GoSem.ClaimJoined
import GoSem.ClaimMapViews
import Derived.JoinedTies
import Derived.KernelRfl
namespace Go.Proofs.Ytfechmgkifjieab
/- THE CELL 'sum', in the pinned program and in every row, IS THE sha256 OF THE DUMP (.gsa) THAT YtfechmgkifjieabProg.lean LOADS. Nothing in Lean hashes anything: it is a label: what it is worth is what the hold of that sum in a sandbox is worth. -/
noncomputable def Try.pinned : Pinned := { name := "ytfechmgkifjieab", sum := "ecbc5ed9522570e8ed2c9026bb182c15ffcc4dcc1f346fcdd9fb8712af605a06", checked := Try.checked }
namespace Rows
def none {H : Type} : Left H := { results := [], args := [] }

/-- 'laws.FnExactValidPoint': WHATEVER THE INPUT: true; the input reads as it did. -/
def fnExactValidPointSpec : ChangeSpec := { name := "fnExactValidPoint", fn := fun _ => fun
  | [d] => { results := [.lit (.bool true)], args := [d] }
  | _ => none }
def fnExactValidPointRow : OpenClaim := { program := "ytfechmgkifjieab", sum := "ecbc5ed9522570e8ed2c9026bb182c15ffcc4dcc1f346fcdd9fb8712af605a06", func := "loop.example/planargeometry/laws.FnExactValidPoint", spec := "fnExactValidPoint", apart := false }
def FnExactValidPointSaid : Prop := fnExactValidPointRow.holds Try.pinned (OpenSpec.ofChange fnExactValidPointSpec)

/-- ITS FALSE NEIGHBOUR: 'it returns false'. Refute it at one input. -/
def fnExactValidPointWrong : ChangeSpec := { name := "fnExactValidPoint", fn := fun _ => fun
  | [d] => { results := [.lit (.bool false)], args := [d] }
  | _ => none }
def FnExactValidPointWrongFalsely : Prop := fnExactValidPointRow.holds Try.pinned (OpenSpec.ofChange fnExactValidPointWrong)

/-- 'laws.FnExactCross': WHATEVER THE INPUT: true; the input reads as it did. -/
def fnExactCrossSpec : ChangeSpec := { name := "fnExactCross", fn := fun _ => fun
  | [d1, d2, d3] => { results := [.lit (.bool true)], args := [d1, d2, d3] }
  | _ => none }
def fnExactCrossRow : OpenClaim := { program := "ytfechmgkifjieab", sum := "ecbc5ed9522570e8ed2c9026bb182c15ffcc4dcc1f346fcdd9fb8712af605a06", func := "loop.example/planargeometry/laws.FnExactCross", spec := "fnExactCross", apart := false }
def FnExactCrossSaid : Prop := fnExactCrossRow.holds Try.pinned (OpenSpec.ofChange fnExactCrossSpec)

/-- ITS FALSE NEIGHBOUR: 'it returns false'. Refute it at one input. -/
def fnExactCrossWrong : ChangeSpec := { name := "fnExactCross", fn := fun _ => fun
  | [d1, d2, d3] => { results := [.lit (.bool false)], args := [d1, d2, d3] }
  | _ => none }
def FnExactCrossWrongFalsely : Prop := fnExactCrossRow.holds Try.pinned (OpenSpec.ofChange fnExactCrossWrong)

/-- 'laws.FnExactOrient': WHATEVER THE INPUT: true; the input reads as it did. -/
def fnExactOrientSpec : ChangeSpec := { name := "fnExactOrient", fn := fun _ => fun
  | [d1, d2, d3] => { results := [.lit (.bool true)], args := [d1, d2, d3] }
  | _ => none }
def fnExactOrientRow : OpenClaim := { program := "ytfechmgkifjieab", sum := "ecbc5ed9522570e8ed2c9026bb182c15ffcc4dcc1f346fcdd9fb8712af605a06", func := "loop.example/planargeometry/laws.FnExactOrient", spec := "fnExactOrient", apart := false }
def FnExactOrientSaid : Prop := fnExactOrientRow.holds Try.pinned (OpenSpec.ofChange fnExactOrientSpec)

/-- ITS FALSE NEIGHBOUR: 'it returns false'. Refute it at one input. -/
def fnExactOrientWrong : ChangeSpec := { name := "fnExactOrient", fn := fun _ => fun
  | [d1, d2, d3] => { results := [.lit (.bool false)], args := [d1, d2, d3] }
  | _ => none }
def FnExactOrientWrongFalsely : Prop := fnExactOrientRow.holds Try.pinned (OpenSpec.ofChange fnExactOrientWrong)

/-- 'laws.FnExactSquaredDistance': WHATEVER THE INPUT: true; the input reads as it did. -/
def fnExactSquaredDistanceSpec : ChangeSpec := { name := "fnExactSquaredDistance", fn := fun _ => fun
  | [d1, d2] => { results := [.lit (.bool true)], args := [d1, d2] }
  | _ => none }
def fnExactSquaredDistanceRow : OpenClaim := { program := "ytfechmgkifjieab", sum := "ecbc5ed9522570e8ed2c9026bb182c15ffcc4dcc1f346fcdd9fb8712af605a06", func := "loop.example/planargeometry/laws.FnExactSquaredDistance", spec := "fnExactSquaredDistance", apart := false }
def FnExactSquaredDistanceSaid : Prop := fnExactSquaredDistanceRow.holds Try.pinned (OpenSpec.ofChange fnExactSquaredDistanceSpec)

/-- ITS FALSE NEIGHBOUR: 'it returns false'. Refute it at one input. -/
def fnExactSquaredDistanceWrong : ChangeSpec := { name := "fnExactSquaredDistance", fn := fun _ => fun
  | [d1, d2] => { results := [.lit (.bool false)], args := [d1, d2] }
  | _ => none }
def FnExactSquaredDistanceWrongFalsely : Prop := fnExactSquaredDistanceRow.holds Try.pinned (OpenSpec.ofChange fnExactSquaredDistanceWrong)

/-- 'laws.FnExactSortPoints': WHATEVER THE INPUT: true; the input reads as it did. -/
def fnExactSortPointsSpec : ChangeSpec := { name := "fnExactSortPoints", fn := fun _ => fun
  | [d] => { results := [.lit (.bool true)], args := [d] }
  | _ => none }
def fnExactSortPointsRow : OpenClaim := { program := "ytfechmgkifjieab", sum := "ecbc5ed9522570e8ed2c9026bb182c15ffcc4dcc1f346fcdd9fb8712af605a06", func := "loop.example/planargeometry/laws.FnExactSortPoints", spec := "fnExactSortPoints", unfollowed := true, recurses := true, apart := false }
def FnExactSortPointsSaid : Prop := fnExactSortPointsRow.holds Try.pinned (OpenSpec.ofChange fnExactSortPointsSpec)

/-- ITS FALSE NEIGHBOUR: 'it returns false'. Refute it at one input. -/
def fnExactSortPointsWrong : ChangeSpec := { name := "fnExactSortPoints", fn := fun _ => fun
  | [d] => { results := [.lit (.bool false)], args := [d] }
  | _ => none }
def FnExactSortPointsWrongFalsely : Prop := fnExactSortPointsRow.holds Try.pinned (OpenSpec.ofChange fnExactSortPointsWrong)

/-- 'laws.FnExactCollinear': WHATEVER THE INPUT: true; the input reads as it did. -/
def fnExactCollinearSpec : ChangeSpec := { name := "fnExactCollinear", fn := fun _ => fun
  | [d] => { results := [.lit (.bool true)], args := [d] }
  | _ => none }
def fnExactCollinearRow : OpenClaim := { program := "ytfechmgkifjieab", sum := "ecbc5ed9522570e8ed2c9026bb182c15ffcc4dcc1f346fcdd9fb8712af605a06", func := "loop.example/planargeometry/laws.FnExactCollinear", spec := "fnExactCollinear", unfollowed := true, recurses := true, apart := false }
def FnExactCollinearSaid : Prop := fnExactCollinearRow.holds Try.pinned (OpenSpec.ofChange fnExactCollinearSpec)

/-- ITS FALSE NEIGHBOUR: 'it returns false'. Refute it at one input. -/
def fnExactCollinearWrong : ChangeSpec := { name := "fnExactCollinear", fn := fun _ => fun
  | [d] => { results := [.lit (.bool false)], args := [d] }
  | _ => none }
def FnExactCollinearWrongFalsely : Prop := fnExactCollinearRow.holds Try.pinned (OpenSpec.ofChange fnExactCollinearWrong)

/-- 'laws.FnExactValidRat': WHATEVER THE INPUT: true; the input reads as it did. -/
def fnExactValidRatSpec : ChangeSpec := { name := "fnExactValidRat", fn := fun _ => fun
  | [d] => { results := [.lit (.bool true)], args := [d] }
  | _ => none }
def fnExactValidRatRow : OpenClaim := { program := "ytfechmgkifjieab", sum := "ecbc5ed9522570e8ed2c9026bb182c15ffcc4dcc1f346fcdd9fb8712af605a06", func := "loop.example/planargeometry/laws.FnExactValidRat", spec := "fnExactValidRat", apart := false }
def FnExactValidRatSaid : Prop := fnExactValidRatRow.holds Try.pinned (OpenSpec.ofChange fnExactValidRatSpec)

/-- ITS FALSE NEIGHBOUR: 'it returns false'. Refute it at one input. -/
def fnExactValidRatWrong : ChangeSpec := { name := "fnExactValidRat", fn := fun _ => fun
  | [d] => { results := [.lit (.bool false)], args := [d] }
  | _ => none }
def FnExactValidRatWrongFalsely : Prop := fnExactValidRatRow.holds Try.pinned (OpenSpec.ofChange fnExactValidRatWrong)

/-- 'laws.FnExactMakeRat': WHATEVER THE INPUT: true; the input reads as it did. -/
def fnExactMakeRatSpec : ChangeSpec := { name := "fnExactMakeRat", fn := fun _ => fun
  | [d1, d2] => { results := [.lit (.bool true)], args := [d1, d2] }
  | _ => none }
def fnExactMakeRatRow : OpenClaim := { program := "ytfechmgkifjieab", sum := "ecbc5ed9522570e8ed2c9026bb182c15ffcc4dcc1f346fcdd9fb8712af605a06", func := "loop.example/planargeometry/laws.FnExactMakeRat", spec := "fnExactMakeRat", apart := false }
def FnExactMakeRatSaid : Prop := fnExactMakeRatRow.holds Try.pinned (OpenSpec.ofChange fnExactMakeRatSpec)

/-- ITS FALSE NEIGHBOUR: 'it returns false'. Refute it at one input. -/
def fnExactMakeRatWrong : ChangeSpec := { name := "fnExactMakeRat", fn := fun _ => fun
  | [d1, d2] => { results := [.lit (.bool false)], args := [d1, d2] }
  | _ => none }
def FnExactMakeRatWrongFalsely : Prop := fnExactMakeRatRow.holds Try.pinned (OpenSpec.ofChange fnExactMakeRatWrong)

/-- 'laws.FnExactCompareRats': WHATEVER THE INPUT: true; the input reads as it did. -/
def fnExactCompareRatsSpec : ChangeSpec := { name := "fnExactCompareRats", fn := fun _ => fun
  | [d1, d2] => { results := [.lit (.bool true)], args := [d1, d2] }
  | _ => none }
def fnExactCompareRatsRow : OpenClaim := { program := "ytfechmgkifjieab", sum := "ecbc5ed9522570e8ed2c9026bb182c15ffcc4dcc1f346fcdd9fb8712af605a06", func := "loop.example/planargeometry/laws.FnExactCompareRats", spec := "fnExactCompareRats", apart := false }
def FnExactCompareRatsSaid : Prop := fnExactCompareRatsRow.holds Try.pinned (OpenSpec.ofChange fnExactCompareRatsSpec)

/-- ITS FALSE NEIGHBOUR: 'it returns false'. Refute it at one input. -/
def fnExactCompareRatsWrong : ChangeSpec := { name := "fnExactCompareRats", fn := fun _ => fun
  | [d1, d2] => { results := [.lit (.bool false)], args := [d1, d2] }
  | _ => none }
def FnExactCompareRatsWrongFalsely : Prop := fnExactCompareRatsRow.holds Try.pinned (OpenSpec.ofChange fnExactCompareRatsWrong)

/-- 'laws.FnExactAddRats': WHATEVER THE INPUT: true; the input reads as it did. -/
def fnExactAddRatsSpec : ChangeSpec := { name := "fnExactAddRats", fn := fun _ => fun
  | [d1, d2] => { results := [.lit (.bool true)], args := [d1, d2] }
  | _ => none }
def fnExactAddRatsRow : OpenClaim := { program := "ytfechmgkifjieab", sum := "ecbc5ed9522570e8ed2c9026bb182c15ffcc4dcc1f346fcdd9fb8712af605a06", func := "loop.example/planargeometry/laws.FnExactAddRats", spec := "fnExactAddRats", apart := false }
def FnExactAddRatsSaid : Prop := fnExactAddRatsRow.holds Try.pinned (OpenSpec.ofChange fnExactAddRatsSpec)

/-- ITS FALSE NEIGHBOUR: 'it returns false'. Refute it at one input. -/
def fnExactAddRatsWrong : ChangeSpec := { name := "fnExactAddRats", fn := fun _ => fun
  | [d1, d2] => { results := [.lit (.bool false)], args := [d1, d2] }
  | _ => none }
def FnExactAddRatsWrongFalsely : Prop := fnExactAddRatsRow.holds Try.pinned (OpenSpec.ofChange fnExactAddRatsWrong)

/-- 'laws.FnExactMulRats': WHATEVER THE INPUT: true; the input reads as it did. -/
def fnExactMulRatsSpec : ChangeSpec := { name := "fnExactMulRats", fn := fun _ => fun
  | [d1, d2] => { results := [.lit (.bool true)], args := [d1, d2] }
  | _ => none }
def fnExactMulRatsRow : OpenClaim := { program := "ytfechmgkifjieab", sum := "ecbc5ed9522570e8ed2c9026bb182c15ffcc4dcc1f346fcdd9fb8712af605a06", func := "loop.example/planargeometry/laws.FnExactMulRats", spec := "fnExactMulRats", apart := false }
def FnExactMulRatsSaid : Prop := fnExactMulRatsRow.holds Try.pinned (OpenSpec.ofChange fnExactMulRatsSpec)

/-- ITS FALSE NEIGHBOUR: 'it returns false'. Refute it at one input. -/
def fnExactMulRatsWrong : ChangeSpec := { name := "fnExactMulRats", fn := fun _ => fun
  | [d1, d2] => { results := [.lit (.bool false)], args := [d1, d2] }
  | _ => none }
def FnExactMulRatsWrongFalsely : Prop := fnExactMulRatsRow.holds Try.pinned (OpenSpec.ofChange fnExactMulRatsWrong)

/-- 'laws.FnExactFloorRat': WHATEVER THE INPUT: true; the input reads as it did. -/
def fnExactFloorRatSpec : ChangeSpec := { name := "fnExactFloorRat", fn := fun _ => fun
  | [d] => { results := [.lit (.bool true)], args := [d] }
  | _ => none }
def fnExactFloorRatRow : OpenClaim := { program := "ytfechmgkifjieab", sum := "ecbc5ed9522570e8ed2c9026bb182c15ffcc4dcc1f346fcdd9fb8712af605a06", func := "loop.example/planargeometry/laws.FnExactFloorRat", spec := "fnExactFloorRat", apart := false }
def FnExactFloorRatSaid : Prop := fnExactFloorRatRow.holds Try.pinned (OpenSpec.ofChange fnExactFloorRatSpec)

/-- ITS FALSE NEIGHBOUR: 'it returns false'. Refute it at one input. -/
def fnExactFloorRatWrong : ChangeSpec := { name := "fnExactFloorRat", fn := fun _ => fun
  | [d] => { results := [.lit (.bool false)], args := [d] }
  | _ => none }
def FnExactFloorRatWrongFalsely : Prop := fnExactFloorRatRow.holds Try.pinned (OpenSpec.ofChange fnExactFloorRatWrong)

/- THE SECOND FORM. 'bulk': how many values and letters a reading holds, each counted each time it is reached (what is shared counts as often as it is met; a slice's spare places count too). A statement '..UptoSaid' is the law's where the arguments, and the package variables that the reading takes, are together of bulk at most 1048576: NARROWER than '..Said'. Prove '..Said' where nothing that the law and all that it calls make is longer than what came in: it says more and counts as full. Else prove '..UptoSaid'. A law counts once. -/
mutual
def uptoBulk {H : Type} : DataW H → Nat
  | .lit (.string bytes) => bytes.length + 1
  | .lit _ => 1
  | .nil => 1
  | .ptr d => uptoBulk d + 1
  | .slice elems spare => uptoBulkAll elems + uptoBulkAll spare + 1
  | .agg parts => uptoBulkAll parts + 1
  | .iface _ d => uptoBulk d + 1
  | .map entries => uptoBulkEntries entries + 1
  | .held _ => 1
def uptoBulkAll {H : Type} : List (DataW H) → Nat
  | [] => 0
  | d :: r => uptoBulk d + uptoBulkAll r
def uptoBulkEntries {H : Type} : List (Lit × DataW H) → Nat
  | [] => 0
  | x :: r => uptoBulkEntry x + uptoBulkEntries r
def uptoBulkEntry {H : Type} : Lit × DataW H → Nat
  | (.string bytes, d) => bytes.length + uptoBulk d + 1
  | (_, d) => uptoBulk d + 1
 end
def uptoSmall : (H : Type) → List (DataW H) → Bool := fun _ ds => decide (uptoBulkAll ds ≤ 1048576)
def OpenSpec.upto (s : _root_.Go.ChangeSpec) : _root_.Go.OpenSpec := { _root_.Go.OpenSpec.ofChange s with cond := some uptoSmall }

/-- 'laws.FnExactValidPoint', WHERE WHAT IT READS IS OF BULK AT MOST 1048576: true; the input reads as it did. -/
def fnExactValidPointUptoRow : OpenClaim := { program := "ytfechmgkifjieab", sum := "ecbc5ed9522570e8ed2c9026bb182c15ffcc4dcc1f346fcdd9fb8712af605a06", func := "loop.example/planargeometry/laws.FnExactValidPoint", spec := "fnExactValidPoint", apart := false, narrowed := true }
def FnExactValidPointUptoSaid : Prop := fnExactValidPointUptoRow.holds Try.pinned (OpenSpec.upto fnExactValidPointSpec)

/-- 'laws.FnExactCross', WHERE WHAT IT READS IS OF BULK AT MOST 1048576: true; the input reads as it did. -/
def fnExactCrossUptoRow : OpenClaim := { program := "ytfechmgkifjieab", sum := "ecbc5ed9522570e8ed2c9026bb182c15ffcc4dcc1f346fcdd9fb8712af605a06", func := "loop.example/planargeometry/laws.FnExactCross", spec := "fnExactCross", apart := false, narrowed := true }
def FnExactCrossUptoSaid : Prop := fnExactCrossUptoRow.holds Try.pinned (OpenSpec.upto fnExactCrossSpec)

/-- 'laws.FnExactOrient', WHERE WHAT IT READS IS OF BULK AT MOST 1048576: true; the input reads as it did. -/
def fnExactOrientUptoRow : OpenClaim := { program := "ytfechmgkifjieab", sum := "ecbc5ed9522570e8ed2c9026bb182c15ffcc4dcc1f346fcdd9fb8712af605a06", func := "loop.example/planargeometry/laws.FnExactOrient", spec := "fnExactOrient", apart := false, narrowed := true }
def FnExactOrientUptoSaid : Prop := fnExactOrientUptoRow.holds Try.pinned (OpenSpec.upto fnExactOrientSpec)

/-- 'laws.FnExactSquaredDistance', WHERE WHAT IT READS IS OF BULK AT MOST 1048576: true; the input reads as it did. -/
def fnExactSquaredDistanceUptoRow : OpenClaim := { program := "ytfechmgkifjieab", sum := "ecbc5ed9522570e8ed2c9026bb182c15ffcc4dcc1f346fcdd9fb8712af605a06", func := "loop.example/planargeometry/laws.FnExactSquaredDistance", spec := "fnExactSquaredDistance", apart := false, narrowed := true }
def FnExactSquaredDistanceUptoSaid : Prop := fnExactSquaredDistanceUptoRow.holds Try.pinned (OpenSpec.upto fnExactSquaredDistanceSpec)

/-- 'laws.FnExactSortPoints', WHERE WHAT IT READS IS OF BULK AT MOST 1048576: true; the input reads as it did. -/
def fnExactSortPointsUptoRow : OpenClaim := { program := "ytfechmgkifjieab", sum := "ecbc5ed9522570e8ed2c9026bb182c15ffcc4dcc1f346fcdd9fb8712af605a06", func := "loop.example/planargeometry/laws.FnExactSortPoints", spec := "fnExactSortPoints", unfollowed := true, recurses := true, apart := false, narrowed := true }
def FnExactSortPointsUptoSaid : Prop := fnExactSortPointsUptoRow.holds Try.pinned (OpenSpec.upto fnExactSortPointsSpec)

/-- 'laws.FnExactCollinear', WHERE WHAT IT READS IS OF BULK AT MOST 1048576: true; the input reads as it did. -/
def fnExactCollinearUptoRow : OpenClaim := { program := "ytfechmgkifjieab", sum := "ecbc5ed9522570e8ed2c9026bb182c15ffcc4dcc1f346fcdd9fb8712af605a06", func := "loop.example/planargeometry/laws.FnExactCollinear", spec := "fnExactCollinear", unfollowed := true, recurses := true, apart := false, narrowed := true }
def FnExactCollinearUptoSaid : Prop := fnExactCollinearUptoRow.holds Try.pinned (OpenSpec.upto fnExactCollinearSpec)

/-- 'laws.FnExactValidRat', WHERE WHAT IT READS IS OF BULK AT MOST 1048576: true; the input reads as it did. -/
def fnExactValidRatUptoRow : OpenClaim := { program := "ytfechmgkifjieab", sum := "ecbc5ed9522570e8ed2c9026bb182c15ffcc4dcc1f346fcdd9fb8712af605a06", func := "loop.example/planargeometry/laws.FnExactValidRat", spec := "fnExactValidRat", apart := false, narrowed := true }
def FnExactValidRatUptoSaid : Prop := fnExactValidRatUptoRow.holds Try.pinned (OpenSpec.upto fnExactValidRatSpec)

/-- 'laws.FnExactMakeRat', WHERE WHAT IT READS IS OF BULK AT MOST 1048576: true; the input reads as it did. -/
def fnExactMakeRatUptoRow : OpenClaim := { program := "ytfechmgkifjieab", sum := "ecbc5ed9522570e8ed2c9026bb182c15ffcc4dcc1f346fcdd9fb8712af605a06", func := "loop.example/planargeometry/laws.FnExactMakeRat", spec := "fnExactMakeRat", apart := false, narrowed := true }
def FnExactMakeRatUptoSaid : Prop := fnExactMakeRatUptoRow.holds Try.pinned (OpenSpec.upto fnExactMakeRatSpec)

/-- 'laws.FnExactCompareRats', WHERE WHAT IT READS IS OF BULK AT MOST 1048576: true; the input reads as it did. -/
def fnExactCompareRatsUptoRow : OpenClaim := { program := "ytfechmgkifjieab", sum := "ecbc5ed9522570e8ed2c9026bb182c15ffcc4dcc1f346fcdd9fb8712af605a06", func := "loop.example/planargeometry/laws.FnExactCompareRats", spec := "fnExactCompareRats", apart := false, narrowed := true }
def FnExactCompareRatsUptoSaid : Prop := fnExactCompareRatsUptoRow.holds Try.pinned (OpenSpec.upto fnExactCompareRatsSpec)

/-- 'laws.FnExactAddRats', WHERE WHAT IT READS IS OF BULK AT MOST 1048576: true; the input reads as it did. -/
def fnExactAddRatsUptoRow : OpenClaim := { program := "ytfechmgkifjieab", sum := "ecbc5ed9522570e8ed2c9026bb182c15ffcc4dcc1f346fcdd9fb8712af605a06", func := "loop.example/planargeometry/laws.FnExactAddRats", spec := "fnExactAddRats", apart := false, narrowed := true }
def FnExactAddRatsUptoSaid : Prop := fnExactAddRatsUptoRow.holds Try.pinned (OpenSpec.upto fnExactAddRatsSpec)

/-- 'laws.FnExactMulRats', WHERE WHAT IT READS IS OF BULK AT MOST 1048576: true; the input reads as it did. -/
def fnExactMulRatsUptoRow : OpenClaim := { program := "ytfechmgkifjieab", sum := "ecbc5ed9522570e8ed2c9026bb182c15ffcc4dcc1f346fcdd9fb8712af605a06", func := "loop.example/planargeometry/laws.FnExactMulRats", spec := "fnExactMulRats", apart := false, narrowed := true }
def FnExactMulRatsUptoSaid : Prop := fnExactMulRatsUptoRow.holds Try.pinned (OpenSpec.upto fnExactMulRatsSpec)

/-- 'laws.FnExactFloorRat', WHERE WHAT IT READS IS OF BULK AT MOST 1048576: true; the input reads as it did. -/
def fnExactFloorRatUptoRow : OpenClaim := { program := "ytfechmgkifjieab", sum := "ecbc5ed9522570e8ed2c9026bb182c15ffcc4dcc1f346fcdd9fb8712af605a06", func := "loop.example/planargeometry/laws.FnExactFloorRat", spec := "fnExactFloorRat", apart := false, narrowed := true }
def FnExactFloorRatUptoSaid : Prop := fnExactFloorRatUptoRow.holds Try.pinned (OpenSpec.upto fnExactFloorRatSpec)

end Rows
end Go.Proofs.Ytfechmgkifjieab
