/-
  No cell of these rows narrows 'for every input' (looked for: loops, veiled, ifaces, maps, wideKeys, modest, calm, conditions, laid).
  DERIVED. THE GIVEN ROWS OF THIS SEAT. 12 by the template 'for every input the law returns true; each argument reads behind the call as it read before'; 0 by the template 'total and deterministic' (their statements: YtoijfjifaljpaaaTotals.lean).
  GIVEN WITH THE SEED: the statements are not yours to turn. If you find one false, say at which input.
  Laid BY PROGRAM, IN A SANDBOX (cutbox-rows.mjs): the forced cells as the released guide's own fill.sh prints them over the translation fc1db85c928b6ab1… (all of the seat's roots in one cut). By AI agents, Wed Nov 11 2026. No macro, syntax, notation, axiom, sorry.
-/
import Derived.Test.YtoijfjifaljpaaaChecked
import GoSem.Claim
import GoSem.ClaimJoined
import GoSem.ClaimMapViews
import Derived.JoinedTies
import Derived.KernelRfl
namespace Go.Proofs.Ytoijfjifaljpaaa
/- THE CELL 'sum', in the pinned program and in every row, IS THE sha256 OF THE DUMP (.gsa) THAT YtoijfjifaljpaaaProg.lean LOADS. Nothing in Lean hashes anything: it is a label: what it is worth is what the hold of that sum in a sandbox is worth. -/
noncomputable def Try.pinned : Pinned := { name := "ytoijfjifaljpaaa", sum := "fc1db85c928b6ab14c948a3f093c9fc4a29d781c5b510921d61a993feeb0adf0", checked := Try.checked }
namespace Rows
def none {H : Type} : Left H := { results := [], args := [] }

/-- 'laws.FnExactValidGraph': WHATEVER THE INPUT: true; the input reads as it did. -/
def fnExactValidGraphSpec : ChangeSpec := { name := "fnExactValidGraph", fn := fun _ => fun
  | [d] => { results := [.lit (.bool true)], args := [d] }
  | _ => none }
def fnExactValidGraphRow : OpenClaim := { program := "ytoijfjifaljpaaa", sum := "fc1db85c928b6ab14c948a3f093c9fc4a29d781c5b510921d61a993feeb0adf0", func := "loop.example/planargeometry/laws.FnExactValidGraph", spec := "fnExactValidGraph", apart := false }
def FnExactValidGraphSaid : Prop := fnExactValidGraphRow.holds Try.pinned (OpenSpec.ofChange fnExactValidGraphSpec)

/-- ITS FALSE NEIGHBOUR: 'it returns false'. Refute it at one input. -/
def fnExactValidGraphWrong : ChangeSpec := { name := "fnExactValidGraph", fn := fun _ => fun
  | [d] => { results := [.lit (.bool false)], args := [d] }
  | _ => none }
def FnExactValidGraphWrongFalsely : Prop := fnExactValidGraphRow.holds Try.pinned (OpenSpec.ofChange fnExactValidGraphWrong)

/-- 'laws.FnExactDualGraph': WHATEVER THE INPUT: true; the input reads as it did. -/
def fnExactDualGraphSpec : ChangeSpec := { name := "fnExactDualGraph", fn := fun _ => fun
  | [d] => { results := [.lit (.bool true)], args := [d] }
  | _ => none }
def fnExactDualGraphRow : OpenClaim := { program := "ytoijfjifaljpaaa", sum := "fc1db85c928b6ab14c948a3f093c9fc4a29d781c5b510921d61a993feeb0adf0", func := "loop.example/planargeometry/laws.FnExactDualGraph", spec := "fnExactDualGraph", apart := false }
def FnExactDualGraphSaid : Prop := fnExactDualGraphRow.holds Try.pinned (OpenSpec.ofChange fnExactDualGraphSpec)

/-- ITS FALSE NEIGHBOUR: 'it returns false'. Refute it at one input. -/
def fnExactDualGraphWrong : ChangeSpec := { name := "fnExactDualGraph", fn := fun _ => fun
  | [d] => { results := [.lit (.bool false)], args := [d] }
  | _ => none }
def FnExactDualGraphWrongFalsely : Prop := fnExactDualGraphRow.holds Try.pinned (OpenSpec.ofChange fnExactDualGraphWrong)

/-- 'laws.FnExactDualPoint': WHATEVER THE INPUT: true; the input reads as it did. -/
def fnExactDualPointSpec : ChangeSpec := { name := "fnExactDualPoint", fn := fun _ => fun
  | [d] => { results := [.lit (.bool true)], args := [d] }
  | _ => none }
def fnExactDualPointRow : OpenClaim := { program := "ytoijfjifaljpaaa", sum := "fc1db85c928b6ab14c948a3f093c9fc4a29d781c5b510921d61a993feeb0adf0", func := "loop.example/planargeometry/laws.FnExactDualPoint", spec := "fnExactDualPoint", apart := false }
def FnExactDualPointSaid : Prop := fnExactDualPointRow.holds Try.pinned (OpenSpec.ofChange fnExactDualPointSpec)

/-- ITS FALSE NEIGHBOUR: 'it returns false'. Refute it at one input. -/
def fnExactDualPointWrong : ChangeSpec := { name := "fnExactDualPoint", fn := fun _ => fun
  | [d] => { results := [.lit (.bool false)], args := [d] }
  | _ => none }
def FnExactDualPointWrongFalsely : Prop := fnExactDualPointRow.holds Try.pinned (OpenSpec.ofChange fnExactDualPointWrong)

/-- 'laws.FnExactHeightOver': WHATEVER THE INPUT: true; the input reads as it did. -/
def fnExactHeightOverSpec : ChangeSpec := { name := "fnExactHeightOver", fn := fun _ => fun
  | [d1, d2] => { results := [.lit (.bool true)], args := [d1, d2] }
  | _ => none }
def fnExactHeightOverRow : OpenClaim := { program := "ytoijfjifaljpaaa", sum := "fc1db85c928b6ab14c948a3f093c9fc4a29d781c5b510921d61a993feeb0adf0", func := "loop.example/planargeometry/laws.FnExactHeightOver", spec := "fnExactHeightOver", apart := false }
def FnExactHeightOverSaid : Prop := fnExactHeightOverRow.holds Try.pinned (OpenSpec.ofChange fnExactHeightOverSpec)

/-- ITS FALSE NEIGHBOUR: 'it returns false'. Refute it at one input. -/
def fnExactHeightOverWrong : ChangeSpec := { name := "fnExactHeightOver", fn := fun _ => fun
  | [d1, d2] => { results := [.lit (.bool false)], args := [d1, d2] }
  | _ => none }
def FnExactHeightOverWrongFalsely : Prop := fnExactHeightOverRow.holds Try.pinned (OpenSpec.ofChange fnExactHeightOverWrong)

/-- 'laws.FnDual': WHATEVER THE INPUT: true; the input reads as it did. -/
def fnDualSpec : ChangeSpec := { name := "fnDual", fn := fun _ => fun
  | [d] => { results := [.lit (.bool true)], args := [d] }
  | _ => none }
def fnDualRow : OpenClaim := { program := "ytoijfjifaljpaaa", sum := "fc1db85c928b6ab14c948a3f093c9fc4a29d781c5b510921d61a993feeb0adf0", func := "loop.example/planargeometry/laws.FnDual", spec := "fnDual", apart := false }
def FnDualSaid : Prop := fnDualRow.holds Try.pinned (OpenSpec.ofChange fnDualSpec)

/-- ITS FALSE NEIGHBOUR: 'it returns false'. Refute it at one input. -/
def fnDualWrong : ChangeSpec := { name := "fnDual", fn := fun _ => fun
  | [d] => { results := [.lit (.bool false)], args := [d] }
  | _ => none }
def FnDualWrongFalsely : Prop := fnDualRow.holds Try.pinned (OpenSpec.ofChange fnDualWrong)

/-- 'laws.FnDualPoint': WHATEVER THE INPUT: true; the input reads as it did. -/
def fnDualPointSpec : ChangeSpec := { name := "fnDualPoint", fn := fun _ => fun
  | [d] => { results := [.lit (.bool true)], args := [d] }
  | _ => none }
def fnDualPointRow : OpenClaim := { program := "ytoijfjifaljpaaa", sum := "fc1db85c928b6ab14c948a3f093c9fc4a29d781c5b510921d61a993feeb0adf0", func := "loop.example/planargeometry/laws.FnDualPoint", spec := "fnDualPoint", apart := false }
def FnDualPointSaid : Prop := fnDualPointRow.holds Try.pinned (OpenSpec.ofChange fnDualPointSpec)

/-- ITS FALSE NEIGHBOUR: 'it returns false'. Refute it at one input. -/
def fnDualPointWrong : ChangeSpec := { name := "fnDualPoint", fn := fun _ => fun
  | [d] => { results := [.lit (.bool false)], args := [d] }
  | _ => none }
def FnDualPointWrongFalsely : Prop := fnDualPointRow.holds Try.pinned (OpenSpec.ofChange fnDualPointWrong)

/-- 'laws.FnDualOrder': WHATEVER THE INPUT: true; the input reads as it did. -/
def fnDualOrderSpec : ChangeSpec := { name := "fnDualOrder", fn := fun _ => fun
  | [d] => { results := [.lit (.bool true)], args := [d] }
  | _ => none }
def fnDualOrderRow : OpenClaim := { program := "ytoijfjifaljpaaa", sum := "fc1db85c928b6ab14c948a3f093c9fc4a29d781c5b510921d61a993feeb0adf0", func := "loop.example/planargeometry/laws.FnDualOrder", spec := "fnDualOrder", apart := false }
def FnDualOrderSaid : Prop := fnDualOrderRow.holds Try.pinned (OpenSpec.ofChange fnDualOrderSpec)

/-- ITS FALSE NEIGHBOUR: 'it returns false'. Refute it at one input. -/
def fnDualOrderWrong : ChangeSpec := { name := "fnDualOrder", fn := fun _ => fun
  | [d] => { results := [.lit (.bool false)], args := [d] }
  | _ => none }
def FnDualOrderWrongFalsely : Prop := fnDualOrderRow.holds Try.pinned (OpenSpec.ofChange fnDualOrderWrong)

/-- 'laws.FnHeightOver': WHATEVER THE INPUT: true; the input reads as it did. -/
def fnHeightOverSpec : ChangeSpec := { name := "fnHeightOver", fn := fun _ => fun
  | [d1, d2] => { results := [.lit (.bool true)], args := [d1, d2] }
  | _ => none }
def fnHeightOverRow : OpenClaim := { program := "ytoijfjifaljpaaa", sum := "fc1db85c928b6ab14c948a3f093c9fc4a29d781c5b510921d61a993feeb0adf0", func := "loop.example/planargeometry/laws.FnHeightOver", spec := "fnHeightOver", apart := false }
def FnHeightOverSaid : Prop := fnHeightOverRow.holds Try.pinned (OpenSpec.ofChange fnHeightOverSpec)

/-- ITS FALSE NEIGHBOUR: 'it returns false'. Refute it at one input. -/
def fnHeightOverWrong : ChangeSpec := { name := "fnHeightOver", fn := fun _ => fun
  | [d1, d2] => { results := [.lit (.bool false)], args := [d1, d2] }
  | _ => none }
def FnHeightOverWrongFalsely : Prop := fnHeightOverRow.holds Try.pinned (OpenSpec.ofChange fnHeightOverWrong)

/-- 'laws.FnExactCompareToSegment': WHATEVER THE INPUT: true; the input reads as it did. -/
def fnExactCompareToSegmentSpec : ChangeSpec := { name := "fnExactCompareToSegment", fn := fun _ => fun
  | [d1, d2, d3] => { results := [.lit (.bool true)], args := [d1, d2, d3] }
  | _ => none }
def fnExactCompareToSegmentRow : OpenClaim := { program := "ytoijfjifaljpaaa", sum := "fc1db85c928b6ab14c948a3f093c9fc4a29d781c5b510921d61a993feeb0adf0", func := "loop.example/planargeometry/laws.FnExactCompareToSegment", spec := "fnExactCompareToSegment", apart := false }
def FnExactCompareToSegmentSaid : Prop := fnExactCompareToSegmentRow.holds Try.pinned (OpenSpec.ofChange fnExactCompareToSegmentSpec)

/-- ITS FALSE NEIGHBOUR: 'it returns false'. Refute it at one input. -/
def fnExactCompareToSegmentWrong : ChangeSpec := { name := "fnExactCompareToSegment", fn := fun _ => fun
  | [d1, d2, d3] => { results := [.lit (.bool false)], args := [d1, d2, d3] }
  | _ => none }
def FnExactCompareToSegmentWrongFalsely : Prop := fnExactCompareToSegmentRow.holds Try.pinned (OpenSpec.ofChange fnExactCompareToSegmentWrong)

/-- 'laws.FnCompareToSegment': WHATEVER THE INPUT: true; the input reads as it did. -/
def fnCompareToSegmentSpec : ChangeSpec := { name := "fnCompareToSegment", fn := fun _ => fun
  | [d] => { results := [.lit (.bool true)], args := [d] }
  | _ => none }
def fnCompareToSegmentRow : OpenClaim := { program := "ytoijfjifaljpaaa", sum := "fc1db85c928b6ab14c948a3f093c9fc4a29d781c5b510921d61a993feeb0adf0", func := "loop.example/planargeometry/laws.FnCompareToSegment", spec := "fnCompareToSegment", apart := false }
def FnCompareToSegmentSaid : Prop := fnCompareToSegmentRow.holds Try.pinned (OpenSpec.ofChange fnCompareToSegmentSpec)

/-- ITS FALSE NEIGHBOUR: 'it returns false'. Refute it at one input. -/
def fnCompareToSegmentWrong : ChangeSpec := { name := "fnCompareToSegment", fn := fun _ => fun
  | [d] => { results := [.lit (.bool false)], args := [d] }
  | _ => none }
def FnCompareToSegmentWrongFalsely : Prop := fnCompareToSegmentRow.holds Try.pinned (OpenSpec.ofChange fnCompareToSegmentWrong)

/-- 'laws.FnMeetLines': WHATEVER THE INPUT: true; the input reads as it did. -/
def fnMeetLinesSpec : ChangeSpec := { name := "fnMeetLines", fn := fun _ => fun
  | [d] => { results := [.lit (.bool true)], args := [d] }
  | _ => none }
def fnMeetLinesRow : OpenClaim := { program := "ytoijfjifaljpaaa", sum := "fc1db85c928b6ab14c948a3f093c9fc4a29d781c5b510921d61a993feeb0adf0", func := "loop.example/planargeometry/laws.FnMeetLines", spec := "fnMeetLines", apart := false }
def FnMeetLinesSaid : Prop := fnMeetLinesRow.holds Try.pinned (OpenSpec.ofChange fnMeetLinesSpec)

/-- ITS FALSE NEIGHBOUR: 'it returns false'. Refute it at one input. -/
def fnMeetLinesWrong : ChangeSpec := { name := "fnMeetLines", fn := fun _ => fun
  | [d] => { results := [.lit (.bool false)], args := [d] }
  | _ => none }
def FnMeetLinesWrongFalsely : Prop := fnMeetLinesRow.holds Try.pinned (OpenSpec.ofChange fnMeetLinesWrong)

/-- 'laws.FnSideOfRat': WHATEVER THE INPUT: true; the input reads as it did. -/
def fnSideOfRatSpec : ChangeSpec := { name := "fnSideOfRat", fn := fun _ => fun
  | [d1, d2] => { results := [.lit (.bool true)], args := [d1, d2] }
  | _ => none }
def fnSideOfRatRow : OpenClaim := { program := "ytoijfjifaljpaaa", sum := "fc1db85c928b6ab14c948a3f093c9fc4a29d781c5b510921d61a993feeb0adf0", func := "loop.example/planargeometry/laws.FnSideOfRat", spec := "fnSideOfRat", apart := false }
def FnSideOfRatSaid : Prop := fnSideOfRatRow.holds Try.pinned (OpenSpec.ofChange fnSideOfRatSpec)

/-- ITS FALSE NEIGHBOUR: 'it returns false'. Refute it at one input. -/
def fnSideOfRatWrong : ChangeSpec := { name := "fnSideOfRat", fn := fun _ => fun
  | [d1, d2] => { results := [.lit (.bool false)], args := [d1, d2] }
  | _ => none }
def FnSideOfRatWrongFalsely : Prop := fnSideOfRatRow.holds Try.pinned (OpenSpec.ofChange fnSideOfRatWrong)

/- THE SECOND FORM. 'bulk': how many values and letters a reading holds, each counted each time it is reached (what is shared counts as often as it is met; a slice's spare places count too). A statement '..UptoSaid' is the law's where the arguments, and the package variables that the reading takes, are together of bulk at most 1048576: NARROWER than '..Said'. Prove '..Said' where nothing that the law and all that it calls make is longer than what came in: it says more and counts as full. Else prove '..UptoSaid'. A law counts once. -/
mutual
def uptoBulk {H : Type} : DataW H → Nat
  | .lit (.string bytes) => bytes.length + 1
  | .lit _ => 1
  | .nil => 1
  | .ptr d => uptoBulk d + 1
  | .slice elems spare => uptoBulkAll elems + uptoBulkAll spare + 1
  | .agg parts => uptoBulkAll parts + 1
  | .iface _ d => uptoBulk d + 1
  | .map entries => uptoBulkEntries entries + 1
  | .held _ => 1
def uptoBulkAll {H : Type} : List (DataW H) → Nat
  | [] => 0
  | d :: r => uptoBulk d + uptoBulkAll r
def uptoBulkEntries {H : Type} : List (Lit × DataW H) → Nat
  | [] => 0
  | x :: r => uptoBulkEntry x + uptoBulkEntries r
def uptoBulkEntry {H : Type} : Lit × DataW H → Nat
  | (.string bytes, d) => bytes.length + uptoBulk d + 1
  | (_, d) => uptoBulk d + 1
 end
def uptoSmall : (H : Type) → List (DataW H) → Bool := fun _ ds => decide (uptoBulkAll ds ≤ 1048576)
def OpenSpec.upto (s : _root_.Go.ChangeSpec) : _root_.Go.OpenSpec := { _root_.Go.OpenSpec.ofChange s with cond := some uptoSmall }

/-- 'laws.FnExactValidGraph', WHERE WHAT IT READS IS OF BULK AT MOST 1048576: true; the input reads as it did. -/
def fnExactValidGraphUptoRow : OpenClaim := { program := "ytoijfjifaljpaaa", sum := "fc1db85c928b6ab14c948a3f093c9fc4a29d781c5b510921d61a993feeb0adf0", func := "loop.example/planargeometry/laws.FnExactValidGraph", spec := "fnExactValidGraph", apart := false, narrowed := true }
def FnExactValidGraphUptoSaid : Prop := fnExactValidGraphUptoRow.holds Try.pinned (OpenSpec.upto fnExactValidGraphSpec)

/-- 'laws.FnExactDualGraph', WHERE WHAT IT READS IS OF BULK AT MOST 1048576: true; the input reads as it did. -/
def fnExactDualGraphUptoRow : OpenClaim := { program := "ytoijfjifaljpaaa", sum := "fc1db85c928b6ab14c948a3f093c9fc4a29d781c5b510921d61a993feeb0adf0", func := "loop.example/planargeometry/laws.FnExactDualGraph", spec := "fnExactDualGraph", apart := false, narrowed := true }
def FnExactDualGraphUptoSaid : Prop := fnExactDualGraphUptoRow.holds Try.pinned (OpenSpec.upto fnExactDualGraphSpec)

/-- 'laws.FnExactDualPoint', WHERE WHAT IT READS IS OF BULK AT MOST 1048576: true; the input reads as it did. -/
def fnExactDualPointUptoRow : OpenClaim := { program := "ytoijfjifaljpaaa", sum := "fc1db85c928b6ab14c948a3f093c9fc4a29d781c5b510921d61a993feeb0adf0", func := "loop.example/planargeometry/laws.FnExactDualPoint", spec := "fnExactDualPoint", apart := false, narrowed := true }
def FnExactDualPointUptoSaid : Prop := fnExactDualPointUptoRow.holds Try.pinned (OpenSpec.upto fnExactDualPointSpec)

/-- 'laws.FnExactHeightOver', WHERE WHAT IT READS IS OF BULK AT MOST 1048576: true; the input reads as it did. -/
def fnExactHeightOverUptoRow : OpenClaim := { program := "ytoijfjifaljpaaa", sum := "fc1db85c928b6ab14c948a3f093c9fc4a29d781c5b510921d61a993feeb0adf0", func := "loop.example/planargeometry/laws.FnExactHeightOver", spec := "fnExactHeightOver", apart := false, narrowed := true }
def FnExactHeightOverUptoSaid : Prop := fnExactHeightOverUptoRow.holds Try.pinned (OpenSpec.upto fnExactHeightOverSpec)

/-- 'laws.FnDual', WHERE WHAT IT READS IS OF BULK AT MOST 1048576: true; the input reads as it did. -/
def fnDualUptoRow : OpenClaim := { program := "ytoijfjifaljpaaa", sum := "fc1db85c928b6ab14c948a3f093c9fc4a29d781c5b510921d61a993feeb0adf0", func := "loop.example/planargeometry/laws.FnDual", spec := "fnDual", apart := false, narrowed := true }
def FnDualUptoSaid : Prop := fnDualUptoRow.holds Try.pinned (OpenSpec.upto fnDualSpec)

/-- 'laws.FnDualPoint', WHERE WHAT IT READS IS OF BULK AT MOST 1048576: true; the input reads as it did. -/
def fnDualPointUptoRow : OpenClaim := { program := "ytoijfjifaljpaaa", sum := "fc1db85c928b6ab14c948a3f093c9fc4a29d781c5b510921d61a993feeb0adf0", func := "loop.example/planargeometry/laws.FnDualPoint", spec := "fnDualPoint", apart := false, narrowed := true }
def FnDualPointUptoSaid : Prop := fnDualPointUptoRow.holds Try.pinned (OpenSpec.upto fnDualPointSpec)

/-- 'laws.FnDualOrder', WHERE WHAT IT READS IS OF BULK AT MOST 1048576: true; the input reads as it did. -/
def fnDualOrderUptoRow : OpenClaim := { program := "ytoijfjifaljpaaa", sum := "fc1db85c928b6ab14c948a3f093c9fc4a29d781c5b510921d61a993feeb0adf0", func := "loop.example/planargeometry/laws.FnDualOrder", spec := "fnDualOrder", apart := false, narrowed := true }
def FnDualOrderUptoSaid : Prop := fnDualOrderUptoRow.holds Try.pinned (OpenSpec.upto fnDualOrderSpec)

/-- 'laws.FnHeightOver', WHERE WHAT IT READS IS OF BULK AT MOST 1048576: true; the input reads as it did. -/
def fnHeightOverUptoRow : OpenClaim := { program := "ytoijfjifaljpaaa", sum := "fc1db85c928b6ab14c948a3f093c9fc4a29d781c5b510921d61a993feeb0adf0", func := "loop.example/planargeometry/laws.FnHeightOver", spec := "fnHeightOver", apart := false, narrowed := true }
def FnHeightOverUptoSaid : Prop := fnHeightOverUptoRow.holds Try.pinned (OpenSpec.upto fnHeightOverSpec)

/-- 'laws.FnExactCompareToSegment', WHERE WHAT IT READS IS OF BULK AT MOST 1048576: true; the input reads as it did. -/
def fnExactCompareToSegmentUptoRow : OpenClaim := { program := "ytoijfjifaljpaaa", sum := "fc1db85c928b6ab14c948a3f093c9fc4a29d781c5b510921d61a993feeb0adf0", func := "loop.example/planargeometry/laws.FnExactCompareToSegment", spec := "fnExactCompareToSegment", apart := false, narrowed := true }
def FnExactCompareToSegmentUptoSaid : Prop := fnExactCompareToSegmentUptoRow.holds Try.pinned (OpenSpec.upto fnExactCompareToSegmentSpec)

/-- 'laws.FnCompareToSegment', WHERE WHAT IT READS IS OF BULK AT MOST 1048576: true; the input reads as it did. -/
def fnCompareToSegmentUptoRow : OpenClaim := { program := "ytoijfjifaljpaaa", sum := "fc1db85c928b6ab14c948a3f093c9fc4a29d781c5b510921d61a993feeb0adf0", func := "loop.example/planargeometry/laws.FnCompareToSegment", spec := "fnCompareToSegment", apart := false, narrowed := true }
def FnCompareToSegmentUptoSaid : Prop := fnCompareToSegmentUptoRow.holds Try.pinned (OpenSpec.upto fnCompareToSegmentSpec)

/-- 'laws.FnMeetLines', WHERE WHAT IT READS IS OF BULK AT MOST 1048576: true; the input reads as it did. -/
def fnMeetLinesUptoRow : OpenClaim := { program := "ytoijfjifaljpaaa", sum := "fc1db85c928b6ab14c948a3f093c9fc4a29d781c5b510921d61a993feeb0adf0", func := "loop.example/planargeometry/laws.FnMeetLines", spec := "fnMeetLines", apart := false, narrowed := true }
def FnMeetLinesUptoSaid : Prop := fnMeetLinesUptoRow.holds Try.pinned (OpenSpec.upto fnMeetLinesSpec)

/-- 'laws.FnSideOfRat', WHERE WHAT IT READS IS OF BULK AT MOST 1048576: true; the input reads as it did. -/
def fnSideOfRatUptoRow : OpenClaim := { program := "ytoijfjifaljpaaa", sum := "fc1db85c928b6ab14c948a3f093c9fc4a29d781c5b510921d61a993feeb0adf0", func := "loop.example/planargeometry/laws.FnSideOfRat", spec := "fnSideOfRat", apart := false, narrowed := true }
def FnSideOfRatUptoSaid : Prop := fnSideOfRatUptoRow.holds Try.pinned (OpenSpec.upto fnSideOfRatSpec)

end Rows
end Go.Proofs.Ytoijfjifaljpaaa
