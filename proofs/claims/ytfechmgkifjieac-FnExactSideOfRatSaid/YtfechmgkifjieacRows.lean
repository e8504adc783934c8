/-
  No cell of these rows narrows 'for every input' (looked for: loops, veiled, ifaces, maps, wideKeys, modest, calm, conditions, laid).
  DERIVED. THE GIVEN ROWS OF THIS SEAT. 10 by the template 'for every input the law returns true; each argument reads behind the call as it read before'; 0 by the template 'total and deterministic' (their statements: YtfechmgkifjieacTotals.lean).
  GIVEN WITH THE SEED: the statements are not yours to turn. If you find one false, say at which input.
  Laid BY PROGRAM, IN A SANDBOX (cutbox-rows.mjs): the forced cells as the released guide's own fill.sh prints them over the translation f8bedc04594a06ab… (all of the seat's roots in one cut). By AI agents, Wed Nov 11 2026. No macro, syntax, notation, axiom, sorry.
-/
import Derived.Test.YtfechmgkifjieacChecked
import GoSem.Claim
import GoSem.ClaimJoined
import GoSem.ClaimMapViews
import Derived.JoinedTies
import Derived.KernelRfl
namespace Go.Proofs.Ytfechmgkifjieac
/- THE CELL 'sum', in the pinned program and in every row, IS THE sha256 OF THE DUMP (.gsa) THAT YtfechmgkifjieacProg.lean LOADS. Nothing in Lean hashes anything: it is a label: what it is worth is what the hold of that sum in a sandbox is worth. -/
noncomputable def Try.pinned : Pinned := { name := "ytfechmgkifjieac", sum := "f8bedc04594a06ab8a8154b16cff9af84b9a4d42a4d0ee5273c73ee5627fa129", checked := Try.checked }
namespace Rows
def none {H : Type} : Left H := { results := [], args := [] }

/-- 'laws.FnExactValidSegment': WHATEVER THE INPUT: true; the input reads as it did. -/
def fnExactValidSegmentSpec : ChangeSpec := { name := "fnExactValidSegment", fn := fun _ => fun
  | [d] => { results := [.lit (.bool true)], args := [d] }
  | _ => none }
def fnExactValidSegmentRow : OpenClaim := { program := "ytfechmgkifjieac", sum := "f8bedc04594a06ab8a8154b16cff9af84b9a4d42a4d0ee5273c73ee5627fa129", func := "loop.example/planargeometry/laws.FnExactValidSegment", spec := "fnExactValidSegment", apart := false }
def FnExactValidSegmentSaid : Prop := fnExactValidSegmentRow.holds Try.pinned (OpenSpec.ofChange fnExactValidSegmentSpec)

/-- ITS FALSE NEIGHBOUR: 'it returns false'. Refute it at one input. -/
def fnExactValidSegmentWrong : ChangeSpec := { name := "fnExactValidSegment", fn := fun _ => fun
  | [d] => { results := [.lit (.bool false)], args := [d] }
  | _ => none }
def FnExactValidSegmentWrongFalsely : Prop := fnExactValidSegmentRow.holds Try.pinned (OpenSpec.ofChange fnExactValidSegmentWrong)

/-- 'laws.FnExactOnSegment': WHATEVER THE INPUT: true; the input reads as it did. -/
def fnExactOnSegmentSpec : ChangeSpec := { name := "fnExactOnSegment", fn := fun _ => fun
  | [d1, d2] => { results := [.lit (.bool true)], args := [d1, d2] }
  | _ => none }
def fnExactOnSegmentRow : OpenClaim := { program := "ytfechmgkifjieac", sum := "f8bedc04594a06ab8a8154b16cff9af84b9a4d42a4d0ee5273c73ee5627fa129", func := "loop.example/planargeometry/laws.FnExactOnSegment", spec := "fnExactOnSegment", apart := false }
def FnExactOnSegmentSaid : Prop := fnExactOnSegmentRow.holds Try.pinned (OpenSpec.ofChange fnExactOnSegmentSpec)

/-- ITS FALSE NEIGHBOUR: 'it returns false'. Refute it at one input. -/
def fnExactOnSegmentWrong : ChangeSpec := { name := "fnExactOnSegment", fn := fun _ => fun
  | [d1, d2] => { results := [.lit (.bool false)], args := [d1, d2] }
  | _ => none }
def FnExactOnSegmentWrongFalsely : Prop := fnExactOnSegmentRow.holds Try.pinned (OpenSpec.ofChange fnExactOnSegmentWrong)

/-- 'laws.FnExactRelation': WHATEVER THE INPUT: true; the input reads as it did. -/
def fnExactRelationSpec : ChangeSpec := { name := "fnExactRelation", fn := fun _ => fun
  | [d1, d2] => { results := [.lit (.bool true)], args := [d1, d2] }
  | _ => none }
def fnExactRelationRow : OpenClaim := { program := "ytfechmgkifjieac", sum := "f8bedc04594a06ab8a8154b16cff9af84b9a4d42a4d0ee5273c73ee5627fa129", func := "loop.example/planargeometry/laws.FnExactRelation", spec := "fnExactRelation", apart := false }
def FnExactRelationSaid : Prop := fnExactRelationRow.holds Try.pinned (OpenSpec.ofChange fnExactRelationSpec)

/-- ITS FALSE NEIGHBOUR: 'it returns false'. Refute it at one input. -/
def fnExactRelationWrong : ChangeSpec := { name := "fnExactRelation", fn := fun _ => fun
  | [d1, d2] => { results := [.lit (.bool false)], args := [d1, d2] }
  | _ => none }
def FnExactRelationWrongFalsely : Prop := fnExactRelationRow.holds Try.pinned (OpenSpec.ofChange fnExactRelationWrong)

/-- 'laws.FnExactMeetPoint': WHATEVER THE INPUT: true; the input reads as it did. -/
def fnExactMeetPointSpec : ChangeSpec := { name := "fnExactMeetPoint", fn := fun _ => fun
  | [d1, d2] => { results := [.lit (.bool true)], args := [d1, d2] }
  | _ => none }
def fnExactMeetPointRow : OpenClaim := { program := "ytfechmgkifjieac", sum := "f8bedc04594a06ab8a8154b16cff9af84b9a4d42a4d0ee5273c73ee5627fa129", func := "loop.example/planargeometry/laws.FnExactMeetPoint", spec := "fnExactMeetPoint", apart := false }
def FnExactMeetPointSaid : Prop := fnExactMeetPointRow.holds Try.pinned (OpenSpec.ofChange fnExactMeetPointSpec)

/-- ITS FALSE NEIGHBOUR: 'it returns false'. Refute it at one input. -/
def fnExactMeetPointWrong : ChangeSpec := { name := "fnExactMeetPoint", fn := fun _ => fun
  | [d1, d2] => { results := [.lit (.bool false)], args := [d1, d2] }
  | _ => none }
def FnExactMeetPointWrongFalsely : Prop := fnExactMeetPointRow.holds Try.pinned (OpenSpec.ofChange fnExactMeetPointWrong)

/-- 'laws.FnExactCompareToSegment': WHATEVER THE INPUT: true; the input reads as it did. -/
def fnExactCompareToSegmentSpec : ChangeSpec := { name := "fnExactCompareToSegment", fn := fun _ => fun
  | [d1, d2, d3] => { results := [.lit (.bool true)], args := [d1, d2, d3] }
  | _ => none }
def fnExactCompareToSegmentRow : OpenClaim := { program := "ytfechmgkifjieac", sum := "f8bedc04594a06ab8a8154b16cff9af84b9a4d42a4d0ee5273c73ee5627fa129", func := "loop.example/planargeometry/laws.FnExactCompareToSegment", spec := "fnExactCompareToSegment", apart := false }
def FnExactCompareToSegmentSaid : Prop := fnExactCompareToSegmentRow.holds Try.pinned (OpenSpec.ofChange fnExactCompareToSegmentSpec)

/-- ITS FALSE NEIGHBOUR: 'it returns false'. Refute it at one input. -/
def fnExactCompareToSegmentWrong : ChangeSpec := { name := "fnExactCompareToSegment", fn := fun _ => fun
  | [d1, d2, d3] => { results := [.lit (.bool false)], args := [d1, d2, d3] }
  | _ => none }
def FnExactCompareToSegmentWrongFalsely : Prop := fnExactCompareToSegmentRow.holds Try.pinned (OpenSpec.ofChange fnExactCompareToSegmentWrong)

/-- 'laws.FnExactValidLine': WHATEVER THE INPUT: true; the input reads as it did. -/
def fnExactValidLineSpec : ChangeSpec := { name := "fnExactValidLine", fn := fun _ => fun
  | [d] => { results := [.lit (.bool true)], args := [d] }
  | _ => none }
def fnExactValidLineRow : OpenClaim := { program := "ytfechmgkifjieac", sum := "f8bedc04594a06ab8a8154b16cff9af84b9a4d42a4d0ee5273c73ee5627fa129", func := "loop.example/planargeometry/laws.FnExactValidLine", spec := "fnExactValidLine", apart := false }
def FnExactValidLineSaid : Prop := fnExactValidLineRow.holds Try.pinned (OpenSpec.ofChange fnExactValidLineSpec)

/-- ITS FALSE NEIGHBOUR: 'it returns false'. Refute it at one input. -/
def fnExactValidLineWrong : ChangeSpec := { name := "fnExactValidLine", fn := fun _ => fun
  | [d] => { results := [.lit (.bool false)], args := [d] }
  | _ => none }
def FnExactValidLineWrongFalsely : Prop := fnExactValidLineRow.holds Try.pinned (OpenSpec.ofChange fnExactValidLineWrong)

/-- 'laws.FnExactLineThrough': WHATEVER THE INPUT: true; the input reads as it did. -/
def fnExactLineThroughSpec : ChangeSpec := { name := "fnExactLineThrough", fn := fun _ => fun
  | [d1, d2] => { results := [.lit (.bool true)], args := [d1, d2] }
  | _ => none }
def fnExactLineThroughRow : OpenClaim := { program := "ytfechmgkifjieac", sum := "f8bedc04594a06ab8a8154b16cff9af84b9a4d42a4d0ee5273c73ee5627fa129", func := "loop.example/planargeometry/laws.FnExactLineThrough", spec := "fnExactLineThrough", apart := false }
def FnExactLineThroughSaid : Prop := fnExactLineThroughRow.holds Try.pinned (OpenSpec.ofChange fnExactLineThroughSpec)

/-- ITS FALSE NEIGHBOUR: 'it returns false'. Refute it at one input. -/
def fnExactLineThroughWrong : ChangeSpec := { name := "fnExactLineThrough", fn := fun _ => fun
  | [d1, d2] => { results := [.lit (.bool false)], args := [d1, d2] }
  | _ => none }
def FnExactLineThroughWrongFalsely : Prop := fnExactLineThroughRow.holds Try.pinned (OpenSpec.ofChange fnExactLineThroughWrong)

/-- 'laws.FnExactSideOf': WHATEVER THE INPUT: true; the input reads as it did. -/
def fnExactSideOfSpec : ChangeSpec := { name := "fnExactSideOf", fn := fun _ => fun
  | [d1, d2] => { results := [.lit (.bool true)], args := [d1, d2] }
  | _ => none }
def fnExactSideOfRow : OpenClaim := { program := "ytfechmgkifjieac", sum := "f8bedc04594a06ab8a8154b16cff9af84b9a4d42a4d0ee5273c73ee5627fa129", func := "loop.example/planargeometry/laws.FnExactSideOf", spec := "fnExactSideOf", apart := false }
def FnExactSideOfSaid : Prop := fnExactSideOfRow.holds Try.pinned (OpenSpec.ofChange fnExactSideOfSpec)

/-- ITS FALSE NEIGHBOUR: 'it returns false'. Refute it at one input. -/
def fnExactSideOfWrong : ChangeSpec := { name := "fnExactSideOf", fn := fun _ => fun
  | [d1, d2] => { results := [.lit (.bool false)], args := [d1, d2] }
  | _ => none }
def FnExactSideOfWrongFalsely : Prop := fnExactSideOfRow.holds Try.pinned (OpenSpec.ofChange fnExactSideOfWrong)

/-- 'laws.FnExactMeetLines': WHATEVER THE INPUT: true; the input reads as it did. -/
def fnExactMeetLinesSpec : ChangeSpec := { name := "fnExactMeetLines", fn := fun _ => fun
  | [d1, d2] => { results := [.lit (.bool true)], args := [d1, d2] }
  | _ => none }
def fnExactMeetLinesRow : OpenClaim := { program := "ytfechmgkifjieac", sum := "f8bedc04594a06ab8a8154b16cff9af84b9a4d42a4d0ee5273c73ee5627fa129", func := "loop.example/planargeometry/laws.FnExactMeetLines", spec := "fnExactMeetLines", apart := false }
def FnExactMeetLinesSaid : Prop := fnExactMeetLinesRow.holds Try.pinned (OpenSpec.ofChange fnExactMeetLinesSpec)

/-- ITS FALSE NEIGHBOUR: 'it returns false'. Refute it at one input. -/
def fnExactMeetLinesWrong : ChangeSpec := { name := "fnExactMeetLines", fn := fun _ => fun
  | [d1, d2] => { results := [.lit (.bool false)], args := [d1, d2] }
  | _ => none }
def FnExactMeetLinesWrongFalsely : Prop := fnExactMeetLinesRow.holds Try.pinned (OpenSpec.ofChange fnExactMeetLinesWrong)

/-- 'laws.FnExactSideOfRat': WHATEVER THE INPUT: true; the input reads as it did. -/
def fnExactSideOfRatSpec : ChangeSpec := { name := "fnExactSideOfRat", fn := fun _ => fun
  | [d1, d2] => { results := [.lit (.bool true)], args := [d1, d2] }
  | _ => none }
def fnExactSideOfRatRow : OpenClaim := { program := "ytfechmgkifjieac", sum := "f8bedc04594a06ab8a8154b16cff9af84b9a4d42a4d0ee5273c73ee5627fa129", func := "loop.example/planargeometry/laws.FnExactSideOfRat", spec := "fnExactSideOfRat", apart := false }
def FnExactSideOfRatSaid : Prop := fnExactSideOfRatRow.holds Try.pinned (OpenSpec.ofChange fnExactSideOfRatSpec)

/-- ITS FALSE NEIGHBOUR: 'it returns false'. Refute it at one input. -/
def fnExactSideOfRatWrong : ChangeSpec := { name := "fnExactSideOfRat", fn := fun _ => fun
  | [d1, d2] => { results := [.lit (.bool false)], args := [d1, d2] }
  | _ => none }
def FnExactSideOfRatWrongFalsely : Prop := fnExactSideOfRatRow.holds Try.pinned (OpenSpec.ofChange fnExactSideOfRatWrong)

/- THE SECOND FORM. 'bulk': how many values and letters a reading holds, each counted each time it is reached (what is shared counts as often as it is met; a slice's spare places count too). A statement '..UptoSaid' is the law's where the arguments, and the package variables that the reading takes, are together of bulk at most 1048576: NARROWER than '..Said'. Prove '..Said' where nothing that the law and all that it calls make is longer than what came in: it says more and counts as full. Else prove '..UptoSaid'. A law counts once. -/
mutual
def uptoBulk {H : Type} : DataW H → Nat
  | .lit (.string bytes) => bytes.length + 1
  | .lit _ => 1
  | .nil => 1
  | .ptr d => uptoBulk d + 1
  | .slice elems spare => uptoBulkAll elems + uptoBulkAll spare + 1
  | .agg parts => uptoBulkAll parts + 1
  | .iface _ d => uptoBulk d + 1
  | .map entries => uptoBulkEntries entries + 1
  | .held _ => 1
def uptoBulkAll {H : Type} : List (DataW H) → Nat
  | [] => 0
  | d :: r => uptoBulk d + uptoBulkAll r
def uptoBulkEntries {H : Type} : List (Lit × DataW H) → Nat
  | [] => 0
  | x :: r => uptoBulkEntry x + uptoBulkEntries r
def uptoBulkEntry {H : Type} : Lit × DataW H → Nat
  | (.string bytes, d) => bytes.length + uptoBulk d + 1
  | (_, d) => uptoBulk d + 1
 end
def uptoSmall : (H : Type) → List (DataW H) → Bool := fun _ ds => decide (uptoBulkAll ds ≤ 1048576)
def OpenSpec.upto (s : _root_.Go.ChangeSpec) : _root_.Go.OpenSpec := { _root_.Go.OpenSpec.ofChange s with cond := some uptoSmall }

/-- 'laws.FnExactValidSegment', WHERE WHAT IT READS IS OF BULK AT MOST 1048576: true; the input reads as it did. -/
def fnExactValidSegmentUptoRow : OpenClaim := { program := "ytfechmgkifjieac", sum := "f8bedc04594a06ab8a8154b16cff9af84b9a4d42a4d0ee5273c73ee5627fa129", func := "loop.example/planargeometry/laws.FnExactValidSegment", spec := "fnExactValidSegment", apart := false, narrowed := true }
def FnExactValidSegmentUptoSaid : Prop := fnExactValidSegmentUptoRow.holds Try.pinned (OpenSpec.upto fnExactValidSegmentSpec)

/-- 'laws.FnExactOnSegment', WHERE WHAT IT READS IS OF BULK AT MOST 1048576: true; the input reads as it did. -/
def fnExactOnSegmentUptoRow : OpenClaim := { program := "ytfechmgkifjieac", sum := "f8bedc04594a06ab8a8154b16cff9af84b9a4d42a4d0ee5273c73ee5627fa129", func := "loop.example/planargeometry/laws.FnExactOnSegment", spec := "fnExactOnSegment", apart := false, narrowed := true }
def FnExactOnSegmentUptoSaid : Prop := fnExactOnSegmentUptoRow.holds Try.pinned (OpenSpec.upto fnExactOnSegmentSpec)

/-- 'laws.FnExactRelation', WHERE WHAT IT READS IS OF BULK AT MOST 1048576: true; the input reads as it did. -/
def fnExactRelationUptoRow : OpenClaim := { program := "ytfechmgkifjieac", sum := "f8bedc04594a06ab8a8154b16cff9af84b9a4d42a4d0ee5273c73ee5627fa129", func := "loop.example/planargeometry/laws.FnExactRelation", spec := "fnExactRelation", apart := false, narrowed := true }
def FnExactRelationUptoSaid : Prop := fnExactRelationUptoRow.holds Try.pinned (OpenSpec.upto fnExactRelationSpec)

/-- 'laws.FnExactMeetPoint', WHERE WHAT IT READS IS OF BULK AT MOST 1048576: true; the input reads as it did. -/
def fnExactMeetPointUptoRow : OpenClaim := { program := "ytfechmgkifjieac", sum := "f8bedc04594a06ab8a8154b16cff9af84b9a4d42a4d0ee5273c73ee5627fa129", func := "loop.example/planargeometry/laws.FnExactMeetPoint", spec := "fnExactMeetPoint", apart := false, narrowed := true }
def FnExactMeetPointUptoSaid : Prop := fnExactMeetPointUptoRow.holds Try.pinned (OpenSpec.upto fnExactMeetPointSpec)

/-- 'laws.FnExactCompareToSegment', WHERE WHAT IT READS IS OF BULK AT MOST 1048576: true; the input reads as it did. -/
def fnExactCompareToSegmentUptoRow : OpenClaim := { program := "ytfechmgkifjieac", sum := "f8bedc04594a06ab8a8154b16cff9af84b9a4d42a4d0ee5273c73ee5627fa129", func := "loop.example/planargeometry/laws.FnExactCompareToSegment", spec := "fnExactCompareToSegment", apart := false, narrowed := true }
def FnExactCompareToSegmentUptoSaid : Prop := fnExactCompareToSegmentUptoRow.holds Try.pinned (OpenSpec.upto fnExactCompareToSegmentSpec)

/-- 'laws.FnExactValidLine', WHERE WHAT IT READS IS OF BULK AT MOST 1048576: true; the input reads as it did. -/
def fnExactValidLineUptoRow : OpenClaim := { program := "ytfechmgkifjieac", sum := "f8bedc04594a06ab8a8154b16cff9af84b9a4d42a4d0ee5273c73ee5627fa129", func := "loop.example/planargeometry/laws.FnExactValidLine", spec := "fnExactValidLine", apart := false, narrowed := true }
def FnExactValidLineUptoSaid : Prop := fnExactValidLineUptoRow.holds Try.pinned (OpenSpec.upto fnExactValidLineSpec)

/-- 'laws.FnExactLineThrough', WHERE WHAT IT READS IS OF BULK AT MOST 1048576: true; the input reads as it did. -/
def fnExactLineThroughUptoRow : OpenClaim := { program := "ytfechmgkifjieac", sum := "f8bedc04594a06ab8a8154b16cff9af84b9a4d42a4d0ee5273c73ee5627fa129", func := "loop.example/planargeometry/laws.FnExactLineThrough", spec := "fnExactLineThrough", apart := false, narrowed := true }
def FnExactLineThroughUptoSaid : Prop := fnExactLineThroughUptoRow.holds Try.pinned (OpenSpec.upto fnExactLineThroughSpec)

/-- 'laws.FnExactSideOf', WHERE WHAT IT READS IS OF BULK AT MOST 1048576: true; the input reads as it did. -/
def fnExactSideOfUptoRow : OpenClaim := { program := "ytfechmgkifjieac", sum := "f8bedc04594a06ab8a8154b16cff9af84b9a4d42a4d0ee5273c73ee5627fa129", func := "loop.example/planargeometry/laws.FnExactSideOf", spec := "fnExactSideOf", apart := false, narrowed := true }
def FnExactSideOfUptoSaid : Prop := fnExactSideOfUptoRow.holds Try.pinned (OpenSpec.upto fnExactSideOfSpec)

/-- 'laws.FnExactMeetLines', WHERE WHAT IT READS IS OF BULK AT MOST 1048576: true; the input reads as it did. -/
def fnExactMeetLinesUptoRow : OpenClaim := { program := "ytfechmgkifjieac", sum := "f8bedc04594a06ab8a8154b16cff9af84b9a4d42a4d0ee5273c73ee5627fa129", func := "loop.example/planargeometry/laws.FnExactMeetLines", spec := "fnExactMeetLines", apart := false, narrowed := true }
def FnExactMeetLinesUptoSaid : Prop := fnExactMeetLinesUptoRow.holds Try.pinned (OpenSpec.upto fnExactMeetLinesSpec)

/-- 'laws.FnExactSideOfRat', WHERE WHAT IT READS IS OF BULK AT MOST 1048576: true; the input reads as it did. -/
def fnExactSideOfRatUptoRow : OpenClaim := { program := "ytfechmgkifjieac", sum := "f8bedc04594a06ab8a8154b16cff9af84b9a4d42a4d0ee5273c73ee5627fa129", func := "loop.example/planargeometry/laws.FnExactSideOfRat", spec := "fnExactSideOfRat", apart := false, narrowed := true }
def FnExactSideOfRatUptoSaid : Prop := fnExactSideOfRatUptoRow.holds Try.pinned (OpenSpec.upto fnExactSideOfRatSpec)

end Rows
end Go.Proofs.Ytfechmgkifjieac
