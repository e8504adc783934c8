/-
  No cell of these rows narrows 'for every input' (looked for: loops, veiled, ifaces, maps, wideKeys, modest, calm, conditions, laid).
  DERIVED. THE GIVEN ROWS OF THIS SEAT. 10 by the template 'for every input the law returns true; each argument reads behind the call as it read before'; 0 by the template 'total and deterministic' (their statements: YtoleenohcidegaaTotals.lean).
  GIVEN WITH THE SEED: the statements are not yours to turn. If you find one false, say at which input.
  Laid BY PROGRAM, IN A SANDBOX (cutbox-rows.mjs): the forced cells as the released guide's own fill.sh prints them over the translation 0c225bdb3074c4ba… (all of the seat's roots in one cut). By AI agents, Wed Nov 11 2026. No macro, syntax, notation, axiom, sorry.
-/
import Derived.Test.YtoleenohcidegaaChecked
import GoSem.Claim
import GoSem.ClaimJoined
import GoSem.ClaimMapViews
import Derived.JoinedTies
import Derived.KernelRfl
namespace Go.Proofs.Ytoleenohcidegaa
/- THE CELL 'sum', in the pinned program and in every row, IS THE sha256 OF THE DUMP (.gsa) THAT YtoleenohcidegaaProg.lean LOADS. Nothing in Lean hashes anything: it is a label: what it is worth is what the hold of that sum in a sandbox is worth. -/
noncomputable def Try.pinned : Pinned := { name := "ytoleenohcidegaa", sum := "0c225bdb3074c4ba8438a6506153d92f2e80884e7b419411476e0658ad7a5175", checked := Try.checked }
namespace Rows
def none {H : Type} : Left H := { results := [], args := [] }

/-- 'laws.FnMakeRat': WHATEVER THE INPUT: true; the input reads as it did. -/
def fnMakeRatSpec : ChangeSpec := { name := "fnMakeRat", fn := fun _ => fun
  | [d] => { results := [.lit (.bool true)], args := [d] }
  | _ => none }
def fnMakeRatRow : OpenClaim := { program := "ytoleenohcidegaa", sum := "0c225bdb3074c4ba8438a6506153d92f2e80884e7b419411476e0658ad7a5175", func := "loop.example/planargeometry/laws.FnMakeRat", spec := "fnMakeRat", apart := false }
def FnMakeRatSaid : Prop := fnMakeRatRow.holds Try.pinned (OpenSpec.ofChange fnMakeRatSpec)

/-- ITS FALSE NEIGHBOUR: 'it returns false'. Refute it at one input. -/
def fnMakeRatWrong : ChangeSpec := { name := "fnMakeRat", fn := fun _ => fun
  | [d] => { results := [.lit (.bool false)], args := [d] }
  | _ => none }
def FnMakeRatWrongFalsely : Prop := fnMakeRatRow.holds Try.pinned (OpenSpec.ofChange fnMakeRatWrong)

/-- 'laws.FnSubtractRats': WHATEVER THE INPUT: true; the input reads as it did. -/
def fnSubtractRatsSpec : ChangeSpec := { name := "fnSubtractRats", fn := fun _ => fun
  | [d] => { results := [.lit (.bool true)], args := [d] }
  | _ => none }
def fnSubtractRatsRow : OpenClaim := { program := "ytoleenohcidegaa", sum := "0c225bdb3074c4ba8438a6506153d92f2e80884e7b419411476e0658ad7a5175", func := "loop.example/planargeometry/laws.FnSubtractRats", spec := "fnSubtractRats", apart := false }
def FnSubtractRatsSaid : Prop := fnSubtractRatsRow.holds Try.pinned (OpenSpec.ofChange fnSubtractRatsSpec)

/-- ITS FALSE NEIGHBOUR: 'it returns false'. Refute it at one input. -/
def fnSubtractRatsWrong : ChangeSpec := { name := "fnSubtractRats", fn := fun _ => fun
  | [d] => { results := [.lit (.bool false)], args := [d] }
  | _ => none }
def FnSubtractRatsWrongFalsely : Prop := fnSubtractRatsRow.holds Try.pinned (OpenSpec.ofChange fnSubtractRatsWrong)

/-- 'laws.FnDistribute': WHATEVER THE INPUT: true; the input reads as it did. -/
def fnDistributeSpec : ChangeSpec := { name := "fnDistribute", fn := fun _ => fun
  | [d1, d2] => { results := [.lit (.bool true)], args := [d1, d2] }
  | _ => none }
def fnDistributeRow : OpenClaim := { program := "ytoleenohcidegaa", sum := "0c225bdb3074c4ba8438a6506153d92f2e80884e7b419411476e0658ad7a5175", func := "loop.example/planargeometry/laws.FnDistribute", spec := "fnDistribute", apart := false }
def FnDistributeSaid : Prop := fnDistributeRow.holds Try.pinned (OpenSpec.ofChange fnDistributeSpec)

/-- ITS FALSE NEIGHBOUR: 'it returns false'. Refute it at one input. -/
def fnDistributeWrong : ChangeSpec := { name := "fnDistribute", fn := fun _ => fun
  | [d1, d2] => { results := [.lit (.bool false)], args := [d1, d2] }
  | _ => none }
def FnDistributeWrongFalsely : Prop := fnDistributeRow.holds Try.pinned (OpenSpec.ofChange fnDistributeWrong)

/-- 'laws.FnFloorShift': WHATEVER THE INPUT: true; the input reads as it did. -/
def fnFloorShiftSpec : ChangeSpec := { name := "fnFloorShift", fn := fun _ => fun
  | [d] => { results := [.lit (.bool true)], args := [d] }
  | _ => none }
def fnFloorShiftRow : OpenClaim := { program := "ytoleenohcidegaa", sum := "0c225bdb3074c4ba8438a6506153d92f2e80884e7b419411476e0658ad7a5175", func := "loop.example/planargeometry/laws.FnFloorShift", spec := "fnFloorShift", apart := false }
def FnFloorShiftSaid : Prop := fnFloorShiftRow.holds Try.pinned (OpenSpec.ofChange fnFloorShiftSpec)

/-- ITS FALSE NEIGHBOUR: 'it returns false'. Refute it at one input. -/
def fnFloorShiftWrong : ChangeSpec := { name := "fnFloorShift", fn := fun _ => fun
  | [d] => { results := [.lit (.bool false)], args := [d] }
  | _ => none }
def FnFloorShiftWrongFalsely : Prop := fnFloorShiftRow.holds Try.pinned (OpenSpec.ofChange fnFloorShiftWrong)

/-- 'laws.FnCompareToSegment': WHATEVER THE INPUT: true; the input reads as it did. -/
def fnCompareToSegmentSpec : ChangeSpec := { name := "fnCompareToSegment", fn := fun _ => fun
  | [d] => { results := [.lit (.bool true)], args := [d] }
  | _ => none }
def fnCompareToSegmentRow : OpenClaim := { program := "ytoleenohcidegaa", sum := "0c225bdb3074c4ba8438a6506153d92f2e80884e7b419411476e0658ad7a5175", func := "loop.example/planargeometry/laws.FnCompareToSegment", spec := "fnCompareToSegment", apart := false }
def FnCompareToSegmentSaid : Prop := fnCompareToSegmentRow.holds Try.pinned (OpenSpec.ofChange fnCompareToSegmentSpec)

/-- ITS FALSE NEIGHBOUR: 'it returns false'. Refute it at one input. -/
def fnCompareToSegmentWrong : ChangeSpec := { name := "fnCompareToSegment", fn := fun _ => fun
  | [d] => { results := [.lit (.bool false)], args := [d] }
  | _ => none }
def FnCompareToSegmentWrongFalsely : Prop := fnCompareToSegmentRow.holds Try.pinned (OpenSpec.ofChange fnCompareToSegmentWrong)

/-- 'laws.FnSegmentLine': WHATEVER THE INPUT: true; the input reads as it did. -/
def fnSegmentLineSpec : ChangeSpec := { name := "fnSegmentLine", fn := fun _ => fun
  | [d] => { results := [.lit (.bool true)], args := [d] }
  | _ => none }
def fnSegmentLineRow : OpenClaim := { program := "ytoleenohcidegaa", sum := "0c225bdb3074c4ba8438a6506153d92f2e80884e7b419411476e0658ad7a5175", func := "loop.example/planargeometry/laws.FnSegmentLine", spec := "fnSegmentLine", apart := false }
def FnSegmentLineSaid : Prop := fnSegmentLineRow.holds Try.pinned (OpenSpec.ofChange fnSegmentLineSpec)

/-- ITS FALSE NEIGHBOUR: 'it returns false'. Refute it at one input. -/
def fnSegmentLineWrong : ChangeSpec := { name := "fnSegmentLine", fn := fun _ => fun
  | [d] => { results := [.lit (.bool false)], args := [d] }
  | _ => none }
def FnSegmentLineWrongFalsely : Prop := fnSegmentLineRow.holds Try.pinned (OpenSpec.ofChange fnSegmentLineWrong)

/-- 'laws.FnMeetLines': WHATEVER THE INPUT: true; the input reads as it did. -/
def fnMeetLinesSpec : ChangeSpec := { name := "fnMeetLines", fn := fun _ => fun
  | [d] => { results := [.lit (.bool true)], args := [d] }
  | _ => none }
def fnMeetLinesRow : OpenClaim := { program := "ytoleenohcidegaa", sum := "0c225bdb3074c4ba8438a6506153d92f2e80884e7b419411476e0658ad7a5175", func := "loop.example/planargeometry/laws.FnMeetLines", spec := "fnMeetLines", apart := false }
def FnMeetLinesSaid : Prop := fnMeetLinesRow.holds Try.pinned (OpenSpec.ofChange fnMeetLinesSpec)

/-- ITS FALSE NEIGHBOUR: 'it returns false'. Refute it at one input. -/
def fnMeetLinesWrong : ChangeSpec := { name := "fnMeetLines", fn := fun _ => fun
  | [d] => { results := [.lit (.bool false)], args := [d] }
  | _ => none }
def FnMeetLinesWrongFalsely : Prop := fnMeetLinesRow.holds Try.pinned (OpenSpec.ofChange fnMeetLinesWrong)

/-- 'laws.FnSideOfRat': WHATEVER THE INPUT: true; the input reads as it did. -/
def fnSideOfRatSpec : ChangeSpec := { name := "fnSideOfRat", fn := fun _ => fun
  | [d1, d2] => { results := [.lit (.bool true)], args := [d1, d2] }
  | _ => none }
def fnSideOfRatRow : OpenClaim := { program := "ytoleenohcidegaa", sum := "0c225bdb3074c4ba8438a6506153d92f2e80884e7b419411476e0658ad7a5175", func := "loop.example/planargeometry/laws.FnSideOfRat", spec := "fnSideOfRat", apart := false }
def FnSideOfRatSaid : Prop := fnSideOfRatRow.holds Try.pinned (OpenSpec.ofChange fnSideOfRatSpec)

/-- ITS FALSE NEIGHBOUR: 'it returns false'. Refute it at one input. -/
def fnSideOfRatWrong : ChangeSpec := { name := "fnSideOfRat", fn := fun _ => fun
  | [d1, d2] => { results := [.lit (.bool false)], args := [d1, d2] }
  | _ => none }
def FnSideOfRatWrongFalsely : Prop := fnSideOfRatRow.holds Try.pinned (OpenSpec.ofChange fnSideOfRatWrong)

/-- 'laws.FnCountWithin': WHATEVER THE INPUT: true; the input reads as it did. -/
def fnCountWithinSpec : ChangeSpec := { name := "fnCountWithin", fn := fun _ => fun
  | [d1, d2] => { results := [.lit (.bool true)], args := [d1, d2] }
  | _ => none }
def fnCountWithinRow : OpenClaim := { program := "ytoleenohcidegaa", sum := "0c225bdb3074c4ba8438a6506153d92f2e80884e7b419411476e0658ad7a5175", func := "loop.example/planargeometry/laws.FnCountWithin", spec := "fnCountWithin", apart := false }
def FnCountWithinSaid : Prop := fnCountWithinRow.holds Try.pinned (OpenSpec.ofChange fnCountWithinSpec)

/-- ITS FALSE NEIGHBOUR: 'it returns false'. Refute it at one input. -/
def fnCountWithinWrong : ChangeSpec := { name := "fnCountWithin", fn := fun _ => fun
  | [d1, d2] => { results := [.lit (.bool false)], args := [d1, d2] }
  | _ => none }
def FnCountWithinWrongFalsely : Prop := fnCountWithinRow.holds Try.pinned (OpenSpec.ofChange fnCountWithinWrong)

/-- 'laws.FnNearestTo': WHATEVER THE INPUT: true; the input reads as it did. -/
def fnNearestToSpec : ChangeSpec := { name := "fnNearestTo", fn := fun _ => fun
  | [d] => { results := [.lit (.bool true)], args := [d] }
  | _ => none }
def fnNearestToRow : OpenClaim := { program := "ytoleenohcidegaa", sum := "0c225bdb3074c4ba8438a6506153d92f2e80884e7b419411476e0658ad7a5175", func := "loop.example/planargeometry/laws.FnNearestTo", spec := "fnNearestTo", unfollowed := true, recurses := true, apart := false }
def FnNearestToSaid : Prop := fnNearestToRow.holds Try.pinned (OpenSpec.ofChange fnNearestToSpec)

/-- ITS FALSE NEIGHBOUR: 'it returns false'. Refute it at one input. -/
def fnNearestToWrong : ChangeSpec := { name := "fnNearestTo", fn := fun _ => fun
  | [d] => { results := [.lit (.bool false)], args := [d] }
  | _ => none }
def FnNearestToWrongFalsely : Prop := fnNearestToRow.holds Try.pinned (OpenSpec.ofChange fnNearestToWrong)

/- THE SECOND FORM. 'bulk': how many values and letters a reading holds, each counted each time it is reached (what is shared counts as often as it is met; a slice's spare places count too). A statement '..UptoSaid' is the law's where the arguments, and the package variables that the reading takes, are together of bulk at most 1048576: NARROWER than '..Said'. Prove '..Said' where nothing that the law and all that it calls make is longer than what came in: it says more and counts as full. Else prove '..UptoSaid'. A law counts once. -/
mutual
def uptoBulk {H : Type} : DataW H → Nat
  | .lit (.string bytes) => bytes.length + 1
  | .lit _ => 1
  | .nil => 1
  | .ptr d => uptoBulk d + 1
  | .slice elems spare => uptoBulkAll elems + uptoBulkAll spare + 1
  | .agg parts => uptoBulkAll parts + 1
  | .iface _ d => uptoBulk d + 1
  | .map entries => uptoBulkEntries entries + 1
  | .held _ => 1
def uptoBulkAll {H : Type} : List (DataW H) → Nat
  | [] => 0
  | d :: r => uptoBulk d + uptoBulkAll r
def uptoBulkEntries {H : Type} : List (Lit × DataW H) → Nat
  | [] => 0
  | x :: r => uptoBulkEntry x + uptoBulkEntries r
def uptoBulkEntry {H : Type} : Lit × DataW H → Nat
  | (.string bytes, d) => bytes.length + uptoBulk d + 1
  | (_, d) => uptoBulk d + 1
 end
def uptoSmall : (H : Type) → List (DataW H) → Bool := fun _ ds => decide (uptoBulkAll ds ≤ 1048576)
def OpenSpec.upto (s : _root_.Go.ChangeSpec) : _root_.Go.OpenSpec := { _root_.Go.OpenSpec.ofChange s with cond := some uptoSmall }

/-- 'laws.FnMakeRat', WHERE WHAT IT READS IS OF BULK AT MOST 1048576: true; the input reads as it did. -/
def fnMakeRatUptoRow : OpenClaim := { program := "ytoleenohcidegaa", sum := "0c225bdb3074c4ba8438a6506153d92f2e80884e7b419411476e0658ad7a5175", func := "loop.example/planargeometry/laws.FnMakeRat", spec := "fnMakeRat", apart := false, narrowed := true }
def FnMakeRatUptoSaid : Prop := fnMakeRatUptoRow.holds Try.pinned (OpenSpec.upto fnMakeRatSpec)

/-- 'laws.FnSubtractRats', WHERE WHAT IT READS IS OF BULK AT MOST 1048576: true; the input reads as it did. -/
def fnSubtractRatsUptoRow : OpenClaim := { program := "ytoleenohcidegaa", sum := "0c225bdb3074c4ba8438a6506153d92f2e80884e7b419411476e0658ad7a5175", func := "loop.example/planargeometry/laws.FnSubtractRats", spec := "fnSubtractRats", apart := false, narrowed := true }
def FnSubtractRatsUptoSaid : Prop := fnSubtractRatsUptoRow.holds Try.pinned (OpenSpec.upto fnSubtractRatsSpec)

/-- 'laws.FnDistribute', WHERE WHAT IT READS IS OF BULK AT MOST 1048576: true; the input reads as it did. -/
def fnDistributeUptoRow : OpenClaim := { program := "ytoleenohcidegaa", sum := "0c225bdb3074c4ba8438a6506153d92f2e80884e7b419411476e0658ad7a5175", func := "loop.example/planargeometry/laws.FnDistribute", spec := "fnDistribute", apart := false, narrowed := true }
def FnDistributeUptoSaid : Prop := fnDistributeUptoRow.holds Try.pinned (OpenSpec.upto fnDistributeSpec)

/-- 'laws.FnFloorShift', WHERE WHAT IT READS IS OF BULK AT MOST 1048576: true; the input reads as it did. -/
def fnFloorShiftUptoRow : OpenClaim := { program := "ytoleenohcidegaa", sum := "0c225bdb3074c4ba8438a6506153d92f2e80884e7b419411476e0658ad7a5175", func := "loop.example/planargeometry/laws.FnFloorShift", spec := "fnFloorShift", apart := false, narrowed := true }
def FnFloorShiftUptoSaid : Prop := fnFloorShiftUptoRow.holds Try.pinned (OpenSpec.upto fnFloorShiftSpec)

/-- 'laws.FnCompareToSegment', WHERE WHAT IT READS IS OF BULK AT MOST 1048576: true; the input reads as it did. -/
def fnCompareToSegmentUptoRow : OpenClaim := { program := "ytoleenohcidegaa", sum := "0c225bdb3074c4ba8438a6506153d92f2e80884e7b419411476e0658ad7a5175", func := "loop.example/planargeometry/laws.FnCompareToSegment", spec := "fnCompareToSegment", apart := false, narrowed := true }
def FnCompareToSegmentUptoSaid : Prop := fnCompareToSegmentUptoRow.holds Try.pinned (OpenSpec.upto fnCompareToSegmentSpec)

/-- 'laws.FnSegmentLine', WHERE WHAT IT READS IS OF BULK AT MOST 1048576: true; the input reads as it did. -/
def fnSegmentLineUptoRow : OpenClaim := { program := "ytoleenohcidegaa", sum := "0c225bdb3074c4ba8438a6506153d92f2e80884e7b419411476e0658ad7a5175", func := "loop.example/planargeometry/laws.FnSegmentLine", spec := "fnSegmentLine", apart := false, narrowed := true }
def FnSegmentLineUptoSaid : Prop := fnSegmentLineUptoRow.holds Try.pinned (OpenSpec.upto fnSegmentLineSpec)

/-- 'laws.FnMeetLines', WHERE WHAT IT READS IS OF BULK AT MOST 1048576: true; the input reads as it did. -/
def fnMeetLinesUptoRow : OpenClaim := { program := "ytoleenohcidegaa", sum := "0c225bdb3074c4ba8438a6506153d92f2e80884e7b419411476e0658ad7a5175", func := "loop.example/planargeometry/laws.FnMeetLines", spec := "fnMeetLines", apart := false, narrowed := true }
def FnMeetLinesUptoSaid : Prop := fnMeetLinesUptoRow.holds Try.pinned (OpenSpec.upto fnMeetLinesSpec)

/-- 'laws.FnSideOfRat', WHERE WHAT IT READS IS OF BULK AT MOST 1048576: true; the input reads as it did. -/
def fnSideOfRatUptoRow : OpenClaim := { program := "ytoleenohcidegaa", sum := "0c225bdb3074c4ba8438a6506153d92f2e80884e7b419411476e0658ad7a5175", func := "loop.example/planargeometry/laws.FnSideOfRat", spec := "fnSideOfRat", apart := false, narrowed := true }
def FnSideOfRatUptoSaid : Prop := fnSideOfRatUptoRow.holds Try.pinned (OpenSpec.upto fnSideOfRatSpec)

/-- 'laws.FnCountWithin', WHERE WHAT IT READS IS OF BULK AT MOST 1048576: true; the input reads as it did. -/
def fnCountWithinUptoRow : OpenClaim := { program := "ytoleenohcidegaa", sum := "0c225bdb3074c4ba8438a6506153d92f2e80884e7b419411476e0658ad7a5175", func := "loop.example/planargeometry/laws.FnCountWithin", spec := "fnCountWithin", apart := false, narrowed := true }
def FnCountWithinUptoSaid : Prop := fnCountWithinUptoRow.holds Try.pinned (OpenSpec.upto fnCountWithinSpec)

/-- 'laws.FnNearestTo', WHERE WHAT IT READS IS OF BULK AT MOST 1048576: true; the input reads as it did. -/
def fnNearestToUptoRow : OpenClaim := { program := "ytoleenohcidegaa", sum := "0c225bdb3074c4ba8438a6506153d92f2e80884e7b419411476e0658ad7a5175", func := "loop.example/planargeometry/laws.FnNearestTo", spec := "fnNearestTo", unfollowed := true, recurses := true, apart := false, narrowed := true }
def FnNearestToUptoSaid : Prop := fnNearestToUptoRow.holds Try.pinned (OpenSpec.upto fnNearestToSpec)

end Rows
end Go.Proofs.Ytoleenohcidegaa
