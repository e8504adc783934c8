/-
  No cell of these rows narrows 'for every input' (looked for: loops, veiled, ifaces, maps, wideKeys, modest, calm, conditions, laid).
  DERIVED. THE GIVEN ROWS OF THIS SEAT. 12 by the template 'for every input the law returns true; each argument reads behind the call as it read before'; 0 by the template 'total and deterministic' (their statements: YtfjcbindeimoiabTotals.lean).
  GIVEN WITH THE SEED: the statements are not yours to turn. If you find one false, say at which input.
  Laid BY PROGRAM, IN A SANDBOX (cutbox-rows.mjs): the forced cells as the released guide's own fill.sh prints them over the translation f5b917f249d05ffa… (all of the seat's roots in one cut). By AI agents, Wed Nov 11 2026. No macro, syntax, notation, axiom, sorry.
-/
import Derived.Test.YtfjcbindeimoiabChecked
import GoSem.Claim
import GoSem.ClaimJoined
import GoSem.ClaimMapViews
import Derived.JoinedTies
import Derived.KernelRfl
namespace Go.Proofs.Ytfjcbindeimoiab
/- THE CELL 'sum', in the pinned program and in every row, IS THE sha256 OF THE DUMP (.gsa) THAT YtfjcbindeimoiabProg.lean LOADS. Nothing in Lean hashes anything: it is a label: what it is worth is what the hold of that sum in a sandbox is worth. -/
noncomputable def Try.pinned : Pinned := { name := "ytfjcbindeimoiab", sum := "f5b917f249d05ffa6ef0d20f931ba0524026d032ee53e7122d97557ffdc8a08d", checked := Try.checked }
namespace Rows
def none {H : Type} : Left H := { results := [], args := [] }

/-- 'laws.FnExactPointsInRect': WHATEVER THE INPUT: true; the input reads as it did. -/
def fnExactPointsInRectSpec : ChangeSpec := { name := "fnExactPointsInRect", fn := fun _ => fun
  | [d1, d2] => { results := [.lit (.bool true)], args := [d1, d2] }
  | _ => none }
def fnExactPointsInRectRow : OpenClaim := { program := "ytfjcbindeimoiab", sum := "f5b917f249d05ffa6ef0d20f931ba0524026d032ee53e7122d97557ffdc8a08d", func := "loop.example/planargeometry/laws.FnExactPointsInRect", spec := "fnExactPointsInRect", unfollowed := true, recurses := true, apart := false }
def FnExactPointsInRectSaid : Prop := fnExactPointsInRectRow.holds Try.pinned (OpenSpec.ofChange fnExactPointsInRectSpec)

/-- ITS FALSE NEIGHBOUR: 'it returns false'. Refute it at one input. -/
def fnExactPointsInRectWrong : ChangeSpec := { name := "fnExactPointsInRect", fn := fun _ => fun
  | [d1, d2] => { results := [.lit (.bool false)], args := [d1, d2] }
  | _ => none }
def FnExactPointsInRectWrongFalsely : Prop := fnExactPointsInRectRow.holds Try.pinned (OpenSpec.ofChange fnExactPointsInRectWrong)

/-- 'laws.FnExactDominatedCount': WHATEVER THE INPUT: true; the input reads as it did. -/
def fnExactDominatedCountSpec : ChangeSpec := { name := "fnExactDominatedCount", fn := fun _ => fun
  | [d] => { results := [.lit (.bool true)], args := [d] }
  | _ => none }
def fnExactDominatedCountRow : OpenClaim := { program := "ytfjcbindeimoiab", sum := "f5b917f249d05ffa6ef0d20f931ba0524026d032ee53e7122d97557ffdc8a08d", func := "loop.example/planargeometry/laws.FnExactDominatedCount", spec := "fnExactDominatedCount", unfollowed := true, recurses := true, apart := false }
def FnExactDominatedCountSaid : Prop := fnExactDominatedCountRow.holds Try.pinned (OpenSpec.ofChange fnExactDominatedCountSpec)

/-- ITS FALSE NEIGHBOUR: 'it returns false'. Refute it at one input. -/
def fnExactDominatedCountWrong : ChangeSpec := { name := "fnExactDominatedCount", fn := fun _ => fun
  | [d] => { results := [.lit (.bool false)], args := [d] }
  | _ => none }
def FnExactDominatedCountWrongFalsely : Prop := fnExactDominatedCountRow.holds Try.pinned (OpenSpec.ofChange fnExactDominatedCountWrong)

/-- 'laws.FnExactMaxima': WHATEVER THE INPUT: true; the input reads as it did. -/
def fnExactMaximaSpec : ChangeSpec := { name := "fnExactMaxima", fn := fun _ => fun
  | [d] => { results := [.lit (.bool true)], args := [d] }
  | _ => none }
def fnExactMaximaRow : OpenClaim := { program := "ytfjcbindeimoiab", sum := "f5b917f249d05ffa6ef0d20f931ba0524026d032ee53e7122d97557ffdc8a08d", func := "loop.example/planargeometry/laws.FnExactMaxima", spec := "fnExactMaxima", unfollowed := true, recurses := true, apart := false }
def FnExactMaximaSaid : Prop := fnExactMaximaRow.holds Try.pinned (OpenSpec.ofChange fnExactMaximaSpec)

/-- ITS FALSE NEIGHBOUR: 'it returns false'. Refute it at one input. -/
def fnExactMaximaWrong : ChangeSpec := { name := "fnExactMaxima", fn := fun _ => fun
  | [d] => { results := [.lit (.bool false)], args := [d] }
  | _ => none }
def FnExactMaximaWrongFalsely : Prop := fnExactMaximaRow.holds Try.pinned (OpenSpec.ofChange fnExactMaximaWrong)

/-- 'laws.FnExactTotalLength': WHATEVER THE INPUT: true; the input reads as it did. -/
def fnExactTotalLengthSpec : ChangeSpec := { name := "fnExactTotalLength", fn := fun _ => fun
  | [d1, d2] => { results := [.lit (.bool true)], args := [d1, d2] }
  | _ => none }
def fnExactTotalLengthRow : OpenClaim := { program := "ytfjcbindeimoiab", sum := "f5b917f249d05ffa6ef0d20f931ba0524026d032ee53e7122d97557ffdc8a08d", func := "loop.example/planargeometry/laws.FnExactTotalLength", spec := "fnExactTotalLength", apart := false }
def FnExactTotalLengthSaid : Prop := fnExactTotalLengthRow.holds Try.pinned (OpenSpec.ofChange fnExactTotalLengthSpec)

/-- ITS FALSE NEIGHBOUR: 'it returns false'. Refute it at one input. -/
def fnExactTotalLengthWrong : ChangeSpec := { name := "fnExactTotalLength", fn := fun _ => fun
  | [d1, d2] => { results := [.lit (.bool false)], args := [d1, d2] }
  | _ => none }
def FnExactTotalLengthWrongFalsely : Prop := fnExactTotalLengthRow.holds Try.pinned (OpenSpec.ofChange fnExactTotalLengthWrong)

/-- 'laws.FnMeetLines': WHATEVER THE INPUT: true; the input reads as it did. -/
def fnMeetLinesSpec : ChangeSpec := { name := "fnMeetLines", fn := fun _ => fun
  | [d] => { results := [.lit (.bool true)], args := [d] }
  | _ => none }
def fnMeetLinesRow : OpenClaim := { program := "ytfjcbindeimoiab", sum := "f5b917f249d05ffa6ef0d20f931ba0524026d032ee53e7122d97557ffdc8a08d", func := "loop.example/planargeometry/laws.FnMeetLines", spec := "fnMeetLines", apart := false }
def FnMeetLinesSaid : Prop := fnMeetLinesRow.holds Try.pinned (OpenSpec.ofChange fnMeetLinesSpec)

/-- ITS FALSE NEIGHBOUR: 'it returns false'. Refute it at one input. -/
def fnMeetLinesWrong : ChangeSpec := { name := "fnMeetLines", fn := fun _ => fun
  | [d] => { results := [.lit (.bool false)], args := [d] }
  | _ => none }
def FnMeetLinesWrongFalsely : Prop := fnMeetLinesRow.holds Try.pinned (OpenSpec.ofChange fnMeetLinesWrong)

/-- 'laws.FnSideOfRat': WHATEVER THE INPUT: true; the input reads as it did. -/
def fnSideOfRatSpec : ChangeSpec := { name := "fnSideOfRat", fn := fun _ => fun
  | [d1, d2] => { results := [.lit (.bool true)], args := [d1, d2] }
  | _ => none }
def fnSideOfRatRow : OpenClaim := { program := "ytfjcbindeimoiab", sum := "f5b917f249d05ffa6ef0d20f931ba0524026d032ee53e7122d97557ffdc8a08d", func := "loop.example/planargeometry/laws.FnSideOfRat", spec := "fnSideOfRat", apart := false }
def FnSideOfRatSaid : Prop := fnSideOfRatRow.holds Try.pinned (OpenSpec.ofChange fnSideOfRatSpec)

/-- ITS FALSE NEIGHBOUR: 'it returns false'. Refute it at one input. -/
def fnSideOfRatWrong : ChangeSpec := { name := "fnSideOfRat", fn := fun _ => fun
  | [d1, d2] => { results := [.lit (.bool false)], args := [d1, d2] }
  | _ => none }
def FnSideOfRatWrongFalsely : Prop := fnSideOfRatRow.holds Try.pinned (OpenSpec.ofChange fnSideOfRatWrong)

/-- 'laws.FnCountWithin': WHATEVER THE INPUT: true; the input reads as it did. -/
def fnCountWithinSpec : ChangeSpec := { name := "fnCountWithin", fn := fun _ => fun
  | [d1, d2] => { results := [.lit (.bool true)], args := [d1, d2] }
  | _ => none }
def fnCountWithinRow : OpenClaim := { program := "ytfjcbindeimoiab", sum := "f5b917f249d05ffa6ef0d20f931ba0524026d032ee53e7122d97557ffdc8a08d", func := "loop.example/planargeometry/laws.FnCountWithin", spec := "fnCountWithin", apart := false }
def FnCountWithinSaid : Prop := fnCountWithinRow.holds Try.pinned (OpenSpec.ofChange fnCountWithinSpec)

/-- ITS FALSE NEIGHBOUR: 'it returns false'. Refute it at one input. -/
def fnCountWithinWrong : ChangeSpec := { name := "fnCountWithin", fn := fun _ => fun
  | [d1, d2] => { results := [.lit (.bool false)], args := [d1, d2] }
  | _ => none }
def FnCountWithinWrongFalsely : Prop := fnCountWithinRow.holds Try.pinned (OpenSpec.ofChange fnCountWithinWrong)

/-- 'laws.FnNearestTo': WHATEVER THE INPUT: true; the input reads as it did. -/
def fnNearestToSpec : ChangeSpec := { name := "fnNearestTo", fn := fun _ => fun
  | [d] => { results := [.lit (.bool true)], args := [d] }
  | _ => none }
def fnNearestToRow : OpenClaim := { program := "ytfjcbindeimoiab", sum := "f5b917f249d05ffa6ef0d20f931ba0524026d032ee53e7122d97557ffdc8a08d", func := "loop.example/planargeometry/laws.FnNearestTo", spec := "fnNearestTo", unfollowed := true, recurses := true, apart := false }
def FnNearestToSaid : Prop := fnNearestToRow.holds Try.pinned (OpenSpec.ofChange fnNearestToSpec)

/-- ITS FALSE NEIGHBOUR: 'it returns false'. Refute it at one input. -/
def fnNearestToWrong : ChangeSpec := { name := "fnNearestTo", fn := fun _ => fun
  | [d] => { results := [.lit (.bool false)], args := [d] }
  | _ => none }
def FnNearestToWrongFalsely : Prop := fnNearestToRow.holds Try.pinned (OpenSpec.ofChange fnNearestToWrong)

/-- 'laws.FnExactValidHalves': WHATEVER THE INPUT: true; the input reads as it did. -/
def fnExactValidHalvesSpec : ChangeSpec := { name := "fnExactValidHalves", fn := fun _ => fun
  | [d] => { results := [.lit (.bool true)], args := [d] }
  | _ => none }
def fnExactValidHalvesRow : OpenClaim := { program := "ytfjcbindeimoiab", sum := "f5b917f249d05ffa6ef0d20f931ba0524026d032ee53e7122d97557ffdc8a08d", func := "loop.example/planargeometry/laws.FnExactValidHalves", spec := "fnExactValidHalves", apart := false }
def FnExactValidHalvesSaid : Prop := fnExactValidHalvesRow.holds Try.pinned (OpenSpec.ofChange fnExactValidHalvesSpec)

/-- ITS FALSE NEIGHBOUR: 'it returns false'. Refute it at one input. -/
def fnExactValidHalvesWrong : ChangeSpec := { name := "fnExactValidHalves", fn := fun _ => fun
  | [d] => { results := [.lit (.bool false)], args := [d] }
  | _ => none }
def FnExactValidHalvesWrongFalsely : Prop := fnExactValidHalvesRow.holds Try.pinned (OpenSpec.ofChange fnExactValidHalvesWrong)

/-- 'laws.FnExactInRegion': WHATEVER THE INPUT: true; the input reads as it did. -/
def fnExactInRegionSpec : ChangeSpec := { name := "fnExactInRegion", fn := fun _ => fun
  | [d1, d2] => { results := [.lit (.bool true)], args := [d1, d2] }
  | _ => none }
def fnExactInRegionRow : OpenClaim := { program := "ytfjcbindeimoiab", sum := "f5b917f249d05ffa6ef0d20f931ba0524026d032ee53e7122d97557ffdc8a08d", func := "loop.example/planargeometry/laws.FnExactInRegion", spec := "fnExactInRegion", apart := false }
def FnExactInRegionSaid : Prop := fnExactInRegionRow.holds Try.pinned (OpenSpec.ofChange fnExactInRegionSpec)

/-- ITS FALSE NEIGHBOUR: 'it returns false'. Refute it at one input. -/
def fnExactInRegionWrong : ChangeSpec := { name := "fnExactInRegion", fn := fun _ => fun
  | [d1, d2] => { results := [.lit (.bool false)], args := [d1, d2] }
  | _ => none }
def FnExactInRegionWrongFalsely : Prop := fnExactInRegionRow.holds Try.pinned (OpenSpec.ofChange fnExactInRegionWrong)

/-- 'laws.FnExactValidRects': WHATEVER THE INPUT: true; the input reads as it did. -/
def fnExactValidRectsSpec : ChangeSpec := { name := "fnExactValidRects", fn := fun _ => fun
  | [d] => { results := [.lit (.bool true)], args := [d] }
  | _ => none }
def fnExactValidRectsRow : OpenClaim := { program := "ytfjcbindeimoiab", sum := "f5b917f249d05ffa6ef0d20f931ba0524026d032ee53e7122d97557ffdc8a08d", func := "loop.example/planargeometry/laws.FnExactValidRects", spec := "fnExactValidRects", apart := false }
def FnExactValidRectsSaid : Prop := fnExactValidRectsRow.holds Try.pinned (OpenSpec.ofChange fnExactValidRectsSpec)

/-- ITS FALSE NEIGHBOUR: 'it returns false'. Refute it at one input. -/
def fnExactValidRectsWrong : ChangeSpec := { name := "fnExactValidRects", fn := fun _ => fun
  | [d] => { results := [.lit (.bool false)], args := [d] }
  | _ => none }
def FnExactValidRectsWrongFalsely : Prop := fnExactValidRectsRow.holds Try.pinned (OpenSpec.ofChange fnExactValidRectsWrong)

/-- 'laws.FnExactCheckEnclosing': WHATEVER THE INPUT: true; the input reads as it did. -/
def fnExactCheckEnclosingSpec : ChangeSpec := { name := "fnExactCheckEnclosing", fn := fun _ => fun
  | [d1, d2] => { results := [.lit (.bool true)], args := [d1, d2] }
  | _ => none }
def fnExactCheckEnclosingRow : OpenClaim := { program := "ytfjcbindeimoiab", sum := "f5b917f249d05ffa6ef0d20f931ba0524026d032ee53e7122d97557ffdc8a08d", func := "loop.example/planargeometry/laws.FnExactCheckEnclosing", spec := "fnExactCheckEnclosing", unfollowed := true, recurses := true, apart := false }
def FnExactCheckEnclosingSaid : Prop := fnExactCheckEnclosingRow.holds Try.pinned (OpenSpec.ofChange fnExactCheckEnclosingSpec)

/-- ITS FALSE NEIGHBOUR: 'it returns false'. Refute it at one input. -/
def fnExactCheckEnclosingWrong : ChangeSpec := { name := "fnExactCheckEnclosing", fn := fun _ => fun
  | [d1, d2] => { results := [.lit (.bool false)], args := [d1, d2] }
  | _ => none }
def FnExactCheckEnclosingWrongFalsely : Prop := fnExactCheckEnclosingRow.holds Try.pinned (OpenSpec.ofChange fnExactCheckEnclosingWrong)

/- THE SECOND FORM. 'bulk': how many values and letters a reading holds, each counted each time it is reached (what is shared counts as often as it is met; a slice's spare places count too). A statement '..UptoSaid' is the law's where the arguments, and the package variables that the reading takes, are together of bulk at most 1048576: NARROWER than '..Said'. Prove '..Said' where nothing that the law and all that it calls make is longer than what came in: it says more and counts as full. Else prove '..UptoSaid'. A law counts once. -/
mutual
def uptoBulk {H : Type} : DataW H → Nat
  | .lit (.string bytes) => bytes.length + 1
  | .lit _ => 1
  | .nil => 1
  | .ptr d => uptoBulk d + 1
  | .slice elems spare => uptoBulkAll elems + uptoBulkAll spare + 1
  | .agg parts => uptoBulkAll parts + 1
  | .iface _ d => uptoBulk d + 1
  | .map entries => uptoBulkEntries entries + 1
  | .held _ => 1
def uptoBulkAll {H : Type} : List (DataW H) → Nat
  | [] => 0
  | d :: r => uptoBulk d + uptoBulkAll r
def uptoBulkEntries {H : Type} : List (Lit × DataW H) → Nat
  | [] => 0
  | x :: r => uptoBulkEntry x + uptoBulkEntries r
def uptoBulkEntry {H : Type} : Lit × DataW H → Nat
  | (.string bytes, d) => bytes.length + uptoBulk d + 1
  | (_, d) => uptoBulk d + 1
 end
def uptoSmall : (H : Type) → List (DataW H) → Bool := fun _ ds => decide (uptoBulkAll ds ≤ 1048576)
def OpenSpec.upto (s : _root_.Go.ChangeSpec) : _root_.Go.OpenSpec := { _root_.Go.OpenSpec.ofChange s with cond := some uptoSmall }

/-- 'laws.FnExactPointsInRect', WHERE WHAT IT READS IS OF BULK AT MOST 1048576: true; the input reads as it did. -/
def fnExactPointsInRectUptoRow : OpenClaim := { program := "ytfjcbindeimoiab", sum := "f5b917f249d05ffa6ef0d20f931ba0524026d032ee53e7122d97557ffdc8a08d", func := "loop.example/planargeometry/laws.FnExactPointsInRect", spec := "fnExactPointsInRect", unfollowed := true, recurses := true, apart := false, narrowed := true }
def FnExactPointsInRectUptoSaid : Prop := fnExactPointsInRectUptoRow.holds Try.pinned (OpenSpec.upto fnExactPointsInRectSpec)

/-- 'laws.FnExactDominatedCount', WHERE WHAT IT READS IS OF BULK AT MOST 1048576: true; the input reads as it did. -/
def fnExactDominatedCountUptoRow : OpenClaim := { program := "ytfjcbindeimoiab", sum := "f5b917f249d05ffa6ef0d20f931ba0524026d032ee53e7122d97557ffdc8a08d", func := "loop.example/planargeometry/laws.FnExactDominatedCount", spec := "fnExactDominatedCount", unfollowed := true, recurses := true, apart := false, narrowed := true }
def FnExactDominatedCountUptoSaid : Prop := fnExactDominatedCountUptoRow.holds Try.pinned (OpenSpec.upto fnExactDominatedCountSpec)

/-- 'laws.FnExactMaxima', WHERE WHAT IT READS IS OF BULK AT MOST 1048576: true; the input reads as it did. -/
def fnExactMaximaUptoRow : OpenClaim := { program := "ytfjcbindeimoiab", sum := "f5b917f249d05ffa6ef0d20f931ba0524026d032ee53e7122d97557ffdc8a08d", func := "loop.example/planargeometry/laws.FnExactMaxima", spec := "fnExactMaxima", unfollowed := true, recurses := true, apart := false, narrowed := true }
def FnExactMaximaUptoSaid : Prop := fnExactMaximaUptoRow.holds Try.pinned (OpenSpec.upto fnExactMaximaSpec)

/-- 'laws.FnExactTotalLength', WHERE WHAT IT READS IS OF BULK AT MOST 1048576: true; the input reads as it did. -/
def fnExactTotalLengthUptoRow : OpenClaim := { program := "ytfjcbindeimoiab", sum := "f5b917f249d05ffa6ef0d20f931ba0524026d032ee53e7122d97557ffdc8a08d", func := "loop.example/planargeometry/laws.FnExactTotalLength", spec := "fnExactTotalLength", apart := false, narrowed := true }
def FnExactTotalLengthUptoSaid : Prop := fnExactTotalLengthUptoRow.holds Try.pinned (OpenSpec.upto fnExactTotalLengthSpec)

/-- 'laws.FnMeetLines', WHERE WHAT IT READS IS OF BULK AT MOST 1048576: true; the input reads as it did. -/
def fnMeetLinesUptoRow : OpenClaim := { program := "ytfjcbindeimoiab", sum := "f5b917f249d05ffa6ef0d20f931ba0524026d032ee53e7122d97557ffdc8a08d", func := "loop.example/planargeometry/laws.FnMeetLines", spec := "fnMeetLines", apart := false, narrowed := true }
def FnMeetLinesUptoSaid : Prop := fnMeetLinesUptoRow.holds Try.pinned (OpenSpec.upto fnMeetLinesSpec)

/-- 'laws.FnSideOfRat', WHERE WHAT IT READS IS OF BULK AT MOST 1048576: true; the input reads as it did. -/
def fnSideOfRatUptoRow : OpenClaim := { program := "ytfjcbindeimoiab", sum := "f5b917f249d05ffa6ef0d20f931ba0524026d032ee53e7122d97557ffdc8a08d", func := "loop.example/planargeometry/laws.FnSideOfRat", spec := "fnSideOfRat", apart := false, narrowed := true }
def FnSideOfRatUptoSaid : Prop := fnSideOfRatUptoRow.holds Try.pinned (OpenSpec.upto fnSideOfRatSpec)

/-- 'laws.FnCountWithin', WHERE WHAT IT READS IS OF BULK AT MOST 1048576: true; the input reads as it did. -/
def fnCountWithinUptoRow : OpenClaim := { program := "ytfjcbindeimoiab", sum := "f5b917f249d05ffa6ef0d20f931ba0524026d032ee53e7122d97557ffdc8a08d", func := "loop.example/planargeometry/laws.FnCountWithin", spec := "fnCountWithin", apart := false, narrowed := true }
def FnCountWithinUptoSaid : Prop := fnCountWithinUptoRow.holds Try.pinned (OpenSpec.upto fnCountWithinSpec)

/-- 'laws.FnNearestTo', WHERE WHAT IT READS IS OF BULK AT MOST 1048576: true; the input reads as it did. -/
def fnNearestToUptoRow : OpenClaim := { program := "ytfjcbindeimoiab", sum := "f5b917f249d05ffa6ef0d20f931ba0524026d032ee53e7122d97557ffdc8a08d", func := "loop.example/planargeometry/laws.FnNearestTo", spec := "fnNearestTo", unfollowed := true, recurses := true, apart := false, narrowed := true }
def FnNearestToUptoSaid : Prop := fnNearestToUptoRow.holds Try.pinned (OpenSpec.upto fnNearestToSpec)

/-- 'laws.FnExactValidHalves', WHERE WHAT IT READS IS OF BULK AT MOST 1048576: true; the input reads as it did. -/
def fnExactValidHalvesUptoRow : OpenClaim := { program := "ytfjcbindeimoiab", sum := "f5b917f249d05ffa6ef0d20f931ba0524026d032ee53e7122d97557ffdc8a08d", func := "loop.example/planargeometry/laws.FnExactValidHalves", spec := "fnExactValidHalves", apart := false, narrowed := true }
def FnExactValidHalvesUptoSaid : Prop := fnExactValidHalvesUptoRow.holds Try.pinned (OpenSpec.upto fnExactValidHalvesSpec)

/-- 'laws.FnExactInRegion', WHERE WHAT IT READS IS OF BULK AT MOST 1048576: true; the input reads as it did. -/
def fnExactInRegionUptoRow : OpenClaim := { program := "ytfjcbindeimoiab", sum := "f5b917f249d05ffa6ef0d20f931ba0524026d032ee53e7122d97557ffdc8a08d", func := "loop.example/planargeometry/laws.FnExactInRegion", spec := "fnExactInRegion", apart := false, narrowed := true }
def FnExactInRegionUptoSaid : Prop := fnExactInRegionUptoRow.holds Try.pinned (OpenSpec.upto fnExactInRegionSpec)

/-- 'laws.FnExactValidRects', WHERE WHAT IT READS IS OF BULK AT MOST 1048576: true; the input reads as it did. -/
def fnExactValidRectsUptoRow : OpenClaim := { program := "ytfjcbindeimoiab", sum := "f5b917f249d05ffa6ef0d20f931ba0524026d032ee53e7122d97557ffdc8a08d", func := "loop.example/planargeometry/laws.FnExactValidRects", spec := "fnExactValidRects", apart := false, narrowed := true }
def FnExactValidRectsUptoSaid : Prop := fnExactValidRectsUptoRow.holds Try.pinned (OpenSpec.upto fnExactValidRectsSpec)

/-- 'laws.FnExactCheckEnclosing', WHERE WHAT IT READS IS OF BULK AT MOST 1048576: true; the input reads as it did. -/
def fnExactCheckEnclosingUptoRow : OpenClaim := { program := "ytfjcbindeimoiab", sum := "f5b917f249d05ffa6ef0d20f931ba0524026d032ee53e7122d97557ffdc8a08d", func := "loop.example/planargeometry/laws.FnExactCheckEnclosing", spec := "fnExactCheckEnclosing", unfollowed := true, recurses := true, apart := false, narrowed := true }
def FnExactCheckEnclosingUptoSaid : Prop := fnExactCheckEnclosingUptoRow.holds Try.pinned (OpenSpec.upto fnExactCheckEnclosingSpec)

end Rows
end Go.Proofs.Ytfjcbindeimoiab
