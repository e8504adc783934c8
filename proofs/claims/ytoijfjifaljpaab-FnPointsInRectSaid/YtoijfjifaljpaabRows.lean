/-
  No cell of these rows narrows 'for every input' (looked for: loops, veiled, ifaces, maps, wideKeys, modest, calm, conditions, laid).
  DERIVED. THE GIVEN ROWS OF THIS SEAT. 12 by the template 'for every input the law returns true; each argument reads behind the call as it read before'; 0 by the template 'total and deterministic' (their statements: YtoijfjifaljpaabTotals.lean).
  GIVEN WITH THE SEED: the statements are not yours to turn. If you find one false, say at which input.
  Laid BY PROGRAM, IN A SANDBOX (cutbox-rows.mjs): the forced cells as the released guide's own fill.sh prints them over the translation 24977b2e1b4aa26e… (all of the seat's roots in one cut). By AI agents, Wed Nov 11 2026. No macro, syntax, notation, axiom, sorry.
-/
import Derived.Test.YtoijfjifaljpaabChecked
import GoSem.Claim
import GoSem.ClaimJoined
import GoSem.ClaimMapViews
import Derived.JoinedTies
import Derived.KernelRfl
namespace Go.Proofs.Ytoijfjifaljpaab
/- THE CELL 'sum', in the pinned program and in every row, IS THE sha256 OF THE DUMP (.gsa) THAT YtoijfjifaljpaabProg.lean LOADS. Nothing in Lean hashes anything: it is a label: what it is worth is what the hold of that sum in a sandbox is worth. -/
noncomputable def Try.pinned : Pinned := { name := "ytoijfjifaljpaab", sum := "24977b2e1b4aa26ee9b11ae93abdcff12bb90188eaa5c0f27d8917755ac114a7", checked := Try.checked }
namespace Rows
def none {H : Type} : Left H := { results := [], args := [] }

/-- 'laws.FnPointsInRect': WHATEVER THE INPUT: true; the input reads as it did. -/
def fnPointsInRectSpec : ChangeSpec := { name := "fnPointsInRect", fn := fun _ => fun
  | [d] => { results := [.lit (.bool true)], args := [d] }
  | _ => none }
def fnPointsInRectRow : OpenClaim := { program := "ytoijfjifaljpaab", sum := "24977b2e1b4aa26ee9b11ae93abdcff12bb90188eaa5c0f27d8917755ac114a7", func := "loop.example/planargeometry/laws.FnPointsInRect", spec := "fnPointsInRect", unfollowed := true, recurses := true, apart := false }
def FnPointsInRectSaid : Prop := fnPointsInRectRow.holds Try.pinned (OpenSpec.ofChange fnPointsInRectSpec)

/-- ITS FALSE NEIGHBOUR: 'it returns false'. Refute it at one input. -/
def fnPointsInRectWrong : ChangeSpec := { name := "fnPointsInRect", fn := fun _ => fun
  | [d] => { results := [.lit (.bool false)], args := [d] }
  | _ => none }
def FnPointsInRectWrongFalsely : Prop := fnPointsInRectRow.holds Try.pinned (OpenSpec.ofChange fnPointsInRectWrong)

/-- 'laws.FnRectHalves': WHATEVER THE INPUT: true; the input reads as it did. -/
def fnRectHalvesSpec : ChangeSpec := { name := "fnRectHalves", fn := fun _ => fun
  | [d1, d2] => { results := [.lit (.bool true)], args := [d1, d2] }
  | _ => none }
def fnRectHalvesRow : OpenClaim := { program := "ytoijfjifaljpaab", sum := "24977b2e1b4aa26ee9b11ae93abdcff12bb90188eaa5c0f27d8917755ac114a7", func := "loop.example/planargeometry/laws.FnRectHalves", spec := "fnRectHalves", unfollowed := true, recurses := true, apart := false }
def FnRectHalvesSaid : Prop := fnRectHalvesRow.holds Try.pinned (OpenSpec.ofChange fnRectHalvesSpec)

/-- ITS FALSE NEIGHBOUR: 'it returns false'. Refute it at one input. -/
def fnRectHalvesWrong : ChangeSpec := { name := "fnRectHalves", fn := fun _ => fun
  | [d1, d2] => { results := [.lit (.bool false)], args := [d1, d2] }
  | _ => none }
def FnRectHalvesWrongFalsely : Prop := fnRectHalvesRow.holds Try.pinned (OpenSpec.ofChange fnRectHalvesWrong)

/-- 'laws.FnRectCorners': WHATEVER THE INPUT: true; the input reads as it did. -/
def fnRectCornersSpec : ChangeSpec := { name := "fnRectCorners", fn := fun _ => fun
  | [d] => { results := [.lit (.bool true)], args := [d] }
  | _ => none }
def fnRectCornersRow : OpenClaim := { program := "ytoijfjifaljpaab", sum := "24977b2e1b4aa26ee9b11ae93abdcff12bb90188eaa5c0f27d8917755ac114a7", func := "loop.example/planargeometry/laws.FnRectCorners", spec := "fnRectCorners", unfollowed := true, recurses := true, apart := false }
def FnRectCornersSaid : Prop := fnRectCornersRow.holds Try.pinned (OpenSpec.ofChange fnRectCornersSpec)

/-- ITS FALSE NEIGHBOUR: 'it returns false'. Refute it at one input. -/
def fnRectCornersWrong : ChangeSpec := { name := "fnRectCorners", fn := fun _ => fun
  | [d] => { results := [.lit (.bool false)], args := [d] }
  | _ => none }
def FnRectCornersWrongFalsely : Prop := fnRectCornersRow.holds Try.pinned (OpenSpec.ofChange fnRectCornersWrong)

/-- 'laws.FnDominatedCount': WHATEVER THE INPUT: true; the input reads as it did. -/
def fnDominatedCountSpec : ChangeSpec := { name := "fnDominatedCount", fn := fun _ => fun
  | [d] => { results := [.lit (.bool true)], args := [d] }
  | _ => none }
def fnDominatedCountRow : OpenClaim := { program := "ytoijfjifaljpaab", sum := "24977b2e1b4aa26ee9b11ae93abdcff12bb90188eaa5c0f27d8917755ac114a7", func := "loop.example/planargeometry/laws.FnDominatedCount", spec := "fnDominatedCount", unfollowed := true, recurses := true, apart := false }
def FnDominatedCountSaid : Prop := fnDominatedCountRow.holds Try.pinned (OpenSpec.ofChange fnDominatedCountSpec)

/-- ITS FALSE NEIGHBOUR: 'it returns false'. Refute it at one input. -/
def fnDominatedCountWrong : ChangeSpec := { name := "fnDominatedCount", fn := fun _ => fun
  | [d] => { results := [.lit (.bool false)], args := [d] }
  | _ => none }
def FnDominatedCountWrongFalsely : Prop := fnDominatedCountRow.holds Try.pinned (OpenSpec.ofChange fnDominatedCountWrong)

/-- 'laws.FnExactMaxima': WHATEVER THE INPUT: true; the input reads as it did. -/
def fnExactMaximaSpec : ChangeSpec := { name := "fnExactMaxima", fn := fun _ => fun
  | [d] => { results := [.lit (.bool true)], args := [d] }
  | _ => none }
def fnExactMaximaRow : OpenClaim := { program := "ytoijfjifaljpaab", sum := "24977b2e1b4aa26ee9b11ae93abdcff12bb90188eaa5c0f27d8917755ac114a7", func := "loop.example/planargeometry/laws.FnExactMaxima", spec := "fnExactMaxima", unfollowed := true, recurses := true, apart := false }
def FnExactMaximaSaid : Prop := fnExactMaximaRow.holds Try.pinned (OpenSpec.ofChange fnExactMaximaSpec)

/-- ITS FALSE NEIGHBOUR: 'it returns false'. Refute it at one input. -/
def fnExactMaximaWrong : ChangeSpec := { name := "fnExactMaxima", fn := fun _ => fun
  | [d] => { results := [.lit (.bool false)], args := [d] }
  | _ => none }
def FnExactMaximaWrongFalsely : Prop := fnExactMaximaRow.holds Try.pinned (OpenSpec.ofChange fnExactMaximaWrong)

/-- 'laws.FnMaxima': WHATEVER THE INPUT: true; the input reads as it did. -/
def fnMaximaSpec : ChangeSpec := { name := "fnMaxima", fn := fun _ => fun
  | [d] => { results := [.lit (.bool true)], args := [d] }
  | _ => none }
def fnMaximaRow : OpenClaim := { program := "ytoijfjifaljpaab", sum := "24977b2e1b4aa26ee9b11ae93abdcff12bb90188eaa5c0f27d8917755ac114a7", func := "loop.example/planargeometry/laws.FnMaxima", spec := "fnMaxima", unfollowed := true, recurses := true, apart := false }
def FnMaximaSaid : Prop := fnMaximaRow.holds Try.pinned (OpenSpec.ofChange fnMaximaSpec)

/-- ITS FALSE NEIGHBOUR: 'it returns false'. Refute it at one input. -/
def fnMaximaWrong : ChangeSpec := { name := "fnMaxima", fn := fun _ => fun
  | [d] => { results := [.lit (.bool false)], args := [d] }
  | _ => none }
def FnMaximaWrongFalsely : Prop := fnMaximaRow.holds Try.pinned (OpenSpec.ofChange fnMaximaWrong)

/-- 'laws.FnMaximaExtreme': WHATEVER THE INPUT: true; the input reads as it did. -/
def fnMaximaExtremeSpec : ChangeSpec := { name := "fnMaximaExtreme", fn := fun _ => fun
  | [d] => { results := [.lit (.bool true)], args := [d] }
  | _ => none }
def fnMaximaExtremeRow : OpenClaim := { program := "ytoijfjifaljpaab", sum := "24977b2e1b4aa26ee9b11ae93abdcff12bb90188eaa5c0f27d8917755ac114a7", func := "loop.example/planargeometry/laws.FnMaximaExtreme", spec := "fnMaximaExtreme", unfollowed := true, recurses := true, apart := false }
def FnMaximaExtremeSaid : Prop := fnMaximaExtremeRow.holds Try.pinned (OpenSpec.ofChange fnMaximaExtremeSpec)

/-- ITS FALSE NEIGHBOUR: 'it returns false'. Refute it at one input. -/
def fnMaximaExtremeWrong : ChangeSpec := { name := "fnMaximaExtreme", fn := fun _ => fun
  | [d] => { results := [.lit (.bool false)], args := [d] }
  | _ => none }
def FnMaximaExtremeWrongFalsely : Prop := fnMaximaExtremeRow.holds Try.pinned (OpenSpec.ofChange fnMaximaExtremeWrong)

/-- 'laws.FnCollinear': WHATEVER THE INPUT: true; the input reads as it did. -/
def fnCollinearSpec : ChangeSpec := { name := "fnCollinear", fn := fun _ => fun
  | [d] => { results := [.lit (.bool true)], args := [d] }
  | _ => none }
def fnCollinearRow : OpenClaim := { program := "ytoijfjifaljpaab", sum := "24977b2e1b4aa26ee9b11ae93abdcff12bb90188eaa5c0f27d8917755ac114a7", func := "loop.example/planargeometry/laws.FnCollinear", spec := "fnCollinear", unfollowed := true, recurses := true, apart := false }
def FnCollinearSaid : Prop := fnCollinearRow.holds Try.pinned (OpenSpec.ofChange fnCollinearSpec)

/-- ITS FALSE NEIGHBOUR: 'it returns false'. Refute it at one input. -/
def fnCollinearWrong : ChangeSpec := { name := "fnCollinear", fn := fun _ => fun
  | [d] => { results := [.lit (.bool false)], args := [d] }
  | _ => none }
def FnCollinearWrongFalsely : Prop := fnCollinearRow.holds Try.pinned (OpenSpec.ofChange fnCollinearWrong)

/-- 'laws.FnExactSupportValue': WHATEVER THE INPUT: true; the input reads as it did. -/
def fnExactSupportValueSpec : ChangeSpec := { name := "fnExactSupportValue", fn := fun _ => fun
  | [d1, d2] => { results := [.lit (.bool true)], args := [d1, d2] }
  | _ => none }
def fnExactSupportValueRow : OpenClaim := { program := "ytoijfjifaljpaab", sum := "24977b2e1b4aa26ee9b11ae93abdcff12bb90188eaa5c0f27d8917755ac114a7", func := "loop.example/planargeometry/laws.FnExactSupportValue", spec := "fnExactSupportValue", unfollowed := true, recurses := true, apart := false }
def FnExactSupportValueSaid : Prop := fnExactSupportValueRow.holds Try.pinned (OpenSpec.ofChange fnExactSupportValueSpec)

/-- ITS FALSE NEIGHBOUR: 'it returns false'. Refute it at one input. -/
def fnExactSupportValueWrong : ChangeSpec := { name := "fnExactSupportValue", fn := fun _ => fun
  | [d1, d2] => { results := [.lit (.bool false)], args := [d1, d2] }
  | _ => none }
def FnExactSupportValueWrongFalsely : Prop := fnExactSupportValueRow.holds Try.pinned (OpenSpec.ofChange fnExactSupportValueWrong)

/-- 'laws.FnTotalLength': WHATEVER THE INPUT: true; the input reads as it did. -/
def fnTotalLengthSpec : ChangeSpec := { name := "fnTotalLength", fn := fun _ => fun
  | [d1, d2] => { results := [.lit (.bool true)], args := [d1, d2] }
  | _ => none }
def fnTotalLengthRow : OpenClaim := { program := "ytoijfjifaljpaab", sum := "24977b2e1b4aa26ee9b11ae93abdcff12bb90188eaa5c0f27d8917755ac114a7", func := "loop.example/planargeometry/laws.FnTotalLength", spec := "fnTotalLength", apart := false }
def FnTotalLengthSaid : Prop := fnTotalLengthRow.holds Try.pinned (OpenSpec.ofChange fnTotalLengthSpec)

/-- ITS FALSE NEIGHBOUR: 'it returns false'. Refute it at one input. -/
def fnTotalLengthWrong : ChangeSpec := { name := "fnTotalLength", fn := fun _ => fun
  | [d1, d2] => { results := [.lit (.bool false)], args := [d1, d2] }
  | _ => none }
def FnTotalLengthWrongFalsely : Prop := fnTotalLengthRow.holds Try.pinned (OpenSpec.ofChange fnTotalLengthWrong)

/-- 'laws.FnExactCheckSimplified': WHATEVER THE INPUT: true; the input reads as it did. -/
def fnExactCheckSimplifiedSpec : ChangeSpec := { name := "fnExactCheckSimplified", fn := fun _ => fun
  | [d1, d2, d3] => { results := [.lit (.bool true)], args := [d1, d2, d3] }
  | _ => none }
def fnExactCheckSimplifiedRow : OpenClaim := { program := "ytoijfjifaljpaab", sum := "24977b2e1b4aa26ee9b11ae93abdcff12bb90188eaa5c0f27d8917755ac114a7", func := "loop.example/planargeometry/laws.FnExactCheckSimplified", spec := "fnExactCheckSimplified", unfollowed := true, recurses := true, apart := false }
def FnExactCheckSimplifiedSaid : Prop := fnExactCheckSimplifiedRow.holds Try.pinned (OpenSpec.ofChange fnExactCheckSimplifiedSpec)

/-- ITS FALSE NEIGHBOUR: 'it returns false'. Refute it at one input. -/
def fnExactCheckSimplifiedWrong : ChangeSpec := { name := "fnExactCheckSimplified", fn := fun _ => fun
  | [d1, d2, d3] => { results := [.lit (.bool false)], args := [d1, d2, d3] }
  | _ => none }
def FnExactCheckSimplifiedWrongFalsely : Prop := fnExactCheckSimplifiedRow.holds Try.pinned (OpenSpec.ofChange fnExactCheckSimplifiedWrong)

/-- 'laws.FnSegmentParts': WHATEVER THE INPUT: true; the input reads as it did. -/
def fnSegmentPartsSpec : ChangeSpec := { name := "fnSegmentParts", fn := fun _ => fun
  | [d] => { results := [.lit (.bool true)], args := [d] }
  | _ => none }
def fnSegmentPartsRow : OpenClaim := { program := "ytoijfjifaljpaab", sum := "24977b2e1b4aa26ee9b11ae93abdcff12bb90188eaa5c0f27d8917755ac114a7", func := "loop.example/planargeometry/laws.FnSegmentParts", spec := "fnSegmentParts", unfollowed := true, recurses := true, apart := false }
def FnSegmentPartsSaid : Prop := fnSegmentPartsRow.holds Try.pinned (OpenSpec.ofChange fnSegmentPartsSpec)

/-- ITS FALSE NEIGHBOUR: 'it returns false'. Refute it at one input. -/
def fnSegmentPartsWrong : ChangeSpec := { name := "fnSegmentParts", fn := fun _ => fun
  | [d] => { results := [.lit (.bool false)], args := [d] }
  | _ => none }
def FnSegmentPartsWrongFalsely : Prop := fnSegmentPartsRow.holds Try.pinned (OpenSpec.ofChange fnSegmentPartsWrong)

/- THE SECOND FORM. 'bulk': how many values and letters a reading holds, each counted each time it is reached (what is shared counts as often as it is met; a slice's spare places count too). A statement '..UptoSaid' is the law's where the arguments, and the package variables that the reading takes, are together of bulk at most 1048576: NARROWER than '..Said'. Prove '..Said' where nothing that the law and all that it calls make is longer than what came in: it says more and counts as full. Else prove '..UptoSaid'. A law counts once. -/
mutual
def uptoBulk {H : Type} : DataW H → Nat
  | .lit (.string bytes) => bytes.length + 1
  | .lit _ => 1
  | .nil => 1
  | .ptr d => uptoBulk d + 1
  | .slice elems spare => uptoBulkAll elems + uptoBulkAll spare + 1
  | .agg parts => uptoBulkAll parts + 1
  | .iface _ d => uptoBulk d + 1
  | .map entries => uptoBulkEntries entries + 1
  | .held _ => 1
def uptoBulkAll {H : Type} : List (DataW H) → Nat
  | [] => 0
  | d :: r => uptoBulk d + uptoBulkAll r
def uptoBulkEntries {H : Type} : List (Lit × DataW H) → Nat
  | [] => 0
  | x :: r => uptoBulkEntry x + uptoBulkEntries r
def uptoBulkEntry {H : Type} : Lit × DataW H → Nat
  | (.string bytes, d) => bytes.length + uptoBulk d + 1
  | (_, d) => uptoBulk d + 1
 end
def uptoSmall : (H : Type) → List (DataW H) → Bool := fun _ ds => decide (uptoBulkAll ds ≤ 1048576)
def OpenSpec.upto (s : _root_.Go.ChangeSpec) : _root_.Go.OpenSpec := { _root_.Go.OpenSpec.ofChange s with cond := some uptoSmall }

/-- 'laws.FnPointsInRect', WHERE WHAT IT READS IS OF BULK AT MOST 1048576: true; the input reads as it did. -/
def fnPointsInRectUptoRow : OpenClaim := { program := "ytoijfjifaljpaab", sum := "24977b2e1b4aa26ee9b11ae93abdcff12bb90188eaa5c0f27d8917755ac114a7", func := "loop.example/planargeometry/laws.FnPointsInRect", spec := "fnPointsInRect", unfollowed := true, recurses := true, apart := false, narrowed := true }
def FnPointsInRectUptoSaid : Prop := fnPointsInRectUptoRow.holds Try.pinned (OpenSpec.upto fnPointsInRectSpec)

/-- 'laws.FnRectHalves', WHERE WHAT IT READS IS OF BULK AT MOST 1048576: true; the input reads as it did. -/
def fnRectHalvesUptoRow : OpenClaim := { program := "ytoijfjifaljpaab", sum := "24977b2e1b4aa26ee9b11ae93abdcff12bb90188eaa5c0f27d8917755ac114a7", func := "loop.example/planargeometry/laws.FnRectHalves", spec := "fnRectHalves", unfollowed := true, recurses := true, apart := false, narrowed := true }
def FnRectHalvesUptoSaid : Prop := fnRectHalvesUptoRow.holds Try.pinned (OpenSpec.upto fnRectHalvesSpec)

/-- 'laws.FnRectCorners', WHERE WHAT IT READS IS OF BULK AT MOST 1048576: true; the input reads as it did. -/
def fnRectCornersUptoRow : OpenClaim := { program := "ytoijfjifaljpaab", sum := "24977b2e1b4aa26ee9b11ae93abdcff12bb90188eaa5c0f27d8917755ac114a7", func := "loop.example/planargeometry/laws.FnRectCorners", spec := "fnRectCorners", unfollowed := true, recurses := true, apart := false, narrowed := true }
def FnRectCornersUptoSaid : Prop := fnRectCornersUptoRow.holds Try.pinned (OpenSpec.upto fnRectCornersSpec)

/-- 'laws.FnDominatedCount', WHERE WHAT IT READS IS OF BULK AT MOST 1048576: true; the input reads as it did. -/
def fnDominatedCountUptoRow : OpenClaim := { program := "ytoijfjifaljpaab", sum := "24977b2e1b4aa26ee9b11ae93abdcff12bb90188eaa5c0f27d8917755ac114a7", func := "loop.example/planargeometry/laws.FnDominatedCount", spec := "fnDominatedCount", unfollowed := true, recurses := true, apart := false, narrowed := true }
def FnDominatedCountUptoSaid : Prop := fnDominatedCountUptoRow.holds Try.pinned (OpenSpec.upto fnDominatedCountSpec)

/-- 'laws.FnExactMaxima', WHERE WHAT IT READS IS OF BULK AT MOST 1048576: true; the input reads as it did. -/
def fnExactMaximaUptoRow : OpenClaim := { program := "ytoijfjifaljpaab", sum := "24977b2e1b4aa26ee9b11ae93abdcff12bb90188eaa5c0f27d8917755ac114a7", func := "loop.example/planargeometry/laws.FnExactMaxima", spec := "fnExactMaxima", unfollowed := true, recurses := true, apart := false, narrowed := true }
def FnExactMaximaUptoSaid : Prop := fnExactMaximaUptoRow.holds Try.pinned (OpenSpec.upto fnExactMaximaSpec)

/-- 'laws.FnMaxima', WHERE WHAT IT READS IS OF BULK AT MOST 1048576: true; the input reads as it did. -/
def fnMaximaUptoRow : OpenClaim := { program := "ytoijfjifaljpaab", sum := "24977b2e1b4aa26ee9b11ae93abdcff12bb90188eaa5c0f27d8917755ac114a7", func := "loop.example/planargeometry/laws.FnMaxima", spec := "fnMaxima", unfollowed := true, recurses := true, apart := false, narrowed := true }
def FnMaximaUptoSaid : Prop := fnMaximaUptoRow.holds Try.pinned (OpenSpec.upto fnMaximaSpec)

/-- 'laws.FnMaximaExtreme', WHERE WHAT IT READS IS OF BULK AT MOST 1048576: true; the input reads as it did. -/
def fnMaximaExtremeUptoRow : OpenClaim := { program := "ytoijfjifaljpaab", sum := "24977b2e1b4aa26ee9b11ae93abdcff12bb90188eaa5c0f27d8917755ac114a7", func := "loop.example/planargeometry/laws.FnMaximaExtreme", spec := "fnMaximaExtreme", unfollowed := true, recurses := true, apart := false, narrowed := true }
def FnMaximaExtremeUptoSaid : Prop := fnMaximaExtremeUptoRow.holds Try.pinned (OpenSpec.upto fnMaximaExtremeSpec)

/-- 'laws.FnCollinear', WHERE WHAT IT READS IS OF BULK AT MOST 1048576: true; the input reads as it did. -/
def fnCollinearUptoRow : OpenClaim := { program := "ytoijfjifaljpaab", sum := "24977b2e1b4aa26ee9b11ae93abdcff12bb90188eaa5c0f27d8917755ac114a7", func := "loop.example/planargeometry/laws.FnCollinear", spec := "fnCollinear", unfollowed := true, recurses := true, apart := false, narrowed := true }
def FnCollinearUptoSaid : Prop := fnCollinearUptoRow.holds Try.pinned (OpenSpec.upto fnCollinearSpec)

/-- 'laws.FnExactSupportValue', WHERE WHAT IT READS IS OF BULK AT MOST 1048576: true; the input reads as it did. -/
def fnExactSupportValueUptoRow : OpenClaim := { program := "ytoijfjifaljpaab", sum := "24977b2e1b4aa26ee9b11ae93abdcff12bb90188eaa5c0f27d8917755ac114a7", func := "loop.example/planargeometry/laws.FnExactSupportValue", spec := "fnExactSupportValue", unfollowed := true, recurses := true, apart := false, narrowed := true }
def FnExactSupportValueUptoSaid : Prop := fnExactSupportValueUptoRow.holds Try.pinned (OpenSpec.upto fnExactSupportValueSpec)

/-- 'laws.FnTotalLength', WHERE WHAT IT READS IS OF BULK AT MOST 1048576: true; the input reads as it did. -/
def fnTotalLengthUptoRow : OpenClaim := { program := "ytoijfjifaljpaab", sum := "24977b2e1b4aa26ee9b11ae93abdcff12bb90188eaa5c0f27d8917755ac114a7", func := "loop.example/planargeometry/laws.FnTotalLength", spec := "fnTotalLength", apart := false, narrowed := true }
def FnTotalLengthUptoSaid : Prop := fnTotalLengthUptoRow.holds Try.pinned (OpenSpec.upto fnTotalLengthSpec)

/-- 'laws.FnExactCheckSimplified', WHERE WHAT IT READS IS OF BULK AT MOST 1048576: true; the input reads as it did. -/
def fnExactCheckSimplifiedUptoRow : OpenClaim := { program := "ytoijfjifaljpaab", sum := "24977b2e1b4aa26ee9b11ae93abdcff12bb90188eaa5c0f27d8917755ac114a7", func := "loop.example/planargeometry/laws.FnExactCheckSimplified", spec := "fnExactCheckSimplified", unfollowed := true, recurses := true, apart := false, narrowed := true }
def FnExactCheckSimplifiedUptoSaid : Prop := fnExactCheckSimplifiedUptoRow.holds Try.pinned (OpenSpec.upto fnExactCheckSimplifiedSpec)

/-- 'laws.FnSegmentParts', WHERE WHAT IT READS IS OF BULK AT MOST 1048576: true; the input reads as it did. -/
def fnSegmentPartsUptoRow : OpenClaim := { program := "ytoijfjifaljpaab", sum := "24977b2e1b4aa26ee9b11ae93abdcff12bb90188eaa5c0f27d8917755ac114a7", func := "loop.example/planargeometry/laws.FnSegmentParts", spec := "fnSegmentParts", unfollowed := true, recurses := true, apart := false, narrowed := true }
def FnSegmentPartsUptoSaid : Prop := fnSegmentPartsUptoRow.holds Try.pinned (OpenSpec.upto fnSegmentPartsSpec)

end Rows
end Go.Proofs.Ytoijfjifaljpaab
