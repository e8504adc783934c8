/-
  No cell of these rows narrows 'for every input' (looked for: loops, veiled, ifaces, maps, wideKeys, modest, calm, conditions, laid).
  DERIVED. THE GIVEN ROWS OF THIS SEAT. 12 by the template 'for every input the law returns true; each argument reads behind the call as it read before'; 0 by the template 'total and deterministic' (their statements: YtfbcbmckicmalaaTotals.lean).
  GIVEN WITH THE SEED: the statements are not yours to turn. If you find one false, say at which input.
  Laid BY PROGRAM, IN A SANDBOX (cutbox-rows.mjs): the forced cells as the released guide's own fill.sh prints them over the translation 42c1427b29029dd6… (all of the seat's roots in one cut). By AI agents, Wed Nov 11 2026. No macro, syntax, notation, axiom, sorry.
-/
import Derived.Test.YtfbcbmckicmalaaChecked
import GoSem.Claim
import GoSem.ClaimJoined
import GoSem.ClaimMapViews
import Derived.JoinedTies
import Derived.KernelRfl
namespace Go.Proofs.Ytfbcbmckicmalaa
/- THE CELL 'sum', in the pinned program and in every row, IS THE sha256 OF THE DUMP (.gsa) THAT YtfbcbmckicmalaaProg.lean LOADS. Nothing in Lean hashes anything: it is a label: what it is worth is what the hold of that sum in a sandbox is worth. -/
noncomputable def Try.pinned : Pinned := { name := "ytfbcbmckicmalaa", sum := "42c1427b29029dd6182764216765619a12fc7fc4a214b8b5410b25562def2efb", checked := Try.checked }
namespace Rows
def none {H : Type} : Left H := { results := [], args := [] }

/-- 'laws.FnExactRelation': WHATEVER THE INPUT: true; the input reads as it did. -/
def fnExactRelationSpec : ChangeSpec := { name := "fnExactRelation", fn := fun _ => fun
  | [d1, d2] => { results := [.lit (.bool true)], args := [d1, d2] }
  | _ => none }
def fnExactRelationRow : OpenClaim := { program := "ytfbcbmckicmalaa", sum := "42c1427b29029dd6182764216765619a12fc7fc4a214b8b5410b25562def2efb", func := "loop.example/planargeometry/laws.FnExactRelation", spec := "fnExactRelation", apart := false }
def FnExactRelationSaid : Prop := fnExactRelationRow.holds Try.pinned (OpenSpec.ofChange fnExactRelationSpec)

/-- ITS FALSE NEIGHBOUR: 'it returns false'. Refute it at one input. -/
def fnExactRelationWrong : ChangeSpec := { name := "fnExactRelation", fn := fun _ => fun
  | [d1, d2] => { results := [.lit (.bool false)], args := [d1, d2] }
  | _ => none }
def FnExactRelationWrongFalsely : Prop := fnExactRelationRow.holds Try.pinned (OpenSpec.ofChange fnExactRelationWrong)

/-- 'laws.FnExactMeetPoint': WHATEVER THE INPUT: true; the input reads as it did. -/
def fnExactMeetPointSpec : ChangeSpec := { name := "fnExactMeetPoint", fn := fun _ => fun
  | [d1, d2] => { results := [.lit (.bool true)], args := [d1, d2] }
  | _ => none }
def fnExactMeetPointRow : OpenClaim := { program := "ytfbcbmckicmalaa", sum := "42c1427b29029dd6182764216765619a12fc7fc4a214b8b5410b25562def2efb", func := "loop.example/planargeometry/laws.FnExactMeetPoint", spec := "fnExactMeetPoint", apart := false }
def FnExactMeetPointSaid : Prop := fnExactMeetPointRow.holds Try.pinned (OpenSpec.ofChange fnExactMeetPointSpec)

/-- ITS FALSE NEIGHBOUR: 'it returns false'. Refute it at one input. -/
def fnExactMeetPointWrong : ChangeSpec := { name := "fnExactMeetPoint", fn := fun _ => fun
  | [d1, d2] => { results := [.lit (.bool false)], args := [d1, d2] }
  | _ => none }
def FnExactMeetPointWrongFalsely : Prop := fnExactMeetPointRow.holds Try.pinned (OpenSpec.ofChange fnExactMeetPointWrong)

/-- 'laws.FnExactIsSimple': WHATEVER THE INPUT: true; the input reads as it did. -/
def fnExactIsSimpleSpec : ChangeSpec := { name := "fnExactIsSimple", fn := fun _ => fun
  | [d] => { results := [.lit (.bool true)], args := [d] }
  | _ => none }
def fnExactIsSimpleRow : OpenClaim := { program := "ytfbcbmckicmalaa", sum := "42c1427b29029dd6182764216765619a12fc7fc4a214b8b5410b25562def2efb", func := "loop.example/planargeometry/laws.FnExactIsSimple", spec := "fnExactIsSimple", unfollowed := true, recurses := true, apart := false }
def FnExactIsSimpleSaid : Prop := fnExactIsSimpleRow.holds Try.pinned (OpenSpec.ofChange fnExactIsSimpleSpec)

/-- ITS FALSE NEIGHBOUR: 'it returns false'. Refute it at one input. -/
def fnExactIsSimpleWrong : ChangeSpec := { name := "fnExactIsSimple", fn := fun _ => fun
  | [d] => { results := [.lit (.bool false)], args := [d] }
  | _ => none }
def FnExactIsSimpleWrongFalsely : Prop := fnExactIsSimpleRow.holds Try.pinned (OpenSpec.ofChange fnExactIsSimpleWrong)

/-- 'laws.FnExactDoubleArea': WHATEVER THE INPUT: true; the input reads as it did. -/
def fnExactDoubleAreaSpec : ChangeSpec := { name := "fnExactDoubleArea", fn := fun _ => fun
  | [d] => { results := [.lit (.bool true)], args := [d] }
  | _ => none }
def fnExactDoubleAreaRow : OpenClaim := { program := "ytfbcbmckicmalaa", sum := "42c1427b29029dd6182764216765619a12fc7fc4a214b8b5410b25562def2efb", func := "loop.example/planargeometry/laws.FnExactDoubleArea", spec := "fnExactDoubleArea", unfollowed := true, recurses := true, apart := false }
def FnExactDoubleAreaSaid : Prop := fnExactDoubleAreaRow.holds Try.pinned (OpenSpec.ofChange fnExactDoubleAreaSpec)

/-- ITS FALSE NEIGHBOUR: 'it returns false'. Refute it at one input. -/
def fnExactDoubleAreaWrong : ChangeSpec := { name := "fnExactDoubleArea", fn := fun _ => fun
  | [d] => { results := [.lit (.bool false)], args := [d] }
  | _ => none }
def FnExactDoubleAreaWrongFalsely : Prop := fnExactDoubleAreaRow.holds Try.pinned (OpenSpec.ofChange fnExactDoubleAreaWrong)

/-- 'laws.FnExactBoundaryCount': WHATEVER THE INPUT: true; the input reads as it did. -/
def fnExactBoundaryCountSpec : ChangeSpec := { name := "fnExactBoundaryCount", fn := fun _ => fun
  | [d] => { results := [.lit (.bool true)], args := [d] }
  | _ => none }
def fnExactBoundaryCountRow : OpenClaim := { program := "ytfbcbmckicmalaa", sum := "42c1427b29029dd6182764216765619a12fc7fc4a214b8b5410b25562def2efb", func := "loop.example/planargeometry/laws.FnExactBoundaryCount", spec := "fnExactBoundaryCount", unfollowed := true, recurses := true, apart := false }
def FnExactBoundaryCountSaid : Prop := fnExactBoundaryCountRow.holds Try.pinned (OpenSpec.ofChange fnExactBoundaryCountSpec)

/-- ITS FALSE NEIGHBOUR: 'it returns false'. Refute it at one input. -/
def fnExactBoundaryCountWrong : ChangeSpec := { name := "fnExactBoundaryCount", fn := fun _ => fun
  | [d] => { results := [.lit (.bool false)], args := [d] }
  | _ => none }
def FnExactBoundaryCountWrongFalsely : Prop := fnExactBoundaryCountRow.holds Try.pinned (OpenSpec.ofChange fnExactBoundaryCountWrong)

/-- 'laws.FnExactInteriorCount': WHATEVER THE INPUT: true; the input reads as it did. -/
def fnExactInteriorCountSpec : ChangeSpec := { name := "fnExactInteriorCount", fn := fun _ => fun
  | [d] => { results := [.lit (.bool true)], args := [d] }
  | _ => none }
def fnExactInteriorCountRow : OpenClaim := { program := "ytfbcbmckicmalaa", sum := "42c1427b29029dd6182764216765619a12fc7fc4a214b8b5410b25562def2efb", func := "loop.example/planargeometry/laws.FnExactInteriorCount", spec := "fnExactInteriorCount", unfollowed := true, recurses := true, apart := false }
def FnExactInteriorCountSaid : Prop := fnExactInteriorCountRow.holds Try.pinned (OpenSpec.ofChange fnExactInteriorCountSpec)

/-- ITS FALSE NEIGHBOUR: 'it returns false'. Refute it at one input. -/
def fnExactInteriorCountWrong : ChangeSpec := { name := "fnExactInteriorCount", fn := fun _ => fun
  | [d] => { results := [.lit (.bool false)], args := [d] }
  | _ => none }
def FnExactInteriorCountWrongFalsely : Prop := fnExactInteriorCountRow.holds Try.pinned (OpenSpec.ofChange fnExactInteriorCountWrong)

/-- 'laws.FnExactLocate': WHATEVER THE INPUT: true; the input reads as it did. -/
def fnExactLocateSpec : ChangeSpec := { name := "fnExactLocate", fn := fun _ => fun
  | [d1, d2] => { results := [.lit (.bool true)], args := [d1, d2] }
  | _ => none }
def fnExactLocateRow : OpenClaim := { program := "ytfbcbmckicmalaa", sum := "42c1427b29029dd6182764216765619a12fc7fc4a214b8b5410b25562def2efb", func := "loop.example/planargeometry/laws.FnExactLocate", spec := "fnExactLocate", unfollowed := true, recurses := true, apart := false }
def FnExactLocateSaid : Prop := fnExactLocateRow.holds Try.pinned (OpenSpec.ofChange fnExactLocateSpec)

/-- ITS FALSE NEIGHBOUR: 'it returns false'. Refute it at one input. -/
def fnExactLocateWrong : ChangeSpec := { name := "fnExactLocate", fn := fun _ => fun
  | [d1, d2] => { results := [.lit (.bool false)], args := [d1, d2] }
  | _ => none }
def FnExactLocateWrongFalsely : Prop := fnExactLocateRow.holds Try.pinned (OpenSpec.ofChange fnExactLocateWrong)

/-- 'laws.FnExactSortPoints': WHATEVER THE INPUT: true; the input reads as it did. -/
def fnExactSortPointsSpec : ChangeSpec := { name := "fnExactSortPoints", fn := fun _ => fun
  | [d] => { results := [.lit (.bool true)], args := [d] }
  | _ => none }
def fnExactSortPointsRow : OpenClaim := { program := "ytfbcbmckicmalaa", sum := "42c1427b29029dd6182764216765619a12fc7fc4a214b8b5410b25562def2efb", func := "loop.example/planargeometry/laws.FnExactSortPoints", spec := "fnExactSortPoints", unfollowed := true, recurses := true, apart := false }
def FnExactSortPointsSaid : Prop := fnExactSortPointsRow.holds Try.pinned (OpenSpec.ofChange fnExactSortPointsSpec)

/-- ITS FALSE NEIGHBOUR: 'it returns false'. Refute it at one input. -/
def fnExactSortPointsWrong : ChangeSpec := { name := "fnExactSortPoints", fn := fun _ => fun
  | [d] => { results := [.lit (.bool false)], args := [d] }
  | _ => none }
def FnExactSortPointsWrongFalsely : Prop := fnExactSortPointsRow.holds Try.pinned (OpenSpec.ofChange fnExactSortPointsWrong)

/-- 'laws.FnRelation': WHATEVER THE INPUT: true; the input reads as it did. -/
def fnRelationSpec : ChangeSpec := { name := "fnRelation", fn := fun _ => fun
  | [d] => { results := [.lit (.bool true)], args := [d] }
  | _ => none }
def fnRelationRow : OpenClaim := { program := "ytfbcbmckicmalaa", sum := "42c1427b29029dd6182764216765619a12fc7fc4a214b8b5410b25562def2efb", func := "loop.example/planargeometry/laws.FnRelation", spec := "fnRelation", apart := false }
def FnRelationSaid : Prop := fnRelationRow.holds Try.pinned (OpenSpec.ofChange fnRelationSpec)

/-- ITS FALSE NEIGHBOUR: 'it returns false'. Refute it at one input. -/
def fnRelationWrong : ChangeSpec := { name := "fnRelation", fn := fun _ => fun
  | [d] => { results := [.lit (.bool false)], args := [d] }
  | _ => none }
def FnRelationWrongFalsely : Prop := fnRelationRow.holds Try.pinned (OpenSpec.ofChange fnRelationWrong)

/-- 'laws.FnRelationEnds': WHATEVER THE INPUT: true; the input reads as it did. -/
def fnRelationEndsSpec : ChangeSpec := { name := "fnRelationEnds", fn := fun _ => fun
  | [d] => { results := [.lit (.bool true)], args := [d] }
  | _ => none }
def fnRelationEndsRow : OpenClaim := { program := "ytfbcbmckicmalaa", sum := "42c1427b29029dd6182764216765619a12fc7fc4a214b8b5410b25562def2efb", func := "loop.example/planargeometry/laws.FnRelationEnds", spec := "fnRelationEnds", apart := false }
def FnRelationEndsSaid : Prop := fnRelationEndsRow.holds Try.pinned (OpenSpec.ofChange fnRelationEndsSpec)

/-- ITS FALSE NEIGHBOUR: 'it returns false'. Refute it at one input. -/
def fnRelationEndsWrong : ChangeSpec := { name := "fnRelationEnds", fn := fun _ => fun
  | [d] => { results := [.lit (.bool false)], args := [d] }
  | _ => none }
def FnRelationEndsWrongFalsely : Prop := fnRelationEndsRow.holds Try.pinned (OpenSpec.ofChange fnRelationEndsWrong)

/-- 'laws.FnExactIsConvex': WHATEVER THE INPUT: true; the input reads as it did. -/
def fnExactIsConvexSpec : ChangeSpec := { name := "fnExactIsConvex", fn := fun _ => fun
  | [d] => { results := [.lit (.bool true)], args := [d] }
  | _ => none }
def fnExactIsConvexRow : OpenClaim := { program := "ytfbcbmckicmalaa", sum := "42c1427b29029dd6182764216765619a12fc7fc4a214b8b5410b25562def2efb", func := "loop.example/planargeometry/laws.FnExactIsConvex", spec := "fnExactIsConvex", unfollowed := true, recurses := true, apart := false }
def FnExactIsConvexSaid : Prop := fnExactIsConvexRow.holds Try.pinned (OpenSpec.ofChange fnExactIsConvexSpec)

/-- ITS FALSE NEIGHBOUR: 'it returns false'. Refute it at one input. -/
def fnExactIsConvexWrong : ChangeSpec := { name := "fnExactIsConvex", fn := fun _ => fun
  | [d] => { results := [.lit (.bool false)], args := [d] }
  | _ => none }
def FnExactIsConvexWrongFalsely : Prop := fnExactIsConvexRow.holds Try.pinned (OpenSpec.ofChange fnExactIsConvexWrong)

/-- 'laws.FnExactLocateConvex': WHATEVER THE INPUT: true; the input reads as it did. -/
def fnExactLocateConvexSpec : ChangeSpec := { name := "fnExactLocateConvex", fn := fun _ => fun
  | [d1, d2] => { results := [.lit (.bool true)], args := [d1, d2] }
  | _ => none }
def fnExactLocateConvexRow : OpenClaim := { program := "ytfbcbmckicmalaa", sum := "42c1427b29029dd6182764216765619a12fc7fc4a214b8b5410b25562def2efb", func := "loop.example/planargeometry/laws.FnExactLocateConvex", spec := "fnExactLocateConvex", unfollowed := true, recurses := true, apart := false }
def FnExactLocateConvexSaid : Prop := fnExactLocateConvexRow.holds Try.pinned (OpenSpec.ofChange fnExactLocateConvexSpec)

/-- ITS FALSE NEIGHBOUR: 'it returns false'. Refute it at one input. -/
def fnExactLocateConvexWrong : ChangeSpec := { name := "fnExactLocateConvex", fn := fun _ => fun
  | [d1, d2] => { results := [.lit (.bool false)], args := [d1, d2] }
  | _ => none }
def FnExactLocateConvexWrongFalsely : Prop := fnExactLocateConvexRow.holds Try.pinned (OpenSpec.ofChange fnExactLocateConvexWrong)

/- THE SECOND FORM. 'bulk': how many values and letters a reading holds, each counted each time it is reached (what is shared counts as often as it is met; a slice's spare places count too). A statement '..UptoSaid' is the law's where the arguments, and the package variables that the reading takes, are together of bulk at most 1048576: NARROWER than '..Said'. Prove '..Said' where nothing that the law and all that it calls make is longer than what came in: it says more and counts as full. Else prove '..UptoSaid'. A law counts once. -/
mutual
def uptoBulk {H : Type} : DataW H → Nat
  | .lit (.string bytes) => bytes.length + 1
  | .lit _ => 1
  | .nil => 1
  | .ptr d => uptoBulk d + 1
  | .slice elems spare => uptoBulkAll elems + uptoBulkAll spare + 1
  | .agg parts => uptoBulkAll parts + 1
  | .iface _ d => uptoBulk d + 1
  | .map entries => uptoBulkEntries entries + 1
  | .held _ => 1
def uptoBulkAll {H : Type} : List (DataW H) → Nat
  | [] => 0
  | d :: r => uptoBulk d + uptoBulkAll r
def uptoBulkEntries {H : Type} : List (Lit × DataW H) → Nat
  | [] => 0
  | x :: r => uptoBulkEntry x + uptoBulkEntries r
def uptoBulkEntry {H : Type} : Lit × DataW H → Nat
  | (.string bytes, d) => bytes.length + uptoBulk d + 1
  | (_, d) => uptoBulk d + 1
 end
def uptoSmall : (H : Type) → List (DataW H) → Bool := fun _ ds => decide (uptoBulkAll ds ≤ 1048576)
def OpenSpec.upto (s : _root_.Go.ChangeSpec) : _root_.Go.OpenSpec := { _root_.Go.OpenSpec.ofChange s with cond := some uptoSmall }

/-- 'laws.FnExactRelation', WHERE WHAT IT READS IS OF BULK AT MOST 1048576: true; the input reads as it did. -/
def fnExactRelationUptoRow : OpenClaim := { program := "ytfbcbmckicmalaa", sum := "42c1427b29029dd6182764216765619a12fc7fc4a214b8b5410b25562def2efb", func := "loop.example/planargeometry/laws.FnExactRelation", spec := "fnExactRelation", apart := false, narrowed := true }
def FnExactRelationUptoSaid : Prop := fnExactRelationUptoRow.holds Try.pinned (OpenSpec.upto fnExactRelationSpec)

/-- 'laws.FnExactMeetPoint', WHERE WHAT IT READS IS OF BULK AT MOST 1048576: true; the input reads as it did. -/
def fnExactMeetPointUptoRow : OpenClaim := { program := "ytfbcbmckicmalaa", sum := "42c1427b29029dd6182764216765619a12fc7fc4a214b8b5410b25562def2efb", func := "loop.example/planargeometry/laws.FnExactMeetPoint", spec := "fnExactMeetPoint", apart := false, narrowed := true }
def FnExactMeetPointUptoSaid : Prop := fnExactMeetPointUptoRow.holds Try.pinned (OpenSpec.upto fnExactMeetPointSpec)

/-- 'laws.FnExactIsSimple', WHERE WHAT IT READS IS OF BULK AT MOST 1048576: true; the input reads as it did. -/
def fnExactIsSimpleUptoRow : OpenClaim := { program := "ytfbcbmckicmalaa", sum := "42c1427b29029dd6182764216765619a12fc7fc4a214b8b5410b25562def2efb", func := "loop.example/planargeometry/laws.FnExactIsSimple", spec := "fnExactIsSimple", unfollowed := true, recurses := true, apart := false, narrowed := true }
def FnExactIsSimpleUptoSaid : Prop := fnExactIsSimpleUptoRow.holds Try.pinned (OpenSpec.upto fnExactIsSimpleSpec)

/-- 'laws.FnExactDoubleArea', WHERE WHAT IT READS IS OF BULK AT MOST 1048576: true; the input reads as it did. -/
def fnExactDoubleAreaUptoRow : OpenClaim := { program := "ytfbcbmckicmalaa", sum := "42c1427b29029dd6182764216765619a12fc7fc4a214b8b5410b25562def2efb", func := "loop.example/planargeometry/laws.FnExactDoubleArea", spec := "fnExactDoubleArea", unfollowed := true, recurses := true, apart := false, narrowed := true }
def FnExactDoubleAreaUptoSaid : Prop := fnExactDoubleAreaUptoRow.holds Try.pinned (OpenSpec.upto fnExactDoubleAreaSpec)

/-- 'laws.FnExactBoundaryCount', WHERE WHAT IT READS IS OF BULK AT MOST 1048576: true; the input reads as it did. -/
def fnExactBoundaryCountUptoRow : OpenClaim := { program := "ytfbcbmckicmalaa", sum := "42c1427b29029dd6182764216765619a12fc7fc4a214b8b5410b25562def2efb", func := "loop.example/planargeometry/laws.FnExactBoundaryCount", spec := "fnExactBoundaryCount", unfollowed := true, recurses := true, apart := false, narrowed := true }
def FnExactBoundaryCountUptoSaid : Prop := fnExactBoundaryCountUptoRow.holds Try.pinned (OpenSpec.upto fnExactBoundaryCountSpec)

/-- 'laws.FnExactInteriorCount', WHERE WHAT IT READS IS OF BULK AT MOST 1048576: true; the input reads as it did. -/
def fnExactInteriorCountUptoRow : OpenClaim := { program := "ytfbcbmckicmalaa", sum := "42c1427b29029dd6182764216765619a12fc7fc4a214b8b5410b25562def2efb", func := "loop.example/planargeometry/laws.FnExactInteriorCount", spec := "fnExactInteriorCount", unfollowed := true, recurses := true, apart := false, narrowed := true }
def FnExactInteriorCountUptoSaid : Prop := fnExactInteriorCountUptoRow.holds Try.pinned (OpenSpec.upto fnExactInteriorCountSpec)

/-- 'laws.FnExactLocate', WHERE WHAT IT READS IS OF BULK AT MOST 1048576: true; the input reads as it did. -/
def fnExactLocateUptoRow : OpenClaim := { program := "ytfbcbmckicmalaa", sum := "42c1427b29029dd6182764216765619a12fc7fc4a214b8b5410b25562def2efb", func := "loop.example/planargeometry/laws.FnExactLocate", spec := "fnExactLocate", unfollowed := true, recurses := true, apart := false, narrowed := true }
def FnExactLocateUptoSaid : Prop := fnExactLocateUptoRow.holds Try.pinned (OpenSpec.upto fnExactLocateSpec)

/-- 'laws.FnExactSortPoints', WHERE WHAT IT READS IS OF BULK AT MOST 1048576: true; the input reads as it did. -/
def fnExactSortPointsUptoRow : OpenClaim := { program := "ytfbcbmckicmalaa", sum := "42c1427b29029dd6182764216765619a12fc7fc4a214b8b5410b25562def2efb", func := "loop.example/planargeometry/laws.FnExactSortPoints", spec := "fnExactSortPoints", unfollowed := true, recurses := true, apart := false, narrowed := true }
def FnExactSortPointsUptoSaid : Prop := fnExactSortPointsUptoRow.holds Try.pinned (OpenSpec.upto fnExactSortPointsSpec)

/-- 'laws.FnRelation', WHERE WHAT IT READS IS OF BULK AT MOST 1048576: true; the input reads as it did. -/
def fnRelationUptoRow : OpenClaim := { program := "ytfbcbmckicmalaa", sum := "42c1427b29029dd6182764216765619a12fc7fc4a214b8b5410b25562def2efb", func := "loop.example/planargeometry/laws.FnRelation", spec := "fnRelation", apart := false, narrowed := true }
def FnRelationUptoSaid : Prop := fnRelationUptoRow.holds Try.pinned (OpenSpec.upto fnRelationSpec)

/-- 'laws.FnRelationEnds', WHERE WHAT IT READS IS OF BULK AT MOST 1048576: true; the input reads as it did. -/
def fnRelationEndsUptoRow : OpenClaim := { program := "ytfbcbmckicmalaa", sum := "42c1427b29029dd6182764216765619a12fc7fc4a214b8b5410b25562def2efb", func := "loop.example/planargeometry/laws.FnRelationEnds", spec := "fnRelationEnds", apart := false, narrowed := true }
def FnRelationEndsUptoSaid : Prop := fnRelationEndsUptoRow.holds Try.pinned (OpenSpec.upto fnRelationEndsSpec)

/-- 'laws.FnExactIsConvex', WHERE WHAT IT READS IS OF BULK AT MOST 1048576: true; the input reads as it did. -/
def fnExactIsConvexUptoRow : OpenClaim := { program := "ytfbcbmckicmalaa", sum := "42c1427b29029dd6182764216765619a12fc7fc4a214b8b5410b25562def2efb", func := "loop.example/planargeometry/laws.FnExactIsConvex", spec := "fnExactIsConvex", unfollowed := true, recurses := true, apart := false, narrowed := true }
def FnExactIsConvexUptoSaid : Prop := fnExactIsConvexUptoRow.holds Try.pinned (OpenSpec.upto fnExactIsConvexSpec)

/-- 'laws.FnExactLocateConvex', WHERE WHAT IT READS IS OF BULK AT MOST 1048576: true; the input reads as it did. -/
def fnExactLocateConvexUptoRow : OpenClaim := { program := "ytfbcbmckicmalaa", sum := "42c1427b29029dd6182764216765619a12fc7fc4a214b8b5410b25562def2efb", func := "loop.example/planargeometry/laws.FnExactLocateConvex", spec := "fnExactLocateConvex", unfollowed := true, recurses := true, apart := false, narrowed := true }
def FnExactLocateConvexUptoSaid : Prop := fnExactLocateConvexUptoRow.holds Try.pinned (OpenSpec.upto fnExactLocateConvexSpec)

end Rows
end Go.Proofs.Ytfbcbmckicmalaa
