/-
  No cell of these rows narrows 'for every input' (looked for: loops, veiled, ifaces, maps, wideKeys, modest, calm, conditions, laid).
  DERIVED. THE GIVEN ROWS OF THIS SEAT. 12 by the template 'for every input the law returns true; each argument reads behind the call as it read before'; 0 by the template 'total and deterministic' (their statements: YtieibbdfdepmbaaTotals.lean).
  GIVEN WITH THE SEED: the statements are not yours to turn. If you find one false, say at which input.
  Laid BY PROGRAM, IN A SANDBOX (cutbox-rows.mjs): the forced cells as the released guide's own fill.sh prints them over the translation a1af5acf2e3c8d55… (all of the seat's roots in one cut). By AI agents, Wed Nov 11 2026. No macro, syntax, notation, axiom, sorry.
-/
import Derived.Test.YtieibbdfdepmbaaChecked
import GoSem.Claim
import GoSem.ClaimJoined
import GoSem.ClaimMapViews
import Derived.JoinedTies
import Derived.KernelRfl
namespace Go.Proofs.Ytieibbdfdepmbaa
/- THE CELL 'sum', in the pinned program and in every row, IS THE sha256 OF THE DUMP (.gsa) THAT YtieibbdfdepmbaaProg.lean LOADS. Nothing in Lean hashes anything: it is a label: what it is worth is what the hold of that sum in a sandbox is worth. -/
noncomputable def Try.pinned : Pinned := { name := "ytieibbdfdepmbaa", sum := "a1af5acf2e3c8d55057fc965e55ac8bdd278ac0a910a490aa425f3d3c5ab86ea", checked := Try.checked }
namespace Rows
def none {H : Type} : Left H := { results := [], args := [] }

/-- 'laws.FnExactIsConvex': WHATEVER THE INPUT: true; the input reads as it did. -/
def fnExactIsConvexSpec : ChangeSpec := { name := "fnExactIsConvex", fn := fun _ => fun
  | [d] => { results := [.lit (.bool true)], args := [d] }
  | _ => none }
def fnExactIsConvexRow : OpenClaim := { program := "ytieibbdfdepmbaa", sum := "a1af5acf2e3c8d55057fc965e55ac8bdd278ac0a910a490aa425f3d3c5ab86ea", func := "loop.example/planargeometry/laws.FnExactIsConvex", spec := "fnExactIsConvex", unfollowed := true, recurses := true, apart := false }
def FnExactIsConvexSaid : Prop := fnExactIsConvexRow.holds Try.pinned (OpenSpec.ofChange fnExactIsConvexSpec)

/-- ITS FALSE NEIGHBOUR: 'it returns false'. Refute it at one input. -/
def fnExactIsConvexWrong : ChangeSpec := { name := "fnExactIsConvex", fn := fun _ => fun
  | [d] => { results := [.lit (.bool false)], args := [d] }
  | _ => none }
def FnExactIsConvexWrongFalsely : Prop := fnExactIsConvexRow.holds Try.pinned (OpenSpec.ofChange fnExactIsConvexWrong)

/-- 'laws.FnExactLocateConvex': WHATEVER THE INPUT: true; the input reads as it did. -/
def fnExactLocateConvexSpec : ChangeSpec := { name := "fnExactLocateConvex", fn := fun _ => fun
  | [d1, d2] => { results := [.lit (.bool true)], args := [d1, d2] }
  | _ => none }
def fnExactLocateConvexRow : OpenClaim := { program := "ytieibbdfdepmbaa", sum := "a1af5acf2e3c8d55057fc965e55ac8bdd278ac0a910a490aa425f3d3c5ab86ea", func := "loop.example/planargeometry/laws.FnExactLocateConvex", spec := "fnExactLocateConvex", unfollowed := true, recurses := true, apart := false }
def FnExactLocateConvexSaid : Prop := fnExactLocateConvexRow.holds Try.pinned (OpenSpec.ofChange fnExactLocateConvexSpec)

/-- ITS FALSE NEIGHBOUR: 'it returns false'. Refute it at one input. -/
def fnExactLocateConvexWrong : ChangeSpec := { name := "fnExactLocateConvex", fn := fun _ => fun
  | [d1, d2] => { results := [.lit (.bool false)], args := [d1, d2] }
  | _ => none }
def FnExactLocateConvexWrongFalsely : Prop := fnExactLocateConvexRow.holds Try.pinned (OpenSpec.ofChange fnExactLocateConvexWrong)

/-- 'laws.FnExactCanonical': WHATEVER THE INPUT: true; the input reads as it did. -/
def fnExactCanonicalSpec : ChangeSpec := { name := "fnExactCanonical", fn := fun _ => fun
  | [d] => { results := [.lit (.bool true)], args := [d] }
  | _ => none }
def fnExactCanonicalRow : OpenClaim := { program := "ytieibbdfdepmbaa", sum := "a1af5acf2e3c8d55057fc965e55ac8bdd278ac0a910a490aa425f3d3c5ab86ea", func := "loop.example/planargeometry/laws.FnExactCanonical", spec := "fnExactCanonical", unfollowed := true, recurses := true, apart := false }
def FnExactCanonicalSaid : Prop := fnExactCanonicalRow.holds Try.pinned (OpenSpec.ofChange fnExactCanonicalSpec)

/-- ITS FALSE NEIGHBOUR: 'it returns false'. Refute it at one input. -/
def fnExactCanonicalWrong : ChangeSpec := { name := "fnExactCanonical", fn := fun _ => fun
  | [d] => { results := [.lit (.bool false)], args := [d] }
  | _ => none }
def FnExactCanonicalWrongFalsely : Prop := fnExactCanonicalRow.holds Try.pinned (OpenSpec.ofChange fnExactCanonicalWrong)

/-- 'laws.FnHull': WHATEVER THE INPUT: true; the input reads as it did. -/
def fnHullSpec : ChangeSpec := { name := "fnHull", fn := fun _ => fun
  | [d] => { results := [.lit (.bool true)], args := [d] }
  | _ => none }
def fnHullRow : OpenClaim := { program := "ytieibbdfdepmbaa", sum := "a1af5acf2e3c8d55057fc965e55ac8bdd278ac0a910a490aa425f3d3c5ab86ea", func := "loop.example/planargeometry/laws.FnHull", spec := "fnHull", unfollowed := true, recurses := true, apart := false }
def FnHullSaid : Prop := fnHullRow.holds Try.pinned (OpenSpec.ofChange fnHullSpec)

/-- ITS FALSE NEIGHBOUR: 'it returns false'. Refute it at one input. -/
def fnHullWrong : ChangeSpec := { name := "fnHull", fn := fun _ => fun
  | [d] => { results := [.lit (.bool false)], args := [d] }
  | _ => none }
def FnHullWrongFalsely : Prop := fnHullRow.holds Try.pinned (OpenSpec.ofChange fnHullWrong)

/-- 'laws.FnHullOrder': WHATEVER THE INPUT: true; the input reads as it did. -/
def fnHullOrderSpec : ChangeSpec := { name := "fnHullOrder", fn := fun _ => fun
  | [d] => { results := [.lit (.bool true)], args := [d] }
  | _ => none }
def fnHullOrderRow : OpenClaim := { program := "ytieibbdfdepmbaa", sum := "a1af5acf2e3c8d55057fc965e55ac8bdd278ac0a910a490aa425f3d3c5ab86ea", func := "loop.example/planargeometry/laws.FnHullOrder", spec := "fnHullOrder", unfollowed := true, recurses := true, apart := false }
def FnHullOrderSaid : Prop := fnHullOrderRow.holds Try.pinned (OpenSpec.ofChange fnHullOrderSpec)

/-- ITS FALSE NEIGHBOUR: 'it returns false'. Refute it at one input. -/
def fnHullOrderWrong : ChangeSpec := { name := "fnHullOrder", fn := fun _ => fun
  | [d] => { results := [.lit (.bool false)], args := [d] }
  | _ => none }
def FnHullOrderWrongFalsely : Prop := fnHullOrderRow.holds Try.pinned (OpenSpec.ofChange fnHullOrderWrong)

/-- 'laws.FnHullSum': WHATEVER THE INPUT: true; the input reads as it did. -/
def fnHullSumSpec : ChangeSpec := { name := "fnHullSum", fn := fun _ => fun
  | [d1, d2] => { results := [.lit (.bool true)], args := [d1, d2] }
  | _ => none }
def fnHullSumRow : OpenClaim := { program := "ytieibbdfdepmbaa", sum := "a1af5acf2e3c8d55057fc965e55ac8bdd278ac0a910a490aa425f3d3c5ab86ea", func := "loop.example/planargeometry/laws.FnHullSum", spec := "fnHullSum", unfollowed := true, recurses := true, apart := false }
def FnHullSumSaid : Prop := fnHullSumRow.holds Try.pinned (OpenSpec.ofChange fnHullSumSpec)

/-- ITS FALSE NEIGHBOUR: 'it returns false'. Refute it at one input. -/
def fnHullSumWrong : ChangeSpec := { name := "fnHullSum", fn := fun _ => fun
  | [d1, d2] => { results := [.lit (.bool false)], args := [d1, d2] }
  | _ => none }
def FnHullSumWrongFalsely : Prop := fnHullSumRow.holds Try.pinned (OpenSpec.ofChange fnHullSumWrong)

/-- 'laws.FnHullMore': WHATEVER THE INPUT: true; the input reads as it did. -/
def fnHullMoreSpec : ChangeSpec := { name := "fnHullMore", fn := fun _ => fun
  | [d1, d2] => { results := [.lit (.bool true)], args := [d1, d2] }
  | _ => none }
def fnHullMoreRow : OpenClaim := { program := "ytieibbdfdepmbaa", sum := "a1af5acf2e3c8d55057fc965e55ac8bdd278ac0a910a490aa425f3d3c5ab86ea", func := "loop.example/planargeometry/laws.FnHullMore", spec := "fnHullMore", unfollowed := true, recurses := true, apart := false }
def FnHullMoreSaid : Prop := fnHullMoreRow.holds Try.pinned (OpenSpec.ofChange fnHullMoreSpec)

/-- ITS FALSE NEIGHBOUR: 'it returns false'. Refute it at one input. -/
def fnHullMoreWrong : ChangeSpec := { name := "fnHullMore", fn := fun _ => fun
  | [d1, d2] => { results := [.lit (.bool false)], args := [d1, d2] }
  | _ => none }
def FnHullMoreWrongFalsely : Prop := fnHullMoreRow.holds Try.pinned (OpenSpec.ofChange fnHullMoreWrong)

/-- 'laws.FnExtreme': WHATEVER THE INPUT: true; the input reads as it did. -/
def fnExtremeSpec : ChangeSpec := { name := "fnExtreme", fn := fun _ => fun
  | [d] => { results := [.lit (.bool true)], args := [d] }
  | _ => none }
def fnExtremeRow : OpenClaim := { program := "ytieibbdfdepmbaa", sum := "a1af5acf2e3c8d55057fc965e55ac8bdd278ac0a910a490aa425f3d3c5ab86ea", func := "loop.example/planargeometry/laws.FnExtreme", spec := "fnExtreme", unfollowed := true, recurses := true, apart := false }
def FnExtremeSaid : Prop := fnExtremeRow.holds Try.pinned (OpenSpec.ofChange fnExtremeSpec)

/-- ITS FALSE NEIGHBOUR: 'it returns false'. Refute it at one input. -/
def fnExtremeWrong : ChangeSpec := { name := "fnExtreme", fn := fun _ => fun
  | [d] => { results := [.lit (.bool false)], args := [d] }
  | _ => none }
def FnExtremeWrongFalsely : Prop := fnExtremeRow.holds Try.pinned (OpenSpec.ofChange fnExtremeWrong)

/-- 'laws.FnSupportValue': WHATEVER THE INPUT: true; the input reads as it did. -/
def fnSupportValueSpec : ChangeSpec := { name := "fnSupportValue", fn := fun _ => fun
  | [d] => { results := [.lit (.bool true)], args := [d] }
  | _ => none }
def fnSupportValueRow : OpenClaim := { program := "ytieibbdfdepmbaa", sum := "a1af5acf2e3c8d55057fc965e55ac8bdd278ac0a910a490aa425f3d3c5ab86ea", func := "loop.example/planargeometry/laws.FnSupportValue", spec := "fnSupportValue", unfollowed := true, recurses := true, apart := false }
def FnSupportValueSaid : Prop := fnSupportValueRow.holds Try.pinned (OpenSpec.ofChange fnSupportValueSpec)

/-- ITS FALSE NEIGHBOUR: 'it returns false'. Refute it at one input. -/
def fnSupportValueWrong : ChangeSpec := { name := "fnSupportValue", fn := fun _ => fun
  | [d] => { results := [.lit (.bool false)], args := [d] }
  | _ => none }
def FnSupportValueWrongFalsely : Prop := fnSupportValueRow.holds Try.pinned (OpenSpec.ofChange fnSupportValueWrong)

/-- 'laws.FnSortPoints': WHATEVER THE INPUT: true; the input reads as it did. -/
def fnSortPointsSpec : ChangeSpec := { name := "fnSortPoints", fn := fun _ => fun
  | [d] => { results := [.lit (.bool true)], args := [d] }
  | _ => none }
def fnSortPointsRow : OpenClaim := { program := "ytieibbdfdepmbaa", sum := "a1af5acf2e3c8d55057fc965e55ac8bdd278ac0a910a490aa425f3d3c5ab86ea", func := "loop.example/planargeometry/laws.FnSortPoints", spec := "fnSortPoints", unfollowed := true, recurses := true, apart := false }
def FnSortPointsSaid : Prop := fnSortPointsRow.holds Try.pinned (OpenSpec.ofChange fnSortPointsSpec)

/-- ITS FALSE NEIGHBOUR: 'it returns false'. Refute it at one input. -/
def fnSortPointsWrong : ChangeSpec := { name := "fnSortPoints", fn := fun _ => fun
  | [d] => { results := [.lit (.bool false)], args := [d] }
  | _ => none }
def FnSortPointsWrongFalsely : Prop := fnSortPointsRow.holds Try.pinned (OpenSpec.ofChange fnSortPointsWrong)

/-- 'laws.FnCollinear': WHATEVER THE INPUT: true; the input reads as it did. -/
def fnCollinearSpec : ChangeSpec := { name := "fnCollinear", fn := fun _ => fun
  | [d] => { results := [.lit (.bool true)], args := [d] }
  | _ => none }
def fnCollinearRow : OpenClaim := { program := "ytieibbdfdepmbaa", sum := "a1af5acf2e3c8d55057fc965e55ac8bdd278ac0a910a490aa425f3d3c5ab86ea", func := "loop.example/planargeometry/laws.FnCollinear", spec := "fnCollinear", unfollowed := true, recurses := true, apart := false }
def FnCollinearSaid : Prop := fnCollinearRow.holds Try.pinned (OpenSpec.ofChange fnCollinearSpec)

/-- ITS FALSE NEIGHBOUR: 'it returns false'. Refute it at one input. -/
def fnCollinearWrong : ChangeSpec := { name := "fnCollinear", fn := fun _ => fun
  | [d] => { results := [.lit (.bool false)], args := [d] }
  | _ => none }
def FnCollinearWrongFalsely : Prop := fnCollinearRow.holds Try.pinned (OpenSpec.ofChange fnCollinearWrong)

/-- 'laws.FnCrossArea': WHATEVER THE INPUT: true; the input reads as it did. -/
def fnCrossAreaSpec : ChangeSpec := { name := "fnCrossArea", fn := fun _ => fun
  | [d] => { results := [.lit (.bool true)], args := [d] }
  | _ => none }
def fnCrossAreaRow : OpenClaim := { program := "ytieibbdfdepmbaa", sum := "a1af5acf2e3c8d55057fc965e55ac8bdd278ac0a910a490aa425f3d3c5ab86ea", func := "loop.example/planargeometry/laws.FnCrossArea", spec := "fnCrossArea", unfollowed := true, recurses := true, apart := false }
def FnCrossAreaSaid : Prop := fnCrossAreaRow.holds Try.pinned (OpenSpec.ofChange fnCrossAreaSpec)

/-- ITS FALSE NEIGHBOUR: 'it returns false'. Refute it at one input. -/
def fnCrossAreaWrong : ChangeSpec := { name := "fnCrossArea", fn := fun _ => fun
  | [d] => { results := [.lit (.bool false)], args := [d] }
  | _ => none }
def FnCrossAreaWrongFalsely : Prop := fnCrossAreaRow.holds Try.pinned (OpenSpec.ofChange fnCrossAreaWrong)

/- THE SECOND FORM. 'bulk': how many values and letters a reading holds, each counted each time it is reached (what is shared counts as often as it is met; a slice's spare places count too). A statement '..UptoSaid' is the law's where the arguments, and the package variables that the reading takes, are together of bulk at most 1048576: NARROWER than '..Said'. Prove '..Said' where nothing that the law and all that it calls make is longer than what came in: it says more and counts as full. Else prove '..UptoSaid'. A law counts once. -/
mutual
def uptoBulk {H : Type} : DataW H → Nat
  | .lit (.string bytes) => bytes.length + 1
  | .lit _ => 1
  | .nil => 1
  | .ptr d => uptoBulk d + 1
  | .slice elems spare => uptoBulkAll elems + uptoBulkAll spare + 1
  | .agg parts => uptoBulkAll parts + 1
  | .iface _ d => uptoBulk d + 1
  | .map entries => uptoBulkEntries entries + 1
  | .held _ => 1
def uptoBulkAll {H : Type} : List (DataW H) → Nat
  | [] => 0
  | d :: r => uptoBulk d + uptoBulkAll r
def uptoBulkEntries {H : Type} : List (Lit × DataW H) → Nat
  | [] => 0
  | x :: r => uptoBulkEntry x + uptoBulkEntries r
def uptoBulkEntry {H : Type} : Lit × DataW H → Nat
  | (.string bytes, d) => bytes.length + uptoBulk d + 1
  | (_, d) => uptoBulk d + 1
 end
def uptoSmall : (H : Type) → List (DataW H) → Bool := fun _ ds => decide (uptoBulkAll ds ≤ 1048576)
def OpenSpec.upto (s : _root_.Go.ChangeSpec) : _root_.Go.OpenSpec := { _root_.Go.OpenSpec.ofChange s with cond := some uptoSmall }

/-- 'laws.FnExactIsConvex', WHERE WHAT IT READS IS OF BULK AT MOST 1048576: true; the input reads as it did. -/
def fnExactIsConvexUptoRow : OpenClaim := { program := "ytieibbdfdepmbaa", sum := "a1af5acf2e3c8d55057fc965e55ac8bdd278ac0a910a490aa425f3d3c5ab86ea", func := "loop.example/planargeometry/laws.FnExactIsConvex", spec := "fnExactIsConvex", unfollowed := true, recurses := true, apart := false, narrowed := true }
def FnExactIsConvexUptoSaid : Prop := fnExactIsConvexUptoRow.holds Try.pinned (OpenSpec.upto fnExactIsConvexSpec)

/-- 'laws.FnExactLocateConvex', WHERE WHAT IT READS IS OF BULK AT MOST 1048576: true; the input reads as it did. -/
def fnExactLocateConvexUptoRow : OpenClaim := { program := "ytieibbdfdepmbaa", sum := "a1af5acf2e3c8d55057fc965e55ac8bdd278ac0a910a490aa425f3d3c5ab86ea", func := "loop.example/planargeometry/laws.FnExactLocateConvex", spec := "fnExactLocateConvex", unfollowed := true, recurses := true, apart := false, narrowed := true }
def FnExactLocateConvexUptoSaid : Prop := fnExactLocateConvexUptoRow.holds Try.pinned (OpenSpec.upto fnExactLocateConvexSpec)

/-- 'laws.FnExactCanonical', WHERE WHAT IT READS IS OF BULK AT MOST 1048576: true; the input reads as it did. -/
def fnExactCanonicalUptoRow : OpenClaim := { program := "ytieibbdfdepmbaa", sum := "a1af5acf2e3c8d55057fc965e55ac8bdd278ac0a910a490aa425f3d3c5ab86ea", func := "loop.example/planargeometry/laws.FnExactCanonical", spec := "fnExactCanonical", unfollowed := true, recurses := true, apart := false, narrowed := true }
def FnExactCanonicalUptoSaid : Prop := fnExactCanonicalUptoRow.holds Try.pinned (OpenSpec.upto fnExactCanonicalSpec)

/-- 'laws.FnHull', WHERE WHAT IT READS IS OF BULK AT MOST 1048576: true; the input reads as it did. -/
def fnHullUptoRow : OpenClaim := { program := "ytieibbdfdepmbaa", sum := "a1af5acf2e3c8d55057fc965e55ac8bdd278ac0a910a490aa425f3d3c5ab86ea", func := "loop.example/planargeometry/laws.FnHull", spec := "fnHull", unfollowed := true, recurses := true, apart := false, narrowed := true }
def FnHullUptoSaid : Prop := fnHullUptoRow.holds Try.pinned (OpenSpec.upto fnHullSpec)

/-- 'laws.FnHullOrder', WHERE WHAT IT READS IS OF BULK AT MOST 1048576: true; the input reads as it did. -/
def fnHullOrderUptoRow : OpenClaim := { program := "ytieibbdfdepmbaa", sum := "a1af5acf2e3c8d55057fc965e55ac8bdd278ac0a910a490aa425f3d3c5ab86ea", func := "loop.example/planargeometry/laws.FnHullOrder", spec := "fnHullOrder", unfollowed := true, recurses := true, apart := false, narrowed := true }
def FnHullOrderUptoSaid : Prop := fnHullOrderUptoRow.holds Try.pinned (OpenSpec.upto fnHullOrderSpec)

/-- 'laws.FnHullSum', WHERE WHAT IT READS IS OF BULK AT MOST 1048576: true; the input reads as it did. -/
def fnHullSumUptoRow : OpenClaim := { program := "ytieibbdfdepmbaa", sum := "a1af5acf2e3c8d55057fc965e55ac8bdd278ac0a910a490aa425f3d3c5ab86ea", func := "loop.example/planargeometry/laws.FnHullSum", spec := "fnHullSum", unfollowed := true, recurses := true, apart := false, narrowed := true }
def FnHullSumUptoSaid : Prop := fnHullSumUptoRow.holds Try.pinned (OpenSpec.upto fnHullSumSpec)

/-- 'laws.FnHullMore', WHERE WHAT IT READS IS OF BULK AT MOST 1048576: true; the input reads as it did. -/
def fnHullMoreUptoRow : OpenClaim := { program := "ytieibbdfdepmbaa", sum := "a1af5acf2e3c8d55057fc965e55ac8bdd278ac0a910a490aa425f3d3c5ab86ea", func := "loop.example/planargeometry/laws.FnHullMore", spec := "fnHullMore", unfollowed := true, recurses := true, apart := false, narrowed := true }
def FnHullMoreUptoSaid : Prop := fnHullMoreUptoRow.holds Try.pinned (OpenSpec.upto fnHullMoreSpec)

/-- 'laws.FnExtreme', WHERE WHAT IT READS IS OF BULK AT MOST 1048576: true; the input reads as it did. -/
def fnExtremeUptoRow : OpenClaim := { program := "ytieibbdfdepmbaa", sum := "a1af5acf2e3c8d55057fc965e55ac8bdd278ac0a910a490aa425f3d3c5ab86ea", func := "loop.example/planargeometry/laws.FnExtreme", spec := "fnExtreme", unfollowed := true, recurses := true, apart := false, narrowed := true }
def FnExtremeUptoSaid : Prop := fnExtremeUptoRow.holds Try.pinned (OpenSpec.upto fnExtremeSpec)

/-- 'laws.FnSupportValue', WHERE WHAT IT READS IS OF BULK AT MOST 1048576: true; the input reads as it did. -/
def fnSupportValueUptoRow : OpenClaim := { program := "ytieibbdfdepmbaa", sum := "a1af5acf2e3c8d55057fc965e55ac8bdd278ac0a910a490aa425f3d3c5ab86ea", func := "loop.example/planargeometry/laws.FnSupportValue", spec := "fnSupportValue", unfollowed := true, recurses := true, apart := false, narrowed := true }
def FnSupportValueUptoSaid : Prop := fnSupportValueUptoRow.holds Try.pinned (OpenSpec.upto fnSupportValueSpec)

/-- 'laws.FnSortPoints', WHERE WHAT IT READS IS OF BULK AT MOST 1048576: true; the input reads as it did. -/
def fnSortPointsUptoRow : OpenClaim := { program := "ytieibbdfdepmbaa", sum := "a1af5acf2e3c8d55057fc965e55ac8bdd278ac0a910a490aa425f3d3c5ab86ea", func := "loop.example/planargeometry/laws.FnSortPoints", spec := "fnSortPoints", unfollowed := true, recurses := true, apart := false, narrowed := true }
def FnSortPointsUptoSaid : Prop := fnSortPointsUptoRow.holds Try.pinned (OpenSpec.upto fnSortPointsSpec)

/-- 'laws.FnCollinear', WHERE WHAT IT READS IS OF BULK AT MOST 1048576: true; the input reads as it did. -/
def fnCollinearUptoRow : OpenClaim := { program := "ytieibbdfdepmbaa", sum := "a1af5acf2e3c8d55057fc965e55ac8bdd278ac0a910a490aa425f3d3c5ab86ea", func := "loop.example/planargeometry/laws.FnCollinear", spec := "fnCollinear", unfollowed := true, recurses := true, apart := false, narrowed := true }
def FnCollinearUptoSaid : Prop := fnCollinearUptoRow.holds Try.pinned (OpenSpec.upto fnCollinearSpec)

/-- 'laws.FnCrossArea', WHERE WHAT IT READS IS OF BULK AT MOST 1048576: true; the input reads as it did. -/
def fnCrossAreaUptoRow : OpenClaim := { program := "ytieibbdfdepmbaa", sum := "a1af5acf2e3c8d55057fc965e55ac8bdd278ac0a910a490aa425f3d3c5ab86ea", func := "loop.example/planargeometry/laws.FnCrossArea", spec := "fnCrossArea", unfollowed := true, recurses := true, apart := false, narrowed := true }
def FnCrossAreaUptoSaid : Prop := fnCrossAreaUptoRow.holds Try.pinned (OpenSpec.upto fnCrossAreaSpec)

end Rows
end Go.Proofs.Ytieibbdfdepmbaa
