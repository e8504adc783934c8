/-
  No cell of these rows narrows 'for every input' (looked for: loops, veiled, ifaces, maps, wideKeys, modest, calm, conditions, laid).
  DERIVED. THE GIVEN ROWS OF THIS SEAT. 12 by the template 'for every input the law returns true; each argument reads behind the call as it read before'; 0 by the template 'total and deterministic' (their statements: YtblpldapmmoheaaTotals.lean).
  GIVEN WITH THE SEED: the statements are not yours to turn. If you find one false, say at which input.
  Laid BY PROGRAM, IN A SANDBOX (cutbox-rows.mjs): the forced cells as the released guide's own fill.sh prints them over the translation 8e3e25928b047fff… (all of the seat's roots in one cut). By AI agents, Wed Nov 11 2026. No macro, syntax, notation, axiom, sorry.
-/
import Derived.Test.YtblpldapmmoheaaChecked
import GoSem.Claim
import GoSem.ClaimJoined
import GoSem.ClaimMapViews
import Derived.JoinedTies
import Derived.KernelRfl
namespace Go.Proofs.Ytblpldapmmoheaa
/- THE CELL 'sum', in the pinned program and in every row, IS THE sha256 OF THE DUMP (.gsa) THAT YtblpldapmmoheaaProg.lean LOADS. Nothing in Lean hashes anything: it is a label: what it is worth is what the hold of that sum in a sandbox is worth. -/
noncomputable def Try.pinned : Pinned := { name := "ytblpldapmmoheaa", sum := "8e3e25928b047fff7d7c95c022182cccde7d0fd3073039b36ac767aeed412c88", checked := Try.checked }
namespace Rows
def none {H : Type} : Left H := { results := [], args := [] }

/-- 'laws.FnExactSortPoints': WHATEVER THE INPUT: true; the input reads as it did. -/
def fnExactSortPointsSpec : ChangeSpec := { name := "fnExactSortPoints", fn := fun _ => fun
  | [d] => { results := [.lit (.bool true)], args := [d] }
  | _ => none }
def fnExactSortPointsRow : OpenClaim := { program := "ytblpldapmmoheaa", sum := "8e3e25928b047fff7d7c95c022182cccde7d0fd3073039b36ac767aeed412c88", func := "loop.example/planargeometry/laws.FnExactSortPoints", spec := "fnExactSortPoints", unfollowed := true, recurses := true, apart := false }
def FnExactSortPointsSaid : Prop := fnExactSortPointsRow.holds Try.pinned (OpenSpec.ofChange fnExactSortPointsSpec)

/-- ITS FALSE NEIGHBOUR: 'it returns false'. Refute it at one input. -/
def fnExactSortPointsWrong : ChangeSpec := { name := "fnExactSortPoints", fn := fun _ => fun
  | [d] => { results := [.lit (.bool false)], args := [d] }
  | _ => none }
def FnExactSortPointsWrongFalsely : Prop := fnExactSortPointsRow.holds Try.pinned (OpenSpec.ofChange fnExactSortPointsWrong)

/-- 'laws.FnExactHull': WHATEVER THE INPUT: true; the input reads as it did. -/
def fnExactHullSpec : ChangeSpec := { name := "fnExactHull", fn := fun _ => fun
  | [d] => { results := [.lit (.bool true)], args := [d] }
  | _ => none }
def fnExactHullRow : OpenClaim := { program := "ytblpldapmmoheaa", sum := "8e3e25928b047fff7d7c95c022182cccde7d0fd3073039b36ac767aeed412c88", func := "loop.example/planargeometry/laws.FnExactHull", spec := "fnExactHull", unfollowed := true, recurses := true, apart := false }
def FnExactHullSaid : Prop := fnExactHullRow.holds Try.pinned (OpenSpec.ofChange fnExactHullSpec)

/-- ITS FALSE NEIGHBOUR: 'it returns false'. Refute it at one input. -/
def fnExactHullWrong : ChangeSpec := { name := "fnExactHull", fn := fun _ => fun
  | [d] => { results := [.lit (.bool false)], args := [d] }
  | _ => none }
def FnExactHullWrongFalsely : Prop := fnExactHullRow.holds Try.pinned (OpenSpec.ofChange fnExactHullWrong)

/-- 'laws.FnExactHullArea': WHATEVER THE INPUT: true; the input reads as it did. -/
def fnExactHullAreaSpec : ChangeSpec := { name := "fnExactHullArea", fn := fun _ => fun
  | [d] => { results := [.lit (.bool true)], args := [d] }
  | _ => none }
def fnExactHullAreaRow : OpenClaim := { program := "ytblpldapmmoheaa", sum := "8e3e25928b047fff7d7c95c022182cccde7d0fd3073039b36ac767aeed412c88", func := "loop.example/planargeometry/laws.FnExactHullArea", spec := "fnExactHullArea", unfollowed := true, recurses := true, apart := false }
def FnExactHullAreaSaid : Prop := fnExactHullAreaRow.holds Try.pinned (OpenSpec.ofChange fnExactHullAreaSpec)

/-- ITS FALSE NEIGHBOUR: 'it returns false'. Refute it at one input. -/
def fnExactHullAreaWrong : ChangeSpec := { name := "fnExactHullArea", fn := fun _ => fun
  | [d] => { results := [.lit (.bool false)], args := [d] }
  | _ => none }
def FnExactHullAreaWrongFalsely : Prop := fnExactHullAreaRow.holds Try.pinned (OpenSpec.ofChange fnExactHullAreaWrong)

/-- 'laws.FnExactIsConvex': WHATEVER THE INPUT: true; the input reads as it did. -/
def fnExactIsConvexSpec : ChangeSpec := { name := "fnExactIsConvex", fn := fun _ => fun
  | [d] => { results := [.lit (.bool true)], args := [d] }
  | _ => none }
def fnExactIsConvexRow : OpenClaim := { program := "ytblpldapmmoheaa", sum := "8e3e25928b047fff7d7c95c022182cccde7d0fd3073039b36ac767aeed412c88", func := "loop.example/planargeometry/laws.FnExactIsConvex", spec := "fnExactIsConvex", unfollowed := true, recurses := true, apart := false }
def FnExactIsConvexSaid : Prop := fnExactIsConvexRow.holds Try.pinned (OpenSpec.ofChange fnExactIsConvexSpec)

/-- ITS FALSE NEIGHBOUR: 'it returns false'. Refute it at one input. -/
def fnExactIsConvexWrong : ChangeSpec := { name := "fnExactIsConvex", fn := fun _ => fun
  | [d] => { results := [.lit (.bool false)], args := [d] }
  | _ => none }
def FnExactIsConvexWrongFalsely : Prop := fnExactIsConvexRow.holds Try.pinned (OpenSpec.ofChange fnExactIsConvexWrong)

/-- 'laws.FnExactLocateConvex': WHATEVER THE INPUT: true; the input reads as it did. -/
def fnExactLocateConvexSpec : ChangeSpec := { name := "fnExactLocateConvex", fn := fun _ => fun
  | [d1, d2] => { results := [.lit (.bool true)], args := [d1, d2] }
  | _ => none }
def fnExactLocateConvexRow : OpenClaim := { program := "ytblpldapmmoheaa", sum := "8e3e25928b047fff7d7c95c022182cccde7d0fd3073039b36ac767aeed412c88", func := "loop.example/planargeometry/laws.FnExactLocateConvex", spec := "fnExactLocateConvex", unfollowed := true, recurses := true, apart := false }
def FnExactLocateConvexSaid : Prop := fnExactLocateConvexRow.holds Try.pinned (OpenSpec.ofChange fnExactLocateConvexSpec)

/-- ITS FALSE NEIGHBOUR: 'it returns false'. Refute it at one input. -/
def fnExactLocateConvexWrong : ChangeSpec := { name := "fnExactLocateConvex", fn := fun _ => fun
  | [d1, d2] => { results := [.lit (.bool false)], args := [d1, d2] }
  | _ => none }
def FnExactLocateConvexWrongFalsely : Prop := fnExactLocateConvexRow.holds Try.pinned (OpenSpec.ofChange fnExactLocateConvexWrong)

/-- 'laws.FnExactCanonical': WHATEVER THE INPUT: true; the input reads as it did. -/
def fnExactCanonicalSpec : ChangeSpec := { name := "fnExactCanonical", fn := fun _ => fun
  | [d] => { results := [.lit (.bool true)], args := [d] }
  | _ => none }
def fnExactCanonicalRow : OpenClaim := { program := "ytblpldapmmoheaa", sum := "8e3e25928b047fff7d7c95c022182cccde7d0fd3073039b36ac767aeed412c88", func := "loop.example/planargeometry/laws.FnExactCanonical", spec := "fnExactCanonical", unfollowed := true, recurses := true, apart := false }
def FnExactCanonicalSaid : Prop := fnExactCanonicalRow.holds Try.pinned (OpenSpec.ofChange fnExactCanonicalSpec)

/-- ITS FALSE NEIGHBOUR: 'it returns false'. Refute it at one input. -/
def fnExactCanonicalWrong : ChangeSpec := { name := "fnExactCanonical", fn := fun _ => fun
  | [d] => { results := [.lit (.bool false)], args := [d] }
  | _ => none }
def FnExactCanonicalWrongFalsely : Prop := fnExactCanonicalRow.holds Try.pinned (OpenSpec.ofChange fnExactCanonicalWrong)

/-- 'laws.FnExactDiameter': WHATEVER THE INPUT: true; the input reads as it did. -/
def fnExactDiameterSpec : ChangeSpec := { name := "fnExactDiameter", fn := fun _ => fun
  | [d] => { results := [.lit (.bool true)], args := [d] }
  | _ => none }
def fnExactDiameterRow : OpenClaim := { program := "ytblpldapmmoheaa", sum := "8e3e25928b047fff7d7c95c022182cccde7d0fd3073039b36ac767aeed412c88", func := "loop.example/planargeometry/laws.FnExactDiameter", spec := "fnExactDiameter", unfollowed := true, recurses := true, apart := false }
def FnExactDiameterSaid : Prop := fnExactDiameterRow.holds Try.pinned (OpenSpec.ofChange fnExactDiameterSpec)

/-- ITS FALSE NEIGHBOUR: 'it returns false'. Refute it at one input. -/
def fnExactDiameterWrong : ChangeSpec := { name := "fnExactDiameter", fn := fun _ => fun
  | [d] => { results := [.lit (.bool false)], args := [d] }
  | _ => none }
def FnExactDiameterWrongFalsely : Prop := fnExactDiameterRow.holds Try.pinned (OpenSpec.ofChange fnExactDiameterWrong)

/-- 'laws.FnSortPoints': WHATEVER THE INPUT: true; the input reads as it did. -/
def fnSortPointsSpec : ChangeSpec := { name := "fnSortPoints", fn := fun _ => fun
  | [d] => { results := [.lit (.bool true)], args := [d] }
  | _ => none }
def fnSortPointsRow : OpenClaim := { program := "ytblpldapmmoheaa", sum := "8e3e25928b047fff7d7c95c022182cccde7d0fd3073039b36ac767aeed412c88", func := "loop.example/planargeometry/laws.FnSortPoints", spec := "fnSortPoints", unfollowed := true, recurses := true, apart := false }
def FnSortPointsSaid : Prop := fnSortPointsRow.holds Try.pinned (OpenSpec.ofChange fnSortPointsSpec)

/-- ITS FALSE NEIGHBOUR: 'it returns false'. Refute it at one input. -/
def fnSortPointsWrong : ChangeSpec := { name := "fnSortPoints", fn := fun _ => fun
  | [d] => { results := [.lit (.bool false)], args := [d] }
  | _ => none }
def FnSortPointsWrongFalsely : Prop := fnSortPointsRow.holds Try.pinned (OpenSpec.ofChange fnSortPointsWrong)

/-- 'laws.FnCollinear': WHATEVER THE INPUT: true; the input reads as it did. -/
def fnCollinearSpec : ChangeSpec := { name := "fnCollinear", fn := fun _ => fun
  | [d] => { results := [.lit (.bool true)], args := [d] }
  | _ => none }
def fnCollinearRow : OpenClaim := { program := "ytblpldapmmoheaa", sum := "8e3e25928b047fff7d7c95c022182cccde7d0fd3073039b36ac767aeed412c88", func := "loop.example/planargeometry/laws.FnCollinear", spec := "fnCollinear", unfollowed := true, recurses := true, apart := false }
def FnCollinearSaid : Prop := fnCollinearRow.holds Try.pinned (OpenSpec.ofChange fnCollinearSpec)

/-- ITS FALSE NEIGHBOUR: 'it returns false'. Refute it at one input. -/
def fnCollinearWrong : ChangeSpec := { name := "fnCollinear", fn := fun _ => fun
  | [d] => { results := [.lit (.bool false)], args := [d] }
  | _ => none }
def FnCollinearWrongFalsely : Prop := fnCollinearRow.holds Try.pinned (OpenSpec.ofChange fnCollinearWrong)

/-- 'laws.FnPick': WHATEVER THE INPUT: true; the input reads as it did. -/
def fnPickSpec : ChangeSpec := { name := "fnPick", fn := fun _ => fun
  | [d] => { results := [.lit (.bool true)], args := [d] }
  | _ => none }
def fnPickRow : OpenClaim := { program := "ytblpldapmmoheaa", sum := "8e3e25928b047fff7d7c95c022182cccde7d0fd3073039b36ac767aeed412c88", func := "loop.example/planargeometry/laws.FnPick", spec := "fnPick", unfollowed := true, recurses := true, apart := false }
def FnPickSaid : Prop := fnPickRow.holds Try.pinned (OpenSpec.ofChange fnPickSpec)

/-- ITS FALSE NEIGHBOUR: 'it returns false'. Refute it at one input. -/
def fnPickWrong : ChangeSpec := { name := "fnPick", fn := fun _ => fun
  | [d] => { results := [.lit (.bool false)], args := [d] }
  | _ => none }
def FnPickWrongFalsely : Prop := fnPickRow.holds Try.pinned (OpenSpec.ofChange fnPickWrong)

/-- 'laws.FnBoundaryCount': WHATEVER THE INPUT: true; the input reads as it did. -/
def fnBoundaryCountSpec : ChangeSpec := { name := "fnBoundaryCount", fn := fun _ => fun
  | [d1, d2] => { results := [.lit (.bool true)], args := [d1, d2] }
  | _ => none }
def fnBoundaryCountRow : OpenClaim := { program := "ytblpldapmmoheaa", sum := "8e3e25928b047fff7d7c95c022182cccde7d0fd3073039b36ac767aeed412c88", func := "loop.example/planargeometry/laws.FnBoundaryCount", spec := "fnBoundaryCount", unfollowed := true, recurses := true, apart := false }
def FnBoundaryCountSaid : Prop := fnBoundaryCountRow.holds Try.pinned (OpenSpec.ofChange fnBoundaryCountSpec)

/-- ITS FALSE NEIGHBOUR: 'it returns false'. Refute it at one input. -/
def fnBoundaryCountWrong : ChangeSpec := { name := "fnBoundaryCount", fn := fun _ => fun
  | [d1, d2] => { results := [.lit (.bool false)], args := [d1, d2] }
  | _ => none }
def FnBoundaryCountWrongFalsely : Prop := fnBoundaryCountRow.holds Try.pinned (OpenSpec.ofChange fnBoundaryCountWrong)

/-- 'laws.FnIsSimple': WHATEVER THE INPUT: true; the input reads as it did. -/
def fnIsSimpleSpec : ChangeSpec := { name := "fnIsSimple", fn := fun _ => fun
  | [d1, d2] => { results := [.lit (.bool true)], args := [d1, d2] }
  | _ => none }
def fnIsSimpleRow : OpenClaim := { program := "ytblpldapmmoheaa", sum := "8e3e25928b047fff7d7c95c022182cccde7d0fd3073039b36ac767aeed412c88", func := "loop.example/planargeometry/laws.FnIsSimple", spec := "fnIsSimple", unfollowed := true, recurses := true, apart := false }
def FnIsSimpleSaid : Prop := fnIsSimpleRow.holds Try.pinned (OpenSpec.ofChange fnIsSimpleSpec)

/-- ITS FALSE NEIGHBOUR: 'it returns false'. Refute it at one input. -/
def fnIsSimpleWrong : ChangeSpec := { name := "fnIsSimple", fn := fun _ => fun
  | [d1, d2] => { results := [.lit (.bool false)], args := [d1, d2] }
  | _ => none }
def FnIsSimpleWrongFalsely : Prop := fnIsSimpleRow.holds Try.pinned (OpenSpec.ofChange fnIsSimpleWrong)

/- THE SECOND FORM. 'bulk': how many values and letters a reading holds, each counted each time it is reached (what is shared counts as often as it is met; a slice's spare places count too). A statement '..UptoSaid' is the law's where the arguments, and the package variables that the reading takes, are together of bulk at most 1048576: NARROWER than '..Said'. Prove '..Said' where nothing that the law and all that it calls make is longer than what came in: it says more and counts as full. Else prove '..UptoSaid'. A law counts once. -/
mutual
def uptoBulk {H : Type} : DataW H → Nat
  | .lit (.string bytes) => bytes.length + 1
  | .lit _ => 1
  | .nil => 1
  | .ptr d => uptoBulk d + 1
  | .slice elems spare => uptoBulkAll elems + uptoBulkAll spare + 1
  | .agg parts => uptoBulkAll parts + 1
  | .iface _ d => uptoBulk d + 1
  | .map entries => uptoBulkEntries entries + 1
  | .held _ => 1
def uptoBulkAll {H : Type} : List (DataW H) → Nat
  | [] => 0
  | d :: r => uptoBulk d + uptoBulkAll r
def uptoBulkEntries {H : Type} : List (Lit × DataW H) → Nat
  | [] => 0
  | x :: r => uptoBulkEntry x + uptoBulkEntries r
def uptoBulkEntry {H : Type} : Lit × DataW H → Nat
  | (.string bytes, d) => bytes.length + uptoBulk d + 1
  | (_, d) => uptoBulk d + 1
 end
def uptoSmall : (H : Type) → List (DataW H) → Bool := fun _ ds => decide (uptoBulkAll ds ≤ 1048576)
def OpenSpec.upto (s : _root_.Go.ChangeSpec) : _root_.Go.OpenSpec := { _root_.Go.OpenSpec.ofChange s with cond := some uptoSmall }

/-- 'laws.FnExactSortPoints', WHERE WHAT IT READS IS OF BULK AT MOST 1048576: true; the input reads as it did. -/
def fnExactSortPointsUptoRow : OpenClaim := { program := "ytblpldapmmoheaa", sum := "8e3e25928b047fff7d7c95c022182cccde7d0fd3073039b36ac767aeed412c88", func := "loop.example/planargeometry/laws.FnExactSortPoints", spec := "fnExactSortPoints", unfollowed := true, recurses := true, apart := false, narrowed := true }
def FnExactSortPointsUptoSaid : Prop := fnExactSortPointsUptoRow.holds Try.pinned (OpenSpec.upto fnExactSortPointsSpec)

/-- 'laws.FnExactHull', WHERE WHAT IT READS IS OF BULK AT MOST 1048576: true; the input reads as it did. -/
def fnExactHullUptoRow : OpenClaim := { program := "ytblpldapmmoheaa", sum := "8e3e25928b047fff7d7c95c022182cccde7d0fd3073039b36ac767aeed412c88", func := "loop.example/planargeometry/laws.FnExactHull", spec := "fnExactHull", unfollowed := true, recurses := true, apart := false, narrowed := true }
def FnExactHullUptoSaid : Prop := fnExactHullUptoRow.holds Try.pinned (OpenSpec.upto fnExactHullSpec)

/-- 'laws.FnExactHullArea', WHERE WHAT IT READS IS OF BULK AT MOST 1048576: true; the input reads as it did. -/
def fnExactHullAreaUptoRow : OpenClaim := { program := "ytblpldapmmoheaa", sum := "8e3e25928b047fff7d7c95c022182cccde7d0fd3073039b36ac767aeed412c88", func := "loop.example/planargeometry/laws.FnExactHullArea", spec := "fnExactHullArea", unfollowed := true, recurses := true, apart := false, narrowed := true }
def FnExactHullAreaUptoSaid : Prop := fnExactHullAreaUptoRow.holds Try.pinned (OpenSpec.upto fnExactHullAreaSpec)

/-- 'laws.FnExactIsConvex', WHERE WHAT IT READS IS OF BULK AT MOST 1048576: true; the input reads as it did. -/
def fnExactIsConvexUptoRow : OpenClaim := { program := "ytblpldapmmoheaa", sum := "8e3e25928b047fff7d7c95c022182cccde7d0fd3073039b36ac767aeed412c88", func := "loop.example/planargeometry/laws.FnExactIsConvex", spec := "fnExactIsConvex", unfollowed := true, recurses := true, apart := false, narrowed := true }
def FnExactIsConvexUptoSaid : Prop := fnExactIsConvexUptoRow.holds Try.pinned (OpenSpec.upto fnExactIsConvexSpec)

/-- 'laws.FnExactLocateConvex', WHERE WHAT IT READS IS OF BULK AT MOST 1048576: true; the input reads as it did. -/
def fnExactLocateConvexUptoRow : OpenClaim := { program := "ytblpldapmmoheaa", sum := "8e3e25928b047fff7d7c95c022182cccde7d0fd3073039b36ac767aeed412c88", func := "loop.example/planargeometry/laws.FnExactLocateConvex", spec := "fnExactLocateConvex", unfollowed := true, recurses := true, apart := false, narrowed := true }
def FnExactLocateConvexUptoSaid : Prop := fnExactLocateConvexUptoRow.holds Try.pinned (OpenSpec.upto fnExactLocateConvexSpec)

/-- 'laws.FnExactCanonical', WHERE WHAT IT READS IS OF BULK AT MOST 1048576: true; the input reads as it did. -/
def fnExactCanonicalUptoRow : OpenClaim := { program := "ytblpldapmmoheaa", sum := "8e3e25928b047fff7d7c95c022182cccde7d0fd3073039b36ac767aeed412c88", func := "loop.example/planargeometry/laws.FnExactCanonical", spec := "fnExactCanonical", unfollowed := true, recurses := true, apart := false, narrowed := true }
def FnExactCanonicalUptoSaid : Prop := fnExactCanonicalUptoRow.holds Try.pinned (OpenSpec.upto fnExactCanonicalSpec)

/-- 'laws.FnExactDiameter', WHERE WHAT IT READS IS OF BULK AT MOST 1048576: true; the input reads as it did. -/
def fnExactDiameterUptoRow : OpenClaim := { program := "ytblpldapmmoheaa", sum := "8e3e25928b047fff7d7c95c022182cccde7d0fd3073039b36ac767aeed412c88", func := "loop.example/planargeometry/laws.FnExactDiameter", spec := "fnExactDiameter", unfollowed := true, recurses := true, apart := false, narrowed := true }
def FnExactDiameterUptoSaid : Prop := fnExactDiameterUptoRow.holds Try.pinned (OpenSpec.upto fnExactDiameterSpec)

/-- 'laws.FnSortPoints', WHERE WHAT IT READS IS OF BULK AT MOST 1048576: true; the input reads as it did. -/
def fnSortPointsUptoRow : OpenClaim := { program := "ytblpldapmmoheaa", sum := "8e3e25928b047fff7d7c95c022182cccde7d0fd3073039b36ac767aeed412c88", func := "loop.example/planargeometry/laws.FnSortPoints", spec := "fnSortPoints", unfollowed := true, recurses := true, apart := false, narrowed := true }
def FnSortPointsUptoSaid : Prop := fnSortPointsUptoRow.holds Try.pinned (OpenSpec.upto fnSortPointsSpec)

/-- 'laws.FnCollinear', WHERE WHAT IT READS IS OF BULK AT MOST 1048576: true; the input reads as it did. -/
def fnCollinearUptoRow : OpenClaim := { program := "ytblpldapmmoheaa", sum := "8e3e25928b047fff7d7c95c022182cccde7d0fd3073039b36ac767aeed412c88", func := "loop.example/planargeometry/laws.FnCollinear", spec := "fnCollinear", unfollowed := true, recurses := true, apart := false, narrowed := true }
def FnCollinearUptoSaid : Prop := fnCollinearUptoRow.holds Try.pinned (OpenSpec.upto fnCollinearSpec)

/-- 'laws.FnPick', WHERE WHAT IT READS IS OF BULK AT MOST 1048576: true; the input reads as it did. -/
def fnPickUptoRow : OpenClaim := { program := "ytblpldapmmoheaa", sum := "8e3e25928b047fff7d7c95c022182cccde7d0fd3073039b36ac767aeed412c88", func := "loop.example/planargeometry/laws.FnPick", spec := "fnPick", unfollowed := true, recurses := true, apart := false, narrowed := true }
def FnPickUptoSaid : Prop := fnPickUptoRow.holds Try.pinned (OpenSpec.upto fnPickSpec)

/-- 'laws.FnBoundaryCount', WHERE WHAT IT READS IS OF BULK AT MOST 1048576: true; the input reads as it did. -/
def fnBoundaryCountUptoRow : OpenClaim := { program := "ytblpldapmmoheaa", sum := "8e3e25928b047fff7d7c95c022182cccde7d0fd3073039b36ac767aeed412c88", func := "loop.example/planargeometry/laws.FnBoundaryCount", spec := "fnBoundaryCount", unfollowed := true, recurses := true, apart := false, narrowed := true }
def FnBoundaryCountUptoSaid : Prop := fnBoundaryCountUptoRow.holds Try.pinned (OpenSpec.upto fnBoundaryCountSpec)

/-- 'laws.FnIsSimple', WHERE WHAT IT READS IS OF BULK AT MOST 1048576: true; the input reads as it did. -/
def fnIsSimpleUptoRow : OpenClaim := { program := "ytblpldapmmoheaa", sum := "8e3e25928b047fff7d7c95c022182cccde7d0fd3073039b36ac767aeed412c88", func := "loop.example/planargeometry/laws.FnIsSimple", spec := "fnIsSimple", unfollowed := true, recurses := true, apart := false, narrowed := true }
def FnIsSimpleUptoSaid : Prop := fnIsSimpleUptoRow.holds Try.pinned (OpenSpec.upto fnIsSimpleSpec)

end Rows
end Go.Proofs.Ytblpldapmmoheaa
