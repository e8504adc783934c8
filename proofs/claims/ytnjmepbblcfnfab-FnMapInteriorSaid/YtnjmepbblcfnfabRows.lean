/-
  No cell of these rows narrows 'for every input' (looked for: loops, veiled, ifaces, maps, wideKeys, modest, calm, conditions, laid).
  DERIVED. THE GIVEN ROWS OF THIS SEAT. 12 by the template 'for every input the law returns true; each argument reads behind the call as it read before'; 0 by the template 'total and deterministic' (their statements: YtnjmepbblcfnfabTotals.lean).
  GIVEN WITH THE SEED: the statements are not yours to turn. If you find one false, say at which input.
  Laid BY PROGRAM, IN A SANDBOX (cutbox-rows.mjs): the forced cells as the released guide's own fill.sh prints them over the translation 48ceb2a0caf5be35… (all of the seat's roots in one cut). By AI agents, Wed Nov 11 2026. No macro, syntax, notation, axiom, sorry.
-/
import Derived.Test.YtnjmepbblcfnfabChecked
import GoSem.Claim
import GoSem.ClaimJoined
import GoSem.ClaimMapViews
import Derived.JoinedTies
import Derived.KernelRfl
namespace Go.Proofs.Ytnjmepbblcfnfab
/- THE CELL 'sum', in the pinned program and in every row, IS THE sha256 OF THE DUMP (.gsa) THAT YtnjmepbblcfnfabProg.lean LOADS. Nothing in Lean hashes anything: it is a label: what it is worth is what the hold of that sum in a sandbox is worth. -/
noncomputable def Try.pinned : Pinned := { name := "ytnjmepbblcfnfab", sum := "48ceb2a0caf5be35ee8c01fc39ca938697451964f5b32ddca233636156580c30", checked := Try.checked }
namespace Rows
def none {H : Type} : Left H := { results := [], args := [] }

/-- 'laws.FnIsSimple': WHATEVER THE INPUT: true; the input reads as it did. -/
def fnIsSimpleSpec : ChangeSpec := { name := "fnIsSimple", fn := fun _ => fun
  | [d1, d2] => { results := [.lit (.bool true)], args := [d1, d2] }
  | _ => none }
def fnIsSimpleRow : OpenClaim := { program := "ytnjmepbblcfnfab", sum := "48ceb2a0caf5be35ee8c01fc39ca938697451964f5b32ddca233636156580c30", func := "loop.example/planargeometry/laws.FnIsSimple", spec := "fnIsSimple", unfollowed := true, recurses := true, apart := false }
def FnIsSimpleSaid : Prop := fnIsSimpleRow.holds Try.pinned (OpenSpec.ofChange fnIsSimpleSpec)

/-- ITS FALSE NEIGHBOUR: 'it returns false'. Refute it at one input. -/
def fnIsSimpleWrong : ChangeSpec := { name := "fnIsSimple", fn := fun _ => fun
  | [d1, d2] => { results := [.lit (.bool false)], args := [d1, d2] }
  | _ => none }
def FnIsSimpleWrongFalsely : Prop := fnIsSimpleRow.holds Try.pinned (OpenSpec.ofChange fnIsSimpleWrong)

/-- 'laws.FnDoubleArea': WHATEVER THE INPUT: true; the input reads as it did. -/
def fnDoubleAreaSpec : ChangeSpec := { name := "fnDoubleArea", fn := fun _ => fun
  | [d1, d2] => { results := [.lit (.bool true)], args := [d1, d2] }
  | _ => none }
def fnDoubleAreaRow : OpenClaim := { program := "ytnjmepbblcfnfab", sum := "48ceb2a0caf5be35ee8c01fc39ca938697451964f5b32ddca233636156580c30", func := "loop.example/planargeometry/laws.FnDoubleArea", spec := "fnDoubleArea", unfollowed := true, recurses := true, apart := false }
def FnDoubleAreaSaid : Prop := fnDoubleAreaRow.holds Try.pinned (OpenSpec.ofChange fnDoubleAreaSpec)

/-- ITS FALSE NEIGHBOUR: 'it returns false'. Refute it at one input. -/
def fnDoubleAreaWrong : ChangeSpec := { name := "fnDoubleArea", fn := fun _ => fun
  | [d1, d2] => { results := [.lit (.bool false)], args := [d1, d2] }
  | _ => none }
def FnDoubleAreaWrongFalsely : Prop := fnDoubleAreaRow.holds Try.pinned (OpenSpec.ofChange fnDoubleAreaWrong)

/-- 'laws.FnLocate': WHATEVER THE INPUT: true; the input reads as it did. -/
def fnLocateSpec : ChangeSpec := { name := "fnLocate", fn := fun _ => fun
  | [d] => { results := [.lit (.bool true)], args := [d] }
  | _ => none }
def fnLocateRow : OpenClaim := { program := "ytnjmepbblcfnfab", sum := "48ceb2a0caf5be35ee8c01fc39ca938697451964f5b32ddca233636156580c30", func := "loop.example/planargeometry/laws.FnLocate", spec := "fnLocate", unfollowed := true, recurses := true, apart := false }
def FnLocateSaid : Prop := fnLocateRow.holds Try.pinned (OpenSpec.ofChange fnLocateSpec)

/-- ITS FALSE NEIGHBOUR: 'it returns false'. Refute it at one input. -/
def fnLocateWrong : ChangeSpec := { name := "fnLocate", fn := fun _ => fun
  | [d] => { results := [.lit (.bool false)], args := [d] }
  | _ => none }
def FnLocateWrongFalsely : Prop := fnLocateRow.holds Try.pinned (OpenSpec.ofChange fnLocateWrong)

/-- 'laws.FnPick': WHATEVER THE INPUT: true; the input reads as it did. -/
def fnPickSpec : ChangeSpec := { name := "fnPick", fn := fun _ => fun
  | [d] => { results := [.lit (.bool true)], args := [d] }
  | _ => none }
def fnPickRow : OpenClaim := { program := "ytnjmepbblcfnfab", sum := "48ceb2a0caf5be35ee8c01fc39ca938697451964f5b32ddca233636156580c30", func := "loop.example/planargeometry/laws.FnPick", spec := "fnPick", unfollowed := true, recurses := true, apart := false }
def FnPickSaid : Prop := fnPickRow.holds Try.pinned (OpenSpec.ofChange fnPickSpec)

/-- ITS FALSE NEIGHBOUR: 'it returns false'. Refute it at one input. -/
def fnPickWrong : ChangeSpec := { name := "fnPick", fn := fun _ => fun
  | [d] => { results := [.lit (.bool false)], args := [d] }
  | _ => none }
def FnPickWrongFalsely : Prop := fnPickRow.holds Try.pinned (OpenSpec.ofChange fnPickWrong)

/-- 'laws.FnBoundaryCount': WHATEVER THE INPUT: true; the input reads as it did. -/
def fnBoundaryCountSpec : ChangeSpec := { name := "fnBoundaryCount", fn := fun _ => fun
  | [d1, d2] => { results := [.lit (.bool true)], args := [d1, d2] }
  | _ => none }
def fnBoundaryCountRow : OpenClaim := { program := "ytnjmepbblcfnfab", sum := "48ceb2a0caf5be35ee8c01fc39ca938697451964f5b32ddca233636156580c30", func := "loop.example/planargeometry/laws.FnBoundaryCount", spec := "fnBoundaryCount", unfollowed := true, recurses := true, apart := false }
def FnBoundaryCountSaid : Prop := fnBoundaryCountRow.holds Try.pinned (OpenSpec.ofChange fnBoundaryCountSpec)

/-- ITS FALSE NEIGHBOUR: 'it returns false'. Refute it at one input. -/
def fnBoundaryCountWrong : ChangeSpec := { name := "fnBoundaryCount", fn := fun _ => fun
  | [d1, d2] => { results := [.lit (.bool false)], args := [d1, d2] }
  | _ => none }
def FnBoundaryCountWrongFalsely : Prop := fnBoundaryCountRow.holds Try.pinned (OpenSpec.ofChange fnBoundaryCountWrong)

/-- 'laws.FnCanonical': WHATEVER THE INPUT: true; the input reads as it did. -/
def fnCanonicalSpec : ChangeSpec := { name := "fnCanonical", fn := fun _ => fun
  | [d1, d2] => { results := [.lit (.bool true)], args := [d1, d2] }
  | _ => none }
def fnCanonicalRow : OpenClaim := { program := "ytnjmepbblcfnfab", sum := "48ceb2a0caf5be35ee8c01fc39ca938697451964f5b32ddca233636156580c30", func := "loop.example/planargeometry/laws.FnCanonical", spec := "fnCanonical", unfollowed := true, recurses := true, apart := false }
def FnCanonicalSaid : Prop := fnCanonicalRow.holds Try.pinned (OpenSpec.ofChange fnCanonicalSpec)

/-- ITS FALSE NEIGHBOUR: 'it returns false'. Refute it at one input. -/
def fnCanonicalWrong : ChangeSpec := { name := "fnCanonical", fn := fun _ => fun
  | [d1, d2] => { results := [.lit (.bool false)], args := [d1, d2] }
  | _ => none }
def FnCanonicalWrongFalsely : Prop := fnCanonicalRow.holds Try.pinned (OpenSpec.ofChange fnCanonicalWrong)

/-- 'laws.FnIsConvex': WHATEVER THE INPUT: true; the input reads as it did. -/
def fnIsConvexSpec : ChangeSpec := { name := "fnIsConvex", fn := fun _ => fun
  | [d] => { results := [.lit (.bool true)], args := [d] }
  | _ => none }
def fnIsConvexRow : OpenClaim := { program := "ytnjmepbblcfnfab", sum := "48ceb2a0caf5be35ee8c01fc39ca938697451964f5b32ddca233636156580c30", func := "loop.example/planargeometry/laws.FnIsConvex", spec := "fnIsConvex", unfollowed := true, recurses := true, apart := false }
def FnIsConvexSaid : Prop := fnIsConvexRow.holds Try.pinned (OpenSpec.ofChange fnIsConvexSpec)

/-- ITS FALSE NEIGHBOUR: 'it returns false'. Refute it at one input. -/
def fnIsConvexWrong : ChangeSpec := { name := "fnIsConvex", fn := fun _ => fun
  | [d] => { results := [.lit (.bool false)], args := [d] }
  | _ => none }
def FnIsConvexWrongFalsely : Prop := fnIsConvexRow.holds Try.pinned (OpenSpec.ofChange fnIsConvexWrong)

/-- 'laws.FnLocateConvex': WHATEVER THE INPUT: true; the input reads as it did. -/
def fnLocateConvexSpec : ChangeSpec := { name := "fnLocateConvex", fn := fun _ => fun
  | [d] => { results := [.lit (.bool true)], args := [d] }
  | _ => none }
def fnLocateConvexRow : OpenClaim := { program := "ytnjmepbblcfnfab", sum := "48ceb2a0caf5be35ee8c01fc39ca938697451964f5b32ddca233636156580c30", func := "loop.example/planargeometry/laws.FnLocateConvex", spec := "fnLocateConvex", unfollowed := true, recurses := true, apart := false }
def FnLocateConvexSaid : Prop := fnLocateConvexRow.holds Try.pinned (OpenSpec.ofChange fnLocateConvexSpec)

/-- ITS FALSE NEIGHBOUR: 'it returns false'. Refute it at one input. -/
def fnLocateConvexWrong : ChangeSpec := { name := "fnLocateConvex", fn := fun _ => fun
  | [d] => { results := [.lit (.bool false)], args := [d] }
  | _ => none }
def FnLocateConvexWrongFalsely : Prop := fnLocateConvexRow.holds Try.pinned (OpenSpec.ofChange fnLocateConvexWrong)

/-- 'laws.FnMapArea': WHATEVER THE INPUT: true; the input reads as it did. -/
def fnMapAreaSpec : ChangeSpec := { name := "fnMapArea", fn := fun _ => fun
  | [d] => { results := [.lit (.bool true)], args := [d] }
  | _ => none }
def fnMapAreaRow : OpenClaim := { program := "ytnjmepbblcfnfab", sum := "48ceb2a0caf5be35ee8c01fc39ca938697451964f5b32ddca233636156580c30", func := "loop.example/planargeometry/laws.FnMapArea", spec := "fnMapArea", unfollowed := true, recurses := true, apart := false }
def FnMapAreaSaid : Prop := fnMapAreaRow.holds Try.pinned (OpenSpec.ofChange fnMapAreaSpec)

/-- ITS FALSE NEIGHBOUR: 'it returns false'. Refute it at one input. -/
def fnMapAreaWrong : ChangeSpec := { name := "fnMapArea", fn := fun _ => fun
  | [d] => { results := [.lit (.bool false)], args := [d] }
  | _ => none }
def FnMapAreaWrongFalsely : Prop := fnMapAreaRow.holds Try.pinned (OpenSpec.ofChange fnMapAreaWrong)

/-- 'laws.FnMapInterior': WHATEVER THE INPUT: true; the input reads as it did. -/
def fnMapInteriorSpec : ChangeSpec := { name := "fnMapInterior", fn := fun _ => fun
  | [d] => { results := [.lit (.bool true)], args := [d] }
  | _ => none }
def fnMapInteriorRow : OpenClaim := { program := "ytnjmepbblcfnfab", sum := "48ceb2a0caf5be35ee8c01fc39ca938697451964f5b32ddca233636156580c30", func := "loop.example/planargeometry/laws.FnMapInterior", spec := "fnMapInterior", unfollowed := true, recurses := true, apart := false }
def FnMapInteriorSaid : Prop := fnMapInteriorRow.holds Try.pinned (OpenSpec.ofChange fnMapInteriorSpec)

/-- ITS FALSE NEIGHBOUR: 'it returns false'. Refute it at one input. -/
def fnMapInteriorWrong : ChangeSpec := { name := "fnMapInterior", fn := fun _ => fun
  | [d] => { results := [.lit (.bool false)], args := [d] }
  | _ => none }
def FnMapInteriorWrongFalsely : Prop := fnMapInteriorRow.holds Try.pinned (OpenSpec.ofChange fnMapInteriorWrong)

/-- 'laws.FnExactLatticeInside': WHATEVER THE INPUT: true; the input reads as it did. -/
def fnExactLatticeInsideSpec : ChangeSpec := { name := "fnExactLatticeInside", fn := fun _ => fun
  | [d] => { results := [.lit (.bool true)], args := [d] }
  | _ => none }
def fnExactLatticeInsideRow : OpenClaim := { program := "ytnjmepbblcfnfab", sum := "48ceb2a0caf5be35ee8c01fc39ca938697451964f5b32ddca233636156580c30", func := "loop.example/planargeometry/laws.FnExactLatticeInside", spec := "fnExactLatticeInside", unfollowed := true, recurses := true, apart := false }
def FnExactLatticeInsideSaid : Prop := fnExactLatticeInsideRow.holds Try.pinned (OpenSpec.ofChange fnExactLatticeInsideSpec)

/-- ITS FALSE NEIGHBOUR: 'it returns false'. Refute it at one input. -/
def fnExactLatticeInsideWrong : ChangeSpec := { name := "fnExactLatticeInside", fn := fun _ => fun
  | [d] => { results := [.lit (.bool false)], args := [d] }
  | _ => none }
def FnExactLatticeInsideWrongFalsely : Prop := fnExactLatticeInsideRow.holds Try.pinned (OpenSpec.ofChange fnExactLatticeInsideWrong)

/-- 'laws.FnHullMore': WHATEVER THE INPUT: true; the input reads as it did. -/
def fnHullMoreSpec : ChangeSpec := { name := "fnHullMore", fn := fun _ => fun
  | [d1, d2] => { results := [.lit (.bool true)], args := [d1, d2] }
  | _ => none }
def fnHullMoreRow : OpenClaim := { program := "ytnjmepbblcfnfab", sum := "48ceb2a0caf5be35ee8c01fc39ca938697451964f5b32ddca233636156580c30", func := "loop.example/planargeometry/laws.FnHullMore", spec := "fnHullMore", unfollowed := true, recurses := true, apart := false }
def FnHullMoreSaid : Prop := fnHullMoreRow.holds Try.pinned (OpenSpec.ofChange fnHullMoreSpec)

/-- ITS FALSE NEIGHBOUR: 'it returns false'. Refute it at one input. -/
def fnHullMoreWrong : ChangeSpec := { name := "fnHullMore", fn := fun _ => fun
  | [d1, d2] => { results := [.lit (.bool false)], args := [d1, d2] }
  | _ => none }
def FnHullMoreWrongFalsely : Prop := fnHullMoreRow.holds Try.pinned (OpenSpec.ofChange fnHullMoreWrong)

/- THE SECOND FORM. 'bulk': how many values and letters a reading holds, each counted each time it is reached (what is shared counts as often as it is met; a slice's spare places count too). A statement '..UptoSaid' is the law's where the arguments, and the package variables that the reading takes, are together of bulk at most 1048576: NARROWER than '..Said'. Prove '..Said' where nothing that the law and all that it calls make is longer than what came in: it says more and counts as full. Else prove '..UptoSaid'. A law counts once. -/
mutual
def uptoBulk {H : Type} : DataW H → Nat
  | .lit (.string bytes) => bytes.length + 1
  | .lit _ => 1
  | .nil => 1
  | .ptr d => uptoBulk d + 1
  | .slice elems spare => uptoBulkAll elems + uptoBulkAll spare + 1
  | .agg parts => uptoBulkAll parts + 1
  | .iface _ d => uptoBulk d + 1
  | .map entries => uptoBulkEntries entries + 1
  | .held _ => 1
def uptoBulkAll {H : Type} : List (DataW H) → Nat
  | [] => 0
  | d :: r => uptoBulk d + uptoBulkAll r
def uptoBulkEntries {H : Type} : List (Lit × DataW H) → Nat
  | [] => 0
  | x :: r => uptoBulkEntry x + uptoBulkEntries r
def uptoBulkEntry {H : Type} : Lit × DataW H → Nat
  | (.string bytes, d) => bytes.length + uptoBulk d + 1
  | (_, d) => uptoBulk d + 1
 end
def uptoSmall : (H : Type) → List (DataW H) → Bool := fun _ ds => decide (uptoBulkAll ds ≤ 1048576)
def OpenSpec.upto (s : _root_.Go.ChangeSpec) : _root_.Go.OpenSpec := { _root_.Go.OpenSpec.ofChange s with cond := some uptoSmall }

/-- 'laws.FnIsSimple', WHERE WHAT IT READS IS OF BULK AT MOST 1048576: true; the input reads as it did. -/
def fnIsSimpleUptoRow : OpenClaim := { program := "ytnjmepbblcfnfab", sum := "48ceb2a0caf5be35ee8c01fc39ca938697451964f5b32ddca233636156580c30", func := "loop.example/planargeometry/laws.FnIsSimple", spec := "fnIsSimple", unfollowed := true, recurses := true, apart := false, narrowed := true }
def FnIsSimpleUptoSaid : Prop := fnIsSimpleUptoRow.holds Try.pinned (OpenSpec.upto fnIsSimpleSpec)

/-- 'laws.FnDoubleArea', WHERE WHAT IT READS IS OF BULK AT MOST 1048576: true; the input reads as it did. -/
def fnDoubleAreaUptoRow : OpenClaim := { program := "ytnjmepbblcfnfab", sum := "48ceb2a0caf5be35ee8c01fc39ca938697451964f5b32ddca233636156580c30", func := "loop.example/planargeometry/laws.FnDoubleArea", spec := "fnDoubleArea", unfollowed := true, recurses := true, apart := false, narrowed := true }
def FnDoubleAreaUptoSaid : Prop := fnDoubleAreaUptoRow.holds Try.pinned (OpenSpec.upto fnDoubleAreaSpec)

/-- 'laws.FnLocate', WHERE WHAT IT READS IS OF BULK AT MOST 1048576: true; the input reads as it did. -/
def fnLocateUptoRow : OpenClaim := { program := "ytnjmepbblcfnfab", sum := "48ceb2a0caf5be35ee8c01fc39ca938697451964f5b32ddca233636156580c30", func := "loop.example/planargeometry/laws.FnLocate", spec := "fnLocate", unfollowed := true, recurses := true, apart := false, narrowed := true }
def FnLocateUptoSaid : Prop := fnLocateUptoRow.holds Try.pinned (OpenSpec.upto fnLocateSpec)

/-- 'laws.FnPick', WHERE WHAT IT READS IS OF BULK AT MOST 1048576: true; the input reads as it did. -/
def fnPickUptoRow : OpenClaim := { program := "ytnjmepbblcfnfab", sum := "48ceb2a0caf5be35ee8c01fc39ca938697451964f5b32ddca233636156580c30", func := "loop.example/planargeometry/laws.FnPick", spec := "fnPick", unfollowed := true, recurses := true, apart := false, narrowed := true }
def FnPickUptoSaid : Prop := fnPickUptoRow.holds Try.pinned (OpenSpec.upto fnPickSpec)

/-- 'laws.FnBoundaryCount', WHERE WHAT IT READS IS OF BULK AT MOST 1048576: true; the input reads as it did. -/
def fnBoundaryCountUptoRow : OpenClaim := { program := "ytnjmepbblcfnfab", sum := "48ceb2a0caf5be35ee8c01fc39ca938697451964f5b32ddca233636156580c30", func := "loop.example/planargeometry/laws.FnBoundaryCount", spec := "fnBoundaryCount", unfollowed := true, recurses := true, apart := false, narrowed := true }
def FnBoundaryCountUptoSaid : Prop := fnBoundaryCountUptoRow.holds Try.pinned (OpenSpec.upto fnBoundaryCountSpec)

/-- 'laws.FnCanonical', WHERE WHAT IT READS IS OF BULK AT MOST 1048576: true; the input reads as it did. -/
def fnCanonicalUptoRow : OpenClaim := { program := "ytnjmepbblcfnfab", sum := "48ceb2a0caf5be35ee8c01fc39ca938697451964f5b32ddca233636156580c30", func := "loop.example/planargeometry/laws.FnCanonical", spec := "fnCanonical", unfollowed := true, recurses := true, apart := false, narrowed := true }
def FnCanonicalUptoSaid : Prop := fnCanonicalUptoRow.holds Try.pinned (OpenSpec.upto fnCanonicalSpec)

/-- 'laws.FnIsConvex', WHERE WHAT IT READS IS OF BULK AT MOST 1048576: true; the input reads as it did. -/
def fnIsConvexUptoRow : OpenClaim := { program := "ytnjmepbblcfnfab", sum := "48ceb2a0caf5be35ee8c01fc39ca938697451964f5b32ddca233636156580c30", func := "loop.example/planargeometry/laws.FnIsConvex", spec := "fnIsConvex", unfollowed := true, recurses := true, apart := false, narrowed := true }
def FnIsConvexUptoSaid : Prop := fnIsConvexUptoRow.holds Try.pinned (OpenSpec.upto fnIsConvexSpec)

/-- 'laws.FnLocateConvex', WHERE WHAT IT READS IS OF BULK AT MOST 1048576: true; the input reads as it did. -/
def fnLocateConvexUptoRow : OpenClaim := { program := "ytnjmepbblcfnfab", sum := "48ceb2a0caf5be35ee8c01fc39ca938697451964f5b32ddca233636156580c30", func := "loop.example/planargeometry/laws.FnLocateConvex", spec := "fnLocateConvex", unfollowed := true, recurses := true, apart := false, narrowed := true }
def FnLocateConvexUptoSaid : Prop := fnLocateConvexUptoRow.holds Try.pinned (OpenSpec.upto fnLocateConvexSpec)

/-- 'laws.FnMapArea', WHERE WHAT IT READS IS OF BULK AT MOST 1048576: true; the input reads as it did. -/
def fnMapAreaUptoRow : OpenClaim := { program := "ytnjmepbblcfnfab", sum := "48ceb2a0caf5be35ee8c01fc39ca938697451964f5b32ddca233636156580c30", func := "loop.example/planargeometry/laws.FnMapArea", spec := "fnMapArea", unfollowed := true, recurses := true, apart := false, narrowed := true }
def FnMapAreaUptoSaid : Prop := fnMapAreaUptoRow.holds Try.pinned (OpenSpec.upto fnMapAreaSpec)

/-- 'laws.FnMapInterior', WHERE WHAT IT READS IS OF BULK AT MOST 1048576: true; the input reads as it did. -/
def fnMapInteriorUptoRow : OpenClaim := { program := "ytnjmepbblcfnfab", sum := "48ceb2a0caf5be35ee8c01fc39ca938697451964f5b32ddca233636156580c30", func := "loop.example/planargeometry/laws.FnMapInterior", spec := "fnMapInterior", unfollowed := true, recurses := true, apart := false, narrowed := true }
def FnMapInteriorUptoSaid : Prop := fnMapInteriorUptoRow.holds Try.pinned (OpenSpec.upto fnMapInteriorSpec)

/-- 'laws.FnExactLatticeInside', WHERE WHAT IT READS IS OF BULK AT MOST 1048576: true; the input reads as it did. -/
def fnExactLatticeInsideUptoRow : OpenClaim := { program := "ytnjmepbblcfnfab", sum := "48ceb2a0caf5be35ee8c01fc39ca938697451964f5b32ddca233636156580c30", func := "loop.example/planargeometry/laws.FnExactLatticeInside", spec := "fnExactLatticeInside", unfollowed := true, recurses := true, apart := false, narrowed := true }
def FnExactLatticeInsideUptoSaid : Prop := fnExactLatticeInsideUptoRow.holds Try.pinned (OpenSpec.upto fnExactLatticeInsideSpec)

/-- 'laws.FnHullMore', WHERE WHAT IT READS IS OF BULK AT MOST 1048576: true; the input reads as it did. -/
def fnHullMoreUptoRow : OpenClaim := { program := "ytnjmepbblcfnfab", sum := "48ceb2a0caf5be35ee8c01fc39ca938697451964f5b32ddca233636156580c30", func := "loop.example/planargeometry/laws.FnHullMore", spec := "fnHullMore", unfollowed := true, recurses := true, apart := false, narrowed := true }
def FnHullMoreUptoSaid : Prop := fnHullMoreUptoRow.holds Try.pinned (OpenSpec.upto fnHullMoreSpec)

end Rows
end Go.Proofs.Ytnjmepbblcfnfab
