/-
  No cell of these rows narrows 'for every input' (looked for: loops, veiled, ifaces, maps, wideKeys, modest, calm, conditions, laid).
  DERIVED. THE GIVEN ROWS OF THIS SEAT. 12 by the template 'for every input the law returns true; each argument reads behind the call as it read before'; 0 by the template 'total and deterministic' (their statements: YtfjcbindeimoiaaTotals.lean).
  GIVEN WITH THE SEED: the statements are not yours to turn. If you find one false, say at which input.
  Laid BY PROGRAM, IN A SANDBOX (cutbox-rows.mjs): the forced cells as the released guide's own fill.sh prints them over the translation 1ecf5cd5f42ed22f… (all of the seat's roots in one cut). By AI agents, Wed Nov 11 2026. No macro, syntax, notation, axiom, sorry.
-/
import Derived.Test.YtfjcbindeimoiaaChecked
import GoSem.Claim
import GoSem.ClaimJoined
import GoSem.ClaimMapViews
import Derived.JoinedTies
import Derived.KernelRfl
namespace Go.Proofs.Ytfjcbindeimoiaa
/- THE CELL 'sum', in the pinned program and in every row, IS THE sha256 OF THE DUMP (.gsa) THAT YtfjcbindeimoiaaProg.lean LOADS. Nothing in Lean hashes anything: it is a label: what it is worth is what the hold of that sum in a sandbox is worth. -/
noncomputable def Try.pinned : Pinned := { name := "ytfjcbindeimoiaa", sum := "1ecf5cd5f42ed22fab97b7dfad85130c4bcdaaa58aad7d60508de84e8073731d", checked := Try.checked }
namespace Rows
def none {H : Type} : Left H := { results := [], args := [] }

/-- 'laws.FnExactDeterminant': WHATEVER THE INPUT: true; the input reads as it did. -/
def fnExactDeterminantSpec : ChangeSpec := { name := "fnExactDeterminant", fn := fun _ => fun
  | [d] => { results := [.lit (.bool true)], args := [d] }
  | _ => none }
def fnExactDeterminantRow : OpenClaim := { program := "ytfjcbindeimoiaa", sum := "1ecf5cd5f42ed22fab97b7dfad85130c4bcdaaa58aad7d60508de84e8073731d", func := "loop.example/planargeometry/laws.FnExactDeterminant", spec := "fnExactDeterminant", apart := false }
def FnExactDeterminantSaid : Prop := fnExactDeterminantRow.holds Try.pinned (OpenSpec.ofChange fnExactDeterminantSpec)

/-- ITS FALSE NEIGHBOUR: 'it returns false'. Refute it at one input. -/
def fnExactDeterminantWrong : ChangeSpec := { name := "fnExactDeterminant", fn := fun _ => fun
  | [d] => { results := [.lit (.bool false)], args := [d] }
  | _ => none }
def FnExactDeterminantWrongFalsely : Prop := fnExactDeterminantRow.holds Try.pinned (OpenSpec.ofChange fnExactDeterminantWrong)

/-- 'laws.FnExactComposeMatrices': WHATEVER THE INPUT: true; the input reads as it did. -/
def fnExactComposeMatricesSpec : ChangeSpec := { name := "fnExactComposeMatrices", fn := fun _ => fun
  | [d1, d2] => { results := [.lit (.bool true)], args := [d1, d2] }
  | _ => none }
def fnExactComposeMatricesRow : OpenClaim := { program := "ytfjcbindeimoiaa", sum := "1ecf5cd5f42ed22fab97b7dfad85130c4bcdaaa58aad7d60508de84e8073731d", func := "loop.example/planargeometry/laws.FnExactComposeMatrices", spec := "fnExactComposeMatrices", apart := false }
def FnExactComposeMatricesSaid : Prop := fnExactComposeMatricesRow.holds Try.pinned (OpenSpec.ofChange fnExactComposeMatricesSpec)

/-- ITS FALSE NEIGHBOUR: 'it returns false'. Refute it at one input. -/
def fnExactComposeMatricesWrong : ChangeSpec := { name := "fnExactComposeMatrices", fn := fun _ => fun
  | [d1, d2] => { results := [.lit (.bool false)], args := [d1, d2] }
  | _ => none }
def FnExactComposeMatricesWrongFalsely : Prop := fnExactComposeMatricesRow.holds Try.pinned (OpenSpec.ofChange fnExactComposeMatricesWrong)

/-- 'laws.FnExactInvertMatrix': WHATEVER THE INPUT: true; the input reads as it did. -/
def fnExactInvertMatrixSpec : ChangeSpec := { name := "fnExactInvertMatrix", fn := fun _ => fun
  | [d] => { results := [.lit (.bool true)], args := [d] }
  | _ => none }
def fnExactInvertMatrixRow : OpenClaim := { program := "ytfjcbindeimoiaa", sum := "1ecf5cd5f42ed22fab97b7dfad85130c4bcdaaa58aad7d60508de84e8073731d", func := "loop.example/planargeometry/laws.FnExactInvertMatrix", spec := "fnExactInvertMatrix", apart := false }
def FnExactInvertMatrixSaid : Prop := fnExactInvertMatrixRow.holds Try.pinned (OpenSpec.ofChange fnExactInvertMatrixSpec)

/-- ITS FALSE NEIGHBOUR: 'it returns false'. Refute it at one input. -/
def fnExactInvertMatrixWrong : ChangeSpec := { name := "fnExactInvertMatrix", fn := fun _ => fun
  | [d] => { results := [.lit (.bool false)], args := [d] }
  | _ => none }
def FnExactInvertMatrixWrongFalsely : Prop := fnExactInvertMatrixRow.holds Try.pinned (OpenSpec.ofChange fnExactInvertMatrixWrong)

/-- 'laws.FnExactManhattan': WHATEVER THE INPUT: true; the input reads as it did. -/
def fnExactManhattanSpec : ChangeSpec := { name := "fnExactManhattan", fn := fun _ => fun
  | [d1, d2] => { results := [.lit (.bool true)], args := [d1, d2] }
  | _ => none }
def fnExactManhattanRow : OpenClaim := { program := "ytfjcbindeimoiaa", sum := "1ecf5cd5f42ed22fab97b7dfad85130c4bcdaaa58aad7d60508de84e8073731d", func := "loop.example/planargeometry/laws.FnExactManhattan", spec := "fnExactManhattan", apart := false }
def FnExactManhattanSaid : Prop := fnExactManhattanRow.holds Try.pinned (OpenSpec.ofChange fnExactManhattanSpec)

/-- ITS FALSE NEIGHBOUR: 'it returns false'. Refute it at one input. -/
def fnExactManhattanWrong : ChangeSpec := { name := "fnExactManhattan", fn := fun _ => fun
  | [d1, d2] => { results := [.lit (.bool false)], args := [d1, d2] }
  | _ => none }
def FnExactManhattanWrongFalsely : Prop := fnExactManhattanRow.holds Try.pinned (OpenSpec.ofChange fnExactManhattanWrong)

/-- 'laws.FnDeterminant': WHATEVER THE INPUT: true; the input reads as it did. -/
def fnDeterminantSpec : ChangeSpec := { name := "fnDeterminant", fn := fun _ => fun
  | [d] => { results := [.lit (.bool true)], args := [d] }
  | _ => none }
def fnDeterminantRow : OpenClaim := { program := "ytfjcbindeimoiaa", sum := "1ecf5cd5f42ed22fab97b7dfad85130c4bcdaaa58aad7d60508de84e8073731d", func := "loop.example/planargeometry/laws.FnDeterminant", spec := "fnDeterminant", apart := false }
def FnDeterminantSaid : Prop := fnDeterminantRow.holds Try.pinned (OpenSpec.ofChange fnDeterminantSpec)

/-- ITS FALSE NEIGHBOUR: 'it returns false'. Refute it at one input. -/
def fnDeterminantWrong : ChangeSpec := { name := "fnDeterminant", fn := fun _ => fun
  | [d] => { results := [.lit (.bool false)], args := [d] }
  | _ => none }
def FnDeterminantWrongFalsely : Prop := fnDeterminantRow.holds Try.pinned (OpenSpec.ofChange fnDeterminantWrong)

/-- 'laws.FnComposeMatrices': WHATEVER THE INPUT: true; the input reads as it did. -/
def fnComposeMatricesSpec : ChangeSpec := { name := "fnComposeMatrices", fn := fun _ => fun
  | [d1, d2] => { results := [.lit (.bool true)], args := [d1, d2] }
  | _ => none }
def fnComposeMatricesRow : OpenClaim := { program := "ytfjcbindeimoiaa", sum := "1ecf5cd5f42ed22fab97b7dfad85130c4bcdaaa58aad7d60508de84e8073731d", func := "loop.example/planargeometry/laws.FnComposeMatrices", spec := "fnComposeMatrices", apart := false }
def FnComposeMatricesSaid : Prop := fnComposeMatricesRow.holds Try.pinned (OpenSpec.ofChange fnComposeMatricesSpec)

/-- ITS FALSE NEIGHBOUR: 'it returns false'. Refute it at one input. -/
def fnComposeMatricesWrong : ChangeSpec := { name := "fnComposeMatrices", fn := fun _ => fun
  | [d1, d2] => { results := [.lit (.bool false)], args := [d1, d2] }
  | _ => none }
def FnComposeMatricesWrongFalsely : Prop := fnComposeMatricesRow.holds Try.pinned (OpenSpec.ofChange fnComposeMatricesWrong)

/-- 'laws.FnComposeOne': WHATEVER THE INPUT: true; the input reads as it did. -/
def fnComposeOneSpec : ChangeSpec := { name := "fnComposeOne", fn := fun _ => fun
  | [d] => { results := [.lit (.bool true)], args := [d] }
  | _ => none }
def fnComposeOneRow : OpenClaim := { program := "ytfjcbindeimoiaa", sum := "1ecf5cd5f42ed22fab97b7dfad85130c4bcdaaa58aad7d60508de84e8073731d", func := "loop.example/planargeometry/laws.FnComposeOne", spec := "fnComposeOne", apart := false }
def FnComposeOneSaid : Prop := fnComposeOneRow.holds Try.pinned (OpenSpec.ofChange fnComposeOneSpec)

/-- ITS FALSE NEIGHBOUR: 'it returns false'. Refute it at one input. -/
def fnComposeOneWrong : ChangeSpec := { name := "fnComposeOne", fn := fun _ => fun
  | [d] => { results := [.lit (.bool false)], args := [d] }
  | _ => none }
def FnComposeOneWrongFalsely : Prop := fnComposeOneRow.holds Try.pinned (OpenSpec.ofChange fnComposeOneWrong)

/-- 'laws.FnInvertMatrix': WHATEVER THE INPUT: true; the input reads as it did. -/
def fnInvertMatrixSpec : ChangeSpec := { name := "fnInvertMatrix", fn := fun _ => fun
  | [d] => { results := [.lit (.bool true)], args := [d] }
  | _ => none }
def fnInvertMatrixRow : OpenClaim := { program := "ytfjcbindeimoiaa", sum := "1ecf5cd5f42ed22fab97b7dfad85130c4bcdaaa58aad7d60508de84e8073731d", func := "loop.example/planargeometry/laws.FnInvertMatrix", spec := "fnInvertMatrix", apart := false }
def FnInvertMatrixSaid : Prop := fnInvertMatrixRow.holds Try.pinned (OpenSpec.ofChange fnInvertMatrixSpec)

/-- ITS FALSE NEIGHBOUR: 'it returns false'. Refute it at one input. -/
def fnInvertMatrixWrong : ChangeSpec := { name := "fnInvertMatrix", fn := fun _ => fun
  | [d] => { results := [.lit (.bool false)], args := [d] }
  | _ => none }
def FnInvertMatrixWrongFalsely : Prop := fnInvertMatrixRow.holds Try.pinned (OpenSpec.ofChange fnInvertMatrixWrong)

/-- 'laws.FnManhattan': WHATEVER THE INPUT: true; the input reads as it did. -/
def fnManhattanSpec : ChangeSpec := { name := "fnManhattan", fn := fun _ => fun
  | [d] => { results := [.lit (.bool true)], args := [d] }
  | _ => none }
def fnManhattanRow : OpenClaim := { program := "ytfjcbindeimoiaa", sum := "1ecf5cd5f42ed22fab97b7dfad85130c4bcdaaa58aad7d60508de84e8073731d", func := "loop.example/planargeometry/laws.FnManhattan", spec := "fnManhattan", apart := false }
def FnManhattanSaid : Prop := fnManhattanRow.holds Try.pinned (OpenSpec.ofChange fnManhattanSpec)

/-- ITS FALSE NEIGHBOUR: 'it returns false'. Refute it at one input. -/
def fnManhattanWrong : ChangeSpec := { name := "fnManhattan", fn := fun _ => fun
  | [d] => { results := [.lit (.bool false)], args := [d] }
  | _ => none }
def FnManhattanWrongFalsely : Prop := fnManhattanRow.holds Try.pinned (OpenSpec.ofChange fnManhattanWrong)

/-- 'laws.FnManhattanTriangle': WHATEVER THE INPUT: true; the input reads as it did. -/
def fnManhattanTriangleSpec : ChangeSpec := { name := "fnManhattanTriangle", fn := fun _ => fun
  | [d1, d2] => { results := [.lit (.bool true)], args := [d1, d2] }
  | _ => none }
def fnManhattanTriangleRow : OpenClaim := { program := "ytfjcbindeimoiaa", sum := "1ecf5cd5f42ed22fab97b7dfad85130c4bcdaaa58aad7d60508de84e8073731d", func := "loop.example/planargeometry/laws.FnManhattanTriangle", spec := "fnManhattanTriangle", apart := false }
def FnManhattanTriangleSaid : Prop := fnManhattanTriangleRow.holds Try.pinned (OpenSpec.ofChange fnManhattanTriangleSpec)

/-- ITS FALSE NEIGHBOUR: 'it returns false'. Refute it at one input. -/
def fnManhattanTriangleWrong : ChangeSpec := { name := "fnManhattanTriangle", fn := fun _ => fun
  | [d1, d2] => { results := [.lit (.bool false)], args := [d1, d2] }
  | _ => none }
def FnManhattanTriangleWrongFalsely : Prop := fnManhattanTriangleRow.holds Try.pinned (OpenSpec.ofChange fnManhattanTriangleWrong)

/-- 'laws.FnExactMapPoints': WHATEVER THE INPUT: true; the input reads as it did. -/
def fnExactMapPointsSpec : ChangeSpec := { name := "fnExactMapPoints", fn := fun _ => fun
  | [d1, d2] => { results := [.lit (.bool true)], args := [d1, d2] }
  | _ => none }
def fnExactMapPointsRow : OpenClaim := { program := "ytfjcbindeimoiaa", sum := "1ecf5cd5f42ed22fab97b7dfad85130c4bcdaaa58aad7d60508de84e8073731d", func := "loop.example/planargeometry/laws.FnExactMapPoints", spec := "fnExactMapPoints", apart := false }
def FnExactMapPointsSaid : Prop := fnExactMapPointsRow.holds Try.pinned (OpenSpec.ofChange fnExactMapPointsSpec)

/-- ITS FALSE NEIGHBOUR: 'it returns false'. Refute it at one input. -/
def fnExactMapPointsWrong : ChangeSpec := { name := "fnExactMapPoints", fn := fun _ => fun
  | [d1, d2] => { results := [.lit (.bool false)], args := [d1, d2] }
  | _ => none }
def FnExactMapPointsWrongFalsely : Prop := fnExactMapPointsRow.holds Try.pinned (OpenSpec.ofChange fnExactMapPointsWrong)

/-- 'laws.FnMapPoints': WHATEVER THE INPUT: true; the input reads as it did. -/
def fnMapPointsSpec : ChangeSpec := { name := "fnMapPoints", fn := fun _ => fun
  | [d] => { results := [.lit (.bool true)], args := [d] }
  | _ => none }
def fnMapPointsRow : OpenClaim := { program := "ytfjcbindeimoiaa", sum := "1ecf5cd5f42ed22fab97b7dfad85130c4bcdaaa58aad7d60508de84e8073731d", func := "loop.example/planargeometry/laws.FnMapPoints", spec := "fnMapPoints", apart := false }
def FnMapPointsSaid : Prop := fnMapPointsRow.holds Try.pinned (OpenSpec.ofChange fnMapPointsSpec)

/-- ITS FALSE NEIGHBOUR: 'it returns false'. Refute it at one input. -/
def fnMapPointsWrong : ChangeSpec := { name := "fnMapPoints", fn := fun _ => fun
  | [d] => { results := [.lit (.bool false)], args := [d] }
  | _ => none }
def FnMapPointsWrongFalsely : Prop := fnMapPointsRow.holds Try.pinned (OpenSpec.ofChange fnMapPointsWrong)

/- THE SECOND FORM. 'bulk': how many values and letters a reading holds, each counted each time it is reached (what is shared counts as often as it is met; a slice's spare places count too). A statement '..UptoSaid' is the law's where the arguments, and the package variables that the reading takes, are together of bulk at most 1048576: NARROWER than '..Said'. Prove '..Said' where nothing that the law and all that it calls make is longer than what came in: it says more and counts as full. Else prove '..UptoSaid'. A law counts once. -/
mutual
def uptoBulk {H : Type} : DataW H → Nat
  | .lit (.string bytes) => bytes.length + 1
  | .lit _ => 1
  | .nil => 1
  | .ptr d => uptoBulk d + 1
  | .slice elems spare => uptoBulkAll elems + uptoBulkAll spare + 1
  | .agg parts => uptoBulkAll parts + 1
  | .iface _ d => uptoBulk d + 1
  | .map entries => uptoBulkEntries entries + 1
  | .held _ => 1
def uptoBulkAll {H : Type} : List (DataW H) → Nat
  | [] => 0
  | d :: r => uptoBulk d + uptoBulkAll r
def uptoBulkEntries {H : Type} : List (Lit × DataW H) → Nat
  | [] => 0
  | x :: r => uptoBulkEntry x + uptoBulkEntries r
def uptoBulkEntry {H : Type} : Lit × DataW H → Nat
  | (.string bytes, d) => bytes.length + uptoBulk d + 1
  | (_, d) => uptoBulk d + 1
 end
def uptoSmall : (H : Type) → List (DataW H) → Bool := fun _ ds => decide (uptoBulkAll ds ≤ 1048576)
def OpenSpec.upto (s : _root_.Go.ChangeSpec) : _root_.Go.OpenSpec := { _root_.Go.OpenSpec.ofChange s with cond := some uptoSmall }

/-- 'laws.FnExactDeterminant', WHERE WHAT IT READS IS OF BULK AT MOST 1048576: true; the input reads as it did. -/
def fnExactDeterminantUptoRow : OpenClaim := { program := "ytfjcbindeimoiaa", sum := "1ecf5cd5f42ed22fab97b7dfad85130c4bcdaaa58aad7d60508de84e8073731d", func := "loop.example/planargeometry/laws.FnExactDeterminant", spec := "fnExactDeterminant", apart := false, narrowed := true }
def FnExactDeterminantUptoSaid : Prop := fnExactDeterminantUptoRow.holds Try.pinned (OpenSpec.upto fnExactDeterminantSpec)

/-- 'laws.FnExactComposeMatrices', WHERE WHAT IT READS IS OF BULK AT MOST 1048576: true; the input reads as it did. -/
def fnExactComposeMatricesUptoRow : OpenClaim := { program := "ytfjcbindeimoiaa", sum := "1ecf5cd5f42ed22fab97b7dfad85130c4bcdaaa58aad7d60508de84e8073731d", func := "loop.example/planargeometry/laws.FnExactComposeMatrices", spec := "fnExactComposeMatrices", apart := false, narrowed := true }
def FnExactComposeMatricesUptoSaid : Prop := fnExactComposeMatricesUptoRow.holds Try.pinned (OpenSpec.upto fnExactComposeMatricesSpec)

/-- 'laws.FnExactInvertMatrix', WHERE WHAT IT READS IS OF BULK AT MOST 1048576: true; the input reads as it did. -/
def fnExactInvertMatrixUptoRow : OpenClaim := { program := "ytfjcbindeimoiaa", sum := "1ecf5cd5f42ed22fab97b7dfad85130c4bcdaaa58aad7d60508de84e8073731d", func := "loop.example/planargeometry/laws.FnExactInvertMatrix", spec := "fnExactInvertMatrix", apart := false, narrowed := true }
def FnExactInvertMatrixUptoSaid : Prop := fnExactInvertMatrixUptoRow.holds Try.pinned (OpenSpec.upto fnExactInvertMatrixSpec)

/-- 'laws.FnExactManhattan', WHERE WHAT IT READS IS OF BULK AT MOST 1048576: true; the input reads as it did. -/
def fnExactManhattanUptoRow : OpenClaim := { program := "ytfjcbindeimoiaa", sum := "1ecf5cd5f42ed22fab97b7dfad85130c4bcdaaa58aad7d60508de84e8073731d", func := "loop.example/planargeometry/laws.FnExactManhattan", spec := "fnExactManhattan", apart := false, narrowed := true }
def FnExactManhattanUptoSaid : Prop := fnExactManhattanUptoRow.holds Try.pinned (OpenSpec.upto fnExactManhattanSpec)

/-- 'laws.FnDeterminant', WHERE WHAT IT READS IS OF BULK AT MOST 1048576: true; the input reads as it did. -/
def fnDeterminantUptoRow : OpenClaim := { program := "ytfjcbindeimoiaa", sum := "1ecf5cd5f42ed22fab97b7dfad85130c4bcdaaa58aad7d60508de84e8073731d", func := "loop.example/planargeometry/laws.FnDeterminant", spec := "fnDeterminant", apart := false, narrowed := true }
def FnDeterminantUptoSaid : Prop := fnDeterminantUptoRow.holds Try.pinned (OpenSpec.upto fnDeterminantSpec)

/-- 'laws.FnComposeMatrices', WHERE WHAT IT READS IS OF BULK AT MOST 1048576: true; the input reads as it did. -/
def fnComposeMatricesUptoRow : OpenClaim := { program := "ytfjcbindeimoiaa", sum := "1ecf5cd5f42ed22fab97b7dfad85130c4bcdaaa58aad7d60508de84e8073731d", func := "loop.example/planargeometry/laws.FnComposeMatrices", spec := "fnComposeMatrices", apart := false, narrowed := true }
def FnComposeMatricesUptoSaid : Prop := fnComposeMatricesUptoRow.holds Try.pinned (OpenSpec.upto fnComposeMatricesSpec)

/-- 'laws.FnComposeOne', WHERE WHAT IT READS IS OF BULK AT MOST 1048576: true; the input reads as it did. -/
def fnComposeOneUptoRow : OpenClaim := { program := "ytfjcbindeimoiaa", sum := "1ecf5cd5f42ed22fab97b7dfad85130c4bcdaaa58aad7d60508de84e8073731d", func := "loop.example/planargeometry/laws.FnComposeOne", spec := "fnComposeOne", apart := false, narrowed := true }
def FnComposeOneUptoSaid : Prop := fnComposeOneUptoRow.holds Try.pinned (OpenSpec.upto fnComposeOneSpec)

/-- 'laws.FnInvertMatrix', WHERE WHAT IT READS IS OF BULK AT MOST 1048576: true; the input reads as it did. -/
def fnInvertMatrixUptoRow : OpenClaim := { program := "ytfjcbindeimoiaa", sum := "1ecf5cd5f42ed22fab97b7dfad85130c4bcdaaa58aad7d60508de84e8073731d", func := "loop.example/planargeometry/laws.FnInvertMatrix", spec := "fnInvertMatrix", apart := false, narrowed := true }
def FnInvertMatrixUptoSaid : Prop := fnInvertMatrixUptoRow.holds Try.pinned (OpenSpec.upto fnInvertMatrixSpec)

/-- 'laws.FnManhattan', WHERE WHAT IT READS IS OF BULK AT MOST 1048576: true; the input reads as it did. -/
def fnManhattanUptoRow : OpenClaim := { program := "ytfjcbindeimoiaa", sum := "1ecf5cd5f42ed22fab97b7dfad85130c4bcdaaa58aad7d60508de84e8073731d", func := "loop.example/planargeometry/laws.FnManhattan", spec := "fnManhattan", apart := false, narrowed := true }
def FnManhattanUptoSaid : Prop := fnManhattanUptoRow.holds Try.pinned (OpenSpec.upto fnManhattanSpec)

/-- 'laws.FnManhattanTriangle', WHERE WHAT IT READS IS OF BULK AT MOST 1048576: true; the input reads as it did. -/
def fnManhattanTriangleUptoRow : OpenClaim := { program := "ytfjcbindeimoiaa", sum := "1ecf5cd5f42ed22fab97b7dfad85130c4bcdaaa58aad7d60508de84e8073731d", func := "loop.example/planargeometry/laws.FnManhattanTriangle", spec := "fnManhattanTriangle", apart := false, narrowed := true }
def FnManhattanTriangleUptoSaid : Prop := fnManhattanTriangleUptoRow.holds Try.pinned (OpenSpec.upto fnManhattanTriangleSpec)

/-- 'laws.FnExactMapPoints', WHERE WHAT IT READS IS OF BULK AT MOST 1048576: true; the input reads as it did. -/
def fnExactMapPointsUptoRow : OpenClaim := { program := "ytfjcbindeimoiaa", sum := "1ecf5cd5f42ed22fab97b7dfad85130c4bcdaaa58aad7d60508de84e8073731d", func := "loop.example/planargeometry/laws.FnExactMapPoints", spec := "fnExactMapPoints", apart := false, narrowed := true }
def FnExactMapPointsUptoSaid : Prop := fnExactMapPointsUptoRow.holds Try.pinned (OpenSpec.upto fnExactMapPointsSpec)

/-- 'laws.FnMapPoints', WHERE WHAT IT READS IS OF BULK AT MOST 1048576: true; the input reads as it did. -/
def fnMapPointsUptoRow : OpenClaim := { program := "ytfjcbindeimoiaa", sum := "1ecf5cd5f42ed22fab97b7dfad85130c4bcdaaa58aad7d60508de84e8073731d", func := "loop.example/planargeometry/laws.FnMapPoints", spec := "fnMapPoints", apart := false, narrowed := true }
def FnMapPointsUptoSaid : Prop := fnMapPointsUptoRow.holds Try.pinned (OpenSpec.upto fnMapPointsSpec)

end Rows
end Go.Proofs.Ytfjcbindeimoiaa
