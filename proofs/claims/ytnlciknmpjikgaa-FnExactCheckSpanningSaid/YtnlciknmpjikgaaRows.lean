/-
  No cell of these rows narrows 'for every input' (looked for: loops, veiled, ifaces, maps, wideKeys, modest, calm, conditions, laid).
  DERIVED. THE GIVEN ROWS OF THIS SEAT. 4 by the template 'for every input the law returns true; each argument reads behind the call as it read before'; 0 by the template 'total and deterministic' (their statements: YtnlciknmpjikgaaTotals.lean).
  GIVEN WITH THE SEED: the statements are not yours to turn. If you find one false, say at which input.
  Laid BY PROGRAM, IN A SANDBOX (cutbox-rows.mjs): the forced cells as the released guide's own fill.sh prints them over the translation 876158ef3f3e0b54… (all of the seat's roots in one cut). By AI agents, Wed Nov 11 2026. No macro, syntax, notation, axiom, sorry.
-/
import Derived.Test.YtnlciknmpjikgaaChecked
import GoSem.Claim
import GoSem.ClaimJoined
import GoSem.ClaimMapViews
import Derived.JoinedTies
import Derived.KernelRfl
namespace Go.Proofs.Ytnlciknmpjikgaa
/- THE CELL 'sum', in the pinned program and in every row, IS THE sha256 OF THE DUMP (.gsa) THAT YtnlciknmpjikgaaProg.lean LOADS. Nothing in Lean hashes anything: it is a label: what it is worth is what the hold of that sum in a sandbox is worth. -/
noncomputable def Try.pinned : Pinned := { name := "ytnlciknmpjikgaa", sum := "876158ef3f3e0b5450da4855d4dd17174aca5419c2ce37729261087bcc146a74", checked := Try.checked }
namespace Rows
def none {H : Type} : Left H := { results := [], args := [] }

/-- 'laws.FnIsConvex': WHATEVER THE INPUT: true; the input reads as it did. -/
def fnIsConvexSpec : ChangeSpec := { name := "fnIsConvex", fn := fun _ => fun
  | [d] => { results := [.lit (.bool true)], args := [d] }
  | _ => none }
def fnIsConvexRow : OpenClaim := { program := "ytnlciknmpjikgaa", sum := "876158ef3f3e0b5450da4855d4dd17174aca5419c2ce37729261087bcc146a74", func := "loop.example/planargeometry/laws.FnIsConvex", spec := "fnIsConvex", unfollowed := true, recurses := true, apart := false }
def FnIsConvexSaid : Prop := fnIsConvexRow.holds Try.pinned (OpenSpec.ofChange fnIsConvexSpec)

/-- ITS FALSE NEIGHBOUR: 'it returns false'. Refute it at one input. -/
def fnIsConvexWrong : ChangeSpec := { name := "fnIsConvex", fn := fun _ => fun
  | [d] => { results := [.lit (.bool false)], args := [d] }
  | _ => none }
def FnIsConvexWrongFalsely : Prop := fnIsConvexRow.holds Try.pinned (OpenSpec.ofChange fnIsConvexWrong)

/-- 'laws.FnLocateConvex': WHATEVER THE INPUT: true; the input reads as it did. -/
def fnLocateConvexSpec : ChangeSpec := { name := "fnLocateConvex", fn := fun _ => fun
  | [d] => { results := [.lit (.bool true)], args := [d] }
  | _ => none }
def fnLocateConvexRow : OpenClaim := { program := "ytnlciknmpjikgaa", sum := "876158ef3f3e0b5450da4855d4dd17174aca5419c2ce37729261087bcc146a74", func := "loop.example/planargeometry/laws.FnLocateConvex", spec := "fnLocateConvex", unfollowed := true, recurses := true, apart := false }
def FnLocateConvexSaid : Prop := fnLocateConvexRow.holds Try.pinned (OpenSpec.ofChange fnLocateConvexSpec)

/-- ITS FALSE NEIGHBOUR: 'it returns false'. Refute it at one input. -/
def fnLocateConvexWrong : ChangeSpec := { name := "fnLocateConvex", fn := fun _ => fun
  | [d] => { results := [.lit (.bool false)], args := [d] }
  | _ => none }
def FnLocateConvexWrongFalsely : Prop := fnLocateConvexRow.holds Try.pinned (OpenSpec.ofChange fnLocateConvexWrong)

/-- 'laws.FnCountWithin': WHATEVER THE INPUT: true; the input reads as it did. -/
def fnCountWithinSpec : ChangeSpec := { name := "fnCountWithin", fn := fun _ => fun
  | [d1, d2] => { results := [.lit (.bool true)], args := [d1, d2] }
  | _ => none }
def fnCountWithinRow : OpenClaim := { program := "ytnlciknmpjikgaa", sum := "876158ef3f3e0b5450da4855d4dd17174aca5419c2ce37729261087bcc146a74", func := "loop.example/planargeometry/laws.FnCountWithin", spec := "fnCountWithin", apart := false }
def FnCountWithinSaid : Prop := fnCountWithinRow.holds Try.pinned (OpenSpec.ofChange fnCountWithinSpec)

/-- ITS FALSE NEIGHBOUR: 'it returns false'. Refute it at one input. -/
def fnCountWithinWrong : ChangeSpec := { name := "fnCountWithin", fn := fun _ => fun
  | [d1, d2] => { results := [.lit (.bool false)], args := [d1, d2] }
  | _ => none }
def FnCountWithinWrongFalsely : Prop := fnCountWithinRow.holds Try.pinned (OpenSpec.ofChange fnCountWithinWrong)

/-- 'laws.FnExactCheckSpanning': WHATEVER THE INPUT: true; the input reads as it did. -/
def fnExactCheckSpanningSpec : ChangeSpec := { name := "fnExactCheckSpanning", fn := fun _ => fun
  | [d1, d2] => { results := [.lit (.bool true)], args := [d1, d2] }
  | _ => none }
def fnExactCheckSpanningRow : OpenClaim := { program := "ytnlciknmpjikgaa", sum := "876158ef3f3e0b5450da4855d4dd17174aca5419c2ce37729261087bcc146a74", func := "loop.example/planargeometry/laws.FnExactCheckSpanning", spec := "fnExactCheckSpanning", recurses := true, apart := false }
def FnExactCheckSpanningSaid : Prop := fnExactCheckSpanningRow.holds Try.pinned (OpenSpec.ofChange fnExactCheckSpanningSpec)

/-- ITS FALSE NEIGHBOUR: 'it returns false'. Refute it at one input. -/
def fnExactCheckSpanningWrong : ChangeSpec := { name := "fnExactCheckSpanning", fn := fun _ => fun
  | [d1, d2] => { results := [.lit (.bool false)], args := [d1, d2] }
  | _ => none }
def FnExactCheckSpanningWrongFalsely : Prop := fnExactCheckSpanningRow.holds Try.pinned (OpenSpec.ofChange fnExactCheckSpanningWrong)

/- THE SECOND FORM. 'bulk': how many values and letters a reading holds, each counted each time it is reached (what is shared counts as often as it is met; a slice's spare places count too). A statement '..UptoSaid' is the law's where the arguments, and the package variables that the reading takes, are together of bulk at most 1048576: NARROWER than '..Said'. Prove '..Said' where nothing that the law and all that it calls make is longer than what came in: it says more and counts as full. Else prove '..UptoSaid'. A law counts once. -/
mutual
def uptoBulk {H : Type} : DataW H → Nat
  | .lit (.string bytes) => bytes.length + 1
  | .lit _ => 1
  | .nil => 1
  | .ptr d => uptoBulk d + 1
  | .slice elems spare => uptoBulkAll elems + uptoBulkAll spare + 1
  | .agg parts => uptoBulkAll parts + 1
  | .iface _ d => uptoBulk d + 1
  | .map entries => uptoBulkEntries entries + 1
  | .held _ => 1
def uptoBulkAll {H : Type} : List (DataW H) → Nat
  | [] => 0
  | d :: r => uptoBulk d + uptoBulkAll r
def uptoBulkEntries {H : Type} : List (Lit × DataW H) → Nat
  | [] => 0
  | x :: r => uptoBulkEntry x + uptoBulkEntries r
def uptoBulkEntry {H : Type} : Lit × DataW H → Nat
  | (.string bytes, d) => bytes.length + uptoBulk d + 1
  | (_, d) => uptoBulk d + 1
 end
def uptoSmall : (H : Type) → List (DataW H) → Bool := fun _ ds => decide (uptoBulkAll ds ≤ 1048576)
def OpenSpec.upto (s : _root_.Go.ChangeSpec) : _root_.Go.OpenSpec := { _root_.Go.OpenSpec.ofChange s with cond := some uptoSmall }

/-- 'laws.FnIsConvex', WHERE WHAT IT READS IS OF BULK AT MOST 1048576: true; the input reads as it did. -/
def fnIsConvexUptoRow : OpenClaim := { program := "ytnlciknmpjikgaa", sum := "876158ef3f3e0b5450da4855d4dd17174aca5419c2ce37729261087bcc146a74", func := "loop.example/planargeometry/laws.FnIsConvex", spec := "fnIsConvex", unfollowed := true, recurses := true, apart := false, narrowed := true }
def FnIsConvexUptoSaid : Prop := fnIsConvexUptoRow.holds Try.pinned (OpenSpec.upto fnIsConvexSpec)

/-- 'laws.FnLocateConvex', WHERE WHAT IT READS IS OF BULK AT MOST 1048576: true; the input reads as it did. -/
def fnLocateConvexUptoRow : OpenClaim := { program := "ytnlciknmpjikgaa", sum := "876158ef3f3e0b5450da4855d4dd17174aca5419c2ce37729261087bcc146a74", func := "loop.example/planargeometry/laws.FnLocateConvex", spec := "fnLocateConvex", unfollowed := true, recurses := true, apart := false, narrowed := true }
def FnLocateConvexUptoSaid : Prop := fnLocateConvexUptoRow.holds Try.pinned (OpenSpec.upto fnLocateConvexSpec)

/-- 'laws.FnCountWithin', WHERE WHAT IT READS IS OF BULK AT MOST 1048576: true; the input reads as it did. -/
def fnCountWithinUptoRow : OpenClaim := { program := "ytnlciknmpjikgaa", sum := "876158ef3f3e0b5450da4855d4dd17174aca5419c2ce37729261087bcc146a74", func := "loop.example/planargeometry/laws.FnCountWithin", spec := "fnCountWithin", apart := false, narrowed := true }
def FnCountWithinUptoSaid : Prop := fnCountWithinUptoRow.holds Try.pinned (OpenSpec.upto fnCountWithinSpec)

/-- 'laws.FnExactCheckSpanning', WHERE WHAT IT READS IS OF BULK AT MOST 1048576: true; the input reads as it did. -/
def fnExactCheckSpanningUptoRow : OpenClaim := { program := "ytnlciknmpjikgaa", sum := "876158ef3f3e0b5450da4855d4dd17174aca5419c2ce37729261087bcc146a74", func := "loop.example/planargeometry/laws.FnExactCheckSpanning", spec := "fnExactCheckSpanning", recurses := true, apart := false, narrowed := true }
def FnExactCheckSpanningUptoSaid : Prop := fnExactCheckSpanningUptoRow.holds Try.pinned (OpenSpec.upto fnExactCheckSpanningSpec)

end Rows
end Go.Proofs.Ytnlciknmpjikgaa
