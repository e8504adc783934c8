/-
  No cell of these rows narrows 'for every input' (looked for: loops, veiled, ifaces, maps, wideKeys, modest, calm, conditions, laid).
  DERIVED. THE GIVEN ROWS OF THIS SEAT. 12 by the template 'for every input the law returns true; each argument reads behind the call as it read before'; 0 by the template 'total and deterministic' (their statements: YtolodncpegajkabTotals.lean).
  GIVEN WITH THE SEED: the statements are not yours to turn. If you find one false, say at which input.
  Laid BY PROGRAM, IN A SANDBOX (cutbox-rows.mjs): the forced cells as the released guide's own fill.sh prints them over the translation bc341f7f4775efee… (all of the seat's roots in one cut). By AI agents, Wed Nov 11 2026. No macro, syntax, notation, axiom, sorry.
-/
import Derived.Test.YtolodncpegajkabChecked
import GoSem.Claim
import GoSem.ClaimJoined
import GoSem.ClaimMapViews
import Derived.JoinedTies
import Derived.KernelRfl
namespace Go.Proofs.Ytolodncpegajkab
/- THE CELL 'sum', in the pinned program and in every row, IS THE sha256 OF THE DUMP (.gsa) THAT YtolodncpegajkabProg.lean LOADS. Nothing in Lean hashes anything: it is a label: what it is worth is what the hold of that sum in a sandbox is worth. -/
noncomputable def Try.pinned : Pinned := { name := "ytolodncpegajkab", sum := "bc341f7f4775efee82535a58567c3e3b94c7ee48507af9d6029a85020e4c098c", checked := Try.checked }
namespace Rows
def none {H : Type} : Left H := { results := [], args := [] }

/-- 'laws.FnExactUpperEnvelope': WHATEVER THE INPUT: true; the input reads as it did. -/
def fnExactUpperEnvelopeSpec : ChangeSpec := { name := "fnExactUpperEnvelope", fn := fun _ => fun
  | [d] => { results := [.lit (.bool true)], args := [d] }
  | _ => none }
def fnExactUpperEnvelopeRow : OpenClaim := { program := "ytolodncpegajkab", sum := "bc341f7f4775efee82535a58567c3e3b94c7ee48507af9d6029a85020e4c098c", func := "loop.example/planargeometry/laws.FnExactUpperEnvelope", spec := "fnExactUpperEnvelope", unfollowed := true, recurses := true, apart := false }
def FnExactUpperEnvelopeSaid : Prop := fnExactUpperEnvelopeRow.holds Try.pinned (OpenSpec.ofChange fnExactUpperEnvelopeSpec)

/-- ITS FALSE NEIGHBOUR: 'it returns false'. Refute it at one input. -/
def fnExactUpperEnvelopeWrong : ChangeSpec := { name := "fnExactUpperEnvelope", fn := fun _ => fun
  | [d] => { results := [.lit (.bool false)], args := [d] }
  | _ => none }
def FnExactUpperEnvelopeWrongFalsely : Prop := fnExactUpperEnvelopeRow.holds Try.pinned (OpenSpec.ofChange fnExactUpperEnvelopeWrong)

/-- 'laws.FnUpperEnvelope': WHATEVER THE INPUT: true; the input reads as it did. -/
def fnUpperEnvelopeSpec : ChangeSpec := { name := "fnUpperEnvelope", fn := fun _ => fun
  | [d1, d2] => { results := [.lit (.bool true)], args := [d1, d2] }
  | _ => none }
def fnUpperEnvelopeRow : OpenClaim := { program := "ytolodncpegajkab", sum := "bc341f7f4775efee82535a58567c3e3b94c7ee48507af9d6029a85020e4c098c", func := "loop.example/planargeometry/laws.FnUpperEnvelope", spec := "fnUpperEnvelope", unfollowed := true, recurses := true, apart := false }
def FnUpperEnvelopeSaid : Prop := fnUpperEnvelopeRow.holds Try.pinned (OpenSpec.ofChange fnUpperEnvelopeSpec)

/-- ITS FALSE NEIGHBOUR: 'it returns false'. Refute it at one input. -/
def fnUpperEnvelopeWrong : ChangeSpec := { name := "fnUpperEnvelope", fn := fun _ => fun
  | [d1, d2] => { results := [.lit (.bool false)], args := [d1, d2] }
  | _ => none }
def FnUpperEnvelopeWrongFalsely : Prop := fnUpperEnvelopeRow.holds Try.pinned (OpenSpec.ofChange fnUpperEnvelopeWrong)

/-- 'laws.FnEnvelopeEnds': WHATEVER THE INPUT: true; the input reads as it did. -/
def fnEnvelopeEndsSpec : ChangeSpec := { name := "fnEnvelopeEnds", fn := fun _ => fun
  | [d] => { results := [.lit (.bool true)], args := [d] }
  | _ => none }
def fnEnvelopeEndsRow : OpenClaim := { program := "ytolodncpegajkab", sum := "bc341f7f4775efee82535a58567c3e3b94c7ee48507af9d6029a85020e4c098c", func := "loop.example/planargeometry/laws.FnEnvelopeEnds", spec := "fnEnvelopeEnds", unfollowed := true, recurses := true, apart := false }
def FnEnvelopeEndsSaid : Prop := fnEnvelopeEndsRow.holds Try.pinned (OpenSpec.ofChange fnEnvelopeEndsSpec)

/-- ITS FALSE NEIGHBOUR: 'it returns false'. Refute it at one input. -/
def fnEnvelopeEndsWrong : ChangeSpec := { name := "fnEnvelopeEnds", fn := fun _ => fun
  | [d] => { results := [.lit (.bool false)], args := [d] }
  | _ => none }
def FnEnvelopeEndsWrongFalsely : Prop := fnEnvelopeEndsRow.holds Try.pinned (OpenSpec.ofChange fnEnvelopeEndsWrong)

/-- 'laws.FnSimplifyExact': WHATEVER THE INPUT: true; the input reads as it did. -/
def fnSimplifyExactSpec : ChangeSpec := { name := "fnSimplifyExact", fn := fun _ => fun
  | [d] => { results := [.lit (.bool true)], args := [d] }
  | _ => none }
def fnSimplifyExactRow : OpenClaim := { program := "ytolodncpegajkab", sum := "bc341f7f4775efee82535a58567c3e3b94c7ee48507af9d6029a85020e4c098c", func := "loop.example/planargeometry/laws.FnSimplifyExact", spec := "fnSimplifyExact", unfollowed := true, recurses := true, apart := false }
def FnSimplifyExactSaid : Prop := fnSimplifyExactRow.holds Try.pinned (OpenSpec.ofChange fnSimplifyExactSpec)

/-- ITS FALSE NEIGHBOUR: 'it returns false'. Refute it at one input. -/
def fnSimplifyExactWrong : ChangeSpec := { name := "fnSimplifyExact", fn := fun _ => fun
  | [d] => { results := [.lit (.bool false)], args := [d] }
  | _ => none }
def FnSimplifyExactWrongFalsely : Prop := fnSimplifyExactRow.holds Try.pinned (OpenSpec.ofChange fnSimplifyExactWrong)

/-- 'laws.FnCheckSimplified': WHATEVER THE INPUT: true; the input reads as it did. -/
def fnCheckSimplifiedSpec : ChangeSpec := { name := "fnCheckSimplified", fn := fun _ => fun
  | [d1, d2] => { results := [.lit (.bool true)], args := [d1, d2] }
  | _ => none }
def fnCheckSimplifiedRow : OpenClaim := { program := "ytolodncpegajkab", sum := "bc341f7f4775efee82535a58567c3e3b94c7ee48507af9d6029a85020e4c098c", func := "loop.example/planargeometry/laws.FnCheckSimplified", spec := "fnCheckSimplified", unfollowed := true, recurses := true, apart := false }
def FnCheckSimplifiedSaid : Prop := fnCheckSimplifiedRow.holds Try.pinned (OpenSpec.ofChange fnCheckSimplifiedSpec)

/-- ITS FALSE NEIGHBOUR: 'it returns false'. Refute it at one input. -/
def fnCheckSimplifiedWrong : ChangeSpec := { name := "fnCheckSimplified", fn := fun _ => fun
  | [d1, d2] => { results := [.lit (.bool false)], args := [d1, d2] }
  | _ => none }
def FnCheckSimplifiedWrongFalsely : Prop := fnCheckSimplifiedRow.holds Try.pinned (OpenSpec.ofChange fnCheckSimplifiedWrong)

/-- 'laws.FnExactArrangement': WHATEVER THE INPUT: true; the input reads as it did. -/
def fnExactArrangementSpec : ChangeSpec := { name := "fnExactArrangement", fn := fun _ => fun
  | [d] => { results := [.lit (.bool true)], args := [d] }
  | _ => none }
def fnExactArrangementRow : OpenClaim := { program := "ytolodncpegajkab", sum := "bc341f7f4775efee82535a58567c3e3b94c7ee48507af9d6029a85020e4c098c", func := "loop.example/planargeometry/laws.FnExactArrangement", spec := "fnExactArrangement", unfollowed := true, recurses := true, apart := false }
def FnExactArrangementSaid : Prop := fnExactArrangementRow.holds Try.pinned (OpenSpec.ofChange fnExactArrangementSpec)

/-- ITS FALSE NEIGHBOUR: 'it returns false'. Refute it at one input. -/
def fnExactArrangementWrong : ChangeSpec := { name := "fnExactArrangement", fn := fun _ => fun
  | [d] => { results := [.lit (.bool false)], args := [d] }
  | _ => none }
def FnExactArrangementWrongFalsely : Prop := fnExactArrangementRow.holds Try.pinned (OpenSpec.ofChange fnExactArrangementWrong)

/-- 'laws.FnArrangementParallel': WHATEVER THE INPUT: true; the input reads as it did. -/
def fnArrangementParallelSpec : ChangeSpec := { name := "fnArrangementParallel", fn := fun _ => fun
  | [d] => { results := [.lit (.bool true)], args := [d] }
  | _ => none }
def fnArrangementParallelRow : OpenClaim := { program := "ytolodncpegajkab", sum := "bc341f7f4775efee82535a58567c3e3b94c7ee48507af9d6029a85020e4c098c", func := "loop.example/planargeometry/laws.FnArrangementParallel", spec := "fnArrangementParallel", unfollowed := true, recurses := true, apart := false }
def FnArrangementParallelSaid : Prop := fnArrangementParallelRow.holds Try.pinned (OpenSpec.ofChange fnArrangementParallelSpec)

/-- ITS FALSE NEIGHBOUR: 'it returns false'. Refute it at one input. -/
def fnArrangementParallelWrong : ChangeSpec := { name := "fnArrangementParallel", fn := fun _ => fun
  | [d] => { results := [.lit (.bool false)], args := [d] }
  | _ => none }
def FnArrangementParallelWrongFalsely : Prop := fnArrangementParallelRow.holds Try.pinned (OpenSpec.ofChange fnArrangementParallelWrong)

/-- 'laws.FnArrangement': WHATEVER THE INPUT: true; the input reads as it did. -/
def fnArrangementSpec : ChangeSpec := { name := "fnArrangement", fn := fun _ => fun
  | [d] => { results := [.lit (.bool true)], args := [d] }
  | _ => none }
def fnArrangementRow : OpenClaim := { program := "ytolodncpegajkab", sum := "bc341f7f4775efee82535a58567c3e3b94c7ee48507af9d6029a85020e4c098c", func := "loop.example/planargeometry/laws.FnArrangement", spec := "fnArrangement", unfollowed := true, recurses := true, apart := false }
def FnArrangementSaid : Prop := fnArrangementRow.holds Try.pinned (OpenSpec.ofChange fnArrangementSpec)

/-- ITS FALSE NEIGHBOUR: 'it returns false'. Refute it at one input. -/
def fnArrangementWrong : ChangeSpec := { name := "fnArrangement", fn := fun _ => fun
  | [d] => { results := [.lit (.bool false)], args := [d] }
  | _ => none }
def FnArrangementWrongFalsely : Prop := fnArrangementRow.holds Try.pinned (OpenSpec.ofChange fnArrangementWrong)

/-- 'laws.FnArrangementMore': WHATEVER THE INPUT: true; the input reads as it did. -/
def fnArrangementMoreSpec : ChangeSpec := { name := "fnArrangementMore", fn := fun _ => fun
  | [d1, d2] => { results := [.lit (.bool true)], args := [d1, d2] }
  | _ => none }
def fnArrangementMoreRow : OpenClaim := { program := "ytolodncpegajkab", sum := "bc341f7f4775efee82535a58567c3e3b94c7ee48507af9d6029a85020e4c098c", func := "loop.example/planargeometry/laws.FnArrangementMore", spec := "fnArrangementMore", unfollowed := true, recurses := true, apart := false }
def FnArrangementMoreSaid : Prop := fnArrangementMoreRow.holds Try.pinned (OpenSpec.ofChange fnArrangementMoreSpec)

/-- ITS FALSE NEIGHBOUR: 'it returns false'. Refute it at one input. -/
def fnArrangementMoreWrong : ChangeSpec := { name := "fnArrangementMore", fn := fun _ => fun
  | [d1, d2] => { results := [.lit (.bool false)], args := [d1, d2] }
  | _ => none }
def FnArrangementMoreWrongFalsely : Prop := fnArrangementMoreRow.holds Try.pinned (OpenSpec.ofChange fnArrangementMoreWrong)

/-- 'laws.FnExactMinkowskiSum': WHATEVER THE INPUT: true; the input reads as it did. -/
def fnExactMinkowskiSumSpec : ChangeSpec := { name := "fnExactMinkowskiSum", fn := fun _ => fun
  | [d1, d2] => { results := [.lit (.bool true)], args := [d1, d2] }
  | _ => none }
def fnExactMinkowskiSumRow : OpenClaim := { program := "ytolodncpegajkab", sum := "bc341f7f4775efee82535a58567c3e3b94c7ee48507af9d6029a85020e4c098c", func := "loop.example/planargeometry/laws.FnExactMinkowskiSum", spec := "fnExactMinkowskiSum", unfollowed := true, recurses := true, apart := false }
def FnExactMinkowskiSumSaid : Prop := fnExactMinkowskiSumRow.holds Try.pinned (OpenSpec.ofChange fnExactMinkowskiSumSpec)

/-- ITS FALSE NEIGHBOUR: 'it returns false'. Refute it at one input. -/
def fnExactMinkowskiSumWrong : ChangeSpec := { name := "fnExactMinkowskiSum", fn := fun _ => fun
  | [d1, d2] => { results := [.lit (.bool false)], args := [d1, d2] }
  | _ => none }
def FnExactMinkowskiSumWrongFalsely : Prop := fnExactMinkowskiSumRow.holds Try.pinned (OpenSpec.ofChange fnExactMinkowskiSumWrong)

/-- 'laws.FnMinkowskiPoint': WHATEVER THE INPUT: true; the input reads as it did. -/
def fnMinkowskiPointSpec : ChangeSpec := { name := "fnMinkowskiPoint", fn := fun _ => fun
  | [d] => { results := [.lit (.bool true)], args := [d] }
  | _ => none }
def fnMinkowskiPointRow : OpenClaim := { program := "ytolodncpegajkab", sum := "bc341f7f4775efee82535a58567c3e3b94c7ee48507af9d6029a85020e4c098c", func := "loop.example/planargeometry/laws.FnMinkowskiPoint", spec := "fnMinkowskiPoint", unfollowed := true, recurses := true, apart := false }
def FnMinkowskiPointSaid : Prop := fnMinkowskiPointRow.holds Try.pinned (OpenSpec.ofChange fnMinkowskiPointSpec)

/-- ITS FALSE NEIGHBOUR: 'it returns false'. Refute it at one input. -/
def fnMinkowskiPointWrong : ChangeSpec := { name := "fnMinkowskiPoint", fn := fun _ => fun
  | [d] => { results := [.lit (.bool false)], args := [d] }
  | _ => none }
def FnMinkowskiPointWrongFalsely : Prop := fnMinkowskiPointRow.holds Try.pinned (OpenSpec.ofChange fnMinkowskiPointWrong)

/-- 'laws.FnExactHullsMeet': WHATEVER THE INPUT: true; the input reads as it did. -/
def fnExactHullsMeetSpec : ChangeSpec := { name := "fnExactHullsMeet", fn := fun _ => fun
  | [d1, d2] => { results := [.lit (.bool true)], args := [d1, d2] }
  | _ => none }
def fnExactHullsMeetRow : OpenClaim := { program := "ytolodncpegajkab", sum := "bc341f7f4775efee82535a58567c3e3b94c7ee48507af9d6029a85020e4c098c", func := "loop.example/planargeometry/laws.FnExactHullsMeet", spec := "fnExactHullsMeet", unfollowed := true, recurses := true, apart := false }
def FnExactHullsMeetSaid : Prop := fnExactHullsMeetRow.holds Try.pinned (OpenSpec.ofChange fnExactHullsMeetSpec)

/-- ITS FALSE NEIGHBOUR: 'it returns false'. Refute it at one input. -/
def fnExactHullsMeetWrong : ChangeSpec := { name := "fnExactHullsMeet", fn := fun _ => fun
  | [d1, d2] => { results := [.lit (.bool false)], args := [d1, d2] }
  | _ => none }
def FnExactHullsMeetWrongFalsely : Prop := fnExactHullsMeetRow.holds Try.pinned (OpenSpec.ofChange fnExactHullsMeetWrong)

/- THE SECOND FORM. 'bulk': how many values and letters a reading holds, each counted each time it is reached (what is shared counts as often as it is met; a slice's spare places count too). A statement '..UptoSaid' is the law's where the arguments, and the package variables that the reading takes, are together of bulk at most 1048576: NARROWER than '..Said'. Prove '..Said' where nothing that the law and all that it calls make is longer than what came in: it says more and counts as full. Else prove '..UptoSaid'. A law counts once. -/
mutual
def uptoBulk {H : Type} : DataW H → Nat
  | .lit (.string bytes) => bytes.length + 1
  | .lit _ => 1
  | .nil => 1
  | .ptr d => uptoBulk d + 1
  | .slice elems spare => uptoBulkAll elems + uptoBulkAll spare + 1
  | .agg parts => uptoBulkAll parts + 1
  | .iface _ d => uptoBulk d + 1
  | .map entries => uptoBulkEntries entries + 1
  | .held _ => 1
def uptoBulkAll {H : Type} : List (DataW H) → Nat
  | [] => 0
  | d :: r => uptoBulk d + uptoBulkAll r
def uptoBulkEntries {H : Type} : List (Lit × DataW H) → Nat
  | [] => 0
  | x :: r => uptoBulkEntry x + uptoBulkEntries r
def uptoBulkEntry {H : Type} : Lit × DataW H → Nat
  | (.string bytes, d) => bytes.length + uptoBulk d + 1
  | (_, d) => uptoBulk d + 1
 end
def uptoSmall : (H : Type) → List (DataW H) → Bool := fun _ ds => decide (uptoBulkAll ds ≤ 1048576)
def OpenSpec.upto (s : _root_.Go.ChangeSpec) : _root_.Go.OpenSpec := { _root_.Go.OpenSpec.ofChange s with cond := some uptoSmall }

/-- 'laws.FnExactUpperEnvelope', WHERE WHAT IT READS IS OF BULK AT MOST 1048576: true; the input reads as it did. -/
def fnExactUpperEnvelopeUptoRow : OpenClaim := { program := "ytolodncpegajkab", sum := "bc341f7f4775efee82535a58567c3e3b94c7ee48507af9d6029a85020e4c098c", func := "loop.example/planargeometry/laws.FnExactUpperEnvelope", spec := "fnExactUpperEnvelope", unfollowed := true, recurses := true, apart := false, narrowed := true }
def FnExactUpperEnvelopeUptoSaid : Prop := fnExactUpperEnvelopeUptoRow.holds Try.pinned (OpenSpec.upto fnExactUpperEnvelopeSpec)

/-- 'laws.FnUpperEnvelope', WHERE WHAT IT READS IS OF BULK AT MOST 1048576: true; the input reads as it did. -/
def fnUpperEnvelopeUptoRow : OpenClaim := { program := "ytolodncpegajkab", sum := "bc341f7f4775efee82535a58567c3e3b94c7ee48507af9d6029a85020e4c098c", func := "loop.example/planargeometry/laws.FnUpperEnvelope", spec := "fnUpperEnvelope", unfollowed := true, recurses := true, apart := false, narrowed := true }
def FnUpperEnvelopeUptoSaid : Prop := fnUpperEnvelopeUptoRow.holds Try.pinned (OpenSpec.upto fnUpperEnvelopeSpec)

/-- 'laws.FnEnvelopeEnds', WHERE WHAT IT READS IS OF BULK AT MOST 1048576: true; the input reads as it did. -/
def fnEnvelopeEndsUptoRow : OpenClaim := { program := "ytolodncpegajkab", sum := "bc341f7f4775efee82535a58567c3e3b94c7ee48507af9d6029a85020e4c098c", func := "loop.example/planargeometry/laws.FnEnvelopeEnds", spec := "fnEnvelopeEnds", unfollowed := true, recurses := true, apart := false, narrowed := true }
def FnEnvelopeEndsUptoSaid : Prop := fnEnvelopeEndsUptoRow.holds Try.pinned (OpenSpec.upto fnEnvelopeEndsSpec)

/-- 'laws.FnSimplifyExact', WHERE WHAT IT READS IS OF BULK AT MOST 1048576: true; the input reads as it did. -/
def fnSimplifyExactUptoRow : OpenClaim := { program := "ytolodncpegajkab", sum := "bc341f7f4775efee82535a58567c3e3b94c7ee48507af9d6029a85020e4c098c", func := "loop.example/planargeometry/laws.FnSimplifyExact", spec := "fnSimplifyExact", unfollowed := true, recurses := true, apart := false, narrowed := true }
def FnSimplifyExactUptoSaid : Prop := fnSimplifyExactUptoRow.holds Try.pinned (OpenSpec.upto fnSimplifyExactSpec)

/-- 'laws.FnCheckSimplified', WHERE WHAT IT READS IS OF BULK AT MOST 1048576: true; the input reads as it did. -/
def fnCheckSimplifiedUptoRow : OpenClaim := { program := "ytolodncpegajkab", sum := "bc341f7f4775efee82535a58567c3e3b94c7ee48507af9d6029a85020e4c098c", func := "loop.example/planargeometry/laws.FnCheckSimplified", spec := "fnCheckSimplified", unfollowed := true, recurses := true, apart := false, narrowed := true }
def FnCheckSimplifiedUptoSaid : Prop := fnCheckSimplifiedUptoRow.holds Try.pinned (OpenSpec.upto fnCheckSimplifiedSpec)

/-- 'laws.FnExactArrangement', WHERE WHAT IT READS IS OF BULK AT MOST 1048576: true; the input reads as it did. -/
def fnExactArrangementUptoRow : OpenClaim := { program := "ytolodncpegajkab", sum := "bc341f7f4775efee82535a58567c3e3b94c7ee48507af9d6029a85020e4c098c", func := "loop.example/planargeometry/laws.FnExactArrangement", spec := "fnExactArrangement", unfollowed := true, recurses := true, apart := false, narrowed := true }
def FnExactArrangementUptoSaid : Prop := fnExactArrangementUptoRow.holds Try.pinned (OpenSpec.upto fnExactArrangementSpec)

/-- 'laws.FnArrangementParallel', WHERE WHAT IT READS IS OF BULK AT MOST 1048576: true; the input reads as it did. -/
def fnArrangementParallelUptoRow : OpenClaim := { program := "ytolodncpegajkab", sum := "bc341f7f4775efee82535a58567c3e3b94c7ee48507af9d6029a85020e4c098c", func := "loop.example/planargeometry/laws.FnArrangementParallel", spec := "fnArrangementParallel", unfollowed := true, recurses := true, apart := false, narrowed := true }
def FnArrangementParallelUptoSaid : Prop := fnArrangementParallelUptoRow.holds Try.pinned (OpenSpec.upto fnArrangementParallelSpec)

/-- 'laws.FnArrangement', WHERE WHAT IT READS IS OF BULK AT MOST 1048576: true; the input reads as it did. -/
def fnArrangementUptoRow : OpenClaim := { program := "ytolodncpegajkab", sum := "bc341f7f4775efee82535a58567c3e3b94c7ee48507af9d6029a85020e4c098c", func := "loop.example/planargeometry/laws.FnArrangement", spec := "fnArrangement", unfollowed := true, recurses := true, apart := false, narrowed := true }
def FnArrangementUptoSaid : Prop := fnArrangementUptoRow.holds Try.pinned (OpenSpec.upto fnArrangementSpec)

/-- 'laws.FnArrangementMore', WHERE WHAT IT READS IS OF BULK AT MOST 1048576: true; the input reads as it did. -/
def fnArrangementMoreUptoRow : OpenClaim := { program := "ytolodncpegajkab", sum := "bc341f7f4775efee82535a58567c3e3b94c7ee48507af9d6029a85020e4c098c", func := "loop.example/planargeometry/laws.FnArrangementMore", spec := "fnArrangementMore", unfollowed := true, recurses := true, apart := false, narrowed := true }
def FnArrangementMoreUptoSaid : Prop := fnArrangementMoreUptoRow.holds Try.pinned (OpenSpec.upto fnArrangementMoreSpec)

/-- 'laws.FnExactMinkowskiSum', WHERE WHAT IT READS IS OF BULK AT MOST 1048576: true; the input reads as it did. -/
def fnExactMinkowskiSumUptoRow : OpenClaim := { program := "ytolodncpegajkab", sum := "bc341f7f4775efee82535a58567c3e3b94c7ee48507af9d6029a85020e4c098c", func := "loop.example/planargeometry/laws.FnExactMinkowskiSum", spec := "fnExactMinkowskiSum", unfollowed := true, recurses := true, apart := false, narrowed := true }
def FnExactMinkowskiSumUptoSaid : Prop := fnExactMinkowskiSumUptoRow.holds Try.pinned (OpenSpec.upto fnExactMinkowskiSumSpec)

/-- 'laws.FnMinkowskiPoint', WHERE WHAT IT READS IS OF BULK AT MOST 1048576: true; the input reads as it did. -/
def fnMinkowskiPointUptoRow : OpenClaim := { program := "ytolodncpegajkab", sum := "bc341f7f4775efee82535a58567c3e3b94c7ee48507af9d6029a85020e4c098c", func := "loop.example/planargeometry/laws.FnMinkowskiPoint", spec := "fnMinkowskiPoint", unfollowed := true, recurses := true, apart := false, narrowed := true }
def FnMinkowskiPointUptoSaid : Prop := fnMinkowskiPointUptoRow.holds Try.pinned (OpenSpec.upto fnMinkowskiPointSpec)

/-- 'laws.FnExactHullsMeet', WHERE WHAT IT READS IS OF BULK AT MOST 1048576: true; the input reads as it did. -/
def fnExactHullsMeetUptoRow : OpenClaim := { program := "ytolodncpegajkab", sum := "bc341f7f4775efee82535a58567c3e3b94c7ee48507af9d6029a85020e4c098c", func := "loop.example/planargeometry/laws.FnExactHullsMeet", spec := "fnExactHullsMeet", unfollowed := true, recurses := true, apart := false, narrowed := true }
def FnExactHullsMeetUptoSaid : Prop := fnExactHullsMeetUptoRow.holds Try.pinned (OpenSpec.upto fnExactHullsMeetSpec)

end Rows
end Go.Proofs.Ytolodncpegajkab
