/-
  A drawn segment, a point and the line through the ends. Written by an AI agent.
-/
import Derived.Test.YtoijfjifaljpaaaRdD
import Derived.Test.YtoijfjifaljpaaaWalkW
import Derived.Test.YtoijfjifaljpaaaWalkM
import Derived.Test.YtoijfjifaljpaaaWalkE
import Derived.Test.YtoijfjifaljpaaaAbsV
namespace Go.Proofs.Ytoijfjifaljpaaa
open Go.RowKit
def osQ (bs : List Int) (l : Nat) : Int := pickI bs l (asP bs l 0) 2
/-- A drawn segment and a point. -/
def dos (bs : List Int) (l : Nat) : Nat → Int
  | 0 => apX bs l 0
  | 1 => apY bs l 0
  | 2 => asX bs l 0
  | 3 => asY bs l 0
  | 4 => if osQ bs l = 0 then IntKind.i64.wrap ((IntKind.i64.wrap (apX bs l 0 + asX bs l 0)).tdiv 2) else apX bs l (asP bs l 0 + 1)
  | _ => if osQ bs l = 0 then IntKind.i64.wrap ((IntKind.i64.wrap (apY bs l 0 + asY bs l 0)).tdiv 2) else apY bs l (asP bs l 0 + 1)
abbrev agg4 (a b c d : Int) : Value := .agg #[.int .i64 a, .int .i64 b, .int .i64 c, .int .i64 d]
def dosV (bs : List Int) (n : Nat) : Value := .tuple #[agg4 (dos bs (rdL n) 0) (dos bs (rdL n) 1) (dos bs (rdL n) 2) (dos bs (rdL n) 3), agg2 (dos bs (rdL n) 4) (dos bs (rdL n) 5)]
def pDOn : List DArg → Option (Value × List Prop)
  | [.row n (.bytes bs)] => some (dosV bs n, [Bytes bs, n ≤ bs.length])
  | _ => none
theorem brT_t (x y : Tree) : brT true x y = x := rfl
theorem brT_f (x y : Tree) : brT false x y = y := rfl
def pLineT : List DArg → Option (Value × List Prop)
  | [.v (.agg ⟨[.int .i64 a, .int .i64 b, .int .i64 c]⟩)] => some (.bool (lineB a b c), [])
  | _ => none
def TL1 : Tab := fun f ds => match f with
  | 71 => pLineT ds
  | _ => T1 f ds
theorem TL1_ok : TabOk Try.prog TL1 := by
  intro f ds v C h hC
  unfold TL1 at h
  split at h
  · unfold pLineT at h
    split at h
    · obtain ⟨rfl, rfl⟩ : _ ∧ _ := by simpa using h
      exact res_calls (by kernel_rfl) rfl rfl fun w => specLine_any _ _ _ w
    · cases h
  · exact T1_ok _ _ _ _ h hC
def q_i0 : List DArg → Option (Value × List Prop)
  | [.v (.agg ⟨[.int .i64 a, .int .i64 b, .int .i64 c, .int .i64 d]⟩), .v (.agg ⟨[.int .i64 p, .int .i64 q]⟩)] => some (.bool (onB a b c d p q), [])
  | _ => none
def TI0 : Tab := fun f ds => match f with
  | 36 => q_i0 ds
  | _ => T1 f ds
theorem q_i0a {ds : List DArg} {v : Value} {C : List Prop} (h : q_i0 ds = some (v, C)) : Res Try.prog 36 ds v := by
  unfold q_i0 at h
  split at h
  · obtain ⟨rfl, rfl⟩ : _ ∧ _ := by simpa using h
    exact res_calls (by kernel_rfl) rfl rfl fun w => implOn_any _ _ _ _ _ _ w
  · cases h
theorem TI0_ok : TabOk Try.prog TI0 := by
  intro f ds v C h hC
  unfold TI0 at h
  split at h
  all_goals first | with_reducible exact q_i0a h | with_reducible exact q_i0b h | exact T1_ok _ _ _ _ h hC
end Go.Proofs.Ytoijfjifaljpaaa
