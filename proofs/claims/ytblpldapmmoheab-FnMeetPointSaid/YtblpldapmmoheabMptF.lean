/-
  MeetPoint: the exact law. Written by an AI agent.
-/
import Derived.Test.YtblpldapmmoheabMpt
namespace Go.Proofs.Ytblpldapmmoheab
set_option linter.all false
open Go.RowKit

def mpI (v : Value) (k : Nat) : Int := match v with
  | .tuple ⟨[.agg ⟨l⟩, _]⟩ => (match l[k]? with
    | some (.int _ x) => x
    | _ => 0)
  | _ => 0
def mpB (v : Value) : Bool := match v with
  | .tuple ⟨[_, .bool b]⟩ => b
  | _ => false
def mpN (a b c d e f g h : Int) (k : Nat) : Int := mpI (mpV a b c d e f g h) k
def mpT (a b c d e f g h : Int) : Value := .tuple #[.agg #[.int .i64 (mpN a b c d e f g h 0), .int .i64 (mpN a b c d e f g h 1), .int .i64 (mpN a b c d e f g h 2), .int .i64 (mpN a b c d e f g h 3)], .bool (mpB (mpV a b c d e f g h))]
theorem mpV_is (a b c d e f g h : Int) : mpV a b c d e f g h = mpT a b c d e f g h := by
  unfold mpT mpN mpV
  split
  · rfl
  · split <;> rfl
def pMpV : List DArg → Option (Value × List Prop)
  | [.v (.agg ⟨[.int .i64 a, .int .i64 b, .int .i64 c, .int .i64 d]⟩), .v (.agg ⟨[.int .i64 e, .int .i64 f, .int .i64 g, .int .i64 h]⟩)] => some (mpT a b c d e f g h, [])
  | _ => none
theorem pMpV_i {ds : List DArg} {v : Value} {C : List Prop} (h : pMpV ds = some (v, C)) : Res Try.prog 26 ds v := by
  unfold pMpV at h
  split at h
  · obtain ⟨rfl, rfl⟩ : _ ∧ _ := by simpa using h
    rw [← mpV_is]
    exact res_iMp _ _ _ _ _ _ _ _
  · cases h
theorem pMpV_s {ds : List DArg} {v : Value} {C : List Prop} (h : pMpV ds = some (v, C)) : Res Try.prog 27 ds v := by
  unfold pMpV at h
  split at h
  · obtain ⟨rfl, rfl⟩ : _ ∧ _ := by simpa using h
    rw [← mpV_is]
    exact res_sMp _ _ _ _ _ _ _ _
  · cases h
def TMp : Tab := fun f ds => match f with
  | 26 => pMpV ds
  | 27 => pMpV ds
  | f => TRb f ds
theorem TMp_ok : TabOk Try.prog TMp := by
  intro f ds v C h hC
  unfold TMp at h
  (try split at h)
  all_goals first | with_reducible exact pMpV_i h | with_reducible exact pMpV_s h | exact TRb_ok _ _ _ _ h hC
end Go.Proofs.Ytblpldapmmoheab
