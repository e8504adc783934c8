/-
  A table of functions that are told by their contracts. Written by an AI agent.
-/
import Derived.Test.YtblpldapmmoheabPubA
import Derived.Test.YtblpldapmmoheabWalkK
import Derived.Test.YtblpldapmmoheabWalkI
import Derived.Test.YtblpldapmmoheabRdD
namespace Go.Proofs.Ytblpldapmmoheab
open Go.RowKit

def q_TB_0 : List DArg → Option (Value × List Prop)
  | [.v (.agg ⟨[.int .i64 a0_0, .int .i64 a0_1]⟩)] => some (.bool (ratB a0_0 a0_1), [])
  | _ => none
def q_TB_1 : List DArg → Option (Value × List Prop)
  | [.v (.agg ⟨[.int .i64 a0_0, .int .i64 a0_1]⟩), .v (.agg ⟨[.int .i64 a1_0, .int .i64 a1_1]⟩)] => some (iv (cmpR a0_0 a0_1 a1_0 a1_1), [])
  | _ => none
def q_TB_2 : List DArg → Option (Value × List Prop)
  | [.v (.agg ⟨[.int .i64 a0_0, .int .i64 a0_1]⟩), .v (.agg ⟨[.int .i64 a1_0, .int .i64 a1_1]⟩)] => some (iv (cmpR a0_0 a0_1 a1_0 a1_1), [])
  | _ => none
def q_TB_3 : List DArg → Option (Value × List Prop)
  | [.v (.agg ⟨[.int .i64 a0_0, .int .i64 a0_1]⟩), .v (.agg ⟨[.int .i64 a1_0, .int .i64 a1_1]⟩)] => some (.tuple #[.agg #[iv (addN a0_0 a0_1 a1_0 a1_1), iv (addD a0_0 a0_1 a1_0 a1_1)], .bool (addB a0_0 a0_1 a1_0 a1_1)], [])
  | _ => none
def q_TB_4 : List DArg → Option (Value × List Prop)
  | [.v (.agg ⟨[.int .i64 a0_0, .int .i64 a0_1]⟩), .v (.agg ⟨[.int .i64 a1_0, .int .i64 a1_1]⟩)] => some (.tuple #[.agg #[iv (addN a0_0 a0_1 a1_0 a1_1), iv (addD a0_0 a0_1 a1_0 a1_1)], .bool (addB a0_0 a0_1 a1_0 a1_1)], [])
  | _ => none
def q_TB_5 : List DArg → Option (Value × List Prop)
  | [.v (.agg ⟨[.int .i64 a0_0, .int .i64 a0_1]⟩), .v (.agg ⟨[.int .i64 a1_0, .int .i64 a1_1]⟩)] => some (.tuple #[.agg #[iv (mulN a0_0 a0_1 a1_0 a1_1), iv (mulD a0_0 a0_1 a1_0 a1_1)], .bool (mulB a0_0 a0_1 a1_0 a1_1)], [])
  | _ => none
def q_TB_6 : List DArg → Option (Value × List Prop)
  | [.v (.agg ⟨[.int .i64 a0_0, .int .i64 a0_1]⟩), .v (.agg ⟨[.int .i64 a1_0, .int .i64 a1_1]⟩)] => some (.tuple #[.agg #[iv (mulN a0_0 a0_1 a1_0 a1_1), iv (mulD a0_0 a0_1 a1_0 a1_1)], .bool (mulB a0_0 a0_1 a1_0 a1_1)], [])
  | _ => none
def q_TB_7 : List DArg → Option (Value × List Prop)
  | [.v (.agg ⟨[.int .i64 a0_0, .int .i64 a0_1]⟩)] => some (iv (flR a0_0 a0_1), [])
  | _ => none
def q_TB_8 : List DArg → Option (Value × List Prop)
  | [.v (.agg ⟨[.int .i64 a0_0, .int .i64 a0_1]⟩)] => some (iv (flR a0_0 a0_1), [])
  | _ => none
def TB : Tab := fun f ds => match f with
  | 19 => q_TB_0 ds
  | _ => TA f ds
theorem TB_r0 {ds : List DArg} {v : Value} {C : List Prop} (h : q_TB_0 ds = some (v, C)) (hC : AllP C) : Res Try.prog 19 ds v := by
  unfold q_TB_0 at h
  split at h
  · obtain ⟨rfl, rfl⟩ : _ ∧ _ := by simpa using h
    exact res_calls (by kernel_rfl) rfl rfl fun w => implRat_any _ _ w
  · cases h
theorem TB_ok : TabOk Try.prog TB := by
  intro f ds v C h hC
  unfold TB at h
  (try split at h)
  all_goals first | with_reducible exact TB_r0 h hC | with_reducible exact TB_r1 h hC | with_reducible exact TB_r2 h hC | with_reducible exact TB_r3 h hC | with_reducible exact TB_r4 h hC | with_reducible exact TB_r5 h hC | with_reducible exact TB_r6 h hC | with_reducible exact TB_r7 h hC | with_reducible exact TB_r8 h hC | exact TA_ok _ _ _ _ h hC | cases h
def TB2 : Tab := fun f ds => match f with
  | _ => TB f ds
theorem TB2_ok : TabOk Try.prog TB2 := by
  intro f ds v C h hC
  unfold TB2 at h
  (try split at h)
  all_goals first | with_reducible exact TB2_r0 h hC | with_reducible exact TB2_r1 h hC | with_reducible exact TB2_r2 h hC | exact TB_ok _ _ _ _ h hC | cases h
def EB2 : Env := tabE TB2
theorem EB2_ok : EnvOk Try.prog EB2 := tabE_ok TB2_ok
end Go.Proofs.Ytblpldapmmoheab
