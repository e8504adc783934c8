/-
  A table of functions that are told by their contracts. Written by an AI agent.
-/
import Derived.Test.YtieibbdfdepmbaaTabB
import Derived.Test.YtieibbdfdepmbaaBa
namespace Go.Proofs.Ytieibbdfdepmbaa
set_option linter.all false
open Go.RowKit

def q_TA_0 : List DArg → Option (Value × List Prop)
  | [.v (.agg ⟨[.int .i64 a0_0, .int .i64 a0_1]⟩), .v (.agg ⟨[.int .i64 a1_0, .int .i64 a1_1]⟩), .v (.agg ⟨[.int .i64 a2_0, .int .i64 a2_1]⟩)] => some (iv (crossR a0_0 a0_1 a1_0 a1_1 a2_0 a2_1), [])
  | _ => none
def q_TA_1 : List DArg → Option (Value × List Prop)
  | [.v (.agg ⟨[.int .i64 a0_0, .int .i64 a0_1]⟩), .v (.agg ⟨[.int .i64 a1_0, .int .i64 a1_1]⟩), .v (.agg ⟨[.int .i64 a2_0, .int .i64 a2_1]⟩)] => some (iv (crossR a0_0 a0_1 a1_0 a1_1 a2_0 a2_1), [])
  | _ => none
def q_TA_2 : List DArg → Option (Value × List Prop)
  | [.v (.agg ⟨[.int .i64 a0_0, .int .i64 a0_1]⟩), .v (.agg ⟨[.int .i64 a1_0, .int .i64 a1_1]⟩), .v (.agg ⟨[.int .i64 a2_0, .int .i64 a2_1]⟩)] => some (iv (orientR a0_0 a0_1 a1_0 a1_1 a2_0 a2_1), [])
  | _ => none
def q_TA_3 : List DArg → Option (Value × List Prop)
  | [.v (.agg ⟨[.int .i64 a0_0, .int .i64 a0_1]⟩), .v (.agg ⟨[.int .i64 a1_0, .int .i64 a1_1]⟩), .v (.agg ⟨[.int .i64 a2_0, .int .i64 a2_1]⟩)] => some (iv (orientR a0_0 a0_1 a1_0 a1_1 a2_0 a2_1), [])
  | _ => none
def q_TA_4 : List DArg → Option (Value × List Prop)
  | [.v (.agg ⟨[.int .i64 a0_0, .int .i64 a0_1]⟩), .v (.agg ⟨[.int .i64 a1_0, .int .i64 a1_1]⟩)] => some (iv (sqR a0_0 a0_1 a1_0 a1_1), [])
  | _ => none
def q_TA_5 : List DArg → Option (Value × List Prop)
  | [.v (.agg ⟨[.int .i64 a0_0, .int .i64 a0_1]⟩), .v (.agg ⟨[.int .i64 a1_0, .int .i64 a1_1]⟩)] => some (iv (sqR a0_0 a0_1 a1_0 a1_1), [])
  | _ => none
def TA : Tab := fun f ds => match f with
  | 51 => q_TA_0 ds
  | 52 => q_TA_1 ds
  | 49 => q_TA_2 ds
  | _ => T1 f ds
theorem TA_r0 {ds : List DArg} {v : Value} {C : List Prop} (h : q_TA_0 ds = some (v, C)) (hC : AllP C) : Res Try.prog 51 ds v := by
  unfold q_TA_0 at h
  split at h
  · obtain ⟨rfl, rfl⟩ : _ ∧ _ := by simpa using h
    exact res_calls (by kernel_rfl) rfl rfl fun w => implCross_any _ _ _ _ _ _ w
  · cases h
theorem TA_r1 {ds : List DArg} {v : Value} {C : List Prop} (h : q_TA_1 ds = some (v, C)) (hC : AllP C) : Res Try.prog 52 ds v := by
  unfold q_TA_1 at h
  split at h
  · obtain ⟨rfl, rfl⟩ : _ ∧ _ := by simpa using h
    exact res_calls (by kernel_rfl) rfl rfl fun w => SpecCross_any _ _ _ _ _ _ w
  · cases h
theorem TA_r2 {ds : List DArg} {v : Value} {C : List Prop} (h : q_TA_2 ds = some (v, C)) (hC : AllP C) : Res Try.prog 49 ds v := by
  unfold q_TA_2 at h
  split at h
  · obtain ⟨rfl, rfl⟩ : _ ∧ _ := by simpa using h
    exact res_calls (by kernel_rfl) rfl rfl fun w => implOrient_any _ _ _ _ _ _ w
  · cases h
theorem TA_ok : TabOk Try.prog TA := by
  intro f ds v C h hC
  unfold TA at h
  (try split at h)
  all_goals first | with_reducible exact TA_r0 h hC | with_reducible exact TA_r1 h hC | with_reducible exact TA_r2 h hC | with_reducible exact TA_r3 h hC | with_reducible exact TA_r4 h hC | with_reducible exact TA_r5 h hC | exact T1_ok _ _ _ _ h hC | cases h
end Go.Proofs.Ytieibbdfdepmbaa
