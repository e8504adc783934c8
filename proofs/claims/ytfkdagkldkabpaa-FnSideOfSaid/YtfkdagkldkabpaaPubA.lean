/-
  A table of functions that are told by their contracts. Written by an AI agent.
-/
import Derived.Test.YtfkdagkldkabpaaTabB
import Derived.Test.YtfkdagkldkabpaaWalkC
namespace Go.Proofs.Ytfkdagkldkabpaa
open Go.RowKit

def q_TA_0 : List DArg → Option (Value × List Prop)
  | [.v (.agg ⟨[.int .i64 a0_0, .int .i64 a0_1]⟩), .v (.agg ⟨[.int .i64 a1_0, .int .i64 a1_1]⟩), .v (.agg ⟨[.int .i64 a2_0, .int .i64 a2_1]⟩)] => some (iv (crossR a0_0 a0_1 a1_0 a1_1 a2_0 a2_1), [])
  | _ => none
def q_TA_1 : List DArg → Option (Value × List Prop)
  | [.v (.agg ⟨[.int .i64 a0_0, .int .i64 a0_1]⟩), .v (.agg ⟨[.int .i64 a1_0, .int .i64 a1_1]⟩), .v (.agg ⟨[.int .i64 a2_0, .int .i64 a2_1]⟩)] => some (iv (crossR a0_0 a0_1 a1_0 a1_1 a2_0 a2_1), [])
  | _ => none
def q_TA_2 : List DArg → Option (Value × List Prop)
  | [.v (.agg ⟨[.int .i64 a0_0, .int .i64 a0_1]⟩), .v (.agg ⟨[.int .i64 a1_0, .int .i64 a1_1]⟩), .v (.agg ⟨[.int .i64 a2_0, .int .i64 a2_1]⟩)] => some (iv (orientR a0_0 a0_1 a1_0 a1_1 a2_0 a2_1), [])
  | _ => none
def q_TA_3 : List DArg → Option (Value × List Prop)
  | [.v (.agg ⟨[.int .i64 a0_0, .int .i64 a0_1]⟩), .v (.agg ⟨[.int .i64 a1_0, .int .i64 a1_1]⟩), .v (.agg ⟨[.int .i64 a2_0, .int .i64 a2_1]⟩)] => some (iv (orientR a0_0 a0_1 a1_0 a1_1 a2_0 a2_1), [])
  | _ => none
def q_TA_4 : List DArg → Option (Value × List Prop)
  | [.v (.agg ⟨[.int .i64 a0_0, .int .i64 a0_1]⟩), .v (.agg ⟨[.int .i64 a1_0, .int .i64 a1_1]⟩)] => some (iv (sqR a0_0 a0_1 a1_0 a1_1), [])
  | _ => none
def q_TA_5 : List DArg → Option (Value × List Prop)
  | [.v (.agg ⟨[.int .i64 a0_0, .int .i64 a0_1]⟩), .v (.agg ⟨[.int .i64 a1_0, .int .i64 a1_1]⟩)] => some (iv (sqR a0_0 a0_1 a1_0 a1_1), [])
  | _ => none
def TA : Tab := fun f ds => match f with
  | 16 => q_TA_0 ds
  | 17 => q_TA_1 ds
  | 19 => q_TA_2 ds
  | 20 => q_TA_3 ds
  | 22 => q_TA_4 ds
  | 23 => q_TA_5 ds
  | _ => T1 f ds
theorem TA_ok : TabOk Try.prog TA := by
  intro f ds v C h hC
  unfold TA at h
  split at h
  · unfold q_TA_0 at h
    split at h
    · obtain ⟨rfl, rfl⟩ : _ ∧ _ := by simpa using h
      exact res_calls (by kernel_rfl) rfl rfl fun w => implCross_any _ _ _ _ _ _ w
    · cases h
  · unfold q_TA_1 at h
    split at h
    · obtain ⟨rfl, rfl⟩ : _ ∧ _ := by simpa using h
      exact res_calls (by kernel_rfl) rfl rfl fun w => SpecCross_any _ _ _ _ _ _ w
    · cases h
  · unfold q_TA_2 at h
    split at h
    · obtain ⟨rfl, rfl⟩ : _ ∧ _ := by simpa using h
      exact res_calls (by kernel_rfl) rfl rfl fun w => implOrient_any _ _ _ _ _ _ w
    · cases h
  · unfold q_TA_3 at h
    split at h
    · obtain ⟨rfl, rfl⟩ : _ ∧ _ := by simpa using h
      exact res_calls (by kernel_rfl) rfl rfl fun w => SpecOrient_any _ _ _ _ _ _ w
    · cases h
  · unfold q_TA_4 at h
    split at h
    · obtain ⟨rfl, rfl⟩ : _ ∧ _ := by simpa using h
      exact res_calls (by kernel_rfl) rfl rfl fun w => implSquared_any _ _ _ _ w
    · cases h
  · unfold q_TA_5 at h
    split at h
    · obtain ⟨rfl, rfl⟩ : _ ∧ _ := by simpa using h
      exact res_calls (by kernel_rfl) rfl rfl fun w => SpecSquared_any _ _ _ _ w
    · cases h
  · exact T1_ok _ _ _ _ h hC
end Go.Proofs.Ytfkdagkldkabpaa
