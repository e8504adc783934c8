/-
  A table of functions that are told by their contracts. Written by an AI agent.
-/
import Derived.Test.YtoleenohcidegaaTabB
import Derived.Test.YtoleenohcidegaaWalkK
import Derived.Test.YtoleenohcidegaaWalkI
import Derived.Test.YtoleenohcidegaaRdD
namespace Go.Proofs.Ytoleenohcidegaa
open Go.RowKit

def q_TF_0 : List DArg → Option (Value × List Prop)
  | [.v (.agg ⟨[.int .i64 a0_0, .int .i64 a0_1]⟩)] => some (.bool (ratB a0_0 a0_1), [])
  | _ => none
def q_TF_1 : List DArg → Option (Value × List Prop)
  | [.v (.int .i64 a0), .v (.int .i64 a1)] => some (.tuple #[.agg #[iv (mkN a0 a1), iv (mkD a0 a1)], .bool (mkB a0 a1)], [])
  | _ => none
def q_TF_2 : List DArg → Option (Value × List Prop)
  | [.v (.int .i64 a0), .v (.int .i64 a1)] => some (.tuple #[.agg #[iv (mkN a0 a1), iv (mkD a0 a1)], .bool (mkB a0 a1)], [])
  | _ => none
def q_TF_3 : List DArg → Option (Value × List Prop)
  | [.v (.agg ⟨[.int .i64 a0_0, .int .i64 a0_1]⟩), .v (.agg ⟨[.int .i64 a1_0, .int .i64 a1_1]⟩)] => some (.tuple #[.agg #[iv (addN a0_0 a0_1 a1_0 a1_1), iv (addD a0_0 a0_1 a1_0 a1_1)], .bool (addB a0_0 a0_1 a1_0 a1_1)], [])
  | _ => none
def q_TF_4 : List DArg → Option (Value × List Prop)
  | [.v (.agg ⟨[.int .i64 a0_0, .int .i64 a0_1]⟩), .v (.agg ⟨[.int .i64 a1_0, .int .i64 a1_1]⟩)] => some (.tuple #[.agg #[iv (addN a0_0 a0_1 a1_0 a1_1), iv (addD a0_0 a0_1 a1_0 a1_1)], .bool (addB a0_0 a0_1 a1_0 a1_1)], [])
  | _ => none
def q_TF_5 : List DArg → Option (Value × List Prop)
  | [.v (.agg ⟨[.int .i64 a0_0, .int .i64 a0_1]⟩), .v (.agg ⟨[.int .i64 a1_0, .int .i64 a1_1]⟩)] => some (.tuple #[.agg #[iv (mulN a0_0 a0_1 a1_0 a1_1), iv (mulD a0_0 a0_1 a1_0 a1_1)], .bool (mulB a0_0 a0_1 a1_0 a1_1)], [])
  | _ => none
def q_TF_6 : List DArg → Option (Value × List Prop)
  | [.v (.agg ⟨[.int .i64 a0_0, .int .i64 a0_1]⟩), .v (.agg ⟨[.int .i64 a1_0, .int .i64 a1_1]⟩)] => some (.tuple #[.agg #[iv (mulN a0_0 a0_1 a1_0 a1_1), iv (mulD a0_0 a0_1 a1_0 a1_1)], .bool (mulB a0_0 a0_1 a1_0 a1_1)], [])
  | _ => none
def q_TF_7 : List DArg → Option (Value × List Prop)
  | [.v (.agg ⟨[.int .i64 a0_0, .int .i64 a0_1]⟩)] => some (iv (flR a0_0 a0_1), [])
  | _ => none
def q_TF_8 : List DArg → Option (Value × List Prop)
  | [.v (.agg ⟨[.int .i64 a0_0, .int .i64 a0_1]⟩)] => some (iv (flR a0_0 a0_1), [])
  | _ => none
def TF : Tab := fun f ds => match f with
  | 16 => q_TF_0 ds
  | 14 => q_TF_1 ds
  | 15 => q_TF_2 ds
  | 18 => q_TF_3 ds
  | 19 => q_TF_4 ds
  | 21 => q_TF_5 ds
  | 22 => q_TF_6 ds
  | 25 => q_TF_7 ds
  | 26 => q_TF_8 ds
  | _ => T1 f ds
theorem TF_ok : TabOk Try.prog TF := by
  intro f ds v C h hC
  unfold TF at h
  split at h
  · unfold q_TF_0 at h
    split at h
    · obtain ⟨rfl, rfl⟩ : _ ∧ _ := by simpa using h
      exact res_calls (by kernel_rfl) rfl rfl fun w => implRat_any _ _ w
    · cases h
  · unfold q_TF_1 at h
    split at h
    · obtain ⟨rfl, rfl⟩ : _ ∧ _ := by simpa using h
      exact res_calls (by kernel_rfl) rfl rfl fun w => implMakeRat_any _ _ w
    · cases h
  · unfold q_TF_2 at h
    split at h
    · obtain ⟨rfl, rfl⟩ : _ ∧ _ := by simpa using h
      exact res_calls (by kernel_rfl) rfl rfl fun w => SpecMakeRat_any _ _ w
    · cases h
  · unfold q_TF_3 at h
    split at h
    · obtain ⟨rfl, rfl⟩ : _ ∧ _ := by simpa using h
      exact res_calls (by kernel_rfl) rfl rfl fun w => implAdd_any _ _ _ _ w
    · cases h
  · unfold q_TF_4 at h
    split at h
    · obtain ⟨rfl, rfl⟩ : _ ∧ _ := by simpa using h
      exact res_calls (by kernel_rfl) rfl rfl fun w => SpecAdd_any _ _ _ _ w
    · cases h
  · unfold q_TF_5 at h
    split at h
    · obtain ⟨rfl, rfl⟩ : _ ∧ _ := by simpa using h
      exact res_calls (by kernel_rfl) rfl rfl fun w => implMul_any _ _ _ _ w
    · cases h
  · unfold q_TF_6 at h
    split at h
    · obtain ⟨rfl, rfl⟩ : _ ∧ _ := by simpa using h
      exact res_calls (by kernel_rfl) rfl rfl fun w => SpecMul_any _ _ _ _ w
    · cases h
  · unfold q_TF_7 at h
    split at h
    · obtain ⟨rfl, rfl⟩ : _ ∧ _ := by simpa using h
      exact res_calls (by kernel_rfl) rfl rfl fun w => implFloor_any _ _ w
    · cases h
  · unfold q_TF_8 at h
    split at h
    · obtain ⟨rfl, rfl⟩ : _ ∧ _ := by simpa using h
      exact res_calls (by kernel_rfl) rfl rfl fun w => SpecFloor_any _ _ w
    · cases h
  · exact T1_ok _ _ _ _ h hC
end Go.Proofs.Ytoleenohcidegaa
