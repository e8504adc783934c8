/-
  A table of functions that are told by their contracts. Written by an AI agent.
-/
import Derived.Test.YtfkdagkldkabpaaPubA
import Derived.Test.YtfkdagkldkabpaaWalkK
import Derived.Test.YtfkdagkldkabpaaWalkI
import Derived.Test.YtfkdagkldkabpaaRdD
namespace Go.Proofs.Ytfkdagkldkabpaa
open Go.RowKit

def q_TB_0 : List DArg → Option (Value × List Prop)
  | [.v (.agg ⟨[.int .i64 a0_0, .int .i64 a0_1]⟩)] => some (.bool (ratB a0_0 a0_1), [])
  | _ => none
def q_TB_1 : List DArg → Option (Value × List Prop)
  | [.v (.agg ⟨[.int .i64 a0_0, .int .i64 a0_1]⟩), .v (.agg ⟨[.int .i64 a1_0, .int .i64 a1_1]⟩)] => some (iv (cmpR a0_0 a0_1 a1_0 a1_1), [])
  | _ => none
def q_TB_2 : List DArg → Option (Value × List Prop)
  | [.v (.agg ⟨[.int .i64 a0_0, .int .i64 a0_1]⟩), .v (.agg ⟨[.int .i64 a1_0, .int .i64 a1_1]⟩)] => some (iv (cmpR a0_0 a0_1 a1_0 a1_1), [])
  | _ => none
def q_TB_3 : List DArg → Option (Value × List Prop)
  | [.v (.agg ⟨[.int .i64 a0_0, .int .i64 a0_1]⟩), .v (.agg ⟨[.int .i64 a1_0, .int .i64 a1_1]⟩)] => some (.tuple #[.agg #[iv (addN a0_0 a0_1 a1_0 a1_1), iv (addD a0_0 a0_1 a1_0 a1_1)], .bool (addB a0_0 a0_1 a1_0 a1_1)], [])
  | _ => none
def q_TB_4 : List DArg → Option (Value × List Prop)
  | [.v (.agg ⟨[.int .i64 a0_0, .int .i64 a0_1]⟩), .v (.agg ⟨[.int .i64 a1_0, .int .i64 a1_1]⟩)] => some (.tuple #[.agg #[iv (addN a0_0 a0_1 a1_0 a1_1), iv (addD a0_0 a0_1 a1_0 a1_1)], .bool (addB a0_0 a0_1 a1_0 a1_1)], [])
  | _ => none
def q_TB_5 : List DArg → Option (Value × List Prop)
  | [.v (.agg ⟨[.int .i64 a0_0, .int .i64 a0_1]⟩), .v (.agg ⟨[.int .i64 a1_0, .int .i64 a1_1]⟩)] => some (.tuple #[.agg #[iv (mulN a0_0 a0_1 a1_0 a1_1), iv (mulD a0_0 a0_1 a1_0 a1_1)], .bool (mulB a0_0 a0_1 a1_0 a1_1)], [])
  | _ => none
def q_TB_6 : List DArg → Option (Value × List Prop)
  | [.v (.agg ⟨[.int .i64 a0_0, .int .i64 a0_1]⟩), .v (.agg ⟨[.int .i64 a1_0, .int .i64 a1_1]⟩)] => some (.tuple #[.agg #[iv (mulN a0_0 a0_1 a1_0 a1_1), iv (mulD a0_0 a0_1 a1_0 a1_1)], .bool (mulB a0_0 a0_1 a1_0 a1_1)], [])
  | _ => none
def q_TB_7 : List DArg → Option (Value × List Prop)
  | [.v (.agg ⟨[.int .i64 a0_0, .int .i64 a0_1]⟩)] => some (iv (flR a0_0 a0_1), [])
  | _ => none
def q_TB_8 : List DArg → Option (Value × List Prop)
  | [.v (.agg ⟨[.int .i64 a0_0, .int .i64 a0_1]⟩)] => some (iv (flR a0_0 a0_1), [])
  | _ => none
def TB : Tab := fun f ds => match f with
  | 32 => q_TB_0 ds
  | 27 => q_TB_1 ds
  | 28 => q_TB_2 ds
  | 30 => q_TB_3 ds
  | 31 => q_TB_4 ds
  | 34 => q_TB_5 ds
  | 35 => q_TB_6 ds
  | 37 => q_TB_7 ds
  | 38 => q_TB_8 ds
  | _ => TA f ds
theorem TB_ok : TabOk Try.prog TB := by
  intro f ds v C h hC
  unfold TB at h
  split at h
  · unfold q_TB_0 at h
    split at h
    · obtain ⟨rfl, rfl⟩ : _ ∧ _ := by simpa using h
      exact res_calls (by kernel_rfl) rfl rfl fun w => implRat_any _ _ w
    · cases h
  · unfold q_TB_1 at h
    split at h
    · obtain ⟨rfl, rfl⟩ : _ ∧ _ := by simpa using h
      exact res_calls (by kernel_rfl) rfl rfl fun w => implCompare_any _ _ _ _ w
    · cases h
  · unfold q_TB_2 at h
    split at h
    · obtain ⟨rfl, rfl⟩ : _ ∧ _ := by simpa using h
      exact res_calls (by kernel_rfl) rfl rfl fun w => SpecCompare_any _ _ _ _ w
    · cases h
  · unfold q_TB_3 at h
    split at h
    · obtain ⟨rfl, rfl⟩ : _ ∧ _ := by simpa using h
      exact res_calls (by kernel_rfl) rfl rfl fun w => implAdd_any _ _ _ _ w
    · cases h
  · unfold q_TB_4 at h
    split at h
    · obtain ⟨rfl, rfl⟩ : _ ∧ _ := by simpa using h
      exact res_calls (by kernel_rfl) rfl rfl fun w => SpecAdd_any _ _ _ _ w
    · cases h
  · unfold q_TB_5 at h
    split at h
    · obtain ⟨rfl, rfl⟩ : _ ∧ _ := by simpa using h
      exact res_calls (by kernel_rfl) rfl rfl fun w => implMul_any _ _ _ _ w
    · cases h
  · unfold q_TB_6 at h
    split at h
    · obtain ⟨rfl, rfl⟩ : _ ∧ _ := by simpa using h
      exact res_calls (by kernel_rfl) rfl rfl fun w => SpecMul_any _ _ _ _ w
    · cases h
  · unfold q_TB_7 at h
    split at h
    · obtain ⟨rfl, rfl⟩ : _ ∧ _ := by simpa using h
      exact res_calls (by kernel_rfl) rfl rfl fun w => implFloor_any _ _ w
    · cases h
  · unfold q_TB_8 at h
    split at h
    · obtain ⟨rfl, rfl⟩ : _ ∧ _ := by simpa using h
      exact res_calls (by kernel_rfl) rfl rfl fun w => SpecFloor_any _ _ w
    · cases h
  · exact TA_ok _ _ _ _ h hC
def TB2 : Tab := fun f ds => match f with
  | 64 => pTwoR ds
  | 36 => pFl ds
  | 54 => pThree ds
  | _ => TB f ds
theorem TB2_ok : TabOk Try.prog TB2 := by
  intro f ds v C h hC
  unfold TB2 at h
  split at h
  · unfold pTwoR at h
    split at h
    · obtain ⟨rfl, rfl⟩ : _ ∧ _ := by simpa using h
      exact res_twoR _ _ hC.1 hC.2.1
    · cases h
  · unfold pFl at h
    split at h
    · obtain ⟨rfl, rfl⟩ : _ ∧ _ := by simpa using h
      exact res_dFloor _ _ hC.1 hC.2.1
    · cases h
  · unfold pThree at h
    split at h
    · obtain ⟨rfl, rfl⟩ : _ ∧ _ := by simpa using h
      exact res_three _ _ hC.1 hC.2.1
    · cases h
  · exact TB_ok _ _ _ _ h hC
def EB2 : Env := tabE TB2
theorem EB2_ok : EnvOk Try.prog EB2 := tabE_ok TB2_ok
end Go.Proofs.Ytfkdagkldkabpaa
