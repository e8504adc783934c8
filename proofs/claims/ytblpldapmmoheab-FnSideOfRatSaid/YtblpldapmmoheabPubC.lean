/-
  A table of functions that are told by their contracts. Written by an AI agent.
-/
import Derived.Test.YtblpldapmmoheabPubB
import Derived.Test.YtblpldapmmoheabWalkW
import Derived.Test.YtblpldapmmoheabWalkM
namespace Go.Proofs.Ytblpldapmmoheab
open Go.RowKit

def q_TC_0 : List DArg → Option (Value × List Prop)
  | [.v (.agg ⟨[.int .i64 a0_0, .int .i64 a0_1, .int .i64 a0_2, .int .i64 a0_3]⟩)] => some (.bool (segB a0_0 a0_1 a0_2 a0_3), [])
  | _ => none
def q_TC_1 : List DArg → Option (Value × List Prop)
  | [.v (.agg ⟨[.int .i64 a0_0, .int .i64 a0_1, .int .i64 a0_2, .int .i64 a0_3]⟩), .v (.agg ⟨[.int .i64 a1_0, .int .i64 a1_1]⟩)] => some (.bool (onB a0_0 a0_1 a0_2 a0_3 a1_0 a1_1), [])
  | _ => none
def q_TC_2 : List DArg → Option (Value × List Prop)
  | [.v (.agg ⟨[.int .i64 a0_0, .int .i64 a0_1, .int .i64 a0_2, .int .i64 a0_3]⟩), .v (.agg ⟨[.int .i64 a1_0, .int .i64 a1_1]⟩)] => some (.bool (onB a0_0 a0_1 a0_2 a0_3 a1_0 a1_1), [])
  | _ => none
def q_TC_3 : List DArg → Option (Value × List Prop)
  | [.v (.agg ⟨[.int .i64 a0_0, .int .i64 a0_1, .int .i64 a0_2]⟩), .v (.agg ⟨[.int .i64 a1_0, .int .i64 a1_1]⟩)] => some (iv (sideR a0_0 a0_1 a0_2 a1_0 a1_1), [])
  | _ => none
def q_TC_4 : List DArg → Option (Value × List Prop)
  | [.v (.agg ⟨[.int .i64 a0_0, .int .i64 a0_1, .int .i64 a0_2]⟩), .v (.agg ⟨[.int .i64 a1_0, .int .i64 a1_1]⟩)] => some (iv (sideR a0_0 a0_1 a0_2 a1_0 a1_1), [])
  | _ => none
def q_TC_5 : List DArg → Option (Value × List Prop)
  | [.v (.agg ⟨[.int .i64 a0_0, .int .i64 a0_1, .int .i64 a0_2]⟩)] => some (.bool (lineB a0_0 a0_1 a0_2), [])
  | _ => none
def q_TC_6 : List DArg → Option (Value × List Prop)
  | [.v (.agg ⟨[.int .i64 a0_0, .int .i64 a0_1]⟩)] => some (.bool (ptB a0_0 a0_1), [])
  | _ => none
def TC : Tab := fun f ds => match f with
  | 88 => q_TC_0 ds
  | 31 => q_TC_1 ds
  | 32 => q_TC_2 ds
  | 24 => q_TC_3 ds
  | 22 => q_TC_5 ds
  | 38 => q_TC_6 ds
  | _ => TB2 f ds
theorem TC_r0 {ds : List DArg} {v : Value} {C : List Prop} (h : q_TC_0 ds = some (v, C)) (hC : AllP C) : Res Try.prog 88 ds v := by
  unfold q_TC_0 at h
  split at h
  · obtain ⟨rfl, rfl⟩ : _ ∧ _ := by simpa using h
    exact res_calls (by kernel_rfl) rfl rfl fun w => implSeg_any _ _ _ _ w
  · cases h
theorem TC_r1 {ds : List DArg} {v : Value} {C : List Prop} (h : q_TC_1 ds = some (v, C)) (hC : AllP C) : Res Try.prog 31 ds v := by
  unfold q_TC_1 at h
  split at h
  · obtain ⟨rfl, rfl⟩ : _ ∧ _ := by simpa using h
    exact res_calls (by kernel_rfl) rfl rfl fun w => implOn_any _ _ _ _ _ _ w
  · cases h
theorem TC_r2 {ds : List DArg} {v : Value} {C : List Prop} (h : q_TC_2 ds = some (v, C)) (hC : AllP C) : Res Try.prog 32 ds v := by
  unfold q_TC_2 at h
  split at h
  · obtain ⟨rfl, rfl⟩ : _ ∧ _ := by simpa using h
    exact res_calls (by kernel_rfl) rfl rfl fun w => SpecOn_any _ _ _ _ _ _ w
  · cases h
theorem TC_r3 {ds : List DArg} {v : Value} {C : List Prop} (h : q_TC_3 ds = some (v, C)) (hC : AllP C) : Res Try.prog 24 ds v := by
  unfold q_TC_3 at h
  split at h
  · obtain ⟨rfl, rfl⟩ : _ ∧ _ := by simpa using h
    exact res_calls (by kernel_rfl) rfl rfl fun w => implSide_any _ _ _ _ _ w
  · cases h
theorem TC_r5 {ds : List DArg} {v : Value} {C : List Prop} (h : q_TC_5 ds = some (v, C)) (hC : AllP C) : Res Try.prog 22 ds v := by
  unfold q_TC_5 at h
  split at h
  · obtain ⟨rfl, rfl⟩ : _ ∧ _ := by simpa using h
    exact res_calls (by kernel_rfl) rfl rfl fun w => implLine_any _ _ _ w
  · cases h
theorem TC_r6 {ds : List DArg} {v : Value} {C : List Prop} (h : q_TC_6 ds = some (v, C)) (hC : AllP C) : Res Try.prog 38 ds v := by
  unfold q_TC_6 at h
  split at h
  · obtain ⟨rfl, rfl⟩ : _ ∧ _ := by simpa using h
    exact res_calls (by kernel_rfl) rfl rfl fun w => implValid_any _ _ w
  · cases h
theorem TC_ok : TabOk Try.prog TC := by
  intro f ds v C h hC
  unfold TC at h
  (try split at h)
  all_goals first | with_reducible exact TC_r0 h hC | with_reducible exact TC_r1 h hC | with_reducible exact TC_r2 h hC | with_reducible exact TC_r3 h hC | with_reducible exact TC_r4 h hC | with_reducible exact TC_r5 h hC | with_reducible exact TC_r6 h hC | exact TB2_ok _ _ _ _ h hC | cases h
end Go.Proofs.Ytblpldapmmoheab
