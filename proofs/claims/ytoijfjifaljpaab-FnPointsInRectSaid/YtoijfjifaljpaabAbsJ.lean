/-
  The small machine: functions that work on the caller's memory, told as operations. Written by an AI agent.
-/
import Derived.Test.YtoijfjifaljpaabAbsG
namespace Go.Proofs.Ytoijfjifaljpaab
open Go.RowKit
/-- Functions that are run as operations on names. -/
structure TabJ where
  on : FuncId → Bool
  g : Ctx
  /-- Does it make a row? -/
  row : FuncId → Bool
def failG : Ctx := fun _ _ _ => .fail
theorem failG_sound (P : Program) : GSound P failG := fun f name args s eff h => by simp [failG, Rd.run] at h
def noJ : TabJ := ⟨fun _ => false, failG, fun _ => false⟩
end Go.Proofs.Ytoijfjifaljpaab
