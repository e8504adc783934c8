/-
  Contracts and walks of the laws on fractions: CompareRats, AddRats, FloorRat, the program's and the model's. Written by an AI agent.
-/
import Derived.Test.YtblpldapmmoheabWalkF
namespace Go.Proofs.Ytblpldapmmoheab
set_option linter.all false
open Go.RowKit

def cmpR (an ad bn bd : Int) : Int := if ratB an ad && ratB bn bd then sgn (an * bd - bn * ad) else 2
theorem cmpR_no {an ad bn bd : Int} (h : (ratB an ad && ratB bn bd) = false) : cmpR an ad bn bd = 2 := by unfold cmpR; rw [h]; rfl
theorem cmpR_yes {an ad bn bd : Int} (h : (ratB an ad && ratB bn bd) = true) : cmpR an ad bn bd = sgn (an * bd - bn * ad) := by unfold cmpR; rw [h]; rfl
end Go.Proofs.Ytblpldapmmoheab
