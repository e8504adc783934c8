/-
  Contracts and walks of the laws on fractions: AddRats, FloorRat, the program's and the model's. Written by an AI agent.
-/
import Derived.Test.YtblpldapmmoheabWalkG
import Derived.Deep.DeepCutAuto
namespace Go.Proofs.Ytblpldapmmoheab
set_option linter.all false
open Go.RowKit

end Go.Proofs.Ytblpldapmmoheab
