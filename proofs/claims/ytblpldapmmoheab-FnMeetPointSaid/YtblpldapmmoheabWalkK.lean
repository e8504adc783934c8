/-
  Contract of the model's MulRats, and the law's walk. Written by an AI agent.
-/
import Derived.Test.YtblpldapmmoheabWalkJ
import Derived.Deep.DeepCutAuto
namespace Go.Proofs.Ytblpldapmmoheab
set_option linter.all false
open Go.RowKit

end Go.Proofs.Ytblpldapmmoheab
