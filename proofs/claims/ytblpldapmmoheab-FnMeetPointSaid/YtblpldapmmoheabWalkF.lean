/-
  Contracts and walks of the laws on fractions: checked, MakeRat, CompareRats, AddRats, FloorRat, the program's and the model's. Written by an AI agent.
-/
import Derived.Test.YtblpldapmmoheabBa
namespace Go.Proofs.Ytblpldapmmoheab
set_option linter.all false
open Go.RowKit

end Go.Proofs.Ytblpldapmmoheab
