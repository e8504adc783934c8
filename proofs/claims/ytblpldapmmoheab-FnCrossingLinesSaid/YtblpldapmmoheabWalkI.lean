/-
  Contracts and walk of the law on FloorRat. Written by an AI agent.
-/
import Derived.Test.YtblpldapmmoheabWalkF
namespace Go.Proofs.Ytblpldapmmoheab
set_option linter.all false
open Go.RowKit

end Go.Proofs.Ytblpldapmmoheab
