/-
  Contracts and walk of the law on MulRats. Written by an AI agent.
-/
import Derived.Test.YtblpldapmmoheabWalkH
import Derived.Test.YtblpldapmmoheabMath2
namespace Go.Proofs.Ytblpldapmmoheab
set_option linter.all false
open Go.RowKit

end Go.Proofs.Ytblpldapmmoheab
