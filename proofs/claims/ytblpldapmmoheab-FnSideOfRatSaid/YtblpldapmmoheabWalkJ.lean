/-
  Contracts and walk of the law on MulRats. Written by an AI agent.
-/
import Derived.Test.YtblpldapmmoheabWalkH
import Derived.Test.YtblpldapmmoheabMath2
namespace Go.Proofs.Ytblpldapmmoheab
open Go.RowKit

end Go.Proofs.Ytblpldapmmoheab
