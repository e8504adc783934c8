/-
  Segments: the laws' walks of valid segments. Written by an AI agent.
-/
import Derived.Test.YtblpldapmmoheabWalkS
namespace Go.Proofs.Ytblpldapmmoheab
open Go.RowKit

end Go.Proofs.Ytblpldapmmoheab
