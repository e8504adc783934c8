/-
  Segments: the laws' walks of valid segments. Written by an AI agent.
-/
import Derived.Test.YtoijfjifaljpaaaWalkS
namespace Go.Proofs.Ytoijfjifaljpaaa
open Go.RowKit

end Go.Proofs.Ytoijfjifaljpaaa
