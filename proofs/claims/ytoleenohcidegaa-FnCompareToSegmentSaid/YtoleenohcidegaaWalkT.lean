/-
  Segments: the laws' walks of valid segments. Written by an AI agent.
-/
import Derived.Test.YtoleenohcidegaaWalkS
namespace Go.Proofs.Ytoleenohcidegaa
open Go.RowKit

end Go.Proofs.Ytoleenohcidegaa
