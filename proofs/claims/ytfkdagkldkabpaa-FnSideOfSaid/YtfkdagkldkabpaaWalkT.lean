/-
  Segments: the laws' walks of valid segments. Written by an AI agent.
-/
import Derived.Test.YtfkdagkldkabpaaWalkS
namespace Go.Proofs.Ytfkdagkldkabpaa
open Go.RowKit

end Go.Proofs.Ytfkdagkldkabpaa
