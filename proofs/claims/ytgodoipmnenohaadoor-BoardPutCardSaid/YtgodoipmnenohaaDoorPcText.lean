/-
  Contracts of the program's Parse and Kinds (layer 5).
-/
import Derived.Test.YtgodoipmnenohaaDoorPc
import Derived.WalkMore
import Derived.Deep.LoopGhost
namespace Go.Proofs.YtgodoipmnenohaaDoor
open Go.RowKit

end Go.Proofs.YtgodoipmnenohaaDoor
