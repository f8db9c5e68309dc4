/-
  Contracts of the program's Parse and Kinds (layer 5).
-/
import Derived.Test.YtboopdmgphhemaaDoorPc
import Derived.WalkMore
import Derived.Deep.LoopGhost
namespace Go.Proofs.YtboopdmgphhemaaDoor
open Go.RowKit

end Go.Proofs.YtboopdmgphhemaaDoor
