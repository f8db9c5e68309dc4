/-
 The contract of the document's own Hits, kind by kind.
-/
import Derived.Test.YteblmnbagbdiiaaGreatDoorAfAtQ
set_option maxRecDepth 100000
set_option maxHeartbeats 1000000
namespace Go.Proofs.YteblmnbagbdiiaaGreatDoor
open Go.RowKit
set_option linter.unusedVariables false
set_option linter.unusedSimpArgs false
end Go.Proofs.YteblmnbagbdiiaaGreatDoor
