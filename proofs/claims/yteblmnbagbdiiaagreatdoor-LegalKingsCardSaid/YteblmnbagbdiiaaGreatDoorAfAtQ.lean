/-
 Several texts in one: AtRef, AtClear.
-/
import Derived.Test.YteblmnbagbdiiaaGreatDoorAtMath
import Derived.Test.YteblmnbagbdiiaaGreatDoorAtWays
import Derived.IntWalk
/-
 Contracts of the document's own layer 8, first part: abs, sign, Kind, Color, Is, Beside, Clear, Hits.
-/
set_option maxRecDepth 100000
set_option maxHeartbeats 1000000
namespace Go.Proofs.YteblmnbagbdiiaaGreatDoor
open Go.RowKit
set_option linter.unusedVariables false
set_option linter.unusedSimpArgs false

end Go.Proofs.YteblmnbagbdiiaaGreatDoor
/-
 Contracts of the document's own layer 8: Clear (nothing between two squares of a line).
-/
namespace Go.Proofs.YteblmnbagbdiiaaGreatDoor
open Go.RowKit
set_option linter.unusedVariables false
set_option linter.unusedSimpArgs false

end Go.Proofs.YteblmnbagbdiiaaGreatDoor
