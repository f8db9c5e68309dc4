/-
 Contracts of the document's own layer 8: Clear (nothing between two squares of a line).
-/
import Derived.Test.YtidgfadbdgheiaaGreatDoorAtRef
namespace Go.Proofs.YtidgfadbdgheiaaGreatDoor
open Go.RowKit
set_option linter.unusedVariables false
set_option linter.unusedSimpArgs false

end Go.Proofs.YtidgfadbdgheiaaGreatDoor
