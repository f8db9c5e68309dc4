/-
 Contract of the document's own Find, of kings.
-/
import Derived.Test.YtidgfadbdgheiaaGreatDoorAtRef
import Derived.Test.YtidgfadbdgheiaaGreatDoorAtCheck
namespace Go.Proofs.YtidgfadbdgheiaaGreatDoor
open Go.RowKit
set_option linter.unusedVariables false
set_option linter.unusedSimpArgs false

end Go.Proofs.YtidgfadbdgheiaaGreatDoor
