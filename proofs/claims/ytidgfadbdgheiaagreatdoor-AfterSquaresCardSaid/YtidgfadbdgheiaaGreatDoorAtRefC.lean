/-
 Contracts of the document's own layer 8, third part: Find, King, Check, Checkers.
-/
import Derived.Test.YtidgfadbdgheiaaGreatDoorAtRefB
import Derived.Test.YtidgfadbdgheiaaGreatDoorAtRefF
namespace Go.Proofs.YtidgfadbdgheiaaGreatDoor
open Go.RowKit
set_option linter.unusedVariables false
set_option linter.unusedSimpArgs false

end Go.Proofs.YtidgfadbdgheiaaGreatDoor
