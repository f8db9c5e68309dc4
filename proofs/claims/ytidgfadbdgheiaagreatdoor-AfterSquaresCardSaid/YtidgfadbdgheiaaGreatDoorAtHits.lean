/-
 The contract of the document's own Hits, kind by kind.
-/
import Derived.Test.YtidgfadbdgheiaaGreatDoorAtClear
namespace Go.Proofs.YtidgfadbdgheiaaGreatDoor
open Go.RowKit
set_option linter.unusedVariables false
set_option linter.unusedSimpArgs false
end Go.Proofs.YtidgfadbdgheiaaGreatDoor
