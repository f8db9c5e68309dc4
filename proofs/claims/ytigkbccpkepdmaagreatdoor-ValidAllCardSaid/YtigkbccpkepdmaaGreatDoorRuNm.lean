/-
 Names of variants: the number of a name, told as the program does and as the law does; contracts of ByName and of the document's Name.
-/
import Derived.Test.YtigkbccpkepdmaaGreatDoorVaBaseB
namespace Go.Proofs.YtigkbccpkepdmaaGreatDoor
open Go.RowKit
set_option linter.unusedVariables false

end Go.Proofs.YtigkbccpkepdmaaGreatDoor
