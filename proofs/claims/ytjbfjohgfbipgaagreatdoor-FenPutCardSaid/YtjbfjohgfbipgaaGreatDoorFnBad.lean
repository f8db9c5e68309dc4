/-
  FenBad's walk (layer 10), begun: a position that can't be written. Still to do: one that can (four ways more; each Parse wants a go_wp2_with of its own, for an arm of another text runs away).
-/
import Derived.Test.YtjbfjohgfbipgaaGreatDoorFnBadM
import Derived.Test.YtjbfjohgfbipgaaGreatDoorFnAw
namespace Go.Proofs.YtjbfjohgfbipgaaGreatDoor
open Go.RowKit
set_option linter.unusedVariables false
set_option linter.unusedSimpArgs false

def pqO : Option (Nat → Int) → Nat → Int
  | some q => q
  | none => zeroP
def pnO (n : Int) : Option (Nat → Int) → Int
  | some _ => 0
  | none => n
theorem RdO_eq (n : Int) (o : Option (Nat → Int)) : RdO n o = #[.agg (posA (pqO o)), .int .i64 (pnO n o)] := by cases o <;> rfl
end Go.Proofs.YtjbfjohgfbipgaaGreatDoor
