/-
  Whether a position may be, as a yes or no; the first positions of the nine variants.
-/
import Derived.Test.YtomelpgfccainaaGreatDoorVaG
import Derived.Test.YtomelpgfccainaaGreatDoorVaBaseF
namespace Go.Proofs.YtomelpgfccainaaGreatDoor
open Go.RowKit
set_option linter.unusedVariables false

def mayB (p : Nat → Int) : Bool := hdZ (wrL p) == 0
theorem start_all : ((List.range 9).all fun v => mayB (startP v)) = true := by decide +kernel
theorem start_may (v : Nat) (h : v < 9) : hdZ (wrL (startP v)) = 0 := beq_iff_eq.1 (List.all_eq_true.1 start_all v (List.mem_range.2 h))
end Go.Proofs.YtomelpgfccainaaGreatDoor
