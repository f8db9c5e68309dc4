/-
 Layer 17: what the laws' awake looks at, by the kernel.
-/
import Derived.Test.YteblmnbagbdiiaaGreatDoorLgGrD
import Derived.Test.YteblmnbagbdiiaaGreatDoorVaBaseE
namespace Go.Proofs.YteblmnbagbdiiaaGreatDoor
open Go.RowKit
set_option linter.unusedVariables false
set_option linter.unusedSimpArgs false

def rsB (a b : Int × Int) : Bool := (a.1 == b.1) && (a.2 == b.2)
def lsL (p : Nat → Int) : List Mv := bif rsB (wonZ p) (0, 0) then wouL p else []
def lgP_ : Nat → Int := startP 0
def lgQ_ : Nat → Int := upd (upd (upd (upd (upd (upd zeroP 83 (-1)) 87 1) 5 6) 13 4) 61 12) 57 14
def lgR_ : Nat → Int := upd (upd (upd (upd (upd (upd (upd zeroP 0 4) 83 (-1)) 87 1) 29 1) 36 9) 38 9) 55 9
def lgS_ : Nat → Int := upd (upd (upd (upd (upd zeroP 0 6) 83 (-1)) 87 1) 5 6) 37 14
theorem lgR_l : (lsL lgR_).map (fun m => m.t) = [35, 37] := by decide +kernel
theorem lgS_w : wonZ lgS_ = (2, 6) := by decide +kernel
theorem lgS_l : lsL lgS_ = [] := by unfold lsL; rw [lgS_w]; rfl
theorem lgQ_l : (lsL lgQ_).length = 10 := by decide +kernel
theorem lgP_l : (lsL lgP_).length = 20 := by decide +kernel
end Go.Proofs.YteblmnbagbdiiaaGreatDoor
