/-
 The tables of layer 12's rows, from the texts that read them.
-/
import Derived.Test.YtigkbccpkepdmaaGreatDoorAtLaid
import Derived.Test.YtigkbccpkepdmaaGreatDoorVaD
import Derived.LaidMore
namespace Go.Proofs.YtigkbccpkepdmaaGreatDoor
open Go.RowKit
set_option linter.unusedVariables false

theorem tab_kibitzer_valid_usualRooks {W : World} {nm : String} {rest : List (String × DataW Unit)} (h : laidMet Tryz.prog ((nm, Rows.laid_kibitzer_valid_usualRooks) :: rest) W) (hn : Tryz.prog.globalNamed nm = some 0) : TabUs W := by
 have t := cells_of_laid (g := 0) (t := 73) hn (by kernel_rfl) (by kernel_rfl) (by kernel_rfl) h
 have e : ((Rows.laid_kibitzer_valid_usualRooks (H := Unit)).flat.map Lit.toCell) = usL := by kernel_rfl
 rw [e] at t
 intro j x hx
 rw [t]
 rw [Nat.zero_add]
 exact hx
end Go.Proofs.YtigkbccpkepdmaaGreatDoor
