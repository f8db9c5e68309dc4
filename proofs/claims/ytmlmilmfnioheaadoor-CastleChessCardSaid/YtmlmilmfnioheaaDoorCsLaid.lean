/-
  The tables of layer 14's rows, from the texts that read them.
-/
import Derived.Test.YtmlmilmfnioheaaDoorAtLaid
import Derived.Test.YtmlmilmfnioheaaDoorCsMath
import Derived.LaidMore
namespace Go.Proofs.YtmlmilmfnioheaaDoor
open Go.RowKit
set_option linter.unusedVariables false

theorem tab_kibitzer_castle_goals {W : World} {nm : String} {rest : List (String × DataW Unit)} (h : laidMet Tryd.prog ((nm, Rows.laid_kibitzer_castle_goals) :: rest) W) (hn : Tryd.prog.globalNamed nm = some 0) : TabGl W := by
  have t := cells_of_laid (g := 0) (t := 58) hn (by kernel_rfl) (by kernel_rfl) (by kernel_rfl) h
  have e : ((Rows.laid_kibitzer_castle_goals (H := Unit)).flat.map Lit.toCell) = glL := by kernel_rfl
  rw [e] at t
  intro j x hx
  rw [t]
  rw [Nat.zero_add]
  exact hx
end Go.Proofs.YtmlmilmfnioheaaDoor
