/-
 Several texts in one: Laid, AtLaid, CsLaid.
-/
import Derived.Test.YteblmnbagbdiiaaGreatDoorRows
import Derived.Test.YteblmnbagbdiiaaGreatDoorVaBaseA
import Derived.Lib.LaidTab
import Derived.Stop.LaidErr
import Derived.LaidMore
import Derived.Test.YteblmnbagbdiiaaGreatDoorVaBaseB
import Derived.Test.YteblmnbagbdiiaaGreatDoorCsMath
/-
 What the listed tables give the walks, and what lies unchanged behind a call that only makes memory.
-/
namespace Go.Proofs.YteblmnbagbdiiaaGreatDoor
open Go.RowKit

theorem tab_math_bits_deBruijn64tab {W : World} {nm : String} {rest : List (String × DataW Unit)} (h : laidMet Tryz.prog ((nm, Rows.laid_math_bits_deBruijn64tab) :: rest) W) (hn : Tryz.prog.globalNamed nm = some 2) : TabDb W := by
 have h' : laidMet Tryz.prog ((nm, Lib.tabData .u8 dbTab) :: rest) W := h
 have t := Lib.tabIs_of_head (g := 2) hn (by kernel_rfl) Tryz.underlying22 Tryz.underlying5 (by kernel_rfl) (by kernel_rfl) h'
 intro j hj
 exact t.cell hn j (by simpa [dbTab] using hj)
theorem tab_kibitzer_bits_leads {W : World} {nm : String} {rest : List (String × DataW Unit)} (h : laidMet Tryz.prog ((nm, Rows.laid_kibitzer_bits_leads) :: rest) W) (hn : Tryz.prog.globalNamed nm = some 4) : TabLead W := by
 have h' : laidMet Tryz.prog ((nm, Lib.tabData .i64 leadsTab) :: rest) W := h
 have t := Lib.tabIs_of_head (g := 4) hn (by kernel_rfl) Tryz.underlying174 Tryz.underlying3 (by kernel_rfl) (by kernel_rfl) h'
 intro j hj
 exact t.cell hn j (by simpa [leadsTab] using hj)
end Go.Proofs.YteblmnbagbdiiaaGreatDoor
/-
 The tables of layer 8's rows, from both of the texts that read them.
-/
/-
 The tables of layer 14's rows, from the texts that read them.
-/
namespace Go.Proofs.YteblmnbagbdiiaaGreatDoor
open Go.RowKit
set_option linter.unusedVariables false

theorem tab_kibitzer_castle_goals {W : World} {nm : String} {rest : List (String × DataW Unit)} (h : laidMet Tryz.prog ((nm, Rows.laid_kibitzer_castle_goals) :: rest) W) (hn : Tryz.prog.globalNamed nm = some 3) : TabGl W := by
 have t := cells_of_laid (g := 3) (t := 169) hn (by kernel_rfl) (by kernel_rfl) (by kernel_rfl) h
 have e : ((Rows.laid_kibitzer_castle_goals (H := Unit)).flat.map Lit.toCell) = glL := by kernel_rfl
 rw [e] at t
 intro j x hx
 rw [t]
 rw [Nat.zero_add]
 exact hx
end Go.Proofs.YteblmnbagbdiiaaGreatDoor
