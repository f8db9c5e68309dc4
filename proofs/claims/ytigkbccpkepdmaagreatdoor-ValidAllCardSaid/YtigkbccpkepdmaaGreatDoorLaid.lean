/-
 What the listed tables give the walks, and what lies unchanged behind a call that only makes memory.
-/
import Derived.Test.YtigkbccpkepdmaaGreatDoorRows
import Derived.Test.YtigkbccpkepdmaaGreatDoorVaBaseA
import Derived.Lib.LaidTab
import Derived.Stop.LaidErr
import Derived.LaidMore
namespace Go.Proofs.YtigkbccpkepdmaaGreatDoor
open Go.RowKit

theorem tab_math_bits_deBruijn64tab {W : World} {nm : String} {rest : List (String × DataW Unit)} (h : laidMet Tryz.prog ((nm, Rows.laid_math_bits_deBruijn64tab) :: rest) W) (hn : Tryz.prog.globalNamed nm = some 3) : TabDb W := by
 have h' : laidMet Tryz.prog ((nm, Lib.tabData .u8 dbTab) :: rest) W := h
 have t := Lib.tabIs_of_head (g := 3) hn (by kernel_rfl) Tryz.underlying22 Tryz.underlying5 (by kernel_rfl) (by kernel_rfl) h'
 intro j hj
 exact t.cell hn j (by simpa [dbTab] using hj)
theorem tab_kibitzer_bits_leads {W : World} {nm : String} {rest : List (String × DataW Unit)} (h : laidMet Tryz.prog ((nm, Rows.laid_kibitzer_bits_leads) :: rest) W) (hn : Tryz.prog.globalNamed nm = some 4) : TabLead W := by
 have h' : laidMet Tryz.prog ((nm, Lib.tabData .i64 leadsTab) :: rest) W := h
 have t := Lib.tabIs_of_head (g := 4) hn (by kernel_rfl) Tryz.underlying118 Tryz.underlying3 (by kernel_rfl) (by kernel_rfl) h'
 intro j hj
 exact t.cell hn j (by simpa [leadsTab] using hj)
end Go.Proofs.YtigkbccpkepdmaaGreatDoor
