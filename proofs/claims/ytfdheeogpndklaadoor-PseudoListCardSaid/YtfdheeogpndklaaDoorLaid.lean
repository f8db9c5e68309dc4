/-
  What the listed tables give the walks, and what lies unchanged behind a call that only makes memory.
-/
import Derived.Test.YtfdheeogpndklaaDoorRows
import Derived.Test.YtfdheeogpndklaaDoorVaBaseA
import Derived.Lib.LaidTab
import Derived.Stop.LaidErr
import Derived.LaidMore
namespace Go.Proofs.YtfdheeogpndklaaDoor
open Go.RowKit

theorem tab_math_bits_deBruijn64tab {W : World} {nm : String} {rest : List (String × DataW Unit)} (h : laidMet Tryd.prog ((nm, Rows.laid_math_bits_deBruijn64tab) :: rest) W) (hn : Tryd.prog.globalNamed nm = some 1) : TabDb W := by
  have h' : laidMet Tryd.prog ((nm, Lib.tabData .u8 dbTab) :: rest) W := h
  have t := Lib.tabIs_of_head (g := 1) hn (by kernel_rfl) Tryd.underlying22 Tryd.underlying5 (by kernel_rfl) (by kernel_rfl) h'
  intro j hj
  exact t.cell hn j (by simpa [dbTab] using hj)
theorem tab_kibitzer_bits_leads {W : World} {nm : String} {rest : List (String × DataW Unit)} (h : laidMet Tryd.prog ((nm, Rows.laid_kibitzer_bits_leads) :: rest) W) (hn : Tryd.prog.globalNamed nm = some 3) : TabLead W := by
  have h' : laidMet Tryd.prog ((nm, Lib.tabData .i64 leadsTab) :: rest) W := h
  have t := Lib.tabIs_of_head (g := 3) hn (by kernel_rfl) Tryd.underlying110 Tryd.underlying3 (by kernel_rfl) (by kernel_rfl) h'
  intro j hj
  exact t.cell hn j (by simpa [leadsTab] using hj)
end Go.Proofs.YtfdheeogpndklaaDoor
