/-
  What the listed tables give the walks, and what lies unchanged behind a call that only makes memory.
-/
import Derived.Test.YtdjnniohoicppaaDoorRows
import Derived.Test.YtdjnniohoicppaaDoorLibBits
import Derived.Lib.LaidTab
import Derived.Stop.LaidErr
import Derived.LaidMore
namespace Go.Proofs.YtdjnniohoicppaaDoor
open Go.RowKit

theorem tab_math_bits_deBruijn64tab {W : World} {nm : String} {rest : List (String × DataW Unit)} (h : laidMet Tryd.prog ((nm, Rows.laid_math_bits_deBruijn64tab) :: rest) W) (hn : Tryd.prog.globalNamed nm = some 2) : TabDb W := by
  have h' : laidMet Tryd.prog ((nm, Lib.tabData .u8 dbTab) :: rest) W := h
  have t := Lib.tabIs_of_head (g := 2) hn (by kernel_rfl) Tryd.underlying22 Tryd.underlying5 (by kernel_rfl) (by kernel_rfl) h'
  intro j hj
  exact t.cell hn j (by simpa [dbTab] using hj)
end Go.Proofs.YtdjnniohoicppaaDoor
