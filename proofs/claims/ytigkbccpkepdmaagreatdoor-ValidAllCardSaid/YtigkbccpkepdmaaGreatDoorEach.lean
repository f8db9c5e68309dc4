/-
 The iterator over the squares of a set, and the program's List: a range over a function.
-/
import Derived.Test.YtigkbccpkepdmaaGreatDoorVaBaseA
import Derived.Test.YtigkbccpkepdmaaGreatDoorAtBase
import Derived.RangeFuncBox
import Derived.RangeFuncLeaves
import Derived.Shelf.Abstract
import Derived.OwnWalkIn
import Derived.TacticsInMore
import Derived.LoopNIn
import Derived.LoopIn
import Derived.Maps.AppendAt
namespace Go.Proofs.YtigkbccpkepdmaaGreatDoor
open Go.RowKit Go.Shelf

attribute [local go_sem] Oper.semAt_some

theorem TabDb.later {n₀ : Nat} {A B : World} (h : TabDb A) (h1 : 3 < n₀) (hb : Below n₀ A B) : TabDb B := fun j hj => (hb.cell (p := ⟨3, j, none⟩) h1).trans (h j hj)
theorem TabDb.lt {w : World} (h : TabDb w) : 3 < w.heap.size := World.block_lt_of_cell? w _ (h 0 (by decide))
end Go.Proofs.YtigkbccpkepdmaaGreatDoor
