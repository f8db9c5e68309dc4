/-
  Contracts of the program's Of, All, Find, Count.
-/
import Derived.Test.YtdjnniohoicppaaDoorAtBase
import Derived.Test.YtdjnniohoicppaaDoorBoSet
import Derived.Test.YtdjnniohoicppaaDoorLibBits
namespace Go.Proofs.YtdjnniohoicppaaDoor
open Go.RowKit
set_option linter.unusedVariables false

def ofN (p : Nat → Int) (c k : Int) : Nat := setN (ofB c k) p
def occN (p : Nat → Int) : Nat := setN pcB p
theorem ofN_lt (p : Nat → Int) (c k : Int) : ofN p c k < W64 := setN_lt _ _
theorem occN_lt (p : Nat → Int) : occN p < W64 := setN_lt _ _
theorem ofN_testBit (p : Nat → Int) (c k : Int) (i : Nat) (hi : i < 64) : (ofN p c k).testBit i = ofB c k (p (1 + i)) := setN_testBit _ _ i hi
theorem occN_testBit (p : Nat → Int) (i : Nat) (hi : i < 64) : (occN p).testBit i = pcB (p (1 + i)) := setN_testBit _ _ i hi
theorem size_new (w : World) (o : Obj) : (w.alloc o).heap.size = w.heap.size + 1 := by show (w.heap.push o).size = _; simp
theorem cell_new (w : World) (v : Value) (t : TypeId) : (w.alloc (.cells #[v] t)).cell? ⟨w.heap.size, 0, none⟩ = some v := by
  rw [cell_of_row _ _ _ _ _ _ (heap_alloc_new w _)]; rfl
theorem cell_mid (w : World) (o o2 : Obj) (v : Value) (t : TypeId) : (((w.alloc o).alloc (.cells #[v] t)).alloc o2).cell? ⟨w.heap.size + 1, 0, none⟩ = some v := by
  rw [(box_below _ o2).cell (by rw [size_new, size_new]; simp), ← size_new w o]; exact cell_new _ _ _
theorem cell_top (w : World) (o o2 : Obj) (v : Value) (t : TypeId) : (((w.alloc o).alloc o2).alloc (.cells #[v] t)).cell? ⟨w.heap.size + 1 + 1, 0, none⟩ = some v := by
  rw [← size_new w o, ← size_new _ o2]; exact cell_new _ _ _
theorem row_new (w : World) (p : Nat → Int) : Row (w.alloc (.cells (posA p) 31)) w.heap.size p := heap_alloc_new w _
theorem row_old {w : World} {b : Nat} {p : Nat → Int} (h : Row w b p) (o : Obj) : Row (w.alloc o) b p := h.later (box_below _ _)
theorem TabDb.on {w w' : World} (h : TabDb w) (hb : Below w.heap.size w w') : TabDb w' := fun j hj => (hb.cell (block_lt_of_cell (h j hj))).trans (h j hj)
theorem all_set (p : Nat → Int) (w : World) (hp : BdR p) : Calls Tryd.prog 20 #[.agg (posA p)] w (U64Post (occN p) w) := by
  have HP := Lib.hid hp
  clear hp
  go_enter Tryd.func20, Tryd.ntmps20
  go_wp2_with (refine step_board rfl _ rfl _ rfl p (row_new w p) ?_)
  refine (set_is p _ HP.out).mono ?_; rintro e w1 ⟨rfl, hb⟩
  have HB := Lib.hid (below_on (box_below w _) hb)
  clear hb
  go_wp2_with fail
  go_ret
  exact ⟨rfl, HB.out⟩
end Go.Proofs.YtdjnniohoicppaaDoor
