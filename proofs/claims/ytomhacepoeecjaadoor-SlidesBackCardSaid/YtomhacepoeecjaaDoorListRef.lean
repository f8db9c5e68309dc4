/-
  Contracts of the document's own List, Step, Shift, Flip, Same.
-/
import Derived.Test.YtomhacepoeecjaaDoorSquareRef
import Derived.Test.YtomhacepoeecjaaDoorMathB
import Derived.OwnWalk
import Derived.Maps.AppendAt
namespace Go.Proofs.YtomhacepoeecjaaDoor
open Go.RowKit

theorem infoInt : (Tryd.prog.info? 3).map (fun i => (i.zero, i.size, i.bytes)) = some (some (.int .i64 0), 1, 8) := by kernel_rfl

/-- A list of numbers as the cells of a row. -/
def rowOf (l : List Nat) : List Value := l.map fun i : Nat => Value.int .i64 (i : Int)
theorem rowOf_snoc (l : List Nat) (k : Nat) : rowOf (l ++ [k]) = rowOf l ++ [.int .i64 (k : Int)] := by simp [rowOf]
/-- The value is a list of the call's own, made at or beyond block B. -/
def Listed (B : Nat) (l : List Nat) (v : Value) (w : World) : Prop := w.ownsRow B 3 1 v l.length (rowOf l)
theorem listed_grow {B : Nat} {l : List Nat} {v v' : Value} {k : Nat} {w wr w1 : World} {o : Obj} (h : Listed B l v wr) (hb : Below B w wr) (hB : B ≤ wr.heap.size)
    (hown' : w1.ownsRow B 3 1 v' (l.length + 1) (rowOf l ++ [.int .i64 (k : Int)])) (hgrow : (wr.alloc o).grownBy w1 v.ownBlock) :
    Listed B (l ++ [k]) v' w1 ∧ Below B w w1 := by
  refine ⟨?_, (hb.alloc hB o).grown hgrow (by simp; omega) (fun j hj => (h.lt j hj).1)⟩
  unfold Listed
  rw [rowOf_snoc]; simpa using hown'
def ListPost (b : Nat) (w : World) (e : Ending) (w' : World) : Prop := ∃ v, e = .returned v ∧ Listed w.heap.size (listN b) v w' ∧ Below w.heap.size w w'

end Go.Proofs.YtomhacepoeecjaaDoor
