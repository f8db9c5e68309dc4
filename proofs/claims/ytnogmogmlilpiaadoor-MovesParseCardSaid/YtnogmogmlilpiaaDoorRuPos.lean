/-
  Contracts of the program's first positions, first part: bare, square, man, chess, placed, rookFiles.
-/
import Derived.Test.YtnogmogmlilpiaaDoorRu
namespace Go.Proofs.YtnogmogmlilpiaaDoor
open Go.RowKit
set_option linter.unusedVariables false

/-- The position ahead of any piece, of a variant. -/
def bareP (v : Int) : Nat → Int := fun i => if i = 0 then v else if 79 ≤ i ∧ i ≤ 83 then -1 else if i = 87 then 1 else 0
theorem results_row {fn : Func} {i : Tmp} (h : fn.results = #[.cell i 31]) (tmps : Array Value) (w : World) (b : Nat) (p : Nat → Int) (hp : tmps.getD i undef = .pointer (some ⟨b, 0, none⟩)) (hr : Row w b p) :
    (results fn tmps).run Tryd.prog w = .ok (.agg (posA p)) w :=
  results_cell_row h tmps w b 31 (posA p) (0, 0) _ hp hr Tryd.underlying31 rfl (by rw [posA_size]; exact size31)
/-- The row of chess. -/
def chR : Nat → Int := fun i => (([4, 2, 3, 5, 6, 3, 2, 4].getD i 0 : Nat) : Int)
def RowL (r : Nat → Int) (w : World) (e : Ending) (w' : World) : Prop := e = .returned (.agg (arrA 8 .u8 r)) ∧ Below w.heap.size w w'
end Go.Proofs.YtnogmogmlilpiaaDoor
