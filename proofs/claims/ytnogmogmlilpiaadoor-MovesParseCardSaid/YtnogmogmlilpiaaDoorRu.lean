/-
  Contracts of what a variant has, by the program: of, Name, Royal, Castles, Pockets, Pawns.
-/
import Derived.Test.YtnogmogmlilpiaaDoorBase
import Derived.Test.YtnogmogmlilpiaaDoorArr
import Derived.Test.YtnogmogmlilpiaaDoorRuTab
import Derived.Test.YtnogmogmlilpiaaDoorRuList
import Derived.Test.YtnogmogmlilpiaaDoorPcMath
import Derived.WalkMore
import Derived.Deep.LoopGhost
import Derived.Deep.Draws
namespace Go.Proofs.YtnogmogmlilpiaaDoor
open Go.RowKit
set_option linter.unusedVariables false

theorem drewN_on (w : World) (n : Nat) : Below w.heap.size w (w.drewN n) := ⟨rfl, rfl, rfl, Nat.le_refl _, fun _ _ => rfl⟩
theorem rz {T : TypeId} {n : Nat} (h : (Tryd.prog.info? T).map (·.size) = some n) : (Tryd.prog.info? T).map (·.size) = some n := h
theorem results_blk {fn : Func} {i : Tmp} {T : TypeId} {d : TypeDesc} {n : Nat} (h : fn.results = #[.cell i T]) (tmps : Array Value) (w : World) (b : Nat) (cs : Array Value) (hp : tmps.getD i undef = .pointer (some ⟨b, 0, none⟩)) (hr : Blk w b T cs)
    (hu : Tryd.prog.underlying T = some d) (hd : d.isRow = true) (hi : (Tryd.prog.info? T).map (·.size) = some n) (hn : cs.size = n) : (results fn tmps).run Tryd.prog w = .ok (.agg cs) w :=
  results_cell_row h tmps w b T cs (0, 0) d hp hr hu (by cases d <;> first | rfl | cases hd) (by rw [hi, hn])
theorem trL_one (v : Nat) : (trL v).toArray.all (·.oneCell') = true := by simp [trL, Value.oneCell']
end Go.Proofs.YtnogmogmlilpiaaDoor
