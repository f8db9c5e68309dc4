/-
  More of XLater's moves: blocks of any type, cells, arrays.
-/
import Derived.Test.YtdjnniohoicppaaDoorRuPos
import Derived.Test.YtdjnniohoicppaaDoorLater
namespace Go.Proofs.YtdjnniohoicppaaDoor
open Go.RowKit
set_option linter.unusedVariables false
theorem run_blk {o : Oper} {a : Act} {w : World} (T : TypeId) (x : Operand) (ho : o.op = .load T x) (b : Nat) (hx : a.eval x = .pointer (some ⟨b, 0, none⟩)) (cs : Array Value) (hr : Blk w b T cs)
    (d : TypeDesc) (hu : Tryd.prog.underlying T = some d) (hd : d.isRow = true) (hi : (Tryd.prog.info? T).map (·.size) = some cs.size) : (execOp a.eval o).run Tryd.prog w = .ok (.value (.agg cs)) w := by
  have hl := run_loadVar_row w b T T cs (0, 0) d hr hu (by cases d <;> first | rfl | cases hd) hi
  unfold execOp
  simp only [ho, hx, Instr.loadAt, Instr.sureAddr, Sem.run_bind, Sem.run_pure, Result.andThen_ok, hl]
theorem run_get {o : Oper} {a : Act} {w : World} (T : TypeId) (x : Operand) (ho : o.op = .load T x) (b i : Nat) (hx : a.eval x = .pointer (some ⟨b, i, none⟩)) {d : TypeDesc} (hu : Tryd.prog.underlying T = some d) (hd : d.isRow = false)
    (v : Value) (hc : w.cell? ⟨b, i, none⟩ = some v) : (execOp a.eval o).run Tryd.prog w = .ok (.value v) w := by
  have ha := isAgg_no hu hd w
  have hl : (loadVar T ⟨b, i, none⟩).run Tryd.prog w = .ok v w := by simp [loadVar, ha, hc, go_sem]
  unfold execOp
  simp only [ho, hx, Instr.loadAt, Instr.sureAddr, Sem.run_bind, Sem.run_pure, Result.andThen_ok, hl]
theorem late_arr {o : Oper} {a : Act} {w : World} {K : Act → World → Prop} {Q : Exit → Act → World → Prop} (T : TypeId) (x y : Operand) (ho : o.op = .store T x y) (b : Nat) (hx : a.eval x = .pointer (some ⟨b, 0, none⟩)) (n : Nat) (k : IntKind) (p q : Nat → Int) (hy : a.eval y = .agg (arrA n k q)) (hr : Blk w b T (arrA n k p))
    (hi : (Tryd.prog.info? T).map (·.size) = some n)
    (h : ∀ w', Upd b w w' → Blk w' b T (arrA n k q) → K (a.put o.dst undef) w') : Wp Tryd.prog o a w K Q :=
  ⟨wp_store_mid T x y ho b 0 (arrA n k q) hx hy (hr.there 0 _ (by rw [arrA_size, arrA_size]; omega)) (by rw [arrA_size]; exact hi) (arrA_one _ _ _) (h _ (Upd.setCells _ _ _ _) (hr.whole (by rw [arrA_size, arrA_size])))⟩
end Go.Proofs.YtdjnniohoicppaaDoor
