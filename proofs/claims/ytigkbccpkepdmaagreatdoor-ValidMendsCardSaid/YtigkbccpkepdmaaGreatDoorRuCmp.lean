/-
  Comparisons of positions, as steps of a walk.
-/
import Derived.Test.YtigkbccpkepdmaaGreatDoorVaBaseB
import Derived.DeepKeys2
namespace Go.Proofs.YtigkbccpkepdmaaGreatDoor
open Go.RowKit
set_option linter.unusedVariables false
theorem guardCmp : Tryz.prog.eqGuardType Tryz.prog.depth 31 = false := by kernel_rfl
theorem tiled31 : Tryz.prog.tiled 5 31 = true := by kernel_rfl
theorem equal_pos {p q : Nat → Int} (hp : WfP p) (hq : WfP q) (w : World) : ∃ r : Bool, (Op.equalIn 10000 31 (.agg (posA p)) (.agg (posA q))).run Tryz.prog w = .ok r w ∧ (r = true ↔ posA p = posA q) := by
  have hg := good31 hp
  have kg := good31 hq
  unfold Good at hg kg
  rw [show Tryz.prog.cellsOf 31 = 88 by kernel_rfl, partL_all] at hg kg
  obtain ⟨la, hl⟩ := Option.isSome_iff_exists.1 hg
  obtain ⟨lb, kl⟩ := Option.isSome_iff_exists.1 kg
  obtain ⟨r, hr, hi⟩ := run_equalIn_deep 9995 5 31 key31 w 4 4 (.agg (posA p)) (.agg (posA q)) la lb (formed31 p) (formed31 q) hl kl
  refine ⟨r, hr, hi.trans ⟨fun e => ?_, fun e => ?_⟩⟩
  · have a := cells_of_lits 5 31 tiled31 _ _ _ hl
    have b := cells_of_lits 5 31 tiled31 _ _ _ kl
    rw [e, ← b] at a
    apply Array.ext'
    exact a
  · rw [e] at hl
    exact Option.some.inj (hl.symm.trans kl)
theorem posA_inj {p q : Nat → Int} (h : posA p = posA q) (i : Nat) (hi : i < 88) : p i = q i := by
  have a := posA_get p i hi
  rw [h, posA_get q i hi] at a
  exact (Value.int.inj (Option.some.inj a)).2.symm
theorem WfP.of {p q : Nat → Int} (h : WfP p) (e : posA p = posA q) : WfP q := fun i hi => by rw [← posA_inj e i hi]; exact h i hi
theorem run_cmp {p q : Nat → Int} {r : Bool} (hp : WfP p) (hq : WfP q) (h : r = true ↔ posA p = posA q) (w : World) : (binOp .eql 31 (.agg (posA p)) (.agg (posA q))).run Tryz.prog w = .ok (.bool r) w := by
  obtain ⟨b, hb, hi⟩ := equal_pos hp hq w
  have e : b = r := by
    rw [Bool.eq_iff_iff]; exact hi.trans h.symm
  rw [run_eql_struct, hb, e]; rfl
theorem run_cmpn {p q : Nat → Int} {r : Bool} (hp : WfP p) (hq : WfP q) (h : r = true ↔ posA p = posA q) (w : World) : (binOp .neq 31 (.agg (posA p)) (.agg (posA q))).run Tryz.prog w = .ok (.bool !r) w := by
  obtain ⟨b, hb, hi⟩ := equal_pos hp hq w
  have e : b = r := by
    rw [Bool.eq_iff_iff]; exact hi.trans h.symm
  rw [run_neq_struct, hb, e]; rfl
theorem run_neq {o : Oper} {a : Act} {w : World} (x y : Operand) (ho : o.op = .binOp .neq 31 x y 31) (p q : Nat → Int) (hx : a.eval x = .agg (posA p)) (hy : a.eval y = .agg (posA q)) (hp : WfP p) (he : posA p = posA q) :
    (execOp a.eval o).run Tryz.prog w = .ok (.value (.bool false)) w := by
  unfold execOp
  simp only [ho, hx, hy, Sem.run_bind, run_eqGuard_agg w _ _ _ _ _ _ guardCmp, Result.andThen_ok, run_cmpn hp (hp.of he) (show true = true ↔ posA p = posA q from ⟨fun _ => he, fun _ => rfl⟩)]
  rfl
section laws
variable {ops : Array Oper} {rest : List Oper} {op : Oper} {a : Act} {w : World} {Q : Exit → Act → World → Prop}
theorem step_cmp (hw : Region.wanted op (yielded ops a.tmps) = true) (x y : Operand) (ho : op.op = .binOp .eql 31 x y 31) (p q : Nat → Int) (hx : a.eval x = .agg (posA p)) (hy : a.eval y = .agg (posA q)) (hp : WfP p) (hq : WfP q) (r : Bool) (hr : r = true ↔ posA p = posA q)
    (h : wpList Tryz.prog ops Q rest (a.put op.dst (.bool r)) w) : wpList Tryz.prog ops Q (op :: rest) a w :=
  wpList_want hw fun K hK => by
    have hk := hK _ _ h
    unfold Oper.wp execOp
    simp only [ho, hx, hy, Sem.run_bind, run_eqGuard_agg w _ _ _ _ _ _ guardCmp, Result.andThen_ok, run_cmp hp hq hr]
    exact hk
end laws
end Go.Proofs.YtigkbccpkepdmaaGreatDoor
