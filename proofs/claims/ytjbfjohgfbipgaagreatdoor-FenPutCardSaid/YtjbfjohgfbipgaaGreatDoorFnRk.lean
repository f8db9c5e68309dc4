/-
  Layer 10's statements: may no rook castle? (rights held against a literal)
-/
import Derived.Test.YtjbfjohgfbipgaaGreatDoorFpBaseB
namespace Go.Proofs.YtjbfjohgfbipgaaGreatDoor
open Go.RowKit
set_option linter.unusedVariables false
set_option linter.unusedSimpArgs false

def noP : Nat → Int := fun _ => -1
def rkB4 (p : Nat → Int) : Bool := (p 79 == -1) && ((p 80 == -1) && ((p 81 == -1) && (p 82 == -1)))
theorem rkB4_iff {p : Nat → Int} (h : rkB4 p = true) : ∀ i, 79 ≤ i → i < 83 → p i = -1 := by
  unfold rkB4 at h
  simp only [Bool.and_eq_true, beq_iff_eq] at h
  intro i h1 h2
  have : i = 79 ∨ i = 80 ∨ i = 81 ∨ i = 82 := by omega
  rcases this with rfl | rfl | rfl | rfl
  · exact h.1
  · exact h.2.1
  · exact h.2.2.1
  · exact h.2.2.2
theorem part4 (p : Nat → Int) : partL p 79 4 = [.int .i8 (p 79), .int .i8 (p 80), .int .i8 (p 81), .int .i8 (p 82)] := rfl
theorem good_rk {p : Nat → Int} (hp : ∀ i, 79 ≤ i → i < 83 → (Lit.int .i8 (p i)).wf = true) : Good p 3 28 79 := by
  have c26 : Tryz.prog.cellsOf 26 = 1 := by kernel_rfl
  have c27 : Tryz.prog.cellsOf 27 = 2 := by kernel_rfl
  have ki : ∀ o, 79 ≤ o → o ≤ 83 → kAt o = .i8 := fun o h k => by unfold kAt; rw [if_neg (by omega), if_pos ⟨h, k⟩]
  refine good_array Tryz.underlying28 (by kernel_rfl) fun i hi => good_array Tryz.underlying27 (by kernel_rfl) fun j hj => ?_
  rw [c27, c26]
  have k := ki (79 + i * 2 + j * 1) (by omega) (by omega)
  exact good_int Tryz.underlying26 (by kernel_rfl) k (by rw [k]; exact hp _ (by omega) (by omega))
theorem key_rk : Tryz.prog.keyTypeAt 4 28 = true := by kernel_rfl
theorem formed_rk (p : Nat → Int) : (Value.agg (partL p 79 4).toArray).formed Tryz.prog 28 = true := by kernel_rfl
theorem tiled_rk : Tryz.prog.tiled 4 28 = true := by kernel_rfl
theorem guard_rk : Tryz.prog.eqGuardType Tryz.prog.depth 28 = false := by kernel_rfl
theorem run_rk {p : Nat → Int} (hp : ∀ i, 79 ≤ i → i < 83 → (Lit.int .i8 (p i)).wf = true) (w : World) :
    (Op.equalIn 10000 28 (.agg (partL p 79 4).toArray) (.agg (partL noP 79 4).toArray)).run Tryz.prog w = .ok (rkB4 p) w := by
  have c4 : Tryz.prog.cellsOf 28 = 4 := by kernel_rfl
  have g1 := good_rk hp
  have g2 := good_rk (p := noP) (fun i _ _ => (by decide : (Lit.int .i8 (-1)).wf = true))
  unfold Good at g1 g2
  rw [c4] at g1 g2
  obtain ⟨la, hl⟩ := Option.isSome_iff_exists.1 g1
  obtain ⟨lb, kl⟩ := Option.isSome_iff_exists.1 g2
  obtain ⟨r, hr, hi⟩ := run_equalIn_deep 9996 4 28 key_rk w 3 3 (.agg (partL p 79 4).toArray) (.agg (partL noP 79 4).toArray) la lb (formed_rk p) (formed_rk noP) hl kl
  have e : r = rkB4 p := by
    have hb : rkB4 p = true ↔ partL p 79 4 = partL noP 79 4 := by
      rw [part4, part4]
      unfold rkB4 noP
      simp
    rw [Bool.eq_iff_iff, hb]
    refine hi.trans ⟨fun e => ?_, fun e => ?_⟩
    · have x := cells_of_lits 4 28 tiled_rk _ _ _ hl
      have y := cells_of_lits 4 28 tiled_rk _ _ _ kl
      rw [e, ← y] at x
      exact x
    · rw [e] at hl
      exact Option.some.inj (hl.symm.trans kl)
  rw [hr, e]
section laws
variable {ops : Array Oper} {rest : List Oper} {op : Oper} {a : Act} {w : World} {Q : Exit → Act → World → Prop}
theorem step_rk (hw : Region.wanted op (yielded ops a.tmps) = true) (x y : Operand) (ho : op.op = .binOp .neq 28 x y 28) (p : Nat → Int) (hx : a.eval x = .agg (partL p 79 4).toArray) (hy : a.eval y = .agg (partL noP 79 4).toArray) (hp : ∀ i, 79 ≤ i → i < 83 → (Lit.int .i8 (p i)).wf = true) (b : Bool) (hb : rkB4 p = b)
    (h : wpList Tryz.prog ops Q rest (a.put op.dst (.bool (!b))) w) : wpList Tryz.prog ops Q (op :: rest) a w :=
  wpList_want hw fun K hK => by
    have hk := hK _ _ h
    have hr : (binOp .neq 28 (.agg (partL p 79 4).toArray) (.agg (partL noP 79 4).toArray)).run Tryz.prog w = .ok (.bool (!b)) w := by
      rw [run_neq_struct, run_rk hp, hb]; rfl
    unfold Oper.wp execOp
    simp only [ho, hx, hy, Sem.run_bind, run_eqGuard_agg w _ _ _ _ _ _ guard_rk, Result.andThen_ok, hr]
    exact hk
end laws
end Go.Proofs.YtjbfjohgfbipgaaGreatDoor
