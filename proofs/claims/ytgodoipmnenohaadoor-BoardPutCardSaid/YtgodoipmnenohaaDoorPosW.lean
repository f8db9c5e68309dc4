/-
  Positions whose numbers fit their kinds; comparisons of positions, as steps of a walk.
-/
import Derived.Test.YtgodoipmnenohaaDoorPosEq
import Derived.Test.YtgodoipmnenohaaDoorBoMir
namespace Go.Proofs.YtgodoipmnenohaaDoor
open Go.RowKit
set_option linter.unusedVariables false
theorem wf_of {k : IntKind} {n : Int} (h : k.min ≤ n ∧ n ≤ k.max) : (Lit.int k n).wf = true := by simp [Lit.wf, h.1, h.2]
theorem of_wf {k : IntKind} {n : Int} (h : (Lit.int k n).wf = true) : k.min ≤ n ∧ n ≤ k.max := by simpa [Lit.wf] using h
theorem u8_wf {n : Int} (h : 0 ≤ n ∧ n ≤ 255) : (Lit.int .u8 n).wf = true := wf_of h
theorem WfP.R {p : Nat → Int} (h : WfP p) : PosR p := by
  refine ⟨fun i hi => ?_, ?_, ?_, ?_⟩
  · have := h (1 + i) (by omega); rw [kAt_board (Nat.zero_le _) hi] at this; exact u8_rng this
  · have := of_wf (h 65 (by omega)); have e : kAt 65 = .u64 := rfl; rw [e] at this
    have a : IntKind.u64.min = 0 := by decide
    have b : IntKind.u64.max = 18446744073709551615 := by decide
    unfold W64; omega
  · exact u8_rng (h 78 (by omega))
  · have := of_wf (h 83 (by omega)); have e : kAt 83 = .i8 := rfl; rw [e] at this
    have a : IntKind.i8.min = -128 := by decide
    have b : IntKind.i8.max = 127 := by decide
    omega
theorem kAt_u8 {o : Nat} (k : o < 65 ∨ 66 ≤ o ∧ o < 79 ∨ o = 84 ∨ o = 85) : kAt o = .u8 := by unfold kAt; rw [if_neg (by omega), if_neg (by omega), if_neg (by omega)]
theorem kAt_i8 {o : Nat} (h : 79 ≤ o) (k : o ≤ 83) : kAt o = .i8 := by unfold kAt; rw [if_neg (by omega), if_pos ⟨h, k⟩]
theorem WfP.ex {p : Nat → Int} (h : WfP p) (j : Nat) (hj : j < 88) : (Lit.int (kAt j) (exP p j)).wf = true := by
  unfold exP
  by_cases a : 66 ≤ j ∧ j < 72
  · rw [if_pos a, kAt_u8 (by omega)]; have := h (j + 6) (by omega); rwa [kAt_u8 (by omega)] at this
  · rw [if_neg a]
    by_cases b : 72 ≤ j ∧ j < 78
    · rw [if_pos b, kAt_u8 (by omega)]; have := h (j - 6) (by omega); rwa [kAt_u8 (by omega)] at this
    · rw [if_neg b]
      by_cases c : 79 ≤ j ∧ j < 81
      · rw [if_pos c, kAt_i8 (by omega) (by omega)]; have := h (j + 2) (by omega); rwa [kAt_i8 (by omega) (by omega)] at this
      · rw [if_neg c]
        by_cases d : 81 ≤ j ∧ j < 83
        · rw [if_pos d, kAt_i8 (by omega) (by omega)]; have := h (j - 2) (by omega); rwa [kAt_i8 (by omega) (by omega)] at this
        · rw [if_neg d]
          by_cases e : j = 84
          · subst e; rw [if_pos rfl]; exact h 85 (by omega)
          · rw [if_neg e]
            by_cases f : j = 85
            · subst f; rw [if_pos rfl]; exact h 84 (by omega)
            · rw [if_neg f]; exact h j hj
theorem WfP.mir {p : Nat → Int} (h : WfP p) : WfP (mirP p) := fun j hj => by
  have hr := h.R.mir
  by_cases a : 1 ≤ j ∧ j ≤ 64
  · obtain ⟨i, rfl⟩ : ∃ i, j = 1 + i := ⟨j - 1, by omega⟩
    rw [kAt_board (Nat.zero_le _) (by omega)]; exact u8_wf (hr.bd i (by omega))
  · by_cases b : j = 65
    · subst b
      have := hr.prom
      refine wf_of ?_
      have e : kAt 65 = .u64 := rfl
      rw [e]
      have a : IntKind.u64.min = 0 := by decide
      have b : IntKind.u64.max = 18446744073709551615 := by decide
      unfold W64 at this; omega
    · by_cases c : j = 78
      · subst c; exact u8_wf hr.turn
      · by_cases d : j = 83
        · subst d
          have := hr.pass
          refine wf_of ?_
          have e : kAt 83 = .i8 := rfl
          rw [e]
          have a : IntKind.i8.min = -128 := by decide
          have b : IntKind.i8.max = 127 := by decide
          omega
        · rw [mirP_ex p j (by omega) c d]; exact h.ex j hj
theorem WfP.upd {p : Nat → Int} (h : WfP p) (n : Nat) (x : Int) (hn : n < 64) (hx : 0 ≤ x ∧ x ≤ 255) : WfP (upd p (1 + n) x) := fun j hj => by
  by_cases e : j = 1 + n
  · subst e; rw [upd_same, kAt_board (Nat.zero_le _) hn]; exact u8_wf hx
  · rw [upd_other _ _ _ _ e]; exact h j hj
theorem WfP.put {p : Nat → Int} (h : WfP p) (s x : Int) (hx : 0 ≤ x ∧ x ≤ 255) : WfP (putP p s x) := by
  unfold putP
  cases g : putB s x
  · exact h
  · have hs : sq s = true := by unfold putB at g; rw [Bool.and_eq_true] at g; exact g.1
    rw [sq_true] at hs
    exact h.upd s.toNat x (by omega) hx
theorem WfP.ext {p q : Nat → Int} (h : WfP p) (e : ∀ i, i < 88 → q i = p i) : WfP q := fun i hi => by rw [e i hi]; exact h i hi
theorem WfP.zero : WfP zeroP := fun i hi => by
  unfold kAt zeroP
  split
  · rfl
  · split
    · rfl
    · split <;> rfl
theorem guard31 : Tryd.prog.eqGuardType Tryd.prog.depth 31 = false := by kernel_rfl
theorem run_same {p q : Nat → Int} (hp : WfP p) (hq : posA p = posA q) (w : World) : (binOp .eql 31 (.agg (posA p)) (.agg (posA q))).run Tryd.prog w = .ok (.bool true) w := by
  rw [← hq, run_eql_struct, equal_same hp]; rfl
theorem run_unlike {p q : Nat → Int} (hp : WfP p) (hq : posA p = posA q) (w : World) : (binOp .neq 31 (.agg (posA p)) (.agg (posA q))).run Tryd.prog w = .ok (.bool false) w := by
  rw [← hq, run_neq_struct, equal_same hp]; rfl
section laws
variable {ops : Array Oper} {rest : List Oper} {op : Oper} {a : Act} {w : World} {Q : Exit → Act → World → Prop}
theorem step_same (hw : Region.wanted op (yielded ops a.tmps) = true) (x y : Operand) (ho : op.op = .binOp .eql 31 x y 31) (p q : Nat → Int) (hx : a.eval x = .agg (posA p)) (hy : a.eval y = .agg (posA q)) (hp : WfP p) (hq : posA p = posA q)
    (h : wpList Tryd.prog ops Q rest (a.put op.dst (.bool true)) w) : wpList Tryd.prog ops Q (op :: rest) a w :=
  wpList_want hw fun K hK => by
    have hk := hK _ _ h
    unfold Oper.wp execOp
    simp only [ho, hx, hy, Sem.run_bind, run_eqGuard_agg w _ _ _ _ _ _ guard31, Result.andThen_ok, run_same hp hq]
    exact hk
theorem up_same {o : Oper} {a : Act} {w : World} {K : Act → Prop} (x y : Operand) (ho : o.op = .binOp .eql 31 x y 31) (p q : Nat → Int) (hx : a.eval x = .agg (posA p)) (hy : a.eval y = .agg (posA q)) (hp : WfP p) (hq : posA p = posA q)
    (h : K (a.put o.dst (.bool true))) : o.quiet Tryd.prog a (fun w' => ∃ x : Up w, w' = x.val) K :=
  ⟨_, fun w' hw' => by
    unfold Oper.quietAt execOp
    simp only [ho, hx, hy, Sem.run_bind, run_eqGuard_agg w' _ _ _ _ _ _ guard31, Result.andThen_ok, run_same hp hq]
    exact ⟨rfl, rfl⟩, h⟩
theorem up_unlike {o : Oper} {a : Act} {w : World} {K : Act → Prop} (x y : Operand) (ho : o.op = .binOp .neq 31 x y 31) (p q : Nat → Int) (hx : a.eval x = .agg (posA p)) (hy : a.eval y = .agg (posA q)) (hp : WfP p) (hq : posA p = posA q)
    (h : K (a.put o.dst (.bool false))) : o.quiet Tryd.prog a (fun w' => ∃ x : Up w, w' = x.val) K :=
  ⟨_, fun w' hw' => by
    unfold Oper.quietAt execOp
    simp only [ho, hx, hy, Sem.run_bind, run_eqGuard_agg w' _ _ _ _ _ _ guard31, Result.andThen_ok, run_unlike hp hq]
    exact ⟨rfl, rfl⟩, h⟩
end laws
end Go.Proofs.YtgodoipmnenohaaDoor
