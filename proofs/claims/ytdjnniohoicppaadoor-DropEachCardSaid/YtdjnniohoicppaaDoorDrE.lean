/-
  Layer 15: a pocket changed: what is held, how many men there are; positions compared.
-/
import Derived.Test.YtdjnniohoicppaaDoorDrD
namespace Go.Proofs.YtdjnniohoicppaaDoor
open Go.RowKit Go.Shelf
set_option linter.unusedVariables false
set_option linter.unusedSimpArgs false

theorem helC_upd {p : Nat → Int} {a k j : Nat} (ha : a ≤ 1) (hk : 1 ≤ k ∧ k < 6) (hj : j < 6) (v : Int) : helC (upd p (66 + a * 6 + k) v) (a : Int) (j : Int) = bif j == k then v else helC p (a : Int) (j : Int) := by
  unfold helC
  rw [pkJ_at]
  cases e : (j == k)
  · have : j ≠ k := beq_eq_false_iff_ne.1 e
    rw [upd_other _ _ _ _ (by omega)]; rfl
  · obtain rfl : j = k := beq_iff_eq.1 e
    rw [hasP_true.2 (by omega), upd_same]; rfl
theorem helT_upd {p : Nat → Int} {a k : Nat} (ha : a ≤ 1) (hk : 1 ≤ k ∧ k < 6) (v : Int) : ∀ n : Nat, n ≤ 6 → helT (upd p (66 + a * 6 + k) v) (a : Int) n = helT p (a : Int) n + (bif decide (k < n) then v - p (66 + a * 6 + k) else 0)
  | 0, _ => by show (0 : Int) = 0 + _; rw [decide_eq_false (by omega)]; rfl
  | n + 1, hn => by
    show helT (upd p (66 + a * 6 + k) v) (a : Int) n + helC (upd p (66 + a * 6 + k) v) (a : Int) (n : Int) = helT p (a : Int) n + helC p (a : Int) (n : Int) + _
    rw [helT_upd ha hk v n (by omega), helC_upd ha hk (by omega)]
    by_cases h1 : k < n
    · rw [decide_eq_true h1, decide_eq_true (show k < n + 1 by omega), beq_eq_false_iff_ne.2 (by omega)]
      simp only [cond_true, cond_false]; omega
    · by_cases h2 : n = k
      · subst h2
        rw [decide_eq_false h1, decide_eq_true (show n < n + 1 by omega), beq_self_eq_true, helC_yes (hasP_true.2 (by omega)), pkJ_at]
        simp only [cond_true, cond_false]; omega
      · rw [decide_eq_false h1, decide_eq_false (show ¬ k < n + 1 by omega), beq_eq_false_iff_ne.2 h2]
        simp only [cond_false]; omega
theorem helS_upd {p : Nat → Int} {a k : Nat} (ha : a ≤ 1) (hk : 1 ≤ k ∧ k < 6) (v : Int) : helS (upd p (66 + a * 6 + k) v) (a : Int) = helS p (a : Int) + (v - p (66 + a * 6 + k)) := by
  unfold helS
  rw [helT_upd ha hk v 6 (Nat.le_refl _), decide_eq_true hk.2]; rfl
theorem helT_far {p : Nat → Int} {a b k : Nat} (ha : a ≤ 1) (hb : b ≤ 1) (hab : a ≠ b) (hk : 1 ≤ k ∧ k < 6) (v : Int) : ∀ n : Nat, n ≤ 6 → helT (upd p (66 + a * 6 + k) v) (b : Int) n = helT p (b : Int) n
  | 0, _ => rfl
  | n + 1, hn => by
    unfold helT
    rw [helT_far ha hb hab hk v n (by omega)]
    congr 1
    unfold helC
    rw [pkJ_at, upd_other _ _ _ _ (by omega)]
theorem cntT_far {p : Nat → Int} {i : Nat} (hi : 65 ≤ i) (v : Int) : ∀ n : Nat, n ≤ 64 → cntT (upd p i v) n = cntT p n
  | 0, _ => rfl
  | n + 1, hn => by
    unfold cntT
    rw [cntT_far hi v n (by omega), upd_other _ _ _ _ (by omega)]
theorem menZ_upd {p : Nat → Int} {a k : Nat} (ha : a ≤ 1) (hk : 1 ≤ k ∧ k < 6) (v : Int) : menZ (upd p (66 + a * 6 + k) v) = menZ p + (v - p (66 + a * 6 + k)) := by
  unfold menZ
  rw [cntT_far (by omega) v 64 (Nat.le_refl _)]
  rcases (by omega : a = 0 ∨ a = 1) with rfl | rfl
  · have h0 := helS_upd (p := p) (a := 0) (by omega) hk v
    have h1 : helS (upd p (66 + 0 * 6 + k) v) 1 = helS p 1 := helT_far (a := 0) (b := 1) (by omega) (by omega) (by omega) hk v 6 (Nat.le_refl _)
    have h0' : helS (upd p (66 + 0 * 6 + k) v) 0 = helS p 0 + (v - p (66 + 0 * 6 + k)) := h0
    rw [h0', h1]; omega
  · have h0 := helS_upd (p := p) (a := 1) (by omega) hk v
    have h1 : helS (upd p (66 + 1 * 6 + k) v) 0 = helS p 0 := helT_far (a := 1) (b := 0) (by omega) (by omega) (by omega) hk v 6 (Nat.le_refl _)
    have h0' : helS (upd p (66 + 1 * 6 + k) v) 1 = helS p 1 + (v - p (66 + 1 * 6 + k)) := h0
    rw [h0', h1]; omega
theorem wfP_pk {p : Nat → Int} (h : WfP p) {i : Nat} (h0 : 66 ≤ i) (h1 : i < 78) {v : Int} (hv : 0 ≤ v ∧ v ≤ 255) : WfP (upd p i v) := fun j hj => by
  by_cases e : j = i
  · subst e; rw [upd_same, kAt_pk h0 h1]
    simp only [Lit.wf, Bool.and_eq_true, decide_eq_true_eq]; exact hv
  · rw [upd_other _ _ _ _ e]; exact h j hj
theorem upd_ne {p : Nat → Int} {i : Nat} (hi : i < 88) {v : Int} (h : v ≠ p i) : posA (upd p i v) ≠ posA p := fun e => by
  have := posA_inj e i hi
  rw [upd_same] at this; exact h this
theorem upd_back (p : Nat → Int) (i : Nat) (v : Int) : upd (upd p i v) i (p i) = p := by
  funext j
  unfold upd
  by_cases e : j = i
  · rw [if_pos e, e]
  · rw [if_neg e, if_neg e]
section laws
variable {ops : Array Oper} {rest : List Oper} {op : Oper} {a : Act} {w : World} {Q : Exit → Act → World → Prop}
theorem step_cmpn (hw : Region.wanted op (yielded ops a.tmps) = true) (x y : Operand) (ho : op.op = .binOp .neq 31 x y 31) (p q : Nat → Int) (hx : a.eval x = .agg (posA p)) (hy : a.eval y = .agg (posA q)) (hp : WfP p) (hq : WfP q) (r : Bool) (hr : r = true ↔ posA p = posA q)
    (h : wpList Tryd.prog ops Q rest (a.put op.dst (.bool (!r))) w) : wpList Tryd.prog ops Q (op :: rest) a w :=
  wpList_want hw fun K hK => by
    have hk := hK _ _ h
    unfold Oper.wp execOp
    simp only [ho, hx, hy, Sem.run_bind, run_eqGuard_agg w _ _ _ _ _ _ guardCmp, Result.andThen_ok, run_cmpn hp hq hr]
    exact hk
end laws
end Go.Proofs.YtdjnniohoicppaaDoor
