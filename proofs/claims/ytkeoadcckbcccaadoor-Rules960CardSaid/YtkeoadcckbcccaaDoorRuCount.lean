/-
  What RulesCounts counts on first positions; comparisons of arrays.
-/
import Derived.Test.YtkeoadcckbcccaaDoorRuAwake
import Derived.Test.YtkeoadcckbcccaaDoorRuCmp
namespace Go.Proofs.YtkeoadcckbcccaaDoor
open Go.RowKit
set_option linter.unusedVariables false
/-- The first position of a variant, with chess960's told as chess's row. -/
def startQ (v : Nat) : Nat → Int := if v = 1 then bothP 1 chR else startP v
theorem row_518 : rowL 518 = [4, 2, 3, 5, 6, 3, 2, 4] := by decide +kernel
theorem start_Q (v : Nat) (i : Nat) (hi : i < 88) : startP v i = startQ v i := by
  unfold startQ
  by_cases h : v = 1
  · subst h
    rw [if_pos rfl, start_1]
    show bothP 1 (rowZ 518) i = bothP 1 chR i
    have e : ∀ j, j < 8 → rowZ 518 j = chR j := fun j hj => by rw [(rowZ_rep 518).at_ j hj, row_518]; rfl
    rw [both_lin _ i hi, both_lin _ i hi]
    exact linG_ext (fun j hj => by unfold upR; rw [e j hj]) (fun j hj => by unfold loR; rw [e j hj]) (rf0_ext 8 e) (rf1_ext 8 e) i
  · rw [if_neg h]
theorem start_in (v : Nat) (w : World) (h : v < 9) (hT : TabVar w) (hK : TabKn w) : Calls Tryd.prog 22 #[.int .u8 (v : Int)] w (PosB (startP v) true w) := by
  have := start_any v w (by omega) hT hK
  rwa [decide_eq_true h] at this
def menF (p : Nat → Int) (c : Nat) : Nat → Int
  | 0 => 0
  | k + 1 => bif p (1 + k) == 0 then menF p c k else bif p (1 + k) / 8 == (c : Int) then menF p c k + 1 else menF p c k
def kngF (p : Nat → Int) (c : Nat) : Nat → Int
  | 0 => 0
  | k + 1 => bif p (1 + k) == 0 then kngF p c k else bif p (1 + k) % 8 == 6 then (bif p (1 + k) / 8 == (c : Int) then kngF p c k + 1 else kngF p c k) else kngF p c k
theorem menF_rng (p : Nat → Int) (c : Nat) : ∀ k, 0 ≤ menF p c k ∧ menF p c k ≤ k
  | 0 => by unfold menF; omega
  | k + 1 => by
    have := menF_rng p c k
    unfold menF
    cases p (1 + k) == 0
    · cases p (1 + k) / 8 == (c : Int)
      · simp only [cond_false]; omega
      · simp only [cond_false, cond_true]; omega
    · simp only [cond_true]; omega
theorem kngF_rng (p : Nat → Int) (c : Nat) : ∀ k, 0 ≤ kngF p c k ∧ kngF p c k ≤ k
  | 0 => by unfold kngF; omega
  | k + 1 => by
    have := kngF_rng p c k
    unfold kngF
    cases p (1 + k) == 0
    · cases p (1 + k) % 8 == 6
      · simp only [cond_false]; omega
      · cases p (1 + k) / 8 == (c : Int)
        · simp only [cond_false, cond_true]; omega
        · simp only [cond_false, cond_true]; omega
    · simp only [cond_true]; omega
theorem menF_ext {p q : Nat → Int} (c : Nat) : ∀ k, (∀ i, i < k → p (1 + i) = q (1 + i)) → menF p c k = menF q c k
  | 0, _ => rfl
  | k + 1, h => by unfold menF; rw [h k (by omega), menF_ext c k fun i hi => h i (by omega)]
theorem kngF_ext {p q : Nat → Int} (c : Nat) : ∀ k, (∀ i, i < k → p (1 + i) = q (1 + i)) → kngF p c k = kngF q c k
  | 0, _ => rfl
  | k + 1, h => by unfold kngF; rw [h k (by omega), kngF_ext c k fun i hi => h i (by omega)]
theorem men_skip {p : Nat → Int} {k : Nat} (h : p (1 + k) = 0) (c : Nat) : menF p c (k + 1) = menF p c k := by rw [menF, h]; rfl
theorem kng_skip {p : Nat → Int} {k : Nat} (h : p (1 + k) = 0) (c : Nat) : kngF p c (k + 1) = kngF p c k := by rw [kngF, h]; rfl
theorem men_step {p : Nat → Int} {k m : Nat} (h : p (1 + k) = (m : Int)) (hm : m ≠ 0) (c : Nat) : upd (fun c => menF p c k) (m / 8) (menF p (m / 8) k + 1) c = menF p c (k + 1) := by
  have h0 : ((m : Int) == 0) = false := by simp; omega
  rw [menF, h, h0]
  simp only [cond_false]
  by_cases e : c = m / 8
  · subst e
    rw [upd_same, show ((m : Int) / 8 == ((m / 8 : Nat) : Int)) = true by simp]; rfl
  · rw [upd_other _ _ _ _ e, show ((m : Int) / 8 == (c : Int)) = false by simp; omega]; rfl
theorem kng_step {p : Nat → Int} {k m : Nat} (h : p (1 + k) = (m : Int)) (hm : m ≠ 0) (h6 : ((m : Int) % 8 == 6) = true) (c : Nat) : upd (fun c => kngF p c k) (m / 8) (kngF p (m / 8) k + 1) c = kngF p c (k + 1) := by
  have h0 : ((m : Int) == 0) = false := by simp; omega
  rw [kngF, h, h0, h6]
  simp only [cond_false, cond_true]
  by_cases e : c = m / 8
  · subst e
    rw [upd_same, show ((m : Int) / 8 == ((m / 8 : Nat) : Int)) = true by simp]; rfl
  · rw [upd_other _ _ _ _ e, show ((m : Int) / 8 == (c : Int)) = false by simp; omega]; rfl
theorem kng_no {p : Nat → Int} {k m : Nat} (h : p (1 + k) = (m : Int)) (h6 : ((m : Int) % 8 == 6) = false) (c : Nat) : kngF p c (k + 1) = kngF p c k := by
  rw [kngF, h, h6]
  cases (m : Int) == 0 <;> rfl
def want0 (v : Nat) : Int := if v = 7 then 36 else if v = 8 then 8 else 16
def want1 (v : Nat) : Int := if v = 8 then 8 else 16
set_option maxRecDepth 100000 in
theorem counts_Q : ∀ v : Fin 9, menF (startQ v.val) 0 64 = want0 v.val ∧ menF (startQ v.val) 1 64 = want1 v.val ∧ kngF (startQ v.val) 0 64 = (if v.val = 7 then 0 else 1) ∧ kngF (startQ v.val) 1 64 = 1 := by decide +kernel
set_option maxRecDepth 100000 in
theorem cells_Q : ∀ v : Fin 9, startQ v.val 0 = (v.val : Int) ∧ startQ v.val 65 = 0 ∧ startQ v.val 78 = 0 ∧ startQ v.val 83 = -1 ∧ startQ v.val 84 = 0 ∧ startQ v.val 85 = 0 ∧ startQ v.val 86 = 0 ∧ startQ v.val 87 = 1 := by decide +kernel
set_option maxRecDepth 100000 in
theorem pock_Q : ∀ v : Fin 9, ∀ i : Fin 12, startQ v.val (66 + i.val) = 0 := by decide +kernel
set_option maxRecDepth 100000 in
theorem board_Q : ∀ v : Fin 9, ∀ i : Fin 64, 0 ≤ startQ v.val (1 + i.val) ∧ startQ v.val (1 + i.val) ≤ 14 := by decide +kernel
def z12 : List Value := [.int .u8 0, .int .u8 0, .int .u8 0, .int .u8 0, .int .u8 0, .int .u8 0, .int .u8 0, .int .u8 0, .int .u8 0, .int .u8 0, .int .u8 0, .int .u8 0]
theorem part_pock {p : Nat → Int} (h : ∀ i, i < 12 → p (66 + i) = 0) : partL p 66 12 = z12 := by
  have e : partL p 66 12 = (List.range 12).map fun _ => Value.int .u8 0 := by
    unfold partL
    apply List.map_congr_left
    intro j hj
    have hj' : j < 12 := by simpa using hj
    rw [h j hj', kAt_u (by omega)]
  rw [e]; rfl
theorem part_checks {p : Nat → Int} (h0 : p 84 = 0) (h1 : p 85 = 0) : partL p 84 2 = [.int .u8 0, .int .u8 0] := by
  show [Value.int (kAt 84) (p 84), .int (kAt 85) (p 85)] = _
  rw [h0, h1]; rfl
theorem size37 : (Tryd.prog.info? 37).map (·.size) = some 2 := by kernel_rfl
theorem size33 : (Tryd.prog.info? 33).map (·.size) = some 12 := by kernel_rfl
theorem size50 : (Tryd.prog.info? 50).map (·.size) = some 2 := by kernel_rfl
theorem size3 : (Tryd.prog.info? 3).map (·.size) = some 1 := by kernel_rfl
theorem zero50 : (Tryd.prog.info? 50).map (fun i => (i.zero, i.size)) = some (some (.agg (arrA 2 .i64 zeroP)), 2) := by kernel_rfl
theorem guard37 : Tryd.prog.eqGuardType Tryd.prog.depth 37 = false := by kernel_rfl
theorem guard33 : Tryd.prog.eqGuardType Tryd.prog.depth 33 = false := by kernel_rfl
theorem guard50 : Tryd.prog.eqGuardType Tryd.prog.depth 50 = false := by kernel_rfl
/-- Two arrays or structs of the same cells, compared. -/
theorem same_agg {T : TypeId} {m : Nat} {cs : Array Value} (hk : Tryd.prog.keyTypeAt m T = true) (hm : m ≤ 10000) (hf : (Value.agg cs).formed Tryd.prog T = true) (hl : (Tryd.prog.keyLits m T cs.toList).isSome = true) (w : World) :
    (binOp .eql T (.agg cs) (.agg cs)).run Tryd.prog w = .ok (.bool true) w ∧ (binOp .neq T (.agg cs) (.agg cs)).run Tryd.prog w = .ok (.bool false) w := by
  obtain ⟨la, hl⟩ := Option.isSome_iff_exists.1 hl
  obtain ⟨r, hr, hi⟩ := run_equalIn_deep (10000 - m) m T hk w m m (.agg cs) (.agg cs) la la hf hf hl hl
  rw [show 10000 - m + m = 10000 by omega] at hr
  have e : r = true := hi.2 rfl
  subst e
  exact ⟨by rw [run_eql_struct, hr]; rfl, by rw [run_neq_struct, hr]; rfl⟩
section laws
variable {ops : Array Oper} {rest : List Oper} {op : Oper} {a : Act} {w : World} {Q : Exit → Act → World → Prop}
theorem step_eqlA (hw : Region.wanted op (yielded ops a.tmps) = true) (T : TypeId) (x y : Operand) (ho : op.op = .binOp .eql T x y T) (cs : Array Value) (hx : a.eval x = .agg cs) (hy : a.eval y = .agg cs) (hg : Tryd.prog.eqGuardType Tryd.prog.depth T = false)
    (m : Nat) (hk : Tryd.prog.keyTypeAt m T = true) (hm : m ≤ 10000) (hf : (Value.agg cs).formed Tryd.prog T = true) (hl : (Tryd.prog.keyLits m T cs.toList).isSome = true)
    (h : wpList Tryd.prog ops Q rest (a.put op.dst (.bool true)) w) : wpList Tryd.prog ops Q (op :: rest) a w :=
  wpList_want hw fun K hK => by
    have hk' := hK _ _ h
    unfold Oper.wp execOp
    simp only [ho, hx, hy, Sem.run_bind, run_eqGuard_agg w _ _ _ _ _ _ hg, Result.andThen_ok, (same_agg hk hm hf hl w).1]
    exact hk'
theorem step_neqA (hw : Region.wanted op (yielded ops a.tmps) = true) (T : TypeId) (x y : Operand) (ho : op.op = .binOp .neq T x y T) (cs : Array Value) (hx : a.eval x = .agg cs) (hy : a.eval y = .agg cs) (hg : Tryd.prog.eqGuardType Tryd.prog.depth T = false)
    (m : Nat) (hk : Tryd.prog.keyTypeAt m T = true) (hm : m ≤ 10000) (hf : (Value.agg cs).formed Tryd.prog T = true) (hl : (Tryd.prog.keyLits m T cs.toList).isSome = true)
    (h : wpList Tryd.prog ops Q rest (a.put op.dst (.bool false)) w) : wpList Tryd.prog ops Q (op :: rest) a w :=
  wpList_want hw fun K hK => by
    have hk' := hK _ _ h
    unfold Oper.wp execOp
    simp only [ho, hx, hy, Sem.run_bind, run_eqGuard_agg w _ _ _ _ _ _ hg, Result.andThen_ok, (same_agg hk hm hf hl w).2]
    exact hk'
end laws
end Go.Proofs.YtkeoadcckbcccaaDoor
