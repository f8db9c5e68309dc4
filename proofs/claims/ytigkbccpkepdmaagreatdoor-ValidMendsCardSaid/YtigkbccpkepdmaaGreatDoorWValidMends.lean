/-
  The walk of ValidMends.
-/
import Derived.Test.YtigkbccpkepdmaaGreatDoorVrH
import Derived.Test.YtigkbccpkepdmaaGreatDoorVaI
import Derived.Test.YtigkbccpkepdmaaGreatDoorRuCmp
import Derived.WalkKit
import Derived.OpenShut
namespace Go.Proofs.YtigkbccpkepdmaaGreatDoor.validMends
open Go.RowKit
set_option linter.unusedVariables false
set_option linter.unusedSimpArgs false
theorem md_low {p : Nat → Int} {i : Nat} (h : i < 79 ∨ i = 84 ∨ i = 85) : mdP p i = p i := by
  unfold mdP
  cases argB p
  · rfl
  · show upd (upd (mdS p) 86 (nrZ (p 86) 0)) 87 (nrZ (p 87) 1) i = p i
    rw [upd_other _ _ _ _ (by omega), upd_other _ _ _ _ (by omega)]
    unfold mdS; rw [if_neg (by omega)]
    unfold mdR; rw [if_neg (by omega)]
theorem md_rook {p : Nat → Int} (ha : argB p = true) {c s : Nat} (hc : c < 2) (hs : s < 2) : roA (mdP p) c s = bif rkB p c s then roA p c s else -1 := by
  unfold roA mdP
  rw [ha]
  show upd (upd (mdS p) 86 (nrZ (p 86) 0)) 87 (nrZ (p 87) 1) (79 + c * 2 + s) = _
  rw [upd_other _ _ _ _ (by omega), upd_other _ _ _ _ (by omega)]
  unfold mdS; rw [if_neg (by omega)]
  unfold mdR; rw [if_pos (by omega), show (79 + c * 2 + s - 79) / 2 = c by omega, show (79 + c * 2 + s - 79) % 2 = s by omega]
theorem md_pass {p : Nat → Int} (ha : argB p = true) : mdP p 83 = bif pasB p then p 83 else -1 := by
  unfold mdP
  rw [ha]
  show upd (upd (mdS p) 86 (nrZ (p 86) 0)) 87 (nrZ (p 87) 1) 83 = _
  rw [upd_other _ _ _ _ (by omega), upd_other _ _ _ _ (by omega)]
  unfold mdS; rw [if_pos rfl]
theorem md_half {p : Nat → Int} (ha : argB p = true) : mdP p 86 = nrZ (p 86) 0 := by
  unfold mdP
  rw [ha]
  show upd (upd (mdS p) 86 (nrZ (p 86) 0)) 87 (nrZ (p 87) 1) 86 = _
  rw [upd_other _ _ _ _ (by omega), upd_same]
theorem md_full {p : Nat → Int} (ha : argB p = true) : mdP p 87 = nrZ (p 87) 1 := by
  unfold mdP
  rw [ha]
  show upd (upd (mdS p) 86 (nrZ (p 86) 0)) 87 (nrZ (p 87) 1) 87 = _
  rw [upd_same]
theorem md_argno {p : Nat → Int} (ha : argB p = false) : mdP p = p := by unfold mdP; rw [ha]; rfl
theorem nr_wf (n m : Int) (h0 : 0 ≤ m) (h1 : m ≤ 10000) : (Lit.int .i64 (nrZ n m)).wf = true := by
  have a : IntKind.i64.min = -9223372036854775808 := by decide
  have b : IntKind.i64.max = 9223372036854775807 := by decide
  unfold nrZ
  simp [Lit.wf, a, b]; omega
theorem md_wf {p : Nat → Int} (h : WfP p) : WfP (mdP p) := by
  cases ha : argB p
  · rw [md_argno ha]; exact h
  · intro i hi
    by_cases g : i < 79 ∨ i = 84 ∨ i = 85
    · rw [md_low g]; exact h i hi
    · by_cases g1 : i < 83
      · have e := md_rook ha (c := (i - 79) / 2) (s := (i - 79) % 2) (by omega) (by omega)
        unfold roA at e
        rw [show 79 + (i - 79) / 2 * 2 + (i - 79) % 2 = i by omega] at e
        rw [e]
        cases rkB p ((i - 79) / 2) ((i - 79) % 2)
        · rw [k_i8 (by omega) (by omega)]; rfl
        · exact h i hi
      · by_cases g2 : i = 83
        · subst g2; rw [md_pass ha]
          cases pasB p
          · rfl
          · exact h 83 hi
        · by_cases g3 : i = 86
          · subst g3; rw [md_half ha]; exact nr_wf _ _ (by decide) (by decide)
          · obtain rfl : i = 87 := by omega
            rw [md_full ha]; exact nr_wf _ _ (by decide) (by decide)
theorem run_eqQ {o : Oper} {a : Act} {w : World} (x y : Operand) (ho : o.op = .binOp .eql 31 x y 31) (p : Nat → Int) (hx : a.eval x = .agg (posA p)) (hy : a.eval y = .agg (posA p)) (hp : WfP p) :
    (execOp a.eval o).run Tryz.prog w = .ok (.value (.bool true)) w := by
  unfold execOp
  simp only [ho, hx, hy, Sem.run_bind, run_eqGuard_agg w _ _ _ _ _ _ guardCmp, Result.andThen_ok, run_cmp hp hp (show true = true ↔ posA p = posA p from ⟨fun _ => rfl, fun _ => rfl⟩)]
  rfl
theorem mdK {p q : Nat → Int} (e : mdP p = q) (w : World) (hp : FitP p) (hT : TabVar w) (hD : TabDb w) (hL : TabLead w) (hU : TabUs w) : Calls Tryz.prog 9 #[.agg (posA p)] w (PosL q w) := e ▸ mend_any p w hp hT hD hL hU
theorem rmdK {p q : Nat → Int} (e : mdP p = q) (w : World) (hp : FitP p) : Calls Tryz.prog 10 #[.agg (posA p)] w (PosL q w) := e ▸ vr_mend p w hp
set_option maxRecDepth 100000 in
set_option maxHeartbeats 4000000 in
theorem walk (p : Nat → Int) (w0 : WfP p) (w : World) (hD : TabDb w) (hL : TabLead w) (hT : TabVar w) (hK : TabKn w) (hU : TabUs w) : Calls Tryz.prog 4 #[.agg (posA p)] w fun e w' => e = .returned (.bool true) ∧ Below w.heap.size w w' := by
  have HT := Lib.hid hT
  have HK := Lib.hid hK
  have HD := Lib.hid hD
  have HL := Lib.hid hL
  have HU := Lib.hid hU
  have HP := Lib.hid (FitP.of w0)
  obtain ⟨q, hq⟩ : ∃ q, mdP p = q := ⟨_, rfl⟩
  have HQ := Lib.hid hq
  have HW := Lib.hid (show WfP q by rw [← hq]; exact md_wf w0)
  clear hT hK hD hL hU w0 hq
  have HB := Lib.hid (Below.refl w.heap.size w)
  go_enter Tryz.func4, Tryz.ntmps4
  go_wp2_with (first
      | (guard_target = Go.wpList _ _ _ ((⟨some 1, .box _ _, _, _, _, _⟩ : Go.Oper) :: _) _ _; refine step_box rfl _ rfl p rfl ?_; intro b1 w1 N R; have HG1 := Lib.hid (show w.heap.size ≤ b1 by have := HB.out.size; have := N.at_; omega); have HB := Lib.hid (below_on HB.out N.below); have HR1 := Lib.hid R; clear N R))
  refine late_begin 9 (by kernel_rfl) ?_
  refine ltk 0 (by kernel_rfl) (fun _ _ d _ _ h => by cases d <;> exact h) (fun o ho => ?_)
  simp only [qa, qb, qc, qd] at ho; subst ho
  refine ⟨_, Or.inl ⟨by kernel_rfl, fun w' hl => Or.inl (run_load _ rfl _ rfl (p) (HR1.out.later hl))⟩, ?_⟩
  simp only [Act.put, pa, pb, pc]
  refine ltk 2 (by kernel_rfl) (fun _ _ d _ _ h => by cases d <;> exact h) (fun o ho => ?_)
  simp only [qa, qb, qc, qd] at ho; subst ho
  refine ⟨_, Or.inl ⟨by kernel_rfl, fun w' hl => Or.inl (run_load _ rfl _ rfl (p) (HR1.out.later hl))⟩, ?_⟩
  simp only [Act.put, pa, pb, pc]
  refine late_one 1 (by kernel_rfl) (by kernel_rfl) (fun o ho => ?_)
  simp only [qa, qb, qc, qd] at ho; subst ho
  refine ⟨by kernel_rfl, fun wn hl K hK => ?_⟩
  have HR1 := Lib.hid (HR1.out.later hl); have HB := Lib.hid (below_on HB.out hl); clear hl
  refine wp_enter _ _ (by go_simp; exact ⟨rfl, rfl⟩) ?_
  refine (mdK HQ.out _ HP.out (HT.out.on HB.out) (HD.out.next HB.out) (HL.out.next HB.out) (HU.out.on HB.out)).mono ?_; rintro e wm ⟨rfl, hb⟩; refine ⟨_, rfl, ?_⟩
  refine hK.out _ _ hb ?_
  have HR1 := Lib.hid (HR1.out.later hb); have HB := Lib.hid (below_on HB.out hb); clear hb
  clear hK K
  simp only [Act.put, pa, pb, pc]
  refine late_one 3 (by kernel_rfl) (by kernel_rfl) (fun o ho => ?_)
  simp only [qa, qb, qc, qd] at ho; subst ho
  refine ⟨by kernel_rfl, fun wn hl K hK => ?_⟩
  have HR1 := Lib.hid (HR1.out.later hl); have HB := Lib.hid (below_on HB.out hl); clear hl
  refine wp_enter _ _ (by go_simp; exact ⟨rfl, rfl⟩) ?_
  refine (rmdK HQ.out _ HP.out).mono ?_; rintro e wm ⟨rfl, hb⟩; refine ⟨_, rfl, ?_⟩
  refine hK.out _ _ hb ?_
  have HR1 := Lib.hid (HR1.out.later hb); have HB := Lib.hid (below_on HB.out hb); clear hb
  clear hK K
  simp only [Act.put, pa, pb, pc]
  refine ltk 4 (by kernel_rfl) (fun _ _ d _ _ h => by cases d <;> exact h) (fun o ho => ?_)
  simp only [qa, qb, qc, qd] at ho; subst ho
  refine ⟨.bool true, Or.inl ⟨by kernel_rfl, fun w' hl => Or.inl (run_eqQ _ _ rfl q rfl rfl HW.out)⟩, ?_⟩
  simp only [Act.put, pa, pb, pc]
  refine ltk 5 (by kernel_rfl) (fun _ _ d _ _ h => by cases d <;> exact h) (fun o ho => ?_)
  simp only [qa, qb, qc, qd] at ho; subst ho
  apply Exists.intro
  refine ⟨Or.inl ⟨by kernel_rfl, fun w' hl => Or.inl ?_⟩, ?_⟩
  · (go_simp; try with_reducible rfl)
  simp only [Act.put, pa, pb, pc]
  refine late_one 6 (by kernel_rfl) (by kernel_rfl) (fun o ho => ?_)
  simp only [qa, qb, qc, qd] at ho; subst ho
  refine ⟨by kernel_rfl, fun wn hl K hK => ?_⟩
  have HR1 := Lib.hid (HR1.out.later hl); have HB := Lib.hid (below_on HB.out hl); clear hl
  refine wp_enter _ _ (by go_simp; exact ⟨rfl, rfl⟩) ?_
  refine (va_awake _ (HT.out.on HB.out) (HK.out.on HB.out) (HD.out.next HB.out) (HL.out.next HB.out) (HU.out.on HB.out)).mono ?_; rintro e wm ⟨rfl, hb⟩; refine ⟨_, rfl, ?_⟩
  refine hK.out _ _ hb ?_
  have HR1 := Lib.hid (HR1.out.later hb); have HB := Lib.hid (below_on HB.out hb); clear hb
  clear hK K
  simp only [Act.put, pa, pb, pc]
  refine ltk 7 (by kernel_rfl) (fun _ _ d _ _ h => by cases d <;> exact h) (fun o ho => ?_)
  simp only [qa, qb, qc, qd] at ho; subst ho
  apply Exists.intro
  refine ⟨Or.inl ⟨by kernel_rfl, fun w' hl => Or.inl ?_⟩, ?_⟩
  · (go_simp; try with_reducible rfl)
  simp only [Act.put, pa, pb, pc]
  refine ltk 8 (by kernel_rfl) (fun _ _ d _ _ h => by cases d <;> exact h) (fun o ho => ?_)
  simp only [qa, qb, qc, qd] at ho; subst ho
  apply Exists.intro
  refine ⟨Or.inl ⟨by kernel_rfl, fun w' hl => Or.inl ?_⟩, ?_⟩
  · (go_simp; try with_reducible rfl)
  simp only [Act.put, pa, pb, pc]
  refine late_end (by kernel_rfl) (fun wn hl => ?_)
  have HR1 := Lib.hid (HR1.out.later hl); have HB := Lib.hid (below_on HB.out hl); clear hl
  go_wp2_with fail
  go_ret
  exact ⟨rfl, HB.out⟩
end Go.Proofs.YtigkbccpkepdmaaGreatDoor.validMends
