/-
 Layer 17: results compared; legal's List.
-/
import Derived.Test.YteblmnbagbdiiaaGreatDoorLgN
set_option maxRecDepth 100000
set_option maxHeartbeats 4000000
namespace Go.Proofs.YteblmnbagbdiiaaGreatDoor
open Go.RowKit Go.Shelf
set_option linter.unusedVariables false
set_option linter.unusedSimpArgs false
attribute [local go_sem] Oper.semAt_some

structure FitRs (r : Int × Int) : Prop where
 s : 0 ≤ r.1 ∧ r.1 ≤ 255
 y : 0 ≤ r.2 ∧ r.2 ≤ 255
theorem rsB_true {a b : Int × Int} : rsB a b = true ↔ a = b := by
 unfold rsB
 rw [Bool.and_eq_true, beq_iff_eq, beq_iff_eq]
 exact ⟨fun h => Prod.ext h.1 h.2, fun h => by rw [h]; exact ⟨rfl, rfl⟩⟩
theorem rsA_inj {a b : Int × Int} (h : rsA a = rsA b) : a = b := by
 unfold rsA at h
 simp at h
 exact Prod.ext h.1 h.2
theorem guardRs : Tryz.prog.eqGuardType Tryz.prog.depth 44 = false := by kernel_rfl
theorem keyRs : Tryz.prog.keyTypeAt 3 44 = true := by kernel_rfl
theorem formedRs (r : Int × Int) : (Value.agg (rsA r)).formed Tryz.prog 44 = true := by kernel_rfl
theorem tiledRs : Tryz.prog.tiled 3 44 = true := by kernel_rfl
theorem litsRs {r : Int × Int} (h : FitRs r) : (Tryz.prog.keyLits 2 44 (rsA r).toList).isSome = true := by
 have c5 : Tryz.prog.cellsOf 5 = 1 := by kernel_rfl
 have cm : Tryz.prog.cellsOf 44 = 2 := by kernel_rfl
 obtain ⟨l, hl⟩ : ∃ l, (rsA r).toList = l := ⟨_, rfl⟩
 have hlen : l.length = 2 := by rw [← hl]; rfl
 rw [hl]
 unfold Program.keyLits
 rw [Tryz.underlying44]
 simp only [cm, hlen, true_and]
 rw [if_pos (by kernel_rfl), Option.isSome_map]
 refine mapM_some _ _ fun f hf => ?_
 rw [← hl]
 simp only [List.mem_cons, List.not_mem_nil, or_false] at hf
 rcases hf with rfl | rfl
 ·simp only [c5]; exact lit_int Tryz.underlying5 (wf_u8 h.s)
 ·simp only [c5]; exact lit_int Tryz.underlying5 (wf_u8 h.y)
theorem run_rseq {a b : Int × Int} (ha : FitRs a) (hb : FitRs b) (w : World) : (Op.equalIn 10000 44 (.agg (rsA a)) (.agg (rsA b))).run Tryz.prog w = .ok (rsB a b) w := by
 obtain ⟨la, hl⟩ := Option.isSome_iff_exists.1 (litsRs ha)
 obtain ⟨lb, kl⟩ := Option.isSome_iff_exists.1 (litsRs hb)
 obtain ⟨r, hr, hi⟩ := run_equalIn_deep 9997 3 44 keyRs w 2 2 (.agg (rsA a)) (.agg (rsA b)) la lb (formedRs a) (formedRs b) hl kl
 have e : r = rsB a b := by
  rw [Bool.eq_iff_iff, rsB_true]
  refine hi.trans ⟨fun e => ?_, fun e => ?_⟩
  ·have x := cells_of_lits 3 44 tiledRs _ _ _ hl
   have y := cells_of_lits 3 44 tiledRs _ _ _ kl
   rw [e, ← y] at x
   exact rsA_inj (Array.ext' x)
  ·rw [e] at hl
   exact Option.some.inj (hl.symm.trans kl)
 rw [hr, e]
section laws
variable {ops : Array Oper} {rest : List Oper} {op : Oper} {a : Act} {w : World} {Q : Exit → Act → World → Prop}
theorem step_rs (hw : Region.wanted op (yielded ops a.tmps) = true) (x y : Operand) (ho : op.op = .binOp .eql 44 x y 44) (m n : Int × Int) (hx : a.eval x = .agg (rsA m)) (hy : a.eval y = .agg (rsA n)) (hm : FitRs m) (hn : FitRs n) (b : Bool) (hb : rsB m n = b)
  (h : wpList Tryz.prog ops Q rest (a.put op.dst (.bool b)) w) : wpList Tryz.prog ops Q (op :: rest) a w :=
 wpList_want hw fun K hK => by
  have hk := hK _ _ h
  have hr : (binOp .eql 44 (.agg (rsA m)) (.agg (rsA n))).run Tryz.prog w = .ok (.bool b) w := by
   rw [run_eql_struct, run_rseq hm hn, hb]; rfl
  unfold Oper.wp execOp
  simp only [ho, hx, hy, Sem.run_bind, run_eqGuard_agg w _ _ _ _ _ _ guardRs, Result.andThen_ok, hr]
  exact hk
theorem step_rsn (hw : Region.wanted op (yielded ops a.tmps) = true) (x y : Operand) (ho : op.op = .binOp .neq 44 x y 44) (m n : Int × Int) (hx : a.eval x = .agg (rsA m)) (hy : a.eval y = .agg (rsA n)) (hm : FitRs m) (hn : FitRs n) (b : Bool) (hb : rsB m n = b)
  (h : wpList Tryz.prog ops Q rest (a.put op.dst (.bool !b)) w) : wpList Tryz.prog ops Q (op :: rest) a w :=
 wpList_want hw fun K hK => by
  have hk := hK _ _ h
  have hr : (binOp .neq 44 (.agg (rsA m)) (.agg (rsA n))).run Tryz.prog w = .ok (.bool !b) w := by
   rw [run_neq_struct, run_rseq hm hn, hb]; rfl
  unfold Oper.wp execOp
  simp only [ho, hx, hy, Sem.run_bind, run_eqGuard_agg w _ _ _ _ _ _ guardRs, Result.andThen_ok, hr]
  exact hk
end laws
theorem fit_wn (c y : Int) (h : 0 ≤ y ∧ y ≤ 255) : FitRs (wnZ c y) := by
 unfold wnZ
 cases c == 0
 ·exact ⟨(by decide : (0 : Int) ≤ 2 ∧ (2 : Int) ≤ 255), h⟩
 ·exact ⟨(by decide : (0 : Int) ≤ 1 ∧ (1 : Int) ≤ 255), h⟩
theorem fit_go : FitRs (0, 0) := ⟨by decide, by decide⟩
theorem fit_fir (a y : Int) (f : Int → Bool) (h : 0 ≤ y ∧ y ≤ 255) : FitRs (firZ a y f) := by
 unfold firZ
 cases f a
 ·cases f (oth a)
  ·exact fit_go
  ·exact fit_wn _ _ h
 ·exact fit_wn _ _ h
theorem fit_won (p : Nat → Int) : FitRs (wonZ p) := by
 unfold wonZ winZ racZ
 cases decide (9 ≤ p 0) || decide (1 < p 78)
 ·cases p 0 == 3
  ·cases p 0 == 4
   ·cases p 0 == 5
    ·cases p 0 == 6
     ·cases p 0 == 7
      ·cases p 0 == 8
       ·exact fit_go
       ·cases goaB p 0 && goaB p 1
        ·cases goaB p 1
         ·cases goaB p 0 && !comB p
          ·exact fit_go
          ·exact fit_wn _ _ (by decide)
         ·exact fit_wn _ _ (by decide)
        ·show FitRs (3, 6)
         exact ⟨by decide, by decide⟩
      ·cases !menB p 0
       ·exact fit_go
       ·exact fit_wn _ _ (by decide)
     ·simp only [cond_true, cond_false]; exact fit_fir _ 6 _ (by decide)
    ·simp only [cond_true, cond_false]; exact fit_fir _ 7 _ (by decide)
   ·simp only [cond_true, cond_false]; exact fit_fir _ 8 _ (by decide)
  ·cases !hkB p (p 78)
   ·exact fit_go
   ·exact fit_wn _ _ (by decide)
 ·exact fit_go
theorem lg_list (p : Nat → Int) (w : World) (hp : WfP p) (hT : CsT w) : Calls Tryz.prog 9 #[.agg (posA p)] w (MvL (lsL p) w) := by
 have HP := H_ hp
 have HT := H_ hT
 have hfr := fit_won p
 unfold lsL
 obtain ⟨r, hr⟩ : ∃ r, wonZ p = r := ⟨_, rfl⟩
 rw [hr] at hfr ⊢
 have HWo := H_ hr
 have HFr := H_ hfr
 obtain ⟨x, hx⟩ : ∃ x, rsB r (0, 0) = x := ⟨_, rfl⟩
 have HX := H_ hx
 rw [hx]
 clear hp hT hfr hr hx
 have HB := H_ (Below.refl w.heap.size w)
 cases x
 ·skip
  go_enter Tryz.func9, Tryz.ntmps9
  go_wp2_with (first
   | (guard_target = gB 1; refine step_box rfl _ rfl p rfl ?_; intro b1 w1 N R; have HG1 := H_ (nA HB.out N); have HB := H_ (below_on HB.out N.below); have HR1 := H_ R; clear N R)
   | (guard_target = gL 1; refine step_load rfl _ rfl b1 rfl p HR1.out ?_)
   | (go_at_call 17; refine (lg_Won p _ HP.out (HT.out.on HB.out)).mono ?_; rw [HWo.out]; rintro e w3 ⟨rfl, hb⟩; have HR1 := H_ (HR1.out.later hb); have HB := H_ (below_on HB.out hb); clear hb)
   | (go_at_call 21; refine (lg_going _).mono ?_; rintro e w3 ⟨rfl, hb⟩; have HR1 := H_ (HR1.out.later hb); have HB := H_ (below_on HB.out hb); clear hb)
   | (guard_target = Go.wpList _ _ _ ((⟨some 6, .binOp _ _ _ _ _, _, _, _, _⟩ : Go.Oper) :: _) _ _; refine step_rsn (op := ⟨some 6, .binOp _ _ _ _ _, _, _, _, _⟩) rfl _ _ rfl r (0, 0) rfl rfl HFr.out fit_go _ HX.out ?_))
  go_ret
  exact ⟨_, rfl, World.ownsRow_nil _ _ _ _, HB.out⟩
 ·skip
  go_enter Tryz.func9, Tryz.ntmps9
  go_wp2_with (first
   | (guard_target = gB 1; refine step_box rfl _ rfl p rfl ?_; intro b1 w1 N R; have HG1 := H_ (nA HB.out N); have HB := H_ (below_on HB.out N.below); have HR1 := H_ R; clear N R)
   | (guard_target = gL 1; refine step_load rfl _ rfl b1 rfl p HR1.out ?_)
   | (go_at_call 17; refine (lg_Won p _ HP.out (HT.out.on HB.out)).mono ?_; rw [HWo.out]; rintro e w3 ⟨rfl, hb⟩; have HR1 := H_ (HR1.out.later hb); have HB := H_ (below_on HB.out hb); clear hb)
   | (go_at_call 21; refine (lg_going _).mono ?_; rintro e w3 ⟨rfl, hb⟩; have HR1 := H_ (HR1.out.later hb); have HB := H_ (below_on HB.out hb); clear hb)
   | (guard_target = Go.wpList _ _ _ ((⟨some 6, .binOp _ _ _ _ _, _, _, _, _⟩ : Go.Oper) :: _) _ _; refine step_rsn (op := ⟨some 6, .binOp _ _ _ _ _, _, _, _, _⟩) rfl _ _ rfl r (0, 0) rfl rfl HFr.out fit_go _ HX.out ?_)
   | (go_at_call 22; refine (lg_would p _ HP.out (HT.out.on HB.out)).mono ?_; rintro e w3 ⟨v, rfl, hv, hb⟩; have HV := H_ (mvsO_down hv HB.out.size); have HB := H_ (below_on HB.out hb); clear hb hv))
  go_ret
  exact ⟨_, rfl, HV.out, HB.out⟩
end Go.Proofs.YteblmnbagbdiiaaGreatDoor
