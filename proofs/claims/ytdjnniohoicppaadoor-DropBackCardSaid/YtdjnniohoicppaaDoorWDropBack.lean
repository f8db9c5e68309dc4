/-
  The walk of DropBack.
-/
import Derived.Test.YtdjnniohoicppaaDoorDrE
import Derived.WalkKit
import Derived.OpenShut
namespace Go.Proofs.YtdjnniohoicppaaDoor.dropBack
open Go.RowKit
set_option linter.unusedVariables false
set_option linter.unusedSimpArgs false
theorem drR_upd {p : Nat → Int} (h : DrR p) {i : Nat} (h0 : 66 ≤ i) (h1 : i < 78) {n : Int} (hn : 0 ≤ n ∧ n ≤ 255) : DrR (upd p i n) := by
  refine ⟨fun j hj => ?_, ?_, ?_, fun j h2 h3 => ?_⟩
  · rw [upd_other _ _ _ _ (by omega)]; exact h.bd j hj
  · rw [upd_other _ _ _ _ (by omega)]; exact h.var
  · rw [upd_other _ _ _ _ (by omega)]; exact h.turn
  · by_cases e : j = i
    · subst e; rw [upd_same]; exact hn
    · rw [upd_other _ _ _ _ e]; exact h.pk j h2 h3
theorem menZ_rng {p : Nat → Int} (hp : DrR p) : 0 ≤ menZ p ∧ menZ p ≤ 4000 := by
  have h1 := cntT_rng p 64
  have h2 := helS_rng hp (c := 0) (by decide)
  have h3 := helS_rng hp (c := 1) (by decide)
  unfold menZ; omega
set_option maxRecDepth 100000 in
set_option maxHeartbeats 4000000 in
theorem walk (p : Nat → Int) (c k : Int) (w0 : WfP p) (w1 : (Lit.int .u8 c).wf = true) (w2 : (Lit.int .u8 k).wf = true) (w : World) (hD : TabDb w) (hV : TabVar w) (hKn : TabKn w) : Calls Tryd.prog 7 #[.agg (posA p), .int .u8 c, .int .u8 k] w fun e w' => e = .returned (.bool true) ∧ Below w.heap.size w w' := by
  have HT := Lib.hid (show DrT w from ⟨hV, hD⟩)
  have HK := Lib.hid hKn
  have hp := DrR.of w0
  have HP := Lib.hid hp
  have HW := Lib.hid w0
  have hc := (u8_rng w1).1
  have HC := Lib.hid hc
  clear hD hV hKn w1 w2
  have HB := Lib.hid (Below.refl w.heap.size w)
  cases gr : (hasP c k && decide (p (pkJ c k) < 255))
  · have HAd := Lib.hid (show addP p c k = p by unfold addP; rw [gr]; rfl)
    clear gr w0 hp hc
    cases gv : (p 0 == 2)
    · have HL := Lib.hid (drL_none (p := p) (Or.inr gv))
      go_enter Tryd.func7, Tryd.ntmps7
      go_wp2_with (first
        | (guard_target = Go.wpList _ _ _ ((⟨some 3, .box _ _, _, _, _, _⟩ : Go.Oper) :: _) _ _; refine step_box rfl _ rfl p rfl ?_; intro b3 w1 N R; have HG3 := Lib.hid (show w.heap.size ≤ b3 by have := HB.out.size; have := N.at_; omega); have HB := Lib.hid (below_on HB.out N.below); have HR3 := Lib.hid R; clear N R)
        | (go_at_call 17; refine (addK HAd.out _ HC.out HP.out).mono ?_; rintro e w6 ⟨rfl, hb⟩; have HR3 := Lib.hid (HR3.out.later hb); have HB := Lib.hid (below_on HB.out hb); clear hb)
        | (guard_target = Go.wpList _ _ _ ((⟨some 7, .alloc _, _, _, _, _⟩ : Go.Oper) :: _) _ _; refine step_alloc (op := ⟨some 7, _, _, _, _, _⟩) rfl rfl ?_; intro b7 wn N R; have HG7 := Lib.hid (show w.heap.size ≤ b7 by have := HB.out.size; have := N.at_; omega); have HD37 := Lib.hid (show b3 ≠ b7 by have := HR3.out.lt; have := N.at_; omega); have HR3 := Lib.hid (HR3.out.later N.below); have HR7 := Lib.hid R; have HB := Lib.hid (below_on HB.out N.below); clear N R)
        | (guard_target = Go.wpList _ _ _ ((⟨none, .store _ (.tmp 7) _, _, _, _, _⟩ : Go.Oper) :: _) _ _; refine step_store (op := ⟨none, .store _ (.tmp 7) _, _, _, _, _⟩) rfl _ _ rfl b7 rfl zeroP p rfl HR7.out ?_; intro wn U R; have HR3 := Lib.hid (HR3.out.apart U HD37.out); have HR7 := Lib.hid R; have HB := Lib.hid (HB.out.trans (U.below HG7.out)); clear U R)
        | (guard_target = Go.wpList _ _ _ ((⟨some _, .load _ (.tmp 7), _, _, _, _⟩ : Go.Oper) :: _) _ _; refine step_load rfl _ rfl b7 rfl p HR7.out ?_)
        | (guard_target = Go.wpList _ _ _ ((⟨some 16, .binOp _ _ _ _ _, _, _, _, _⟩ : Go.Oper) :: _) _ _; refine step_cmpn (op := ⟨some 16, .binOp _ _ _ _ _, _, _, _, _⟩) rfl _ _ rfl p p rfl rfl HW.out HW.out true ⟨fun _ => rfl, fun _ => rfl⟩ ?_; simp only [Act.put, pa, pb, pc, Bool.not_false, Bool.not_true])
        | (guard_target = Go.wpList _ _ _ ((⟨some _, .load _ (.tmp 49), _, _, _, _⟩ : Go.Oper) :: _) _ _; refine step_get rfl 5 _ rfl b3 0 rfl Tryd.underlying5 rfl (.int .u8 (p 0)) ?_ ?_; exact HR3.out.cell 0 (by decide))
        | (guard_target = Go.wpList _ _ _ ((⟨some _, .load _ (.tmp 3), _, _, _, _⟩ : Go.Oper) :: _) _ _; refine step_load rfl _ rfl b3 rfl p HR3.out ?_)
        | (go_at_call 10; refine (list_dr p _ HP.out (HT.out.on HB.out)).mono ?_; rintro e w5 ⟨v, rfl, hv, hb⟩; rw [HL.out] at hv; obtain ⟨a5, c5, rfl, _⟩ := mvs_of hv; have HB := Lib.hid (below_on HB.out hb); clear hv hb)
        | (go_at_call 12; refine (dr_awake _ (HT.out.on HB.out) (HK.out.on HB.out)).mono ?_; rintro e w6 ⟨rfl, hb⟩; have HB := Lib.hid (below_on HB.out hb); clear hb))
      go_ret
      exact ⟨rfl, HB.out⟩
    · have HL := Lib.hid (True.intro)
      go_enter Tryd.func7, Tryd.ntmps7
      go_wp2_with (first
        | (guard_target = Go.wpList _ _ _ ((⟨some 3, .box _ _, _, _, _, _⟩ : Go.Oper) :: _) _ _; refine step_box rfl _ rfl p rfl ?_; intro b3 w1 N R; have HG3 := Lib.hid (show w.heap.size ≤ b3 by have := HB.out.size; have := N.at_; omega); have HB := Lib.hid (below_on HB.out N.below); have HR3 := Lib.hid R; clear N R)
        | (go_at_call 17; refine (addK HAd.out _ HC.out HP.out).mono ?_; rintro e w6 ⟨rfl, hb⟩; have HR3 := Lib.hid (HR3.out.later hb); have HB := Lib.hid (below_on HB.out hb); clear hb)
        | (guard_target = Go.wpList _ _ _ ((⟨some 7, .alloc _, _, _, _, _⟩ : Go.Oper) :: _) _ _; refine step_alloc (op := ⟨some 7, _, _, _, _, _⟩) rfl rfl ?_; intro b7 wn N R; have HG7 := Lib.hid (show w.heap.size ≤ b7 by have := HB.out.size; have := N.at_; omega); have HD37 := Lib.hid (show b3 ≠ b7 by have := HR3.out.lt; have := N.at_; omega); have HR3 := Lib.hid (HR3.out.later N.below); have HR7 := Lib.hid R; have HB := Lib.hid (below_on HB.out N.below); clear N R)
        | (guard_target = Go.wpList _ _ _ ((⟨none, .store _ (.tmp 7) _, _, _, _, _⟩ : Go.Oper) :: _) _ _; refine step_store (op := ⟨none, .store _ (.tmp 7) _, _, _, _, _⟩) rfl _ _ rfl b7 rfl zeroP p rfl HR7.out ?_; intro wn U R; have HR3 := Lib.hid (HR3.out.apart U HD37.out); have HR7 := Lib.hid R; have HB := Lib.hid (HB.out.trans (U.below HG7.out)); clear U R)
        | (guard_target = Go.wpList _ _ _ ((⟨some _, .load _ (.tmp 7), _, _, _, _⟩ : Go.Oper) :: _) _ _; refine step_load rfl _ rfl b7 rfl p HR7.out ?_)
        | (guard_target = Go.wpList _ _ _ ((⟨some 16, .binOp _ _ _ _ _, _, _, _, _⟩ : Go.Oper) :: _) _ _; refine step_cmpn (op := ⟨some 16, .binOp _ _ _ _ _, _, _, _, _⟩) rfl _ _ rfl p p rfl rfl HW.out HW.out true ⟨fun _ => rfl, fun _ => rfl⟩ ?_; simp only [Act.put, pa, pb, pc, Bool.not_false, Bool.not_true])
        | (guard_target = Go.wpList _ _ _ ((⟨some _, .load _ (.tmp 49), _, _, _, _⟩ : Go.Oper) :: _) _ _; refine step_get rfl 5 _ rfl b3 0 rfl Tryd.underlying5 rfl (.int .u8 (p 0)) ?_ ?_; exact HR3.out.cell 0 (by decide))
        | (guard_target = Go.wpList _ _ _ ((⟨some _, .load _ (.tmp 3), _, _, _, _⟩ : Go.Oper) :: _) _ _; refine step_load rfl _ rfl b3 rfl p HR3.out ?_)
        | (go_at_call 10; refine (list_dr p _ HP.out (HT.out.on HB.out)).mono ?_; rintro e w5 ⟨v, rfl, hv, hb⟩; rw [HL.out] at hv; obtain ⟨a5, c5, rfl, _⟩ := mvs_of hv; have HB := Lib.hid (below_on HB.out hb); clear hv hb)
        | (go_at_call 12; refine (dr_awake _ (HT.out.on HB.out) (HK.out.on HB.out)).mono ?_; rintro e w6 ⟨rfl, hb⟩; have HB := Lib.hid (below_on HB.out hb); clear hb))
      go_ret
      exact ⟨rfl, HB.out⟩
  · rw [Bool.and_eq_true] at gr
    obtain ⟨a, b, rfl, rfl, ha, hb1, hb6⟩ := hasP_nat hc gr.1
    have hx2 := of_decide_eq_true gr.2
    rw [pkJ_at] at hx2
    have hxr := hp.pk (66 + a * 6 + b) (by omega) (by omega)
    obtain ⟨x, hx⟩ : ∃ x, p (66 + a * 6 + b) = x := ⟨_, rfl⟩
    rw [hx] at hx2 hxr
    obtain ⟨q, hq⟩ : ∃ q, upd p (66 + a * 6 + b) (x + 1) = q := ⟨_, rfl⟩
    have HAd := Lib.hid (show addP p (a : Int) (b : Int) = q by unfold addP; rw [gr.1, gr.2, pkJ_at, hx]; exact hq)
    have HQ := Lib.hid (show DrR q by rw [← hq]; exact drR_upd hp (by omega) (by omega) (by omega))
    have HWq := Lib.hid (show WfP q by rw [← hq]; exact wfP_pk w0 (by omega) (by omega) (by omega))
    have HNe := Lib.hid (show posA q ≠ posA p by rw [← hq]; exact upd_ne (by omega) (by omega))
    have hqv : helC q (a : Int) (b : Int) = x + 1 := by rw [← hq, helC_upd ha ⟨hb1, hb6⟩ hb6, beq_self_eq_true]; rfl
    have HNo := Lib.hid (show (helC q (a : Int) (b : Int) == 0) = false by rw [hqv, beq_eq_false_iff_ne]; omega)
    have HTk := Lib.hid (show takP q (a : Int) (b : Int) = p by
      unfold takP
      rw [HNo.out, cond_false, pkJ_at, ← hq, upd_same, show x + 1 - 1 = p (66 + a * 6 + b) by omega]
      exact upd_back _ _ _)
    have hn := helS_rng hp hc
    have hm := menZ_rng hp
    obtain ⟨n, hn0⟩ : ∃ n, helS p (a : Int) = n := ⟨_, rfl⟩
    obtain ⟨m, hm0⟩ : ∃ m, menZ p = m := ⟨_, rfl⟩
    have HHp := Lib.hid hn0
    have HMp := Lib.hid hm0
    have HHq := Lib.hid (show helS q (a : Int) = n + 1 by rw [← hq, helS_upd ha ⟨hb1, hb6⟩, hn0, hx]; omega)
    have HMq := Lib.hid (show menZ q = m + 1 by rw [← hq, menZ_upd ha ⟨hb1, hb6⟩, hm0, hx]; omega)
    rw [hn0] at hn
    rw [hm0] at hm
    clear hn0 hm0 hqv hq hx gr w0 hp hc
    cases gv : (p 0 == 2)
    · have HL := Lib.hid (drL_none (p := p) (Or.inr gv))
      go_enter Tryd.func7, Tryd.ntmps7
      go_wp2_with (first
        | (guard_target = Go.wpList _ _ _ ((⟨some 3, .box _ _, _, _, _, _⟩ : Go.Oper) :: _) _ _; refine step_box rfl _ rfl p rfl ?_; intro b3 w1 N R; have HG3 := Lib.hid (show w.heap.size ≤ b3 by have := HB.out.size; have := N.at_; omega); have HB := Lib.hid (below_on HB.out N.below); have HR3 := Lib.hid R; clear N R)
        | (guard_target = Go.wpList _ _ _ ((⟨some _, .load _ (.tmp 3), _, _, _, _⟩ : Go.Oper) :: _) _ _; refine step_load rfl _ rfl b3 rfl p HR3.out ?_)
        | (go_at_call 17; refine (addK HAd.out _ HC.out HP.out).mono ?_; rintro e w6 ⟨rfl, hb⟩; have HR3 := Lib.hid (HR3.out.later hb); have HB := Lib.hid (below_on HB.out hb); clear hb)
        | (guard_target = Go.wpList _ _ _ ((⟨some 7, .alloc _, _, _, _, _⟩ : Go.Oper) :: _) _ _; refine step_alloc (op := ⟨some 7, _, _, _, _, _⟩) rfl rfl ?_; intro b7 wn N R; have HG7 := Lib.hid (show w.heap.size ≤ b7 by have := HB.out.size; have := N.at_; omega); have HD37 := Lib.hid (show b3 ≠ b7 by have := HR3.out.lt; have := N.at_; omega); have HR3 := Lib.hid (HR3.out.later N.below); have HR7 := Lib.hid R; have HB := Lib.hid (below_on HB.out N.below); clear N R)
        | (guard_target = Go.wpList _ _ _ ((⟨none, .store _ (.tmp 7) _, _, _, _, _⟩ : Go.Oper) :: _) _ _; refine step_store (op := ⟨none, .store _ (.tmp 7) _, _, _, _, _⟩) rfl _ _ rfl b7 rfl zeroP q rfl HR7.out ?_; intro wn U R; have HR3 := Lib.hid (HR3.out.apart U HD37.out); have HR7 := Lib.hid R; have HB := Lib.hid (HB.out.trans (U.below HG7.out)); clear U R)
        | (guard_target = Go.wpList _ _ _ ((⟨some _, .load _ (.tmp 7), _, _, _, _⟩ : Go.Oper) :: _) _ _; refine step_load rfl _ rfl b7 rfl q HR7.out ?_)
        | (guard_target = Go.wpList _ _ _ ((⟨some 16, .binOp _ _ _ _ _, _, _, _, _⟩ : Go.Oper) :: _) _ _; refine step_cmpn (op := ⟨some 16, .binOp _ _ _ _ _, _, _, _, _⟩) rfl _ _ rfl q p rfl rfl HWq.out HW.out false ⟨fun h => Bool.noConfusion h, fun h => absurd h HNe.out⟩ ?_; simp only [Act.put, pa, pb, pc, Bool.not_false, Bool.not_true])
        | (go_at_call 18; refine (takK HTk.out HNo.out _ HC.out HQ.out).mono ?_; rintro e w6 ⟨rfl, hb⟩; have HR3 := Lib.hid (HR3.out.later hb); have HR7 := Lib.hid (HR7.out.later hb); have HB := Lib.hid (below_on HB.out hb); clear hb)
        | (guard_target = Go.wpList _ _ _ ((⟨some 8, .alloc _, _, _, _, _⟩ : Go.Oper) :: _) _ _; refine step_alloc (op := ⟨some 8, _, _, _, _, _⟩) rfl rfl ?_; intro b8 wn N R; have HG8 := Lib.hid (show w.heap.size ≤ b8 by have := HB.out.size; have := N.at_; omega); have HD38 := Lib.hid (show b3 ≠ b8 by have := HR3.out.lt; have := N.at_; omega); have HD78 := Lib.hid (show b7 ≠ b8 by have := HR7.out.lt; have := N.at_; omega); have HR3 := Lib.hid (HR3.out.later N.below); have HR7 := Lib.hid (HR7.out.later N.below); have HR8 := Lib.hid R; have HB := Lib.hid (below_on HB.out N.below); clear N R)
        | (guard_target = Go.wpList _ _ _ ((⟨none, .store _ (.tmp 8) _, _, _, _, _⟩ : Go.Oper) :: _) _ _; refine step_store (op := ⟨none, .store _ (.tmp 8) _, _, _, _, _⟩) rfl _ _ rfl b8 rfl zeroP p rfl HR8.out ?_; intro wn U R; have HR3 := Lib.hid (HR3.out.apart U HD38.out); have HR7 := Lib.hid (HR7.out.apart U HD78.out); have HR8 := Lib.hid R; have HB := Lib.hid (HB.out.trans (U.below HG8.out)); clear U R))
      refine late_begin 25 (by kernel_rfl) ?_
      refine ltk 0 (by kernel_rfl) (fun _ _ d _ _ h => by cases d <;> exact h) (fun o ho => ?_)
      simp only [qa, qb, qc, qd] at ho; subst ho
      apply Exists.intro
      refine ⟨Or.inl ⟨by kernel_rfl, fun w' hl => Or.inl ?_⟩, ?_⟩
      · (go_simp; try with_reducible rfl)
      simp only [Act.put, pa, pb, pc]
      refine ltk 1 (by kernel_rfl) (fun _ _ d _ _ h => by cases d <;> exact h) (fun o ho => ?_)
      simp only [qa, qb, qc, qd] at ho; subst ho
      apply Exists.intro
      refine ⟨Or.inl ⟨by kernel_rfl, fun w' hl => Or.inl ?_⟩, ?_⟩
      · (go_simp; try with_reducible rfl)
      simp only [Act.put, pa, pb, pc]
      refine ltk 2 (by kernel_rfl) (fun _ _ d _ _ h => by cases d <;> exact h) (fun o ho => ?_)
      simp only [qa, qb, qc, qd] at ho; subst ho
      apply Exists.intro
      refine ⟨Or.inl ⟨by kernel_rfl, fun w' hl => Or.inl ?_⟩, ?_⟩
      · (go_simp; try with_reducible rfl)
      simp only [Act.put, pa, pb, pc]
      refine ltk 3 (by kernel_rfl) (fun _ _ d _ _ h => by cases d <;> exact h) (fun o ho => ?_)
      simp only [qa, qb, qc, qd] at ho; subst ho
      refine ⟨_, Or.inl ⟨by kernel_rfl, fun w' hl => Or.inl (run_load _ rfl _ rfl (p) (HR8.out.later hl))⟩, ?_⟩
      simp only [Act.put, pa, pb, pc]
      refine ltk 4 (by kernel_rfl) (fun _ _ d _ _ h => by cases d <;> exact h) (fun o ho => ?_)
      simp only [qa, qb, qc, qd] at ho; subst ho
      refine ⟨_, Or.inl ⟨by kernel_rfl, fun w' hl => Or.inl (run_load _ rfl _ rfl (p) (HR3.out.later hl))⟩, ?_⟩
      simp only [Act.put, pa, pb, pc]
      refine ltk 5 (by kernel_rfl) (fun _ _ d _ _ h => by cases d <;> exact h) (fun o ho => ?_)
      simp only [qa, qb, qc, qd] at ho; subst ho
      refine ⟨.bool false, Or.inl ⟨by kernel_rfl, fun w' hl => Or.inl (run_neq _ _ rfl p p rfl rfl HW.out rfl)⟩, ?_⟩
      simp only [Act.put, pa, pb, pc]
      refine ltk 6 (by kernel_rfl) (fun _ _ d _ _ h => by cases d <;> exact h) (fun o ho => ?_)
      simp only [qa, qb, qc, qd] at ho; subst ho
      apply Exists.intro
      refine ⟨Or.inl ⟨by kernel_rfl, fun w' hl => Or.inl ?_⟩, ?_⟩
      · (go_simp; try with_reducible rfl)
      simp only [Act.put, pa, pb, pc]
      refine ltk 7 (by kernel_rfl) (fun _ _ d _ _ h => by cases d <;> exact h) (fun o ho => ?_)
      simp only [qa, qb, qc, qd] at ho; subst ho
      apply Exists.intro
      refine ⟨Or.inl ⟨by kernel_rfl, fun w' hl => Or.inl ?_⟩, ?_⟩
      · (go_simp; try with_reducible rfl)
      simp only [Act.put, pa, pb, pc]
      refine ltk 8 (by kernel_rfl) (fun _ _ d _ _ h => by cases d <;> exact h) (fun o ho => ?_)
      simp only [qa, qb, qc, qd] at ho; subst ho
      refine ⟨_, Or.inl ⟨by kernel_rfl, fun w' hl => Or.inl (run_load _ rfl _ rfl (q) (HR7.out.later hl))⟩, ?_⟩
      simp only [Act.put, pa, pb, pc]
      refine ltk 9 (by kernel_rfl) (fun _ _ d _ _ h => by cases d <;> exact h) (fun o ho => ?_)
      simp only [qa, qb, qc, qd] at ho; subst ho
      apply Exists.intro
      refine ⟨Or.inl ⟨by kernel_rfl, fun w' hl => Or.inl ?_⟩, ?_⟩
      · (go_simp; try with_reducible rfl)
      simp only [Act.put, pa, pb, pc]
      refine ltk 11 (by kernel_rfl) (fun _ _ d _ _ h => by cases d <;> exact h) (fun o ho => ?_)
      simp only [qa, qb, qc, qd] at ho; subst ho
      refine ⟨_, Or.inl ⟨by kernel_rfl, fun w' hl => Or.inl (run_load _ rfl _ rfl (p) (HR3.out.later hl))⟩, ?_⟩
      simp only [Act.put, pa, pb, pc]
      refine ltk 12 (by kernel_rfl) (fun _ _ d _ _ h => by cases d <;> exact h) (fun o ho => ?_)
      simp only [qa, qb, qc, qd] at ho; subst ho
      apply Exists.intro
      refine ⟨Or.inl ⟨by kernel_rfl, fun w' hl => Or.inl ?_⟩, ?_⟩
      · (go_simp; try with_reducible rfl)
      simp only [Act.put, pa, pb, pc]
      refine late_one 10 (by kernel_rfl) (by kernel_rfl) (fun o ho => ?_)
      simp only [qa, qb, qc, qd] at ho; subst ho
      refine ⟨by kernel_rfl, fun wn hl K hK => ?_⟩
      have HR3 := Lib.hid (HR3.out.later hl); have HR7 := Lib.hid (HR7.out.later hl); have HR8 := Lib.hid (HR8.out.later hl); have HB := Lib.hid (below_on HB.out hl); clear hl
      refine wp_enter _ _ (by go_simp; exact ⟨rfl, rfl⟩) ?_
      refine (heldK HHq.out _ HC.out HQ.out).mono ?_; rintro e wm ⟨rfl, hb⟩; refine ⟨_, rfl, ?_⟩
      refine hK.out _ _ hb ?_
      have HR3 := Lib.hid (HR3.out.later hb); have HR7 := Lib.hid (HR7.out.later hb); have HR8 := Lib.hid (HR8.out.later hb); have HB := Lib.hid (below_on HB.out hb); clear hb
      clear hK K
      simp only [Act.put, pa, pb, pc]
      refine late_one 13 (by kernel_rfl) (by kernel_rfl) (fun o ho => ?_)
      simp only [qa, qb, qc, qd] at ho; subst ho
      refine ⟨by kernel_rfl, fun wn hl K hK => ?_⟩
      have HR3 := Lib.hid (HR3.out.later hl); have HR7 := Lib.hid (HR7.out.later hl); have HR8 := Lib.hid (HR8.out.later hl); have HB := Lib.hid (below_on HB.out hl); clear hl
      refine wp_enter _ _ (by go_simp; exact ⟨rfl, rfl⟩) ?_
      refine (heldK HHp.out _ HC.out HP.out).mono ?_; rintro e wm ⟨rfl, hb⟩; refine ⟨_, rfl, ?_⟩
      refine hK.out _ _ hb ?_
      have HR3 := Lib.hid (HR3.out.later hb); have HR7 := Lib.hid (HR7.out.later hb); have HR8 := Lib.hid (HR8.out.later hb); have HB := Lib.hid (below_on HB.out hb); clear hb
      clear hK K
      simp only [Act.put, pa, pb, pc]
      refine ltk 14 (by kernel_rfl) (fun _ _ d _ _ h => by cases d <;> exact h) (fun o ho => ?_)
      simp only [qa, qb, qc, qd] at ho; subst ho
      refine ⟨.int .i64 (n + 1), Or.inl ⟨by kernel_rfl, fun w' hl => Or.inl ?_⟩, ?_⟩
      · go_simp; exact IntWalk.i64_in _ (by omega)
      simp only [Act.put, pa, pb, pc]
      refine ltk 15 (by kernel_rfl) (fun _ _ d _ _ h => by cases d <;> exact h) (fun o ho => ?_)
      simp only [qa, qb, qc, qd] at ho; subst ho
      refine ⟨.bool false, Or.inl ⟨by kernel_rfl, fun w' hl => Or.inl ?_⟩, ?_⟩
      · go_simp; try simp
      simp only [Act.put, pa, pb, pc]
      refine ltk 16 (by kernel_rfl) (fun _ _ d _ _ h => by cases d <;> exact h) (fun o ho => ?_)
      simp only [qa, qb, qc, qd] at ho; subst ho
      apply Exists.intro
      refine ⟨Or.inl ⟨by kernel_rfl, fun w' hl => Or.inl ?_⟩, ?_⟩
      · (go_simp; try with_reducible rfl)
      simp only [Act.put, pa, pb, pc]
      refine ltk 17 (by kernel_rfl) (fun _ _ d _ _ h => by cases d <;> exact h) (fun o ho => ?_)
      simp only [qa, qb, qc, qd] at ho; subst ho
      apply Exists.intro
      refine ⟨Or.inl ⟨by kernel_rfl, fun w' hl => Or.inl ?_⟩, ?_⟩
      · (go_simp; try with_reducible rfl)
      simp only [Act.put, pa, pb, pc]
      refine ltk 18 (by kernel_rfl) (fun _ _ d _ _ h => by cases d <;> exact h) (fun o ho => ?_)
      simp only [qa, qb, qc, qd] at ho; subst ho
      refine ⟨_, Or.inl ⟨by kernel_rfl, fun w' hl => Or.inl (run_load _ rfl _ rfl (q) (HR7.out.later hl))⟩, ?_⟩
      simp only [Act.put, pa, pb, pc]
      refine ltk 20 (by kernel_rfl) (fun _ _ d _ _ h => by cases d <;> exact h) (fun o ho => ?_)
      simp only [qa, qb, qc, qd] at ho; subst ho
      refine ⟨_, Or.inl ⟨by kernel_rfl, fun w' hl => Or.inl (run_load _ rfl _ rfl (p) (HR3.out.later hl))⟩, ?_⟩
      simp only [Act.put, pa, pb, pc]
      refine late_one 19 (by kernel_rfl) (by kernel_rfl) (fun o ho => ?_)
      simp only [qa, qb, qc, qd] at ho; subst ho
      refine ⟨by kernel_rfl, fun wn hl K hK => ?_⟩
      have HR3 := Lib.hid (HR3.out.later hl); have HR7 := Lib.hid (HR7.out.later hl); have HR8 := Lib.hid (HR8.out.later hl); have HB := Lib.hid (below_on HB.out hl); clear hl
      refine wp_enter _ _ (by go_simp; exact ⟨rfl, rfl⟩) ?_
      refine (menK HMq.out _ HQ.out).mono ?_; rintro e wm ⟨rfl, hb⟩; refine ⟨_, rfl, ?_⟩
      refine hK.out _ _ hb ?_
      have HR3 := Lib.hid (HR3.out.later hb); have HR7 := Lib.hid (HR7.out.later hb); have HR8 := Lib.hid (HR8.out.later hb); have HB := Lib.hid (below_on HB.out hb); clear hb
      clear hK K
      simp only [Act.put, pa, pb, pc]
      refine late_one 21 (by kernel_rfl) (by kernel_rfl) (fun o ho => ?_)
      simp only [qa, qb, qc, qd] at ho; subst ho
      refine ⟨by kernel_rfl, fun wn hl K hK => ?_⟩
      have HR3 := Lib.hid (HR3.out.later hl); have HR7 := Lib.hid (HR7.out.later hl); have HR8 := Lib.hid (HR8.out.later hl); have HB := Lib.hid (below_on HB.out hl); clear hl
      refine wp_enter _ _ (by go_simp; exact ⟨rfl, rfl⟩) ?_
      refine (menK HMp.out _ HP.out).mono ?_; rintro e wm ⟨rfl, hb⟩; refine ⟨_, rfl, ?_⟩
      refine hK.out _ _ hb ?_
      have HR3 := Lib.hid (HR3.out.later hb); have HR7 := Lib.hid (HR7.out.later hb); have HR8 := Lib.hid (HR8.out.later hb); have HB := Lib.hid (below_on HB.out hb); clear hb
      clear hK K
      simp only [Act.put, pa, pb, pc]
      refine ltk 22 (by kernel_rfl) (fun _ _ d _ _ h => by cases d <;> exact h) (fun o ho => ?_)
      simp only [qa, qb, qc, qd] at ho; subst ho
      refine ⟨.int .i64 (m + 1), Or.inl ⟨by kernel_rfl, fun w' hl => Or.inl ?_⟩, ?_⟩
      · go_simp; exact IntWalk.i64_in _ (by omega)
      simp only [Act.put, pa, pb, pc]
      refine ltk 23 (by kernel_rfl) (fun _ _ d _ _ h => by cases d <;> exact h) (fun o ho => ?_)
      simp only [qa, qb, qc, qd] at ho; subst ho
      refine ⟨.bool false, Or.inl ⟨by kernel_rfl, fun w' hl => Or.inl ?_⟩, ?_⟩
      · go_simp; try simp
      simp only [Act.put, pa, pb, pc]
      refine ltk 24 (by kernel_rfl) (fun _ _ d _ _ h => by cases d <;> exact h) (fun o ho => ?_)
      simp only [qa, qb, qc, qd] at ho; subst ho
      apply Exists.intro
      refine ⟨Or.inl ⟨by kernel_rfl, fun w' hl => Or.inl ?_⟩, ?_⟩
      · (go_simp; try with_reducible rfl)
      simp only [Act.put, pa, pb, pc]
      refine late_end (by kernel_rfl) (fun wn hl => ?_)
      have HR3 := Lib.hid (HR3.out.later hl); have HR7 := Lib.hid (HR7.out.later hl); have HR8 := Lib.hid (HR8.out.later hl); have HB := Lib.hid (below_on HB.out hl); clear hl
      go_wp2_with (first
        | (guard_target = Go.wpList _ _ _ ((⟨some _, .load _ (.tmp 49), _, _, _, _⟩ : Go.Oper) :: _) _ _; refine step_get rfl 5 _ rfl b3 0 rfl Tryd.underlying5 rfl (.int .u8 (p 0)) ?_ ?_; exact HR3.out.cell 0 (by decide))
        | (guard_target = Go.wpList _ _ _ ((⟨some _, .load _ (.tmp 3), _, _, _, _⟩ : Go.Oper) :: _) _ _; refine step_load rfl _ rfl b3 rfl p HR3.out ?_)
        | (go_at_call 10; refine (list_dr p _ HP.out (HT.out.on HB.out)).mono ?_; rintro e w5 ⟨v, rfl, hv, hb⟩; rw [HL.out] at hv; obtain ⟨a5, c5, rfl, _⟩ := mvs_of hv; have HB := Lib.hid (below_on HB.out hb); clear hv hb)
        | (go_at_call 12; refine (dr_awake _ (HT.out.on HB.out) (HK.out.on HB.out)).mono ?_; rintro e w6 ⟨rfl, hb⟩; have HB := Lib.hid (below_on HB.out hb); clear hb))
      go_ret
      exact ⟨rfl, HB.out⟩
    · have HL := Lib.hid (True.intro)
      go_enter Tryd.func7, Tryd.ntmps7
      go_wp2_with (first
        | (guard_target = Go.wpList _ _ _ ((⟨some 3, .box _ _, _, _, _, _⟩ : Go.Oper) :: _) _ _; refine step_box rfl _ rfl p rfl ?_; intro b3 w1 N R; have HG3 := Lib.hid (show w.heap.size ≤ b3 by have := HB.out.size; have := N.at_; omega); have HB := Lib.hid (below_on HB.out N.below); have HR3 := Lib.hid R; clear N R)
        | (guard_target = Go.wpList _ _ _ ((⟨some _, .load _ (.tmp 3), _, _, _, _⟩ : Go.Oper) :: _) _ _; refine step_load rfl _ rfl b3 rfl p HR3.out ?_)
        | (go_at_call 17; refine (addK HAd.out _ HC.out HP.out).mono ?_; rintro e w6 ⟨rfl, hb⟩; have HR3 := Lib.hid (HR3.out.later hb); have HB := Lib.hid (below_on HB.out hb); clear hb)
        | (guard_target = Go.wpList _ _ _ ((⟨some 7, .alloc _, _, _, _, _⟩ : Go.Oper) :: _) _ _; refine step_alloc (op := ⟨some 7, _, _, _, _, _⟩) rfl rfl ?_; intro b7 wn N R; have HG7 := Lib.hid (show w.heap.size ≤ b7 by have := HB.out.size; have := N.at_; omega); have HD37 := Lib.hid (show b3 ≠ b7 by have := HR3.out.lt; have := N.at_; omega); have HR3 := Lib.hid (HR3.out.later N.below); have HR7 := Lib.hid R; have HB := Lib.hid (below_on HB.out N.below); clear N R)
        | (guard_target = Go.wpList _ _ _ ((⟨none, .store _ (.tmp 7) _, _, _, _, _⟩ : Go.Oper) :: _) _ _; refine step_store (op := ⟨none, .store _ (.tmp 7) _, _, _, _, _⟩) rfl _ _ rfl b7 rfl zeroP q rfl HR7.out ?_; intro wn U R; have HR3 := Lib.hid (HR3.out.apart U HD37.out); have HR7 := Lib.hid R; have HB := Lib.hid (HB.out.trans (U.below HG7.out)); clear U R)
        | (guard_target = Go.wpList _ _ _ ((⟨some _, .load _ (.tmp 7), _, _, _, _⟩ : Go.Oper) :: _) _ _; refine step_load rfl _ rfl b7 rfl q HR7.out ?_)
        | (guard_target = Go.wpList _ _ _ ((⟨some 16, .binOp _ _ _ _ _, _, _, _, _⟩ : Go.Oper) :: _) _ _; refine step_cmpn (op := ⟨some 16, .binOp _ _ _ _ _, _, _, _, _⟩) rfl _ _ rfl q p rfl rfl HWq.out HW.out false ⟨fun h => Bool.noConfusion h, fun h => absurd h HNe.out⟩ ?_; simp only [Act.put, pa, pb, pc, Bool.not_false, Bool.not_true])
        | (go_at_call 18; refine (takK HTk.out HNo.out _ HC.out HQ.out).mono ?_; rintro e w6 ⟨rfl, hb⟩; have HR3 := Lib.hid (HR3.out.later hb); have HR7 := Lib.hid (HR7.out.later hb); have HB := Lib.hid (below_on HB.out hb); clear hb)
        | (guard_target = Go.wpList _ _ _ ((⟨some 8, .alloc _, _, _, _, _⟩ : Go.Oper) :: _) _ _; refine step_alloc (op := ⟨some 8, _, _, _, _, _⟩) rfl rfl ?_; intro b8 wn N R; have HG8 := Lib.hid (show w.heap.size ≤ b8 by have := HB.out.size; have := N.at_; omega); have HD38 := Lib.hid (show b3 ≠ b8 by have := HR3.out.lt; have := N.at_; omega); have HD78 := Lib.hid (show b7 ≠ b8 by have := HR7.out.lt; have := N.at_; omega); have HR3 := Lib.hid (HR3.out.later N.below); have HR7 := Lib.hid (HR7.out.later N.below); have HR8 := Lib.hid R; have HB := Lib.hid (below_on HB.out N.below); clear N R)
        | (guard_target = Go.wpList _ _ _ ((⟨none, .store _ (.tmp 8) _, _, _, _, _⟩ : Go.Oper) :: _) _ _; refine step_store (op := ⟨none, .store _ (.tmp 8) _, _, _, _, _⟩) rfl _ _ rfl b8 rfl zeroP p rfl HR8.out ?_; intro wn U R; have HR3 := Lib.hid (HR3.out.apart U HD38.out); have HR7 := Lib.hid (HR7.out.apart U HD78.out); have HR8 := Lib.hid R; have HB := Lib.hid (HB.out.trans (U.below HG8.out)); clear U R))
      refine late_begin 25 (by kernel_rfl) ?_
      refine ltk 0 (by kernel_rfl) (fun _ _ d _ _ h => by cases d <;> exact h) (fun o ho => ?_)
      simp only [qa, qb, qc, qd] at ho; subst ho
      apply Exists.intro
      refine ⟨Or.inl ⟨by kernel_rfl, fun w' hl => Or.inl ?_⟩, ?_⟩
      · (go_simp; try with_reducible rfl)
      simp only [Act.put, pa, pb, pc]
      refine ltk 1 (by kernel_rfl) (fun _ _ d _ _ h => by cases d <;> exact h) (fun o ho => ?_)
      simp only [qa, qb, qc, qd] at ho; subst ho
      apply Exists.intro
      refine ⟨Or.inl ⟨by kernel_rfl, fun w' hl => Or.inl ?_⟩, ?_⟩
      · (go_simp; try with_reducible rfl)
      simp only [Act.put, pa, pb, pc]
      refine ltk 2 (by kernel_rfl) (fun _ _ d _ _ h => by cases d <;> exact h) (fun o ho => ?_)
      simp only [qa, qb, qc, qd] at ho; subst ho
      apply Exists.intro
      refine ⟨Or.inl ⟨by kernel_rfl, fun w' hl => Or.inl ?_⟩, ?_⟩
      · (go_simp; try with_reducible rfl)
      simp only [Act.put, pa, pb, pc]
      refine ltk 3 (by kernel_rfl) (fun _ _ d _ _ h => by cases d <;> exact h) (fun o ho => ?_)
      simp only [qa, qb, qc, qd] at ho; subst ho
      refine ⟨_, Or.inl ⟨by kernel_rfl, fun w' hl => Or.inl (run_load _ rfl _ rfl (p) (HR8.out.later hl))⟩, ?_⟩
      simp only [Act.put, pa, pb, pc]
      refine ltk 4 (by kernel_rfl) (fun _ _ d _ _ h => by cases d <;> exact h) (fun o ho => ?_)
      simp only [qa, qb, qc, qd] at ho; subst ho
      refine ⟨_, Or.inl ⟨by kernel_rfl, fun w' hl => Or.inl (run_load _ rfl _ rfl (p) (HR3.out.later hl))⟩, ?_⟩
      simp only [Act.put, pa, pb, pc]
      refine ltk 5 (by kernel_rfl) (fun _ _ d _ _ h => by cases d <;> exact h) (fun o ho => ?_)
      simp only [qa, qb, qc, qd] at ho; subst ho
      refine ⟨.bool false, Or.inl ⟨by kernel_rfl, fun w' hl => Or.inl (run_neq _ _ rfl p p rfl rfl HW.out rfl)⟩, ?_⟩
      simp only [Act.put, pa, pb, pc]
      refine ltk 6 (by kernel_rfl) (fun _ _ d _ _ h => by cases d <;> exact h) (fun o ho => ?_)
      simp only [qa, qb, qc, qd] at ho; subst ho
      apply Exists.intro
      refine ⟨Or.inl ⟨by kernel_rfl, fun w' hl => Or.inl ?_⟩, ?_⟩
      · (go_simp; try with_reducible rfl)
      simp only [Act.put, pa, pb, pc]
      refine ltk 7 (by kernel_rfl) (fun _ _ d _ _ h => by cases d <;> exact h) (fun o ho => ?_)
      simp only [qa, qb, qc, qd] at ho; subst ho
      apply Exists.intro
      refine ⟨Or.inl ⟨by kernel_rfl, fun w' hl => Or.inl ?_⟩, ?_⟩
      · (go_simp; try with_reducible rfl)
      simp only [Act.put, pa, pb, pc]
      refine ltk 8 (by kernel_rfl) (fun _ _ d _ _ h => by cases d <;> exact h) (fun o ho => ?_)
      simp only [qa, qb, qc, qd] at ho; subst ho
      refine ⟨_, Or.inl ⟨by kernel_rfl, fun w' hl => Or.inl (run_load _ rfl _ rfl (q) (HR7.out.later hl))⟩, ?_⟩
      simp only [Act.put, pa, pb, pc]
      refine ltk 9 (by kernel_rfl) (fun _ _ d _ _ h => by cases d <;> exact h) (fun o ho => ?_)
      simp only [qa, qb, qc, qd] at ho; subst ho
      apply Exists.intro
      refine ⟨Or.inl ⟨by kernel_rfl, fun w' hl => Or.inl ?_⟩, ?_⟩
      · (go_simp; try with_reducible rfl)
      simp only [Act.put, pa, pb, pc]
      refine ltk 11 (by kernel_rfl) (fun _ _ d _ _ h => by cases d <;> exact h) (fun o ho => ?_)
      simp only [qa, qb, qc, qd] at ho; subst ho
      refine ⟨_, Or.inl ⟨by kernel_rfl, fun w' hl => Or.inl (run_load _ rfl _ rfl (p) (HR3.out.later hl))⟩, ?_⟩
      simp only [Act.put, pa, pb, pc]
      refine ltk 12 (by kernel_rfl) (fun _ _ d _ _ h => by cases d <;> exact h) (fun o ho => ?_)
      simp only [qa, qb, qc, qd] at ho; subst ho
      apply Exists.intro
      refine ⟨Or.inl ⟨by kernel_rfl, fun w' hl => Or.inl ?_⟩, ?_⟩
      · (go_simp; try with_reducible rfl)
      simp only [Act.put, pa, pb, pc]
      refine late_one 10 (by kernel_rfl) (by kernel_rfl) (fun o ho => ?_)
      simp only [qa, qb, qc, qd] at ho; subst ho
      refine ⟨by kernel_rfl, fun wn hl K hK => ?_⟩
      have HR3 := Lib.hid (HR3.out.later hl); have HR7 := Lib.hid (HR7.out.later hl); have HR8 := Lib.hid (HR8.out.later hl); have HB := Lib.hid (below_on HB.out hl); clear hl
      refine wp_enter _ _ (by go_simp; exact ⟨rfl, rfl⟩) ?_
      refine (heldK HHq.out _ HC.out HQ.out).mono ?_; rintro e wm ⟨rfl, hb⟩; refine ⟨_, rfl, ?_⟩
      refine hK.out _ _ hb ?_
      have HR3 := Lib.hid (HR3.out.later hb); have HR7 := Lib.hid (HR7.out.later hb); have HR8 := Lib.hid (HR8.out.later hb); have HB := Lib.hid (below_on HB.out hb); clear hb
      clear hK K
      simp only [Act.put, pa, pb, pc]
      refine late_one 13 (by kernel_rfl) (by kernel_rfl) (fun o ho => ?_)
      simp only [qa, qb, qc, qd] at ho; subst ho
      refine ⟨by kernel_rfl, fun wn hl K hK => ?_⟩
      have HR3 := Lib.hid (HR3.out.later hl); have HR7 := Lib.hid (HR7.out.later hl); have HR8 := Lib.hid (HR8.out.later hl); have HB := Lib.hid (below_on HB.out hl); clear hl
      refine wp_enter _ _ (by go_simp; exact ⟨rfl, rfl⟩) ?_
      refine (heldK HHp.out _ HC.out HP.out).mono ?_; rintro e wm ⟨rfl, hb⟩; refine ⟨_, rfl, ?_⟩
      refine hK.out _ _ hb ?_
      have HR3 := Lib.hid (HR3.out.later hb); have HR7 := Lib.hid (HR7.out.later hb); have HR8 := Lib.hid (HR8.out.later hb); have HB := Lib.hid (below_on HB.out hb); clear hb
      clear hK K
      simp only [Act.put, pa, pb, pc]
      refine ltk 14 (by kernel_rfl) (fun _ _ d _ _ h => by cases d <;> exact h) (fun o ho => ?_)
      simp only [qa, qb, qc, qd] at ho; subst ho
      refine ⟨.int .i64 (n + 1), Or.inl ⟨by kernel_rfl, fun w' hl => Or.inl ?_⟩, ?_⟩
      · go_simp; exact IntWalk.i64_in _ (by omega)
      simp only [Act.put, pa, pb, pc]
      refine ltk 15 (by kernel_rfl) (fun _ _ d _ _ h => by cases d <;> exact h) (fun o ho => ?_)
      simp only [qa, qb, qc, qd] at ho; subst ho
      refine ⟨.bool false, Or.inl ⟨by kernel_rfl, fun w' hl => Or.inl ?_⟩, ?_⟩
      · go_simp; try simp
      simp only [Act.put, pa, pb, pc]
      refine ltk 16 (by kernel_rfl) (fun _ _ d _ _ h => by cases d <;> exact h) (fun o ho => ?_)
      simp only [qa, qb, qc, qd] at ho; subst ho
      apply Exists.intro
      refine ⟨Or.inl ⟨by kernel_rfl, fun w' hl => Or.inl ?_⟩, ?_⟩
      · (go_simp; try with_reducible rfl)
      simp only [Act.put, pa, pb, pc]
      refine ltk 17 (by kernel_rfl) (fun _ _ d _ _ h => by cases d <;> exact h) (fun o ho => ?_)
      simp only [qa, qb, qc, qd] at ho; subst ho
      apply Exists.intro
      refine ⟨Or.inl ⟨by kernel_rfl, fun w' hl => Or.inl ?_⟩, ?_⟩
      · (go_simp; try with_reducible rfl)
      simp only [Act.put, pa, pb, pc]
      refine ltk 18 (by kernel_rfl) (fun _ _ d _ _ h => by cases d <;> exact h) (fun o ho => ?_)
      simp only [qa, qb, qc, qd] at ho; subst ho
      refine ⟨_, Or.inl ⟨by kernel_rfl, fun w' hl => Or.inl (run_load _ rfl _ rfl (q) (HR7.out.later hl))⟩, ?_⟩
      simp only [Act.put, pa, pb, pc]
      refine ltk 20 (by kernel_rfl) (fun _ _ d _ _ h => by cases d <;> exact h) (fun o ho => ?_)
      simp only [qa, qb, qc, qd] at ho; subst ho
      refine ⟨_, Or.inl ⟨by kernel_rfl, fun w' hl => Or.inl (run_load _ rfl _ rfl (p) (HR3.out.later hl))⟩, ?_⟩
      simp only [Act.put, pa, pb, pc]
      refine late_one 19 (by kernel_rfl) (by kernel_rfl) (fun o ho => ?_)
      simp only [qa, qb, qc, qd] at ho; subst ho
      refine ⟨by kernel_rfl, fun wn hl K hK => ?_⟩
      have HR3 := Lib.hid (HR3.out.later hl); have HR7 := Lib.hid (HR7.out.later hl); have HR8 := Lib.hid (HR8.out.later hl); have HB := Lib.hid (below_on HB.out hl); clear hl
      refine wp_enter _ _ (by go_simp; exact ⟨rfl, rfl⟩) ?_
      refine (menK HMq.out _ HQ.out).mono ?_; rintro e wm ⟨rfl, hb⟩; refine ⟨_, rfl, ?_⟩
      refine hK.out _ _ hb ?_
      have HR3 := Lib.hid (HR3.out.later hb); have HR7 := Lib.hid (HR7.out.later hb); have HR8 := Lib.hid (HR8.out.later hb); have HB := Lib.hid (below_on HB.out hb); clear hb
      clear hK K
      simp only [Act.put, pa, pb, pc]
      refine late_one 21 (by kernel_rfl) (by kernel_rfl) (fun o ho => ?_)
      simp only [qa, qb, qc, qd] at ho; subst ho
      refine ⟨by kernel_rfl, fun wn hl K hK => ?_⟩
      have HR3 := Lib.hid (HR3.out.later hl); have HR7 := Lib.hid (HR7.out.later hl); have HR8 := Lib.hid (HR8.out.later hl); have HB := Lib.hid (below_on HB.out hl); clear hl
      refine wp_enter _ _ (by go_simp; exact ⟨rfl, rfl⟩) ?_
      refine (menK HMp.out _ HP.out).mono ?_; rintro e wm ⟨rfl, hb⟩; refine ⟨_, rfl, ?_⟩
      refine hK.out _ _ hb ?_
      have HR3 := Lib.hid (HR3.out.later hb); have HR7 := Lib.hid (HR7.out.later hb); have HR8 := Lib.hid (HR8.out.later hb); have HB := Lib.hid (below_on HB.out hb); clear hb
      clear hK K
      simp only [Act.put, pa, pb, pc]
      refine ltk 22 (by kernel_rfl) (fun _ _ d _ _ h => by cases d <;> exact h) (fun o ho => ?_)
      simp only [qa, qb, qc, qd] at ho; subst ho
      refine ⟨.int .i64 (m + 1), Or.inl ⟨by kernel_rfl, fun w' hl => Or.inl ?_⟩, ?_⟩
      · go_simp; exact IntWalk.i64_in _ (by omega)
      simp only [Act.put, pa, pb, pc]
      refine ltk 23 (by kernel_rfl) (fun _ _ d _ _ h => by cases d <;> exact h) (fun o ho => ?_)
      simp only [qa, qb, qc, qd] at ho; subst ho
      refine ⟨.bool false, Or.inl ⟨by kernel_rfl, fun w' hl => Or.inl ?_⟩, ?_⟩
      · go_simp; try simp
      simp only [Act.put, pa, pb, pc]
      refine ltk 24 (by kernel_rfl) (fun _ _ d _ _ h => by cases d <;> exact h) (fun o ho => ?_)
      simp only [qa, qb, qc, qd] at ho; subst ho
      apply Exists.intro
      refine ⟨Or.inl ⟨by kernel_rfl, fun w' hl => Or.inl ?_⟩, ?_⟩
      · (go_simp; try with_reducible rfl)
      simp only [Act.put, pa, pb, pc]
      refine late_end (by kernel_rfl) (fun wn hl => ?_)
      have HR3 := Lib.hid (HR3.out.later hl); have HR7 := Lib.hid (HR7.out.later hl); have HR8 := Lib.hid (HR8.out.later hl); have HB := Lib.hid (below_on HB.out hl); clear hl
      go_wp2_with (first
        | (guard_target = Go.wpList _ _ _ ((⟨some _, .load _ (.tmp 49), _, _, _, _⟩ : Go.Oper) :: _) _ _; refine step_get rfl 5 _ rfl b3 0 rfl Tryd.underlying5 rfl (.int .u8 (p 0)) ?_ ?_; exact HR3.out.cell 0 (by decide))
        | (guard_target = Go.wpList _ _ _ ((⟨some _, .load _ (.tmp 3), _, _, _, _⟩ : Go.Oper) :: _) _ _; refine step_load rfl _ rfl b3 rfl p HR3.out ?_)
        | (go_at_call 10; refine (list_dr p _ HP.out (HT.out.on HB.out)).mono ?_; rintro e w5 ⟨v, rfl, hv, hb⟩; rw [HL.out] at hv; obtain ⟨a5, c5, rfl, _⟩ := mvs_of hv; have HB := Lib.hid (below_on HB.out hb); clear hv hb)
        | (go_at_call 12; refine (dr_awake _ (HT.out.on HB.out) (HK.out.on HB.out)).mono ?_; rintro e w6 ⟨rfl, hb⟩; have HB := Lib.hid (below_on HB.out hb); clear hb))
      go_ret
      exact ⟨rfl, HB.out⟩
end Go.Proofs.YtdjnniohoicppaaDoor.dropBack
