/-
  The walk of ValidMended.
-/
import Derived.Test.YtomelpgfccainaaGreatDoorVaI
import Derived.Test.YtomelpgfccainaaGreatDoorVaO
import Derived.IntWalk
import Derived.WalkKit
import Derived.OpenShut
namespace Go.Proofs.YtomelpgfccainaaGreatDoor.validMended
open Go.RowKit
set_option linter.unusedVariables false
set_option linter.unusedSimpArgs false
set_option maxRecDepth 100000 in
set_option maxHeartbeats 1000000 in
theorem mended_no (p q : Nat → Int) (L M : List Int) (w : World) (hp : WfP p) (hT : TabVar w) (hK : TabKn w) (hD : TabDb w) (hL : TabLead w) (hU : TabUs w) (hq : mdP p = q) (hl : wrL p = L) (hm : wrL q = M) (ha : argB p = false) : Calls Tryz.prog 6 #[.agg (posA p)] w fun e w' => e = .returned (.bool true) ∧ Below w.heap.size w w' := by
  have WP := Lib.hid hp
  have FP := Lib.hid (FitP.of hp)
  have WQ := Lib.hid (show WfP q by rw [← hq]; exact md_wf hp)
  have FQ := Lib.hid (FitP.of WQ.out)
  have HT := Lib.hid hT
  have HK := Lib.hid hK
  have HD := Lib.hid hD
  have HL := Lib.hid hL
  have HU := Lib.hid hU
  have HQ := Lib.hid hq
  have Hl := Lib.hid hl
  have Hm := Lib.hid hm
  have HL8 : L.length ≤ 8 := by rw [← hl]; exact wr_len p
  have HM8 := Lib.hid (show M.length ≤ 8 by rw [← hm]; exact wr_len q)
  have WMq := Lib.hid (show WfP (mdP q) from md_wf WQ.out)
  have hqp : q = p := by rw [← hq]; exact md_argno ha
  have HE0 := Lib.hid (show posA q = posA p by rw [hqp])
  have HE9 := Lib.hid (show posA (mdP q) = posA q by rw [hqp, md_argno ha])
  have HL2 := Lib.hid (show L = [2] by rw [← hl]; unfold wrL; rw [ha]; rfl)
  clear hqp ha
  clear hp hT hK hD hL hU hq hl hm
  have HZ := Lib.hid (show ¬ L = [] by rw [HL2.out]; exact List.cons_ne_nil _ _)
  have HB := Lib.hid (Below.refl w.heap.size w)
  go_enter Tryz.func6, Tryz.ntmps6
  go_wp2_with (first
    | (refine step_box rfl _ rfl p rfl ?_; intro b1 wn N R; have HB := Lib.hid (HB.out.trans (N.below.mono HB.out.size)); have HG1 := Lib.hid (show w.heap.size ≤ b1 by have := N.at_; omega); have HR1 := Lib.hid R; clear N R)
    | (refine step_load rfl _ rfl b1 rfl p HR1.out ?_)
    | (go_at_call 12; refine (mend_any p _ FP.out (HT.out.on HB.out) (HD.out.next HB.out) (HL.out.next HB.out) (HU.out.on HB.out)).mono ?_; rintro e wm ⟨rfl, hb⟩; rw [HQ.out]; have HR1 := Lib.hid (HR1.out.later hb); have HB := Lib.hid (below_on HB.out hb); clear hb)
    | (refine step_alloc rfl rfl ?_; intro b3 wn N R; have HG3 := Lib.hid (show w.heap.size ≤ b3 by have := N.at_; have := HB.out.size; omega); have HD13 := Lib.hid (show b1 ≠ b3 by have := N.at_; have := HR1.out.lt; omega); have HR1 := Lib.hid (HR1.out.later N.below); have HR3 := Lib.hid R; have HB := Lib.hid (below_on HB.out N.below); clear N R)
    | (refine step_store rfl _ _ rfl b3 rfl zeroP q rfl ?_ ?_; exact HR3.out; intro w2 U R; have HR1 := Lib.hid (HR1.out.apart U HD13.out); have HR3 := Lib.hid R; have HB := Lib.hid (HB.out.trans (U.below HG3.out)); clear U R))
  refine late_begin 6 (by kernel_rfl) ?_
  refine ltk 0 (by kernel_rfl) (fun _ _ d _ _ h => by cases d <;> exact h) (fun o ho => ?_)
  simp only [qa, qb, qc, qd] at ho; subst ho
  refine ⟨_, Or.inl ⟨by kernel_rfl, fun w' hl => Or.inl (run_load _ rfl _ rfl (p) (HR1.out.later hl))⟩, ?_⟩
  simp only [Act.put, pa, pb, pc]
  refine ltk 2 (by kernel_rfl) (fun _ _ d _ _ h => by cases d <;> exact h) (fun o ho => ?_)
  simp only [qa, qb, qc, qd] at ho; subst ho
  refine ⟨_, Or.inl ⟨by kernel_rfl, fun w' hl => Or.inl (run_load _ rfl _ rfl (q) (HR3.out.later hl))⟩, ?_⟩
  simp only [Act.put, pa, pb, pc]
  refine late_one 1 (by kernel_rfl) (by kernel_rfl) (fun o ho => ?_)
  simp only [qa, qb, qc, qd] at ho; subst ho
  refine ⟨by kernel_rfl, fun wn hl K hK => ?_⟩
  have HR1 := Lib.hid (HR1.out.later hl); have HR3 := Lib.hid (HR3.out.later hl); have HB := Lib.hid (below_on HB.out hl); clear hl
  refine wp_enter _ _ (by go_simp; exact ⟨rfl, rfl⟩) ?_
  refine (all_any12 _ _ FP.out (HT.out.on HB.out) (HD.out.next HB.out) (HL.out.next HB.out) (HU.out.on HB.out)).mono ?_; rintro e wm ⟨v, rfl, hv, hb⟩; rw [Hl.out] at hv; obtain ⟨a1, ca1, rfl, hE⟩ := ers_of hv; have HEn := Lib.hid hE; clear hv hE; refine ⟨_, rfl, ?_⟩
  refine hK.out _ _ hb ?_
  have HR1 := Lib.hid (HR1.out.later hb); have HR3 := Lib.hid (HR3.out.later hb); have HB := Lib.hid (below_on HB.out hb); clear hb
  have HE1 := HEn; clear HEn
  clear hK K
  simp only [Act.put, pa, pb, pc]
  refine late_one 3 (by kernel_rfl) (by kernel_rfl) (fun o ho => ?_)
  simp only [qa, qb, qc, qd] at ho; subst ho
  refine ⟨by kernel_rfl, fun wn hl K hK => ?_⟩
  have HR1 := Lib.hid (HR1.out.later hl); have HR3 := Lib.hid (HR3.out.later hl); have HE1 := Lib.hid (HE1.out.later hl); have HB := Lib.hid (below_on HB.out hl); clear hl
  refine wp_enter _ _ (by go_simp; exact ⟨rfl, rfl⟩) ?_
  refine (all_any12 _ _ FQ.out (HT.out.on HB.out) (HD.out.next HB.out) (HL.out.next HB.out) (HU.out.on HB.out)).mono ?_; rintro e wm ⟨v, rfl, hv, hb⟩; rw [Hm.out] at hv; obtain ⟨a2, ca2, rfl, hE⟩ := ers_of hv; have HEn := Lib.hid hE; clear hv hE; refine ⟨_, rfl, ?_⟩
  refine hK.out _ _ hb ?_
  have HR1 := Lib.hid (HR1.out.later hb); have HR3 := Lib.hid (HR3.out.later hb); have HE1 := Lib.hid (HE1.out.later hb); have HB := Lib.hid (below_on HB.out hb); clear hb
  have HE2 := HEn; clear HEn
  clear hK K
  simp only [Act.put, pa, pb, pc]
  refine ltk 4 (by kernel_rfl) (fun _ _ d _ _ h => by cases d <;> exact h) (fun o ho => ?_)
  simp only [qa, qb, qc, qd] at ho; subst ho
  apply Exists.intro
  refine ⟨Or.inl ⟨by kernel_rfl, fun w' hl => Or.inl ?_⟩, ?_⟩
  · (go_simp; try with_reducible rfl)
  simp only [Act.put, pa, pb, pc]
  refine ltk 5 (by kernel_rfl) (fun _ _ d _ _ h => by cases d <;> exact h) (fun o ho => ?_)
  simp only [qa, qb, qc, qd] at ho; subst ho
  apply Exists.intro
  refine ⟨Or.inl ⟨by kernel_rfl, fun w' hl => Or.inl ?_⟩, ?_⟩
  · (go_simp; try with_reducible rfl)
  simp only [Act.put, pa, pb, pc]
  refine late_end (by kernel_rfl) (fun wn hl => ?_)
  have HR1 := Lib.hid (HR1.out.later hl); have HR3 := Lib.hid (HR3.out.later hl); have HE1 := Lib.hid (HE1.out.later hl); have HE2 := Lib.hid (HE2.out.later hl); have HB := Lib.hid (below_on HB.out hl); clear hl
  go_wp2_with fail
  refine late_begin 14 (by kernel_rfl) ?_
  refine ltk 0 (by kernel_rfl) (fun _ _ d _ _ h => by cases d <;> exact h) (fun o ho => ?_)
  simp only [qa, qb, qc, qd] at ho; subst ho
  refine ⟨_, Or.inl ⟨by kernel_rfl, fun w' hl => Or.inl (run_load _ rfl _ rfl (q) (HR3.out.later hl))⟩, ?_⟩
  simp only [Act.put, pa, pb, pc]
  refine ltk 2 (by kernel_rfl) (fun _ _ d _ _ h => by cases d <;> exact h) (fun o ho => ?_)
  simp only [qa, qb, qc, qd] at ho; subst ho
  refine ⟨_, Or.inl ⟨by kernel_rfl, fun w' hl => Or.inl (run_load _ rfl _ rfl (q) (HR3.out.later hl))⟩, ?_⟩
  simp only [Act.put, pa, pb, pc]
  refine late_one 1 (by kernel_rfl) (by kernel_rfl) (fun o ho => ?_)
  simp only [qa, qb, qc, qd] at ho; subst ho
  refine ⟨by kernel_rfl, fun wn hl K hK => ?_⟩
  have HR1 := Lib.hid (HR1.out.later hl); have HR3 := Lib.hid (HR3.out.later hl); have HE1 := Lib.hid (HE1.out.later hl); have HE2 := Lib.hid (HE2.out.later hl); have HB := Lib.hid (below_on HB.out hl); clear hl
  refine wp_enter _ _ (by go_simp; exact ⟨rfl, rfl⟩) ?_
  refine (mend_any q _ FQ.out (HT.out.on HB.out) (HD.out.next HB.out) (HL.out.next HB.out) (HU.out.on HB.out)).mono ?_; rintro e wm ⟨rfl, hb⟩; refine ⟨_, rfl, ?_⟩
  refine hK.out _ _ hb ?_
  have HR1 := Lib.hid (HR1.out.later hb); have HR3 := Lib.hid (HR3.out.later hb); have HE1 := Lib.hid (HE1.out.later hb); have HE2 := Lib.hid (HE2.out.later hb); have HB := Lib.hid (below_on HB.out hb); clear hb
  clear hK K
  simp only [Act.put, pa, pb, pc]
  refine ltk 3 (by kernel_rfl) (fun _ _ d _ _ h => by cases d <;> exact h) (fun o ho => ?_)
  simp only [qa, qb, qc, qd] at ho; subst ho
  refine ⟨_, Or.inl ⟨by kernel_rfl, fun w' hl => Or.inl (run_neq _ _ rfl (mdP q) q rfl rfl WMq.out HE9.out)⟩, ?_⟩
  simp only [Act.put, pa, pb, pc]
  refine ltk 4 (by kernel_rfl) (fun _ _ d _ _ h => by cases d <;> exact h) (fun o ho => ?_)
  simp only [qa, qb, qc, qd] at ho; subst ho
  apply Exists.intro
  refine ⟨Or.inl ⟨by kernel_rfl, fun w' hl => Or.inl ?_⟩, ?_⟩
  · (go_simp; try with_reducible rfl)
  simp only [Act.put, pa, pb, pc]
  refine ltk 5 (by kernel_rfl) (fun _ _ d _ _ h => by cases d <;> exact h) (fun o ho => ?_)
  simp only [qa, qb, qc, qd] at ho; subst ho
  apply Exists.intro
  refine ⟨Or.inl ⟨by kernel_rfl, fun w' hl => Or.inl ?_⟩, ?_⟩
  · (go_simp; try with_reducible rfl)
  simp only [Act.put, pa, pb, pc]
  refine ltk 6 (by kernel_rfl) (fun _ _ d _ _ h => by cases d <;> exact h) (fun o ho => ?_)
  simp only [qa, qb, qc, qd] at ho; subst ho
  apply Exists.intro
  refine ⟨Or.inl ⟨by kernel_rfl, fun w' hl => Or.inl ?_⟩, ?_⟩
  · (go_simp; try with_reducible rfl)
  simp only [Act.put, pa, pb, pc]
  refine ltk 7 (by kernel_rfl) (fun _ _ d _ _ h => by cases d <;> exact h) (fun o ho => ?_)
  simp only [qa, qb, qc, qd] at ho; subst ho
  refine ⟨.bool false, Or.inl ⟨by kernel_rfl, fun w' hl => Or.inl ?_⟩, ?_⟩
  · (go_simp; try simp [HZ.out])
  simp only [Act.put, pa, pb, pc]
  refine ltk 8 (by kernel_rfl) (fun _ _ d _ _ h => by cases d <;> exact h) (fun o ho => ?_)
  simp only [qa, qb, qc, qd] at ho; subst ho
  apply Exists.intro
  refine ⟨Or.inl ⟨by kernel_rfl, fun w' hl => Or.inl ?_⟩, ?_⟩
  · (go_simp; try with_reducible rfl)
  simp only [Act.put, pa, pb, pc]
  refine ltk 9 (by kernel_rfl) (fun _ _ d _ _ h => by cases d <;> exact h) (fun o ho => ?_)
  simp only [qa, qb, qc, qd] at ho; subst ho
  refine ⟨_, Or.inr ⟨by kernel_rfl, rfl⟩, ?_⟩
  simp only [Act.put, pa, pb, pc]
  refine ltk 10 (by kernel_rfl) (fun _ _ d _ _ h => by cases d <;> exact h) (fun o ho => ?_)
  simp only [qa, qb, qc, qd] at ho; subst ho
  refine ⟨_, Or.inr ⟨by kernel_rfl, rfl⟩, ?_⟩
  simp only [Act.put, pa, pb, pc]
  refine ltk 11 (by kernel_rfl) (fun _ _ d _ _ h => by cases d <;> exact h) (fun o ho => ?_)
  simp only [qa, qb, qc, qd] at ho; subst ho
  refine ⟨_, Or.inr ⟨by kernel_rfl, rfl⟩, ?_⟩
  simp only [Act.put, pa, pb, pc]
  refine ltk 12 (by kernel_rfl) (fun _ _ d _ _ h => by cases d <;> exact h) (fun o ho => ?_)
  simp only [qa, qb, qc, qd] at ho; subst ho
  apply Exists.intro
  refine ⟨Or.inl ⟨by kernel_rfl, fun w' hl => Or.inl ?_⟩, ?_⟩
  · (go_simp; try with_reducible rfl)
  simp only [Act.put, pa, pb, pc]
  refine ltk 13 (by kernel_rfl) (fun _ _ d _ _ h => by cases d <;> exact h) (fun o ho => ?_)
  simp only [qa, qb, qc, qd] at ho; subst ho
  apply Exists.intro
  refine ⟨Or.inl ⟨by kernel_rfl, fun w' hl => Or.inl ?_⟩, ?_⟩
  · (go_simp; try with_reducible rfl)
  simp only [Act.put, pa, pb, pc]
  refine late_end (by kernel_rfl) (fun wn hl => ?_)
  have HR1 := Lib.hid (HR1.out.later hl); have HR3 := Lib.hid (HR3.out.later hl); have HE1 := Lib.hid (HE1.out.later hl); have HE2 := Lib.hid (HE2.out.later hl); have HB := Lib.hid (below_on HB.out hl); clear hl
  obtain rfl := HL2.out
  obtain ⟨g1, rfl, hc1⟩ := HE1.out.cell (i := 0) rfl
  go_wp2_with (first
    | (refine step_load rfl _ rfl b1 rfl p HR1.out ?_)
    | (refine step_load rfl _ rfl b3 rfl q HR3.out ?_)
    | (refine step_cmp rfl _ _ rfl q p rfl rfl WQ.out WP.out true ⟨fun _ => HE0.out, fun _ => rfl⟩ ?_)
    | (go_at_call 11; refine (va_awake _ (HT.out.on HB.out) (HK.out.on HB.out) (HD.out.next HB.out) (HL.out.next HB.out) (HU.out.on HB.out)).mono ?_; rintro e w3 ⟨rfl, hb⟩; have HB := Lib.hid (below_on HB.out hb); clear hb))
  go_ret
  exact ⟨rfl, HB.out⟩
set_option maxRecDepth 100000 in
set_option maxHeartbeats 1000000 in
theorem mended_none (p q : Nat → Int) (L M : List Int) (w : World) (hp : WfP p) (hT : TabVar w) (hK : TabKn w) (hD : TabDb w) (hL : TabLead w) (hU : TabUs w) (hq : mdP p = q) (hl : wrL p = L) (hm : wrL q = M) (ha : argB p = true) (hs : wrL p = []) : Calls Tryz.prog 6 #[.agg (posA p)] w fun e w' => e = .returned (.bool true) ∧ Below w.heap.size w w' := by
  have WP := Lib.hid hp
  have FP := Lib.hid (FitP.of hp)
  have WQ := Lib.hid (show WfP q by rw [← hq]; exact md_wf hp)
  have FQ := Lib.hid (FitP.of WQ.out)
  have HT := Lib.hid hT
  have HK := Lib.hid hK
  have HD := Lib.hid hD
  have HL := Lib.hid hL
  have HU := Lib.hid hU
  have HQ := Lib.hid hq
  have Hl := Lib.hid hl
  have Hm := Lib.hid hm
  have HL8 : L.length ≤ 8 := by rw [← hl]; exact wr_len p
  have HM8 := Lib.hid (show M.length ≤ 8 by rw [← hm]; exact wr_len q)
  have WMq := Lib.hid (show WfP (mdP q) from md_wf WQ.out)
  have HE9 := Lib.hid (show posA (mdP q) = posA q by rw [← hq]; exact md_again ha)
  have HM := Lib.hid (show M = L.filter kpB by rw [← hm, ← hl, ← hq]; exact wr_mend ha)
  have HBd := Lib.hid (show ∀ j, j < 64 → q (1 + j) = p (1 + j) from fun j hj => by rw [← hq]; exact md_low (by omega))
  have HTn := Lib.hid (show q 78 = p 78 by rw [← hq]; exact md_low (by omega))
  have HE8 := Lib.hid (show posA q = posA p by rw [← hq]; exact md_none hs)
  have HZ := Lib.hid (show L = [] by rw [← hl, hs])
  clear hs
  clear hp hT hK hD hL hU hq hl hm ha
  have HB := Lib.hid (Below.refl w.heap.size w)
  go_enter Tryz.func6, Tryz.ntmps6
  go_wp2_with (first
    | (refine step_box rfl _ rfl p rfl ?_; intro b1 wn N R; have HB := Lib.hid (HB.out.trans (N.below.mono HB.out.size)); have HG1 := Lib.hid (show w.heap.size ≤ b1 by have := N.at_; omega); have HR1 := Lib.hid R; clear N R)
    | (refine step_load rfl _ rfl b1 rfl p HR1.out ?_)
    | (go_at_call 12; refine (mend_any p _ FP.out (HT.out.on HB.out) (HD.out.next HB.out) (HL.out.next HB.out) (HU.out.on HB.out)).mono ?_; rintro e wm ⟨rfl, hb⟩; rw [HQ.out]; have HR1 := Lib.hid (HR1.out.later hb); have HB := Lib.hid (below_on HB.out hb); clear hb)
    | (refine step_alloc rfl rfl ?_; intro b3 wn N R; have HG3 := Lib.hid (show w.heap.size ≤ b3 by have := N.at_; have := HB.out.size; omega); have HD13 := Lib.hid (show b1 ≠ b3 by have := N.at_; have := HR1.out.lt; omega); have HR1 := Lib.hid (HR1.out.later N.below); have HR3 := Lib.hid R; have HB := Lib.hid (below_on HB.out N.below); clear N R)
    | (refine step_store rfl _ _ rfl b3 rfl zeroP q rfl ?_ ?_; exact HR3.out; intro w2 U R; have HR1 := Lib.hid (HR1.out.apart U HD13.out); have HR3 := Lib.hid R; have HB := Lib.hid (HB.out.trans (U.below HG3.out)); clear U R))
  refine late_begin 6 (by kernel_rfl) ?_
  refine ltk 0 (by kernel_rfl) (fun _ _ d _ _ h => by cases d <;> exact h) (fun o ho => ?_)
  simp only [qa, qb, qc, qd] at ho; subst ho
  refine ⟨_, Or.inl ⟨by kernel_rfl, fun w' hl => Or.inl (run_load _ rfl _ rfl (p) (HR1.out.later hl))⟩, ?_⟩
  simp only [Act.put, pa, pb, pc]
  refine ltk 2 (by kernel_rfl) (fun _ _ d _ _ h => by cases d <;> exact h) (fun o ho => ?_)
  simp only [qa, qb, qc, qd] at ho; subst ho
  refine ⟨_, Or.inl ⟨by kernel_rfl, fun w' hl => Or.inl (run_load _ rfl _ rfl (q) (HR3.out.later hl))⟩, ?_⟩
  simp only [Act.put, pa, pb, pc]
  refine late_one 1 (by kernel_rfl) (by kernel_rfl) (fun o ho => ?_)
  simp only [qa, qb, qc, qd] at ho; subst ho
  refine ⟨by kernel_rfl, fun wn hl K hK => ?_⟩
  have HR1 := Lib.hid (HR1.out.later hl); have HR3 := Lib.hid (HR3.out.later hl); have HB := Lib.hid (below_on HB.out hl); clear hl
  refine wp_enter _ _ (by go_simp; exact ⟨rfl, rfl⟩) ?_
  refine (all_any12 _ _ FP.out (HT.out.on HB.out) (HD.out.next HB.out) (HL.out.next HB.out) (HU.out.on HB.out)).mono ?_; rintro e wm ⟨v, rfl, hv, hb⟩; rw [Hl.out] at hv; obtain ⟨a1, ca1, rfl, hE⟩ := ers_of hv; have HEn := Lib.hid hE; clear hv hE; refine ⟨_, rfl, ?_⟩
  refine hK.out _ _ hb ?_
  have HR1 := Lib.hid (HR1.out.later hb); have HR3 := Lib.hid (HR3.out.later hb); have HB := Lib.hid (below_on HB.out hb); clear hb
  have HE1 := HEn; clear HEn
  clear hK K
  simp only [Act.put, pa, pb, pc]
  refine late_one 3 (by kernel_rfl) (by kernel_rfl) (fun o ho => ?_)
  simp only [qa, qb, qc, qd] at ho; subst ho
  refine ⟨by kernel_rfl, fun wn hl K hK => ?_⟩
  have HR1 := Lib.hid (HR1.out.later hl); have HR3 := Lib.hid (HR3.out.later hl); have HE1 := Lib.hid (HE1.out.later hl); have HB := Lib.hid (below_on HB.out hl); clear hl
  refine wp_enter _ _ (by go_simp; exact ⟨rfl, rfl⟩) ?_
  refine (all_any12 _ _ FQ.out (HT.out.on HB.out) (HD.out.next HB.out) (HL.out.next HB.out) (HU.out.on HB.out)).mono ?_; rintro e wm ⟨v, rfl, hv, hb⟩; rw [Hm.out] at hv; obtain ⟨a2, ca2, rfl, hE⟩ := ers_of hv; have HEn := Lib.hid hE; clear hv hE; refine ⟨_, rfl, ?_⟩
  refine hK.out _ _ hb ?_
  have HR1 := Lib.hid (HR1.out.later hb); have HR3 := Lib.hid (HR3.out.later hb); have HE1 := Lib.hid (HE1.out.later hb); have HB := Lib.hid (below_on HB.out hb); clear hb
  have HE2 := HEn; clear HEn
  clear hK K
  simp only [Act.put, pa, pb, pc]
  refine ltk 4 (by kernel_rfl) (fun _ _ d _ _ h => by cases d <;> exact h) (fun o ho => ?_)
  simp only [qa, qb, qc, qd] at ho; subst ho
  apply Exists.intro
  refine ⟨Or.inl ⟨by kernel_rfl, fun w' hl => Or.inl ?_⟩, ?_⟩
  · (go_simp; try with_reducible rfl)
  simp only [Act.put, pa, pb, pc]
  refine ltk 5 (by kernel_rfl) (fun _ _ d _ _ h => by cases d <;> exact h) (fun o ho => ?_)
  simp only [qa, qb, qc, qd] at ho; subst ho
  apply Exists.intro
  refine ⟨Or.inl ⟨by kernel_rfl, fun w' hl => Or.inl ?_⟩, ?_⟩
  · (go_simp; try with_reducible rfl)
  simp only [Act.put, pa, pb, pc]
  refine late_end (by kernel_rfl) (fun wn hl => ?_)
  have HR1 := Lib.hid (HR1.out.later hl); have HR3 := Lib.hid (HR3.out.later hl); have HE1 := Lib.hid (HE1.out.later hl); have HE2 := Lib.hid (HE2.out.later hl); have HB := Lib.hid (below_on HB.out hl); clear hl
  go_wp2_with fail
  refine late_begin 14 (by kernel_rfl) ?_
  refine ltk 0 (by kernel_rfl) (fun _ _ d _ _ h => by cases d <;> exact h) (fun o ho => ?_)
  simp only [qa, qb, qc, qd] at ho; subst ho
  refine ⟨_, Or.inl ⟨by kernel_rfl, fun w' hl => Or.inl (run_load _ rfl _ rfl (q) (HR3.out.later hl))⟩, ?_⟩
  simp only [Act.put, pa, pb, pc]
  refine ltk 2 (by kernel_rfl) (fun _ _ d _ _ h => by cases d <;> exact h) (fun o ho => ?_)
  simp only [qa, qb, qc, qd] at ho; subst ho
  refine ⟨_, Or.inl ⟨by kernel_rfl, fun w' hl => Or.inl (run_load _ rfl _ rfl (q) (HR3.out.later hl))⟩, ?_⟩
  simp only [Act.put, pa, pb, pc]
  refine late_one 1 (by kernel_rfl) (by kernel_rfl) (fun o ho => ?_)
  simp only [qa, qb, qc, qd] at ho; subst ho
  refine ⟨by kernel_rfl, fun wn hl K hK => ?_⟩
  have HR1 := Lib.hid (HR1.out.later hl); have HR3 := Lib.hid (HR3.out.later hl); have HE1 := Lib.hid (HE1.out.later hl); have HE2 := Lib.hid (HE2.out.later hl); have HB := Lib.hid (below_on HB.out hl); clear hl
  refine wp_enter _ _ (by go_simp; exact ⟨rfl, rfl⟩) ?_
  refine (mend_any q _ FQ.out (HT.out.on HB.out) (HD.out.next HB.out) (HL.out.next HB.out) (HU.out.on HB.out)).mono ?_; rintro e wm ⟨rfl, hb⟩; refine ⟨_, rfl, ?_⟩
  refine hK.out _ _ hb ?_
  have HR1 := Lib.hid (HR1.out.later hb); have HR3 := Lib.hid (HR3.out.later hb); have HE1 := Lib.hid (HE1.out.later hb); have HE2 := Lib.hid (HE2.out.later hb); have HB := Lib.hid (below_on HB.out hb); clear hb
  clear hK K
  simp only [Act.put, pa, pb, pc]
  refine ltk 3 (by kernel_rfl) (fun _ _ d _ _ h => by cases d <;> exact h) (fun o ho => ?_)
  simp only [qa, qb, qc, qd] at ho; subst ho
  refine ⟨_, Or.inl ⟨by kernel_rfl, fun w' hl => Or.inl (run_neq _ _ rfl (mdP q) q rfl rfl WMq.out HE9.out)⟩, ?_⟩
  simp only [Act.put, pa, pb, pc]
  refine ltk 4 (by kernel_rfl) (fun _ _ d _ _ h => by cases d <;> exact h) (fun o ho => ?_)
  simp only [qa, qb, qc, qd] at ho; subst ho
  apply Exists.intro
  refine ⟨Or.inl ⟨by kernel_rfl, fun w' hl => Or.inl ?_⟩, ?_⟩
  · (go_simp; try with_reducible rfl)
  simp only [Act.put, pa, pb, pc]
  refine ltk 5 (by kernel_rfl) (fun _ _ d _ _ h => by cases d <;> exact h) (fun o ho => ?_)
  simp only [qa, qb, qc, qd] at ho; subst ho
  apply Exists.intro
  refine ⟨Or.inl ⟨by kernel_rfl, fun w' hl => Or.inl ?_⟩, ?_⟩
  · (go_simp; try with_reducible rfl)
  simp only [Act.put, pa, pb, pc]
  refine ltk 6 (by kernel_rfl) (fun _ _ d _ _ h => by cases d <;> exact h) (fun o ho => ?_)
  simp only [qa, qb, qc, qd] at ho; subst ho
  apply Exists.intro
  refine ⟨Or.inl ⟨by kernel_rfl, fun w' hl => Or.inl ?_⟩, ?_⟩
  · (go_simp; try with_reducible rfl)
  simp only [Act.put, pa, pb, pc]
  refine ltk 7 (by kernel_rfl) (fun _ _ d _ _ h => by cases d <;> exact h) (fun o ho => ?_)
  simp only [qa, qb, qc, qd] at ho; subst ho
  refine ⟨.bool true, Or.inl ⟨by kernel_rfl, fun w' hl => Or.inl ?_⟩, ?_⟩
  · (go_simp; try simp [HZ.out])
  simp only [Act.put, pa, pb, pc]
  refine ltk 8 (by kernel_rfl) (fun _ _ d _ _ h => by cases d <;> exact h) (fun o ho => ?_)
  simp only [qa, qb, qc, qd] at ho; subst ho
  apply Exists.intro
  refine ⟨Or.inl ⟨by kernel_rfl, fun w' hl => Or.inl ?_⟩, ?_⟩
  · (go_simp; try with_reducible rfl)
  simp only [Act.put, pa, pb, pc]
  refine ltk 9 (by kernel_rfl) (fun _ _ d _ _ h => by cases d <;> exact h) (fun o ho => ?_)
  simp only [qa, qb, qc, qd] at ho; subst ho
  refine ⟨_, Or.inl ⟨by kernel_rfl, fun w' hl => Or.inl (run_load _ rfl _ rfl (q) (HR3.out.later hl))⟩, ?_⟩
  simp only [Act.put, pa, pb, pc]
  refine ltk 10 (by kernel_rfl) (fun _ _ d _ _ h => by cases d <;> exact h) (fun o ho => ?_)
  simp only [qa, qb, qc, qd] at ho; subst ho
  refine ⟨_, Or.inl ⟨by kernel_rfl, fun w' hl => Or.inl (run_load _ rfl _ rfl (p) (HR1.out.later hl))⟩, ?_⟩
  simp only [Act.put, pa, pb, pc]
  refine ltk 11 (by kernel_rfl) (fun _ _ d _ _ h => by cases d <;> exact h) (fun o ho => ?_)
  simp only [qa, qb, qc, qd] at ho; subst ho
  refine ⟨_, Or.inl ⟨by kernel_rfl, fun w' hl => Or.inl (run_neq _ _ rfl q p rfl rfl WQ.out HE8.out)⟩, ?_⟩
  simp only [Act.put, pa, pb, pc]
  refine ltk 12 (by kernel_rfl) (fun _ _ d _ _ h => by cases d <;> exact h) (fun o ho => ?_)
  simp only [qa, qb, qc, qd] at ho; subst ho
  apply Exists.intro
  refine ⟨Or.inl ⟨by kernel_rfl, fun w' hl => Or.inl ?_⟩, ?_⟩
  · (go_simp; try with_reducible rfl)
  simp only [Act.put, pa, pb, pc]
  refine ltk 13 (by kernel_rfl) (fun _ _ d _ _ h => by cases d <;> exact h) (fun o ho => ?_)
  simp only [qa, qb, qc, qd] at ho; subst ho
  apply Exists.intro
  refine ⟨Or.inl ⟨by kernel_rfl, fun w' hl => Or.inl ?_⟩, ?_⟩
  · (go_simp; try with_reducible rfl)
  simp only [Act.put, pa, pb, pc]
  refine late_end (by kernel_rfl) (fun wn hl => ?_)
  have HR1 := Lib.hid (HR1.out.later hl); have HR3 := Lib.hid (HR3.out.later hl); have HE1 := Lib.hid (HE1.out.later hl); have HE2 := Lib.hid (HE2.out.later hl); have HB := Lib.hid (below_on HB.out hl); clear hl
  have hz : ¬ ((L.length : Int) = 1) := (by rw [HZ.out]; decide)
  go_wp2_with fail
  clear hz
  go_loopw [6, 7] (fun m i wr => ∃ k n : Nat, k ≤ L.length ∧ i = .int .i64 (k : Int) ∧ m = .int .i64 (n : Int) ∧ ((L.take k).filter kpB).length = n ∧ Row wr b1 p ∧ Row wr b3 q ∧ Ers L a1 wr ∧ Ers M a2 wr ∧ Below w.heap.size w wr) (fun _ i _ => L.length - (intOf i).toNat)
  case atStart => exact ⟨0, 0, by omega, rfl, rfl, rfl, HR1.out, HR3.out, HE1.out, HE2.out, HB.out⟩
  case round =>
    clear HR1 HR3 HE1 HE2 HB
    obtain ⟨k, n, hk, rfl, rfl, hn, hr1, hr3, he1, he2, hbw⟩ := hrel
    have HR1 := Lib.hid hr1
    have HR3 := Lib.hid hr3
    have HE1 := Lib.hid he1
    have HE2 := Lib.hid he2
    have HB := Lib.hid hbw
    have HN := Lib.hid hn
    clear hr1 hr3 he1 he2 hbw hn
    by_cases hlt : k < L.length
    · obtain ⟨x, hx⟩ : ∃ x, L[k]? = some x := ⟨_, List.getElem?_eq_getElem hlt⟩
      have HX := Lib.hid hx
      obtain ⟨g1, rfl, hc1⟩ := HE1.out.cell hx
      clear hx
      by_cases e3 : x = 123
      · subst e3
        have HN1 := Lib.hid (fil_no (f := kpB) HX.out rfl)
        go_wp2_with fail
        go_roundw
        case rel => exact ⟨k + 1, n, by omega, by go_num, rfl, by rw [HN1.out, HN.out], HR1.out, HR3.out, HE1.out, HE2.out, HB.out⟩
        case measure => simp [intOf]; omega
      · by_cases e4 : x = 124
        · subst e4
          have HN1 := Lib.hid (fil_no (f := kpB) HX.out rfl)
          go_wp2_with fail
          go_roundw
          case rel => exact ⟨k + 1, n, by omega, by go_num, rfl, by rw [HN1.out, HN.out], HR1.out, HR3.out, HE1.out, HE2.out, HB.out⟩
          case measure => simp [intOf]; omega
        · by_cases e5 : x = 125
          · subst e5
            have HN1 := Lib.hid (fil_no (f := kpB) HX.out rfl)
            go_wp2_with fail
            go_roundw
            case rel => exact ⟨k + 1, n, by omega, by go_num, rfl, by rw [HN1.out, HN.out], HR1.out, HR3.out, HE1.out, HE2.out, HB.out⟩
            case measure => simp [intOf]; omega
          · have hkp : kpB x = true := by unfold kpB; simp [e3, e4, e5]
            have HN1 := Lib.hid (fil_yes (f := kpB) HX.out hkp)
            have hy : M[n]? = some x := by rw [HM.out, ← HN.out]; exact fil_at HX.out hkp
            have hnm : n < M.length := (List.getElem?_eq_some_iff.1 hy).1
            obtain ⟨g2, rfl, hc2⟩ := HE2.out.cell hy
            have d3 : decide (x = 123) = false := decide_eq_false e3
            have d4 : decide (x = 124) = false := decide_eq_false e4
            have d5 : decide (x = 125) = false := decide_eq_false e5
            have dn : decide ((M.length : Int) ≤ (n : Int)) = false := decide_eq_false (by omega)
            have HM8 := Lib.hid (show n < 8 by have := HM8.out; omega)
            clear hy hkp
            go_wp2_with fail
            go_quiet (fail)
            have HR1 := Lib.hid (HR1.out.later (drewN_on wr nq))
            have HR3 := Lib.hid (HR3.out.later (drewN_on wr nq))
            have HE1 := Lib.hid (HE1.out.later (drewN_on wr nq))
            have HE2 := Lib.hid (HE2.out.later (drewN_on wr nq))
            have HB := Lib.hid (below_on HB.out (drewN_on wr nq))
            go_wp2_with fail
            go_roundw
            case rel => exact ⟨k + 1, n + 1, by omega, by go_num, by have := HM8.out; rw [IntWalk.wrap64_in _ (by omega)]; rfl, by rw [HN1.out, HN.out], HR1.out, HR3.out, HE1.out, HE2.out, HB.out⟩
            case measure => simp [intOf]; omega
    · obtain rfl : k = L.length := by omega
      have hnm : n = M.length := by rw [← HN.out, List.take_length, HM.out]
      subst hnm
      clear HE1 HE2 HN
      go_wp2_with (first
        | (refine row_arrQ rfl 22 _ rfl b3 1 64 rfl q HR3.out (by decide) p HBd.out _ Tryz.underlying22 rfl bdSize ?_)
        | (refine row_arrQ rfl 22 _ rfl b1 1 64 rfl p HR1.out (by decide) p (fun _ _ => rfl) _ Tryz.underlying22 rfl bdSize ?_)
        | (refine bd_eql rfl _ _ rfl p rfl rfl WP.out ?_)
        | (refine step_get rfl 5 _ rfl b3 78 rfl Tryz.underlying5 rfl (.int .u8 (p 78)) ?_ ?_; exact (HR3.out.cell 78 (by decide)).trans (by rw [HTn.out]; rfl))
        | (refine step_get rfl 5 _ rfl b1 78 rfl Tryz.underlying5 rfl (.int .u8 (p 78)) ?_ ?_; exact HR1.out.cell 78 (by decide))
        | (go_at_call 11; refine (va_awake _ (HT.out.on HB.out) (HK.out.on HB.out) (HD.out.next HB.out) (HL.out.next HB.out) (HU.out.on HB.out)).mono ?_; rintro e w3 ⟨rfl, hb⟩; have HB := Lib.hid (below_on HB.out hb); clear hb))
      go_ret
      exact ⟨rfl, HB.out⟩
set_option maxRecDepth 100000 in
set_option maxHeartbeats 1000000 in
theorem mended_one (p q : Nat → Int) (L M : List Int) (w : World) (hp : WfP p) (hT : TabVar w) (hK : TabKn w) (hD : TabDb w) (hL : TabLead w) (hU : TabUs w) (hq : mdP p = q) (hl : wrL p = L) (hm : wrL q = M) (ha : argB p = true) (x : Int) (hs : wrL p = [x]) : Calls Tryz.prog 6 #[.agg (posA p)] w fun e w' => e = .returned (.bool true) ∧ Below w.heap.size w w' := by
  have WP := Lib.hid hp
  have FP := Lib.hid (FitP.of hp)
  have WQ := Lib.hid (show WfP q by rw [← hq]; exact md_wf hp)
  have FQ := Lib.hid (FitP.of WQ.out)
  have HT := Lib.hid hT
  have HK := Lib.hid hK
  have HD := Lib.hid hD
  have HL := Lib.hid hL
  have HU := Lib.hid hU
  have HQ := Lib.hid hq
  have Hl := Lib.hid hl
  have Hm := Lib.hid hm
  have HL8 : L.length ≤ 8 := by rw [← hl]; exact wr_len p
  have HM8 := Lib.hid (show M.length ≤ 8 by rw [← hm]; exact wr_len q)
  have WMq := Lib.hid (show WfP (mdP q) from md_wf WQ.out)
  have HE9 := Lib.hid (show posA (mdP q) = posA q by rw [← hq]; exact md_again ha)
  have HM := Lib.hid (show M = L.filter kpB by rw [← hm, ← hl, ← hq]; exact wr_mend ha)
  have HBd := Lib.hid (show ∀ j, j < 64 → q (1 + j) = p (1 + j) from fun j hj => by rw [← hq]; exact md_low (by omega))
  have HTn := Lib.hid (show q 78 = p 78 by rw [← hq]; exact md_low (by omega))
  have HX2 := Lib.hid (show ¬ x = 2 from wr_two ha x (by rw [hs]; exact List.mem_singleton.2 rfl))
  have HSh := Lib.hid (show L = [x] by rw [← hl, hs])
  have HZ := Lib.hid (show ¬ L = [] by rw [HSh.out]; exact List.cons_ne_nil _ _)
  clear hs
  clear hp hT hK hD hL hU hq hl hm ha
  have HB := Lib.hid (Below.refl w.heap.size w)
  go_enter Tryz.func6, Tryz.ntmps6
  go_wp2_with (first
    | (refine step_box rfl _ rfl p rfl ?_; intro b1 wn N R; have HB := Lib.hid (HB.out.trans (N.below.mono HB.out.size)); have HG1 := Lib.hid (show w.heap.size ≤ b1 by have := N.at_; omega); have HR1 := Lib.hid R; clear N R)
    | (refine step_load rfl _ rfl b1 rfl p HR1.out ?_)
    | (go_at_call 12; refine (mend_any p _ FP.out (HT.out.on HB.out) (HD.out.next HB.out) (HL.out.next HB.out) (HU.out.on HB.out)).mono ?_; rintro e wm ⟨rfl, hb⟩; rw [HQ.out]; have HR1 := Lib.hid (HR1.out.later hb); have HB := Lib.hid (below_on HB.out hb); clear hb)
    | (refine step_alloc rfl rfl ?_; intro b3 wn N R; have HG3 := Lib.hid (show w.heap.size ≤ b3 by have := N.at_; have := HB.out.size; omega); have HD13 := Lib.hid (show b1 ≠ b3 by have := N.at_; have := HR1.out.lt; omega); have HR1 := Lib.hid (HR1.out.later N.below); have HR3 := Lib.hid R; have HB := Lib.hid (below_on HB.out N.below); clear N R)
    | (refine step_store rfl _ _ rfl b3 rfl zeroP q rfl ?_ ?_; exact HR3.out; intro w2 U R; have HR1 := Lib.hid (HR1.out.apart U HD13.out); have HR3 := Lib.hid R; have HB := Lib.hid (HB.out.trans (U.below HG3.out)); clear U R))
  refine late_begin 6 (by kernel_rfl) ?_
  refine ltk 0 (by kernel_rfl) (fun _ _ d _ _ h => by cases d <;> exact h) (fun o ho => ?_)
  simp only [qa, qb, qc, qd] at ho; subst ho
  refine ⟨_, Or.inl ⟨by kernel_rfl, fun w' hl => Or.inl (run_load _ rfl _ rfl (p) (HR1.out.later hl))⟩, ?_⟩
  simp only [Act.put, pa, pb, pc]
  refine ltk 2 (by kernel_rfl) (fun _ _ d _ _ h => by cases d <;> exact h) (fun o ho => ?_)
  simp only [qa, qb, qc, qd] at ho; subst ho
  refine ⟨_, Or.inl ⟨by kernel_rfl, fun w' hl => Or.inl (run_load _ rfl _ rfl (q) (HR3.out.later hl))⟩, ?_⟩
  simp only [Act.put, pa, pb, pc]
  refine late_one 1 (by kernel_rfl) (by kernel_rfl) (fun o ho => ?_)
  simp only [qa, qb, qc, qd] at ho; subst ho
  refine ⟨by kernel_rfl, fun wn hl K hK => ?_⟩
  have HR1 := Lib.hid (HR1.out.later hl); have HR3 := Lib.hid (HR3.out.later hl); have HB := Lib.hid (below_on HB.out hl); clear hl
  refine wp_enter _ _ (by go_simp; exact ⟨rfl, rfl⟩) ?_
  refine (all_any12 _ _ FP.out (HT.out.on HB.out) (HD.out.next HB.out) (HL.out.next HB.out) (HU.out.on HB.out)).mono ?_; rintro e wm ⟨v, rfl, hv, hb⟩; rw [Hl.out] at hv; obtain ⟨a1, ca1, rfl, hE⟩ := ers_of hv; have HEn := Lib.hid hE; clear hv hE; refine ⟨_, rfl, ?_⟩
  refine hK.out _ _ hb ?_
  have HR1 := Lib.hid (HR1.out.later hb); have HR3 := Lib.hid (HR3.out.later hb); have HB := Lib.hid (below_on HB.out hb); clear hb
  have HE1 := HEn; clear HEn
  clear hK K
  simp only [Act.put, pa, pb, pc]
  refine late_one 3 (by kernel_rfl) (by kernel_rfl) (fun o ho => ?_)
  simp only [qa, qb, qc, qd] at ho; subst ho
  refine ⟨by kernel_rfl, fun wn hl K hK => ?_⟩
  have HR1 := Lib.hid (HR1.out.later hl); have HR3 := Lib.hid (HR3.out.later hl); have HE1 := Lib.hid (HE1.out.later hl); have HB := Lib.hid (below_on HB.out hl); clear hl
  refine wp_enter _ _ (by go_simp; exact ⟨rfl, rfl⟩) ?_
  refine (all_any12 _ _ FQ.out (HT.out.on HB.out) (HD.out.next HB.out) (HL.out.next HB.out) (HU.out.on HB.out)).mono ?_; rintro e wm ⟨v, rfl, hv, hb⟩; rw [Hm.out] at hv; obtain ⟨a2, ca2, rfl, hE⟩ := ers_of hv; have HEn := Lib.hid hE; clear hv hE; refine ⟨_, rfl, ?_⟩
  refine hK.out _ _ hb ?_
  have HR1 := Lib.hid (HR1.out.later hb); have HR3 := Lib.hid (HR3.out.later hb); have HE1 := Lib.hid (HE1.out.later hb); have HB := Lib.hid (below_on HB.out hb); clear hb
  have HE2 := HEn; clear HEn
  clear hK K
  simp only [Act.put, pa, pb, pc]
  refine ltk 4 (by kernel_rfl) (fun _ _ d _ _ h => by cases d <;> exact h) (fun o ho => ?_)
  simp only [qa, qb, qc, qd] at ho; subst ho
  apply Exists.intro
  refine ⟨Or.inl ⟨by kernel_rfl, fun w' hl => Or.inl ?_⟩, ?_⟩
  · (go_simp; try with_reducible rfl)
  simp only [Act.put, pa, pb, pc]
  refine ltk 5 (by kernel_rfl) (fun _ _ d _ _ h => by cases d <;> exact h) (fun o ho => ?_)
  simp only [qa, qb, qc, qd] at ho; subst ho
  apply Exists.intro
  refine ⟨Or.inl ⟨by kernel_rfl, fun w' hl => Or.inl ?_⟩, ?_⟩
  · (go_simp; try with_reducible rfl)
  simp only [Act.put, pa, pb, pc]
  refine late_end (by kernel_rfl) (fun wn hl => ?_)
  have HR1 := Lib.hid (HR1.out.later hl); have HR3 := Lib.hid (HR3.out.later hl); have HE1 := Lib.hid (HE1.out.later hl); have HE2 := Lib.hid (HE2.out.later hl); have HB := Lib.hid (below_on HB.out hl); clear hl
  go_wp2_with fail
  refine late_begin 14 (by kernel_rfl) ?_
  refine ltk 0 (by kernel_rfl) (fun _ _ d _ _ h => by cases d <;> exact h) (fun o ho => ?_)
  simp only [qa, qb, qc, qd] at ho; subst ho
  refine ⟨_, Or.inl ⟨by kernel_rfl, fun w' hl => Or.inl (run_load _ rfl _ rfl (q) (HR3.out.later hl))⟩, ?_⟩
  simp only [Act.put, pa, pb, pc]
  refine ltk 2 (by kernel_rfl) (fun _ _ d _ _ h => by cases d <;> exact h) (fun o ho => ?_)
  simp only [qa, qb, qc, qd] at ho; subst ho
  refine ⟨_, Or.inl ⟨by kernel_rfl, fun w' hl => Or.inl (run_load _ rfl _ rfl (q) (HR3.out.later hl))⟩, ?_⟩
  simp only [Act.put, pa, pb, pc]
  refine late_one 1 (by kernel_rfl) (by kernel_rfl) (fun o ho => ?_)
  simp only [qa, qb, qc, qd] at ho; subst ho
  refine ⟨by kernel_rfl, fun wn hl K hK => ?_⟩
  have HR1 := Lib.hid (HR1.out.later hl); have HR3 := Lib.hid (HR3.out.later hl); have HE1 := Lib.hid (HE1.out.later hl); have HE2 := Lib.hid (HE2.out.later hl); have HB := Lib.hid (below_on HB.out hl); clear hl
  refine wp_enter _ _ (by go_simp; exact ⟨rfl, rfl⟩) ?_
  refine (mend_any q _ FQ.out (HT.out.on HB.out) (HD.out.next HB.out) (HL.out.next HB.out) (HU.out.on HB.out)).mono ?_; rintro e wm ⟨rfl, hb⟩; refine ⟨_, rfl, ?_⟩
  refine hK.out _ _ hb ?_
  have HR1 := Lib.hid (HR1.out.later hb); have HR3 := Lib.hid (HR3.out.later hb); have HE1 := Lib.hid (HE1.out.later hb); have HE2 := Lib.hid (HE2.out.later hb); have HB := Lib.hid (below_on HB.out hb); clear hb
  clear hK K
  simp only [Act.put, pa, pb, pc]
  refine ltk 3 (by kernel_rfl) (fun _ _ d _ _ h => by cases d <;> exact h) (fun o ho => ?_)
  simp only [qa, qb, qc, qd] at ho; subst ho
  refine ⟨_, Or.inl ⟨by kernel_rfl, fun w' hl => Or.inl (run_neq _ _ rfl (mdP q) q rfl rfl WMq.out HE9.out)⟩, ?_⟩
  simp only [Act.put, pa, pb, pc]
  refine ltk 4 (by kernel_rfl) (fun _ _ d _ _ h => by cases d <;> exact h) (fun o ho => ?_)
  simp only [qa, qb, qc, qd] at ho; subst ho
  apply Exists.intro
  refine ⟨Or.inl ⟨by kernel_rfl, fun w' hl => Or.inl ?_⟩, ?_⟩
  · (go_simp; try with_reducible rfl)
  simp only [Act.put, pa, pb, pc]
  refine ltk 5 (by kernel_rfl) (fun _ _ d _ _ h => by cases d <;> exact h) (fun o ho => ?_)
  simp only [qa, qb, qc, qd] at ho; subst ho
  apply Exists.intro
  refine ⟨Or.inl ⟨by kernel_rfl, fun w' hl => Or.inl ?_⟩, ?_⟩
  · (go_simp; try with_reducible rfl)
  simp only [Act.put, pa, pb, pc]
  refine ltk 6 (by kernel_rfl) (fun _ _ d _ _ h => by cases d <;> exact h) (fun o ho => ?_)
  simp only [qa, qb, qc, qd] at ho; subst ho
  apply Exists.intro
  refine ⟨Or.inl ⟨by kernel_rfl, fun w' hl => Or.inl ?_⟩, ?_⟩
  · (go_simp; try with_reducible rfl)
  simp only [Act.put, pa, pb, pc]
  refine ltk 7 (by kernel_rfl) (fun _ _ d _ _ h => by cases d <;> exact h) (fun o ho => ?_)
  simp only [qa, qb, qc, qd] at ho; subst ho
  refine ⟨.bool false, Or.inl ⟨by kernel_rfl, fun w' hl => Or.inl ?_⟩, ?_⟩
  · (go_simp; try simp [HZ.out])
  simp only [Act.put, pa, pb, pc]
  refine ltk 8 (by kernel_rfl) (fun _ _ d _ _ h => by cases d <;> exact h) (fun o ho => ?_)
  simp only [qa, qb, qc, qd] at ho; subst ho
  apply Exists.intro
  refine ⟨Or.inl ⟨by kernel_rfl, fun w' hl => Or.inl ?_⟩, ?_⟩
  · (go_simp; try with_reducible rfl)
  simp only [Act.put, pa, pb, pc]
  refine ltk 9 (by kernel_rfl) (fun _ _ d _ _ h => by cases d <;> exact h) (fun o ho => ?_)
  simp only [qa, qb, qc, qd] at ho; subst ho
  refine ⟨_, Or.inr ⟨by kernel_rfl, rfl⟩, ?_⟩
  simp only [Act.put, pa, pb, pc]
  refine ltk 10 (by kernel_rfl) (fun _ _ d _ _ h => by cases d <;> exact h) (fun o ho => ?_)
  simp only [qa, qb, qc, qd] at ho; subst ho
  refine ⟨_, Or.inr ⟨by kernel_rfl, rfl⟩, ?_⟩
  simp only [Act.put, pa, pb, pc]
  refine ltk 11 (by kernel_rfl) (fun _ _ d _ _ h => by cases d <;> exact h) (fun o ho => ?_)
  simp only [qa, qb, qc, qd] at ho; subst ho
  refine ⟨_, Or.inr ⟨by kernel_rfl, rfl⟩, ?_⟩
  simp only [Act.put, pa, pb, pc]
  refine ltk 12 (by kernel_rfl) (fun _ _ d _ _ h => by cases d <;> exact h) (fun o ho => ?_)
  simp only [qa, qb, qc, qd] at ho; subst ho
  apply Exists.intro
  refine ⟨Or.inl ⟨by kernel_rfl, fun w' hl => Or.inl ?_⟩, ?_⟩
  · (go_simp; try with_reducible rfl)
  simp only [Act.put, pa, pb, pc]
  refine ltk 13 (by kernel_rfl) (fun _ _ d _ _ h => by cases d <;> exact h) (fun o ho => ?_)
  simp only [qa, qb, qc, qd] at ho; subst ho
  apply Exists.intro
  refine ⟨Or.inl ⟨by kernel_rfl, fun w' hl => Or.inl ?_⟩, ?_⟩
  · (go_simp; try with_reducible rfl)
  simp only [Act.put, pa, pb, pc]
  refine late_end (by kernel_rfl) (fun wn hl => ?_)
  have HR1 := Lib.hid (HR1.out.later hl); have HR3 := Lib.hid (HR3.out.later hl); have HE1 := Lib.hid (HE1.out.later hl); have HE2 := Lib.hid (HE2.out.later hl); have HB := Lib.hid (below_on HB.out hl); clear hl
  have hz : (L.length : Int) = 1 := (by rw [HSh.out]; rfl)
  have hx2 : ¬ x = 2 := HX2.out
  have hl0 : 0 < L.length := by rw [HSh.out]; exact Nat.one_pos
  obtain ⟨g1, rfl, hc1⟩ := HE1.out.cell (i := 0) (x := x) (by rw [HSh.out]; rfl)
  have hxb : (x == 2) = false := beq_eq_false_iff_ne.2 HX2.out
  go_wp2_with fail
  try rw [hxb]
  clear hc1 hz hx2 hl0 hxb
  go_loopw [6, 7] (fun m i wr => ∃ k n : Nat, k ≤ L.length ∧ i = .int .i64 (k : Int) ∧ m = .int .i64 (n : Int) ∧ ((L.take k).filter kpB).length = n ∧ Row wr b1 p ∧ Row wr b3 q ∧ Ers L (some ⟨g1, 0, none⟩) wr ∧ Ers M a2 wr ∧ Below w.heap.size w wr) (fun _ i _ => L.length - (intOf i).toNat)
  case atStart => exact ⟨0, 0, by omega, rfl, rfl, rfl, HR1.out, HR3.out, HE1.out, HE2.out, HB.out⟩
  case round =>
    clear HR1 HR3 HE1 HE2 HB
    obtain ⟨k, n, hk, rfl, rfl, hn, hr1, hr3, he1, he2, hbw⟩ := hrel
    have HR1 := Lib.hid hr1
    have HR3 := Lib.hid hr3
    have HE1 := Lib.hid he1
    have HE2 := Lib.hid he2
    have HB := Lib.hid hbw
    have HN := Lib.hid hn
    clear hr1 hr3 he1 he2 hbw hn
    by_cases hlt : k < L.length
    · obtain ⟨x, hx⟩ : ∃ x, L[k]? = some x := ⟨_, List.getElem?_eq_getElem hlt⟩
      have HX := Lib.hid hx
      obtain ⟨g9, e9, hc1⟩ := HE1.out.cell hx
      cases e9
      clear hx
      by_cases e3 : x = 123
      · subst e3
        have HN1 := Lib.hid (fil_no (f := kpB) HX.out rfl)
        go_wp2_with fail
        go_roundw
        case rel => exact ⟨k + 1, n, by omega, by go_num, rfl, by rw [HN1.out, HN.out], HR1.out, HR3.out, HE1.out, HE2.out, HB.out⟩
        case measure => simp [intOf]; omega
      · by_cases e4 : x = 124
        · subst e4
          have HN1 := Lib.hid (fil_no (f := kpB) HX.out rfl)
          go_wp2_with fail
          go_roundw
          case rel => exact ⟨k + 1, n, by omega, by go_num, rfl, by rw [HN1.out, HN.out], HR1.out, HR3.out, HE1.out, HE2.out, HB.out⟩
          case measure => simp [intOf]; omega
        · by_cases e5 : x = 125
          · subst e5
            have HN1 := Lib.hid (fil_no (f := kpB) HX.out rfl)
            go_wp2_with fail
            go_roundw
            case rel => exact ⟨k + 1, n, by omega, by go_num, rfl, by rw [HN1.out, HN.out], HR1.out, HR3.out, HE1.out, HE2.out, HB.out⟩
            case measure => simp [intOf]; omega
          · have hkp : kpB x = true := by unfold kpB; simp [e3, e4, e5]
            have HN1 := Lib.hid (fil_yes (f := kpB) HX.out hkp)
            have hy : M[n]? = some x := by rw [HM.out, ← HN.out]; exact fil_at HX.out hkp
            have hnm : n < M.length := (List.getElem?_eq_some_iff.1 hy).1
            obtain ⟨g2, rfl, hc2⟩ := HE2.out.cell hy
            have d3 : decide (x = 123) = false := decide_eq_false e3
            have d4 : decide (x = 124) = false := decide_eq_false e4
            have d5 : decide (x = 125) = false := decide_eq_false e5
            have dn : decide ((M.length : Int) ≤ (n : Int)) = false := decide_eq_false (by omega)
            have HM8 := Lib.hid (show n < 8 by have := HM8.out; omega)
            clear hy hkp
            go_wp2_with fail
            go_quiet (fail)
            have HR1 := Lib.hid (HR1.out.later (drewN_on wr nq))
            have HR3 := Lib.hid (HR3.out.later (drewN_on wr nq))
            have HE1 := Lib.hid (HE1.out.later (drewN_on wr nq))
            have HE2 := Lib.hid (HE2.out.later (drewN_on wr nq))
            have HB := Lib.hid (below_on HB.out (drewN_on wr nq))
            go_wp2_with fail
            go_roundw
            case rel => exact ⟨k + 1, n + 1, by omega, by go_num, by have := HM8.out; rw [IntWalk.wrap64_in _ (by omega)]; rfl, by rw [HN1.out, HN.out], HR1.out, HR3.out, HE1.out, HE2.out, HB.out⟩
            case measure => simp [intOf]; omega
    · obtain rfl : k = L.length := by omega
      have hnm : n = M.length := by rw [← HN.out, List.take_length, HM.out]
      subst hnm
      clear HE1 HE2 HN
      go_wp2_with (first
        | (refine row_arrQ rfl 22 _ rfl b3 1 64 rfl q HR3.out (by decide) p HBd.out _ Tryz.underlying22 rfl bdSize ?_)
        | (refine row_arrQ rfl 22 _ rfl b1 1 64 rfl p HR1.out (by decide) p (fun _ _ => rfl) _ Tryz.underlying22 rfl bdSize ?_)
        | (refine bd_eql rfl _ _ rfl p rfl rfl WP.out ?_)
        | (refine step_get rfl 5 _ rfl b3 78 rfl Tryz.underlying5 rfl (.int .u8 (p 78)) ?_ ?_; exact (HR3.out.cell 78 (by decide)).trans (by rw [HTn.out]; rfl))
        | (refine step_get rfl 5 _ rfl b1 78 rfl Tryz.underlying5 rfl (.int .u8 (p 78)) ?_ ?_; exact HR1.out.cell 78 (by decide))
        | (go_at_call 11; refine (va_awake _ (HT.out.on HB.out) (HK.out.on HB.out) (HD.out.next HB.out) (HL.out.next HB.out) (HU.out.on HB.out)).mono ?_; rintro e w3 ⟨rfl, hb⟩; have HB := Lib.hid (below_on HB.out hb); clear hb))
      go_ret
      exact ⟨rfl, HB.out⟩
set_option maxRecDepth 100000 in
set_option maxHeartbeats 1000000 in
theorem mended_more (p q : Nat → Int) (L M : List Int) (w : World) (hp : WfP p) (hT : TabVar w) (hK : TabKn w) (hD : TabDb w) (hL : TabLead w) (hU : TabUs w) (hq : mdP p = q) (hl : wrL p = L) (hm : wrL q = M) (ha : argB p = true) (hs : 2 ≤ (wrL p).length) : Calls Tryz.prog 6 #[.agg (posA p)] w fun e w' => e = .returned (.bool true) ∧ Below w.heap.size w w' := by
  have WP := Lib.hid hp
  have FP := Lib.hid (FitP.of hp)
  have WQ := Lib.hid (show WfP q by rw [← hq]; exact md_wf hp)
  have FQ := Lib.hid (FitP.of WQ.out)
  have HT := Lib.hid hT
  have HK := Lib.hid hK
  have HD := Lib.hid hD
  have HL := Lib.hid hL
  have HU := Lib.hid hU
  have HQ := Lib.hid hq
  have Hl := Lib.hid hl
  have Hm := Lib.hid hm
  have HL8 : L.length ≤ 8 := by rw [← hl]; exact wr_len p
  have HM8 := Lib.hid (show M.length ≤ 8 by rw [← hm]; exact wr_len q)
  have WMq := Lib.hid (show WfP (mdP q) from md_wf WQ.out)
  have HE9 := Lib.hid (show posA (mdP q) = posA q by rw [← hq]; exact md_again ha)
  have HM := Lib.hid (show M = L.filter kpB by rw [← hm, ← hl, ← hq]; exact wr_mend ha)
  have HBd := Lib.hid (show ∀ j, j < 64 → q (1 + j) = p (1 + j) from fun j hj => by rw [← hq]; exact md_low (by omega))
  have HTn := Lib.hid (show q 78 = p 78 by rw [← hq]; exact md_low (by omega))
  have HS2 := Lib.hid (show 2 ≤ L.length by rw [← hl]; exact hs)
  have HZ := Lib.hid (show ¬ L = [] by intro h; have := HS2.out; rw [h] at this; exact absurd this (by decide))
  clear hs
  clear hp hT hK hD hL hU hq hl hm ha
  have HB := Lib.hid (Below.refl w.heap.size w)
  go_enter Tryz.func6, Tryz.ntmps6
  go_wp2_with (first
    | (refine step_box rfl _ rfl p rfl ?_; intro b1 wn N R; have HB := Lib.hid (HB.out.trans (N.below.mono HB.out.size)); have HG1 := Lib.hid (show w.heap.size ≤ b1 by have := N.at_; omega); have HR1 := Lib.hid R; clear N R)
    | (refine step_load rfl _ rfl b1 rfl p HR1.out ?_)
    | (go_at_call 12; refine (mend_any p _ FP.out (HT.out.on HB.out) (HD.out.next HB.out) (HL.out.next HB.out) (HU.out.on HB.out)).mono ?_; rintro e wm ⟨rfl, hb⟩; rw [HQ.out]; have HR1 := Lib.hid (HR1.out.later hb); have HB := Lib.hid (below_on HB.out hb); clear hb)
    | (refine step_alloc rfl rfl ?_; intro b3 wn N R; have HG3 := Lib.hid (show w.heap.size ≤ b3 by have := N.at_; have := HB.out.size; omega); have HD13 := Lib.hid (show b1 ≠ b3 by have := N.at_; have := HR1.out.lt; omega); have HR1 := Lib.hid (HR1.out.later N.below); have HR3 := Lib.hid R; have HB := Lib.hid (below_on HB.out N.below); clear N R)
    | (refine step_store rfl _ _ rfl b3 rfl zeroP q rfl ?_ ?_; exact HR3.out; intro w2 U R; have HR1 := Lib.hid (HR1.out.apart U HD13.out); have HR3 := Lib.hid R; have HB := Lib.hid (HB.out.trans (U.below HG3.out)); clear U R))
  refine late_begin 6 (by kernel_rfl) ?_
  refine ltk 0 (by kernel_rfl) (fun _ _ d _ _ h => by cases d <;> exact h) (fun o ho => ?_)
  simp only [qa, qb, qc, qd] at ho; subst ho
  refine ⟨_, Or.inl ⟨by kernel_rfl, fun w' hl => Or.inl (run_load _ rfl _ rfl (p) (HR1.out.later hl))⟩, ?_⟩
  simp only [Act.put, pa, pb, pc]
  refine ltk 2 (by kernel_rfl) (fun _ _ d _ _ h => by cases d <;> exact h) (fun o ho => ?_)
  simp only [qa, qb, qc, qd] at ho; subst ho
  refine ⟨_, Or.inl ⟨by kernel_rfl, fun w' hl => Or.inl (run_load _ rfl _ rfl (q) (HR3.out.later hl))⟩, ?_⟩
  simp only [Act.put, pa, pb, pc]
  refine late_one 1 (by kernel_rfl) (by kernel_rfl) (fun o ho => ?_)
  simp only [qa, qb, qc, qd] at ho; subst ho
  refine ⟨by kernel_rfl, fun wn hl K hK => ?_⟩
  have HR1 := Lib.hid (HR1.out.later hl); have HR3 := Lib.hid (HR3.out.later hl); have HB := Lib.hid (below_on HB.out hl); clear hl
  refine wp_enter _ _ (by go_simp; exact ⟨rfl, rfl⟩) ?_
  refine (all_any12 _ _ FP.out (HT.out.on HB.out) (HD.out.next HB.out) (HL.out.next HB.out) (HU.out.on HB.out)).mono ?_; rintro e wm ⟨v, rfl, hv, hb⟩; rw [Hl.out] at hv; obtain ⟨a1, ca1, rfl, hE⟩ := ers_of hv; have HEn := Lib.hid hE; clear hv hE; refine ⟨_, rfl, ?_⟩
  refine hK.out _ _ hb ?_
  have HR1 := Lib.hid (HR1.out.later hb); have HR3 := Lib.hid (HR3.out.later hb); have HB := Lib.hid (below_on HB.out hb); clear hb
  have HE1 := HEn; clear HEn
  clear hK K
  simp only [Act.put, pa, pb, pc]
  refine late_one 3 (by kernel_rfl) (by kernel_rfl) (fun o ho => ?_)
  simp only [qa, qb, qc, qd] at ho; subst ho
  refine ⟨by kernel_rfl, fun wn hl K hK => ?_⟩
  have HR1 := Lib.hid (HR1.out.later hl); have HR3 := Lib.hid (HR3.out.later hl); have HE1 := Lib.hid (HE1.out.later hl); have HB := Lib.hid (below_on HB.out hl); clear hl
  refine wp_enter _ _ (by go_simp; exact ⟨rfl, rfl⟩) ?_
  refine (all_any12 _ _ FQ.out (HT.out.on HB.out) (HD.out.next HB.out) (HL.out.next HB.out) (HU.out.on HB.out)).mono ?_; rintro e wm ⟨v, rfl, hv, hb⟩; rw [Hm.out] at hv; obtain ⟨a2, ca2, rfl, hE⟩ := ers_of hv; have HEn := Lib.hid hE; clear hv hE; refine ⟨_, rfl, ?_⟩
  refine hK.out _ _ hb ?_
  have HR1 := Lib.hid (HR1.out.later hb); have HR3 := Lib.hid (HR3.out.later hb); have HE1 := Lib.hid (HE1.out.later hb); have HB := Lib.hid (below_on HB.out hb); clear hb
  have HE2 := HEn; clear HEn
  clear hK K
  simp only [Act.put, pa, pb, pc]
  refine ltk 4 (by kernel_rfl) (fun _ _ d _ _ h => by cases d <;> exact h) (fun o ho => ?_)
  simp only [qa, qb, qc, qd] at ho; subst ho
  apply Exists.intro
  refine ⟨Or.inl ⟨by kernel_rfl, fun w' hl => Or.inl ?_⟩, ?_⟩
  · (go_simp; try with_reducible rfl)
  simp only [Act.put, pa, pb, pc]
  refine ltk 5 (by kernel_rfl) (fun _ _ d _ _ h => by cases d <;> exact h) (fun o ho => ?_)
  simp only [qa, qb, qc, qd] at ho; subst ho
  apply Exists.intro
  refine ⟨Or.inl ⟨by kernel_rfl, fun w' hl => Or.inl ?_⟩, ?_⟩
  · (go_simp; try with_reducible rfl)
  simp only [Act.put, pa, pb, pc]
  refine late_end (by kernel_rfl) (fun wn hl => ?_)
  have HR1 := Lib.hid (HR1.out.later hl); have HR3 := Lib.hid (HR3.out.later hl); have HE1 := Lib.hid (HE1.out.later hl); have HE2 := Lib.hid (HE2.out.later hl); have HB := Lib.hid (below_on HB.out hl); clear hl
  go_wp2_with fail
  refine late_begin 14 (by kernel_rfl) ?_
  refine ltk 0 (by kernel_rfl) (fun _ _ d _ _ h => by cases d <;> exact h) (fun o ho => ?_)
  simp only [qa, qb, qc, qd] at ho; subst ho
  refine ⟨_, Or.inl ⟨by kernel_rfl, fun w' hl => Or.inl (run_load _ rfl _ rfl (q) (HR3.out.later hl))⟩, ?_⟩
  simp only [Act.put, pa, pb, pc]
  refine ltk 2 (by kernel_rfl) (fun _ _ d _ _ h => by cases d <;> exact h) (fun o ho => ?_)
  simp only [qa, qb, qc, qd] at ho; subst ho
  refine ⟨_, Or.inl ⟨by kernel_rfl, fun w' hl => Or.inl (run_load _ rfl _ rfl (q) (HR3.out.later hl))⟩, ?_⟩
  simp only [Act.put, pa, pb, pc]
  refine late_one 1 (by kernel_rfl) (by kernel_rfl) (fun o ho => ?_)
  simp only [qa, qb, qc, qd] at ho; subst ho
  refine ⟨by kernel_rfl, fun wn hl K hK => ?_⟩
  have HR1 := Lib.hid (HR1.out.later hl); have HR3 := Lib.hid (HR3.out.later hl); have HE1 := Lib.hid (HE1.out.later hl); have HE2 := Lib.hid (HE2.out.later hl); have HB := Lib.hid (below_on HB.out hl); clear hl
  refine wp_enter _ _ (by go_simp; exact ⟨rfl, rfl⟩) ?_
  refine (mend_any q _ FQ.out (HT.out.on HB.out) (HD.out.next HB.out) (HL.out.next HB.out) (HU.out.on HB.out)).mono ?_; rintro e wm ⟨rfl, hb⟩; refine ⟨_, rfl, ?_⟩
  refine hK.out _ _ hb ?_
  have HR1 := Lib.hid (HR1.out.later hb); have HR3 := Lib.hid (HR3.out.later hb); have HE1 := Lib.hid (HE1.out.later hb); have HE2 := Lib.hid (HE2.out.later hb); have HB := Lib.hid (below_on HB.out hb); clear hb
  clear hK K
  simp only [Act.put, pa, pb, pc]
  refine ltk 3 (by kernel_rfl) (fun _ _ d _ _ h => by cases d <;> exact h) (fun o ho => ?_)
  simp only [qa, qb, qc, qd] at ho; subst ho
  refine ⟨_, Or.inl ⟨by kernel_rfl, fun w' hl => Or.inl (run_neq _ _ rfl (mdP q) q rfl rfl WMq.out HE9.out)⟩, ?_⟩
  simp only [Act.put, pa, pb, pc]
  refine ltk 4 (by kernel_rfl) (fun _ _ d _ _ h => by cases d <;> exact h) (fun o ho => ?_)
  simp only [qa, qb, qc, qd] at ho; subst ho
  apply Exists.intro
  refine ⟨Or.inl ⟨by kernel_rfl, fun w' hl => Or.inl ?_⟩, ?_⟩
  · (go_simp; try with_reducible rfl)
  simp only [Act.put, pa, pb, pc]
  refine ltk 5 (by kernel_rfl) (fun _ _ d _ _ h => by cases d <;> exact h) (fun o ho => ?_)
  simp only [qa, qb, qc, qd] at ho; subst ho
  apply Exists.intro
  refine ⟨Or.inl ⟨by kernel_rfl, fun w' hl => Or.inl ?_⟩, ?_⟩
  · (go_simp; try with_reducible rfl)
  simp only [Act.put, pa, pb, pc]
  refine ltk 6 (by kernel_rfl) (fun _ _ d _ _ h => by cases d <;> exact h) (fun o ho => ?_)
  simp only [qa, qb, qc, qd] at ho; subst ho
  apply Exists.intro
  refine ⟨Or.inl ⟨by kernel_rfl, fun w' hl => Or.inl ?_⟩, ?_⟩
  · (go_simp; try with_reducible rfl)
  simp only [Act.put, pa, pb, pc]
  refine ltk 7 (by kernel_rfl) (fun _ _ d _ _ h => by cases d <;> exact h) (fun o ho => ?_)
  simp only [qa, qb, qc, qd] at ho; subst ho
  refine ⟨.bool false, Or.inl ⟨by kernel_rfl, fun w' hl => Or.inl ?_⟩, ?_⟩
  · (go_simp; try simp [HZ.out])
  simp only [Act.put, pa, pb, pc]
  refine ltk 8 (by kernel_rfl) (fun _ _ d _ _ h => by cases d <;> exact h) (fun o ho => ?_)
  simp only [qa, qb, qc, qd] at ho; subst ho
  apply Exists.intro
  refine ⟨Or.inl ⟨by kernel_rfl, fun w' hl => Or.inl ?_⟩, ?_⟩
  · (go_simp; try with_reducible rfl)
  simp only [Act.put, pa, pb, pc]
  refine ltk 9 (by kernel_rfl) (fun _ _ d _ _ h => by cases d <;> exact h) (fun o ho => ?_)
  simp only [qa, qb, qc, qd] at ho; subst ho
  refine ⟨_, Or.inr ⟨by kernel_rfl, rfl⟩, ?_⟩
  simp only [Act.put, pa, pb, pc]
  refine ltk 10 (by kernel_rfl) (fun _ _ d _ _ h => by cases d <;> exact h) (fun o ho => ?_)
  simp only [qa, qb, qc, qd] at ho; subst ho
  refine ⟨_, Or.inr ⟨by kernel_rfl, rfl⟩, ?_⟩
  simp only [Act.put, pa, pb, pc]
  refine ltk 11 (by kernel_rfl) (fun _ _ d _ _ h => by cases d <;> exact h) (fun o ho => ?_)
  simp only [qa, qb, qc, qd] at ho; subst ho
  refine ⟨_, Or.inr ⟨by kernel_rfl, rfl⟩, ?_⟩
  simp only [Act.put, pa, pb, pc]
  refine ltk 12 (by kernel_rfl) (fun _ _ d _ _ h => by cases d <;> exact h) (fun o ho => ?_)
  simp only [qa, qb, qc, qd] at ho; subst ho
  apply Exists.intro
  refine ⟨Or.inl ⟨by kernel_rfl, fun w' hl => Or.inl ?_⟩, ?_⟩
  · (go_simp; try with_reducible rfl)
  simp only [Act.put, pa, pb, pc]
  refine ltk 13 (by kernel_rfl) (fun _ _ d _ _ h => by cases d <;> exact h) (fun o ho => ?_)
  simp only [qa, qb, qc, qd] at ho; subst ho
  apply Exists.intro
  refine ⟨Or.inl ⟨by kernel_rfl, fun w' hl => Or.inl ?_⟩, ?_⟩
  · (go_simp; try with_reducible rfl)
  simp only [Act.put, pa, pb, pc]
  refine late_end (by kernel_rfl) (fun wn hl => ?_)
  have HR1 := Lib.hid (HR1.out.later hl); have HR3 := Lib.hid (HR3.out.later hl); have HE1 := Lib.hid (HE1.out.later hl); have HE2 := Lib.hid (HE2.out.later hl); have HB := Lib.hid (below_on HB.out hl); clear hl
  have hz : ¬ ((L.length : Int) = 1) := (by have := HS2.out; omega)
  go_wp2_with fail
  clear hz
  go_loopw [6, 7] (fun m i wr => ∃ k n : Nat, k ≤ L.length ∧ i = .int .i64 (k : Int) ∧ m = .int .i64 (n : Int) ∧ ((L.take k).filter kpB).length = n ∧ Row wr b1 p ∧ Row wr b3 q ∧ Ers L a1 wr ∧ Ers M a2 wr ∧ Below w.heap.size w wr) (fun _ i _ => L.length - (intOf i).toNat)
  case atStart => exact ⟨0, 0, by omega, rfl, rfl, rfl, HR1.out, HR3.out, HE1.out, HE2.out, HB.out⟩
  case round =>
    clear HR1 HR3 HE1 HE2 HB
    obtain ⟨k, n, hk, rfl, rfl, hn, hr1, hr3, he1, he2, hbw⟩ := hrel
    have HR1 := Lib.hid hr1
    have HR3 := Lib.hid hr3
    have HE1 := Lib.hid he1
    have HE2 := Lib.hid he2
    have HB := Lib.hid hbw
    have HN := Lib.hid hn
    clear hr1 hr3 he1 he2 hbw hn
    by_cases hlt : k < L.length
    · obtain ⟨x, hx⟩ : ∃ x, L[k]? = some x := ⟨_, List.getElem?_eq_getElem hlt⟩
      have HX := Lib.hid hx
      obtain ⟨g1, rfl, hc1⟩ := HE1.out.cell hx
      clear hx
      by_cases e3 : x = 123
      · subst e3
        have HN1 := Lib.hid (fil_no (f := kpB) HX.out rfl)
        go_wp2_with fail
        go_roundw
        case rel => exact ⟨k + 1, n, by omega, by go_num, rfl, by rw [HN1.out, HN.out], HR1.out, HR3.out, HE1.out, HE2.out, HB.out⟩
        case measure => simp [intOf]; omega
      · by_cases e4 : x = 124
        · subst e4
          have HN1 := Lib.hid (fil_no (f := kpB) HX.out rfl)
          go_wp2_with fail
          go_roundw
          case rel => exact ⟨k + 1, n, by omega, by go_num, rfl, by rw [HN1.out, HN.out], HR1.out, HR3.out, HE1.out, HE2.out, HB.out⟩
          case measure => simp [intOf]; omega
        · by_cases e5 : x = 125
          · subst e5
            have HN1 := Lib.hid (fil_no (f := kpB) HX.out rfl)
            go_wp2_with fail
            go_roundw
            case rel => exact ⟨k + 1, n, by omega, by go_num, rfl, by rw [HN1.out, HN.out], HR1.out, HR3.out, HE1.out, HE2.out, HB.out⟩
            case measure => simp [intOf]; omega
          · have hkp : kpB x = true := by unfold kpB; simp [e3, e4, e5]
            have HN1 := Lib.hid (fil_yes (f := kpB) HX.out hkp)
            have hy : M[n]? = some x := by rw [HM.out, ← HN.out]; exact fil_at HX.out hkp
            have hnm : n < M.length := (List.getElem?_eq_some_iff.1 hy).1
            obtain ⟨g2, rfl, hc2⟩ := HE2.out.cell hy
            have d3 : decide (x = 123) = false := decide_eq_false e3
            have d4 : decide (x = 124) = false := decide_eq_false e4
            have d5 : decide (x = 125) = false := decide_eq_false e5
            have dn : decide ((M.length : Int) ≤ (n : Int)) = false := decide_eq_false (by omega)
            have HM8 := Lib.hid (show n < 8 by have := HM8.out; omega)
            clear hy hkp
            go_wp2_with fail
            go_quiet (fail)
            have HR1 := Lib.hid (HR1.out.later (drewN_on wr nq))
            have HR3 := Lib.hid (HR3.out.later (drewN_on wr nq))
            have HE1 := Lib.hid (HE1.out.later (drewN_on wr nq))
            have HE2 := Lib.hid (HE2.out.later (drewN_on wr nq))
            have HB := Lib.hid (below_on HB.out (drewN_on wr nq))
            go_wp2_with fail
            go_roundw
            case rel => exact ⟨k + 1, n + 1, by omega, by go_num, by have := HM8.out; rw [IntWalk.wrap64_in _ (by omega)]; rfl, by rw [HN1.out, HN.out], HR1.out, HR3.out, HE1.out, HE2.out, HB.out⟩
            case measure => simp [intOf]; omega
    · obtain rfl : k = L.length := by omega
      have hnm : n = M.length := by rw [← HN.out, List.take_length, HM.out]
      subst hnm
      clear HE1 HE2 HN
      go_wp2_with (first
        | (refine row_arrQ rfl 22 _ rfl b3 1 64 rfl q HR3.out (by decide) p HBd.out _ Tryz.underlying22 rfl bdSize ?_)
        | (refine row_arrQ rfl 22 _ rfl b1 1 64 rfl p HR1.out (by decide) p (fun _ _ => rfl) _ Tryz.underlying22 rfl bdSize ?_)
        | (refine bd_eql rfl _ _ rfl p rfl rfl WP.out ?_)
        | (refine step_get rfl 5 _ rfl b3 78 rfl Tryz.underlying5 rfl (.int .u8 (p 78)) ?_ ?_; exact (HR3.out.cell 78 (by decide)).trans (by rw [HTn.out]; rfl))
        | (refine step_get rfl 5 _ rfl b1 78 rfl Tryz.underlying5 rfl (.int .u8 (p 78)) ?_ ?_; exact HR1.out.cell 78 (by decide))
        | (go_at_call 11; refine (va_awake _ (HT.out.on HB.out) (HK.out.on HB.out) (HD.out.next HB.out) (HL.out.next HB.out) (HU.out.on HB.out)).mono ?_; rintro e w3 ⟨rfl, hb⟩; have HB := Lib.hid (below_on HB.out hb); clear hb))
      go_ret
      exact ⟨rfl, HB.out⟩
theorem walk (p : Nat → Int) (w0 : WfP p) (w : World) (hD : TabDb w) (hL : TabLead w) (hT : TabVar w) (hK : TabKn w) (hU : TabUs w) : Calls Tryz.prog 6 #[.agg (posA p)] w fun e w' => e = .returned (.bool true) ∧ Below w.heap.size w w' := by
  cases ha : argB p
  · exact mended_no p _ _ _ w w0 hT hK hD hL hU rfl rfl rfl ha
  · rcases hs : wrL p with _ | ⟨x, _ | ⟨y, l⟩⟩
    · exact mended_none p _ _ _ w w0 hT hK hD hL hU rfl rfl rfl ha hs
    · exact mended_one p _ _ _ w w0 hT hK hD hL hU rfl rfl rfl ha x hs
    · exact mended_more p _ _ _ w w0 hT hK hD hL hU rfl rfl rfl ha (by rw [hs]; simp)
end Go.Proofs.YtomelpgfccainaaGreatDoor.validMended
