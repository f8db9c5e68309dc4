/-
  The walk of HashClocks.
-/
import Derived.Test.YtboopdmgphhemaaDoorHaLaw
import Derived.WalkKit
import Derived.OpenShut
namespace Go.Proofs.YtboopdmgphhemaaDoor.hashClocks
open Go.RowKit
set_option linter.unusedVariables false
set_option linter.unusedSimpArgs false
set_option maxRecDepth 100000 in
set_option maxHeartbeats 4000000 in
theorem walk (p : Nat → Int) (a1 a2 : Int) (hp : WfP p) (w1 : (Lit.int .i64 a1).wf = true) (w2 : (Lit.int .i64 a2).wf = true) (w : World) (hT : TabMix w) :
    Calls Tryd.prog 8 #[.agg (posA p), .int .i64 a1, .int .i64 a2] w fun e w' => e = .returned (.bool true) ∧ Below w.heap.size w w' := by
  have HT := Lib.hid hT
  clear hT
  have HP := Lib.hid (FitP.of hp)
  obtain ⟨q, hq⟩ : ∃ q, upd (upd p 86 a1) 87 a2 = q := ⟨_, rfl⟩
  have HQ := Lib.hid (show FitP q by rw [← hq]; exact FitP.of ((hp.set (i := 86) w1).set (i := 87) w2))
  have HE := Lib.hid hq
  obtain ⟨n, hn⟩ : ∃ n, keyN p = n := ⟨_, rfl⟩
  have HK := Lib.hid (show keyN q = n by rw [← hn, ← hq]; exact key_rest fun i hi => by rw [upd_off (by omega), upd_off (by omega)])
  have HN := Lib.hid hn
  clear hp w1 w2 hq hn
  go_enter Tryd.func8, Tryd.ntmps8
  go_wp2_with (refine step_box rfl _ rfl p rfl ?_; intro b1 w1 N R; have HB := Lib.hid N.below; have HR1 := Lib.hid R; clear N R)
  refine (ha_awake _ (HT.out.on HB.out)).mono ?_; rintro e wn ⟨rfl, hb9⟩; have HR1 := Lib.hid (HR1.out.later hb9); have HB := Lib.hid (below_on HB.out hb9); clear hb9
  go_wp2_with (first
    | (refine step_load (by rfl) _ rfl b1 rfl p ?_ ?_; exact HR1.out)
    | (refine step_alloc (op := ⟨some 7, _, _, _, _, _⟩) rfl rfl ?_; intro b2 wn N R; have HD1 := Lib.hid (pushed_ne N HR1.out); have HR1 := Lib.hid (pushed_row N HR1.out); have HR2 := Lib.hid R; have HG := Lib.hid (show w.heap.size ≤ b2 by have := HB.out.size; have := N.at_; omega); have HB := Lib.hid (below_on HB.out N.below); clear N R)
    | (refine step_store rfl _ _ rfl b2 rfl _ p rfl HR2.out ?_; intro wn U R; have HR1 := Lib.hid (HR1.out.apart U HD1.out); have HR2 := Lib.hid R; have HB := Lib.hid (HB.out.trans (U.below HG.out)); clear U R)
    | (refine step_cell (by rfl) 3 _ _ rfl b2 86 rfl .i64 a1 rfl _ HR2.out (by decide) rfl sizeI64a ?_; intro wn U R; have HR1 := Lib.hid (HR1.out.apart U HD1.out); have HR2 := Lib.hid R; have HB := Lib.hid (HB.out.trans (U.below HG.out)); clear U R)
    | (refine step_cell (by rfl) 3 _ _ rfl b2 87 rfl .i64 a2 rfl _ HR2.out (by decide) rfl sizeI64a ?_; intro wn U R; have HR1 := Lib.hid (HR1.out.apart U HD1.out); have HR2 := Lib.hid R; have HB := Lib.hid (HB.out.trans (U.below HG.out)); clear U R))
  rw [HE.out] at HR2
  refine late_begin 6 (by kernel_rfl) ?_
  refine late_take 0 (by kernel_rfl) (by kernel_rfl) (by kernel_rfl) (by kernel_rfl) (by kernel_rfl) (fun _ _ d _ _ h => by cases d <;> exact h) (fun o ho => ?_)
  simp only [List.getElem?_toArray, List.getElem?_cons_zero, List.getElem?_cons_succ, Option.some.injEq] at ho; subst ho
  refine ⟨_, Or.inl ⟨by kernel_rfl, fun w' hl => Or.inl (run_load _ rfl _ rfl (q) (HR2.out.later hl))⟩, ?_⟩
  simp only [Act.put, List.setIfInBounds_toArray, List.set_cons_zero, List.set_cons_succ]
  refine late_take 2 (by kernel_rfl) (by kernel_rfl) (by kernel_rfl) (by kernel_rfl) (by kernel_rfl) (fun _ _ d _ _ h => by cases d <;> exact h) (fun o ho => ?_)
  simp only [List.getElem?_toArray, List.getElem?_cons_zero, List.getElem?_cons_succ, Option.some.injEq] at ho; subst ho
  refine ⟨_, Or.inl ⟨by kernel_rfl, fun w' hl => Or.inl (run_load _ rfl _ rfl (p) (HR1.out.later hl))⟩, ?_⟩
  simp only [Act.put, List.setIfInBounds_toArray, List.set_cons_zero, List.set_cons_succ]
  refine late_one 1 (by kernel_rfl) (by kernel_rfl) (fun o ho => ?_)
  simp only [List.getElem?_toArray, List.getElem?_cons_zero, List.getElem?_cons_succ, Option.some.injEq] at ho; subst ho
  refine ⟨by kernel_rfl, fun wn hl K hK => ?_⟩
  have HR1 := Lib.hid (HR1.out.later hl); have HR2 := Lib.hid (HR2.out.later hl); have HB := Lib.hid (below_on HB.out hl); clear hl
  refine wp_enter _ _ (by go_simp; exact ⟨rfl, rfl⟩) ?_
  refine (key_any q _ HQ.out (HT.out.on HB.out)).mono ?_; rintro e wm ⟨rfl, hb⟩; refine ⟨_, rfl, ?_⟩
  rw [HK.out]
  refine hK.out _ _ hb ?_
  have HR1 := Lib.hid (HR1.out.later hb); have HR2 := Lib.hid (HR2.out.later hb); have HB := Lib.hid (below_on HB.out hb); clear hb
  clear hK K
  simp only [Act.put, List.setIfInBounds_toArray, List.set_cons_zero, List.set_cons_succ]
  refine late_one 3 (by kernel_rfl) (by kernel_rfl) (fun o ho => ?_)
  simp only [List.getElem?_toArray, List.getElem?_cons_zero, List.getElem?_cons_succ, Option.some.injEq] at ho; subst ho
  refine ⟨by kernel_rfl, fun wn hl K hK => ?_⟩
  have HR1 := Lib.hid (HR1.out.later hl); have HR2 := Lib.hid (HR2.out.later hl); have HB := Lib.hid (below_on HB.out hl); clear hl
  refine wp_enter _ _ (by go_simp; exact ⟨rfl, rfl⟩) ?_
  refine (key_any p _ HP.out (HT.out.on HB.out)).mono ?_; rintro e wm ⟨rfl, hb⟩; refine ⟨_, rfl, ?_⟩
  rw [HN.out]
  refine hK.out _ _ hb ?_
  have HR1 := Lib.hid (HR1.out.later hb); have HR2 := Lib.hid (HR2.out.later hb); have HB := Lib.hid (below_on HB.out hb); clear hb
  clear hK K
  simp only [Act.put, List.setIfInBounds_toArray, List.set_cons_zero, List.set_cons_succ]
  refine late_take 4 (by kernel_rfl) (by kernel_rfl) (by kernel_rfl) (by kernel_rfl) (by kernel_rfl) (fun _ _ d _ _ h => by cases d <;> exact h) (fun o ho => ?_)
  simp only [List.getElem?_toArray, List.getElem?_cons_zero, List.getElem?_cons_succ, Option.some.injEq] at ho; subst ho
  apply Exists.intro
  refine ⟨Or.inl ⟨by kernel_rfl, fun w' hl => Or.inl ?_⟩, ?_⟩
  · (go_simp; try with_reducible rfl)
  simp only [Act.put, List.setIfInBounds_toArray, List.set_cons_zero, List.set_cons_succ]
  refine late_take 5 (by kernel_rfl) (by kernel_rfl) (by kernel_rfl) (by kernel_rfl) (by kernel_rfl) (fun _ _ d _ _ h => by cases d <;> exact h) (fun o ho => ?_)
  simp only [List.getElem?_toArray, List.getElem?_cons_zero, List.getElem?_cons_succ, Option.some.injEq] at ho; subst ho
  apply Exists.intro
  refine ⟨Or.inl ⟨by kernel_rfl, fun w' hl => Or.inl ?_⟩, ?_⟩
  · (go_simp; try with_reducible rfl)
  simp only [Act.put, List.setIfInBounds_toArray, List.set_cons_zero, List.set_cons_succ]
  refine late_end (by kernel_rfl) (fun wn hl => ?_)
  have HR1 := Lib.hid (HR1.out.later hl); have HR2 := Lib.hid (HR2.out.later hl); have HB := Lib.hid (below_on HB.out hl); clear hl
  go_wp2_with fail
  go_ret
  exact ⟨rfl, HB.out⟩
end Go.Proofs.YtboopdmgphhemaaDoor.hashClocks
