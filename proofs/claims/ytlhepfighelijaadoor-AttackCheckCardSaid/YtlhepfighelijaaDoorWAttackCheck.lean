/-
  The walk of AttackCheck.
-/
import Derived.Test.YtlhepfighelijaaDoorAtAwake
import Derived.WalkKit
import Derived.OpenShut
namespace Go.Proofs.YtlhepfighelijaaDoor.attackCheck
open Go.RowKit
set_option linter.unusedVariables false
set_option linter.unusedSimpArgs false
set_option maxRecDepth 100000 in
set_option maxHeartbeats 4000000 in
theorem walk (p : Nat → Int) (a1 : Int) (hp : WfP p) (w1 : (Lit.int .u8 a1).wf = true) (w : World) (hD : TabDb w) (hL : TabLead w) (hT : TabVar w) :
    Calls Tryd.prog 5 #[.agg (posA p), .int .u8 a1] w fun e w' => e = .returned (.bool true) ∧ Below w.heap.size w w' := by
  have HP := Lib.hid (AtR.of hp)
  have HD := Lib.hid hD
  have HL := Lib.hid hL
  have HT := Lib.hid hT
  have HC := Lib.hid (u8_rng w1)
  clear hp hD hL hT
  go_enter Tryd.func5, Tryd.ntmps5
  go_wp2_with (first | (refine step_box rfl _ rfl p rfl ?_; intro b1 w1 N R; have HB := Lib.hid N.below; have HR1 := Lib.hid R; clear N R) | (refine step_load (by rfl) _ rfl _ rfl p HR1.out ?_))
  refine late_begin 18 (by kernel_rfl) ?_
  refine late_take 0 (by kernel_rfl) (by kernel_rfl) (by kernel_rfl) (by kernel_rfl) (by kernel_rfl) (fun _ _ d _ _ h => by cases d <;> exact h) (fun o ho => ?_)
  simp only [List.getElem?_toArray, List.getElem?_cons_zero, List.getElem?_cons_succ, Option.some.injEq] at ho; subst ho
  refine ⟨_, Or.inl ⟨by kernel_rfl, fun w' hl => Or.inl (run_load _ rfl _ rfl (p) (HR1.out.later hl))⟩, ?_⟩
  simp only [Act.put, List.setIfInBounds_toArray, List.set_cons_zero, List.set_cons_succ]
  refine late_take 1 (by kernel_rfl) (by kernel_rfl) (by kernel_rfl) (by kernel_rfl) (by kernel_rfl) (fun _ _ d _ _ h => by cases d <;> exact h) (fun o ho => ?_)
  simp only [List.getElem?_toArray, List.getElem?_cons_zero, List.getElem?_cons_succ, Option.some.injEq] at ho; subst ho
  apply Exists.intro
  refine ⟨Or.inl ⟨by kernel_rfl, fun w' hl => Or.inl ?_⟩, ?_⟩
  · (go_simp; try with_reducible rfl)
  simp only [Act.put, List.setIfInBounds_toArray, List.set_cons_zero, List.set_cons_succ]
  refine late_take 3 (by kernel_rfl) (by kernel_rfl) (by kernel_rfl) (by kernel_rfl) (by kernel_rfl) (fun _ _ d _ _ h => by cases d <;> exact h) (fun o ho => ?_)
  simp only [List.getElem?_toArray, List.getElem?_cons_zero, List.getElem?_cons_succ, Option.some.injEq] at ho; subst ho
  refine ⟨_, Or.inl ⟨by kernel_rfl, fun w' hl => Or.inl (run_load _ rfl _ rfl (p) (HR1.out.later hl))⟩, ?_⟩
  simp only [Act.put, List.setIfInBounds_toArray, List.set_cons_zero, List.set_cons_succ]
  refine late_take 4 (by kernel_rfl) (by kernel_rfl) (by kernel_rfl) (by kernel_rfl) (by kernel_rfl) (fun _ _ d _ _ h => by cases d <;> exact h) (fun o ho => ?_)
  simp only [List.getElem?_toArray, List.getElem?_cons_zero, List.getElem?_cons_succ, Option.some.injEq] at ho; subst ho
  apply Exists.intro
  refine ⟨Or.inl ⟨by kernel_rfl, fun w' hl => Or.inl ?_⟩, ?_⟩
  · (go_simp; try with_reducible rfl)
  simp only [Act.put, List.setIfInBounds_toArray, List.set_cons_zero, List.set_cons_succ]
  refine late_one 2 (by kernel_rfl) (by kernel_rfl) (fun o ho => ?_)
  simp only [List.getElem?_toArray, List.getElem?_cons_zero, List.getElem?_cons_succ, Option.some.injEq] at ho; subst ho
  refine ⟨by kernel_rfl, fun wn hl K hK => ?_⟩
  have HR1 := Lib.hid (HR1.out.later hl); have HB := Lib.hid (below_on HB.out hl); clear hl
  refine wp_enter _ _ (by go_simp; exact ⟨rfl, rfl⟩) ?_
  refine (check_any p a1 _ HP.out HC.out (HD.out.next HB.out) (HL.out.next HB.out) (HT.out.on HB.out)).mono ?_; rintro e wm ⟨rfl, hb⟩; refine ⟨_, rfl, ?_⟩
  refine hK.out _ _ hb ?_
  have HR1 := Lib.hid (HR1.out.later hb); have HB := Lib.hid (below_on HB.out hb); clear hb
  clear hK K
  simp only [Act.put, List.setIfInBounds_toArray, List.set_cons_zero, List.set_cons_succ]
  refine late_one 5 (by kernel_rfl) (by kernel_rfl) (fun o ho => ?_)
  simp only [List.getElem?_toArray, List.getElem?_cons_zero, List.getElem?_cons_succ, Option.some.injEq] at ho; subst ho
  refine ⟨by kernel_rfl, fun wn hl K hK => ?_⟩
  have HR1 := Lib.hid (HR1.out.later hl); have HB := Lib.hid (below_on HB.out hl); clear hl
  refine wp_enter _ _ (by go_simp; exact ⟨rfl, rfl⟩) ?_
  refine (rcheck_any p a1 _ HP.out HC.out).mono ?_; rintro e wm ⟨rfl, hb⟩; refine ⟨_, rfl, ?_⟩
  refine hK.out _ _ hb ?_
  have HR1 := Lib.hid (HR1.out.later hb); have HB := Lib.hid (below_on HB.out hb); clear hb
  clear hK K
  simp only [Act.put, List.setIfInBounds_toArray, List.set_cons_zero, List.set_cons_succ]
  refine late_take 6 (by kernel_rfl) (by kernel_rfl) (by kernel_rfl) (by kernel_rfl) (by kernel_rfl) (fun _ _ d _ _ h => by cases d <;> exact h) (fun o ho => ?_)
  simp only [List.getElem?_toArray, List.getElem?_cons_zero, List.getElem?_cons_succ, Option.some.injEq] at ho; subst ho
  apply Exists.intro
  refine ⟨Or.inl ⟨by kernel_rfl, fun w' hl => Or.inl ?_⟩, ?_⟩
  · (go_simp; try with_reducible rfl)
  simp only [Act.put, List.setIfInBounds_toArray, List.set_cons_zero, List.set_cons_succ]
  refine late_take 7 (by kernel_rfl) (by kernel_rfl) (by kernel_rfl) (by kernel_rfl) (by kernel_rfl) (fun _ _ d _ _ h => by cases d <;> exact h) (fun o ho => ?_)
  simp only [List.getElem?_toArray, List.getElem?_cons_zero, List.getElem?_cons_succ, Option.some.injEq] at ho; subst ho
  apply Exists.intro
  refine ⟨Or.inl ⟨by kernel_rfl, fun w' hl => Or.inl ?_⟩, ?_⟩
  · (go_simp; try with_reducible rfl)
  simp only [Act.put, List.setIfInBounds_toArray, List.set_cons_zero, List.set_cons_succ]
  refine late_take 8 (by kernel_rfl) (by kernel_rfl) (by kernel_rfl) (by kernel_rfl) (by kernel_rfl) (fun _ _ d _ _ h => by cases d <;> exact h) (fun o ho => ?_)
  simp only [List.getElem?_toArray, List.getElem?_cons_zero, List.getElem?_cons_succ, Option.some.injEq] at ho; subst ho
  refine ⟨_, Or.inl ⟨by kernel_rfl, fun w' hl => Or.inl (run_load _ rfl _ rfl (p) (HR1.out.later hl))⟩, ?_⟩
  simp only [Act.put, List.setIfInBounds_toArray, List.set_cons_zero, List.set_cons_succ]
  refine late_take 10 (by kernel_rfl) (by kernel_rfl) (by kernel_rfl) (by kernel_rfl) (by kernel_rfl) (fun _ _ d _ _ h => by cases d <;> exact h) (fun o ho => ?_)
  simp only [List.getElem?_toArray, List.getElem?_cons_zero, List.getElem?_cons_succ, Option.some.injEq] at ho; subst ho
  refine ⟨_, Or.inl ⟨by kernel_rfl, fun w' hl => Or.inl (run_load _ rfl _ rfl (p) (HR1.out.later hl))⟩, ?_⟩
  simp only [Act.put, List.setIfInBounds_toArray, List.set_cons_zero, List.set_cons_succ]
  refine late_one 9 (by kernel_rfl) (by kernel_rfl) (fun o ho => ?_)
  simp only [List.getElem?_toArray, List.getElem?_cons_zero, List.getElem?_cons_succ, Option.some.injEq] at ho; subst ho
  refine ⟨by kernel_rfl, fun wn hl K hK => ?_⟩
  have HR1 := Lib.hid (HR1.out.later hl); have HB := Lib.hid (below_on HB.out hl); clear hl
  refine wp_enter _ _ (by go_simp; exact ⟨rfl, rfl⟩) ?_
  refine (checkers_any p _ HP.out (HD.out.next HB.out) (HL.out.next HB.out) (HT.out.on HB.out)).mono ?_; rintro e wm ⟨rfl, hb⟩; refine ⟨_, rfl, ?_⟩
  refine hK.out _ _ hb ?_
  have HR1 := Lib.hid (HR1.out.later hb); have HB := Lib.hid (below_on HB.out hb); clear hb
  clear hK K
  simp only [Act.put, List.setIfInBounds_toArray, List.set_cons_zero, List.set_cons_succ]
  refine late_one 11 (by kernel_rfl) (by kernel_rfl) (fun o ho => ?_)
  simp only [List.getElem?_toArray, List.getElem?_cons_zero, List.getElem?_cons_succ, Option.some.injEq] at ho; subst ho
  refine ⟨by kernel_rfl, fun wn hl K hK => ?_⟩
  have HR1 := Lib.hid (HR1.out.later hl); have HB := Lib.hid (below_on HB.out hl); clear hl
  refine wp_enter _ _ (by go_simp; exact ⟨rfl, rfl⟩) ?_
  refine (rcheckers_any p _ HP.out).mono ?_; rintro e wm ⟨rfl, hb⟩; refine ⟨_, rfl, ?_⟩
  refine hK.out _ _ hb ?_
  have HR1 := Lib.hid (HR1.out.later hb); have HB := Lib.hid (below_on HB.out hb); clear hb
  clear hK K
  simp only [Act.put, List.setIfInBounds_toArray, List.set_cons_zero, List.set_cons_succ]
  refine late_take 12 (by kernel_rfl) (by kernel_rfl) (by kernel_rfl) (by kernel_rfl) (by kernel_rfl) (fun _ _ d _ _ h => by cases d <;> exact h) (fun o ho => ?_)
  simp only [List.getElem?_toArray, List.getElem?_cons_zero, List.getElem?_cons_succ, Option.some.injEq] at ho; subst ho
  apply Exists.intro
  refine ⟨Or.inl ⟨by kernel_rfl, fun w' hl => Or.inl ?_⟩, ?_⟩
  · (go_simp; try with_reducible rfl)
  simp only [Act.put, List.setIfInBounds_toArray, List.set_cons_zero, List.set_cons_succ]
  refine late_take 13 (by kernel_rfl) (by kernel_rfl) (by kernel_rfl) (by kernel_rfl) (by kernel_rfl) (fun _ _ d _ _ h => by cases d <;> exact h) (fun o ho => ?_)
  simp only [List.getElem?_toArray, List.getElem?_cons_zero, List.getElem?_cons_succ, Option.some.injEq] at ho; subst ho
  apply Exists.intro
  refine ⟨Or.inl ⟨by kernel_rfl, fun w' hl => Or.inl ?_⟩, ?_⟩
  · (go_simp; try with_reducible rfl)
  simp only [Act.put, List.setIfInBounds_toArray, List.set_cons_zero, List.set_cons_succ]
  refine late_take 14 (by kernel_rfl) (by kernel_rfl) (by kernel_rfl) (by kernel_rfl) (by kernel_rfl) (fun _ _ d _ _ h => by cases d <;> exact h) (fun o ho => ?_)
  simp only [List.getElem?_toArray, List.getElem?_cons_zero, List.getElem?_cons_succ, Option.some.injEq] at ho; subst ho
  apply Exists.intro
  refine ⟨Or.inl ⟨by kernel_rfl, fun w' hl => Or.inl ?_⟩, ?_⟩
  · (go_simp; try with_reducible rfl)
  simp only [Act.put, List.setIfInBounds_toArray, List.set_cons_zero, List.set_cons_succ]
  refine late_one 15 (by kernel_rfl) (by kernel_rfl) (fun o ho => ?_)
  simp only [List.getElem?_toArray, List.getElem?_cons_zero, List.getElem?_cons_succ, Option.some.injEq] at ho; subst ho
  refine ⟨by kernel_rfl, fun wn hl K hK => ?_⟩
  have HR1 := Lib.hid (HR1.out.later hl); have HB := Lib.hid (below_on HB.out hl); clear hl
  refine wp_enter _ _ (by go_simp; exact ⟨rfl, rfl⟩) ?_
  refine (at_awake _ (HD.out.next HB.out) (HL.out.next HB.out) (HT.out.on HB.out)).mono ?_; rintro e wm ⟨rfl, hb⟩; refine ⟨_, rfl, ?_⟩
  refine hK.out _ _ hb ?_
  have HR1 := Lib.hid (HR1.out.later hb); have HB := Lib.hid (below_on HB.out hb); clear hb
  clear hK K
  simp only [Act.put, List.setIfInBounds_toArray, List.set_cons_zero, List.set_cons_succ]
  refine late_take 16 (by kernel_rfl) (by kernel_rfl) (by kernel_rfl) (by kernel_rfl) (by kernel_rfl) (fun _ _ d _ _ h => by cases d <;> exact h) (fun o ho => ?_)
  simp only [List.getElem?_toArray, List.getElem?_cons_zero, List.getElem?_cons_succ, Option.some.injEq] at ho; subst ho
  apply Exists.intro
  refine ⟨Or.inl ⟨by kernel_rfl, fun w' hl => Or.inl ?_⟩, ?_⟩
  · (go_simp; try with_reducible rfl)
  simp only [Act.put, List.setIfInBounds_toArray, List.set_cons_zero, List.set_cons_succ]
  refine late_take 17 (by kernel_rfl) (by kernel_rfl) (by kernel_rfl) (by kernel_rfl) (by kernel_rfl) (fun _ _ d _ _ h => by cases d <;> exact h) (fun o ho => ?_)
  simp only [List.getElem?_toArray, List.getElem?_cons_zero, List.getElem?_cons_succ, Option.some.injEq] at ho; subst ho
  apply Exists.intro
  refine ⟨Or.inl ⟨by kernel_rfl, fun w' hl => Or.inl ?_⟩, ?_⟩
  · (go_simp; try with_reducible rfl)
  simp only [Act.put, List.setIfInBounds_toArray, List.set_cons_zero, List.set_cons_succ]
  refine late_end (by kernel_rfl) (fun wn hl => ?_)
  have HR1 := Lib.hid (HR1.out.later hl); have HB := Lib.hid (below_on HB.out hl); clear hl
  go_wp2_with fail
  go_ret
  exact ⟨rfl, HB.out⟩
end Go.Proofs.YtlhepfighelijaaDoor.attackCheck
