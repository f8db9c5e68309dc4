/-
  The walk of DropCounts.
-/
import Derived.Test.YtdjnniohoicppaaDoorDrC
import Derived.Test.YtdjnniohoicppaaDoorDrD
import Derived.WalkKit
import Derived.OpenShut
namespace Go.Proofs.YtdjnniohoicppaaDoor.dropCounts
open Go.RowKit
set_option linter.unusedVariables false
set_option linter.unusedSimpArgs false
theorem rheldK {p : Nat → Int} {c n : Int} (e : helS p c = n) (w : World) (hc : 0 ≤ c) (hp : DrR p) : Calls Tryd.prog 14 #[.agg (posA p), .int .u8 c] w (IntL n w) := e ▸ rheld_any p c w hc hp
theorem rmenK {p : Nat → Int} {n : Int} (e : menZ p = n) (w : World) (hp : DrR p) : Calls Tryd.prog 16 #[.agg (posA p)] w (IntL n w) := e ▸ rmen_any p w hp
set_option maxRecDepth 100000 in
set_option maxHeartbeats 4000000 in
theorem walk (p : Nat → Int) (c : Int) (w0 : WfP p) (w1 : (Lit.int .u8 c).wf = true) (w : World) (hD : TabDb w) (hV : TabVar w) (hKn : TabKn w) : Calls Tryd.prog 4 #[.agg (posA p), .int .u8 c] w fun e w' => e = .returned (.bool true) ∧ Below w.heap.size w w' := by
  have HT := Lib.hid (show DrT w from ⟨hV, hD⟩)
  have HK := Lib.hid hKn
  have HP := Lib.hid (DrR.of w0)
  have HC := Lib.hid (u8_rng w1).1
  obtain ⟨n, hn⟩ : ∃ n, helS p c = n := ⟨_, rfl⟩
  obtain ⟨m, hm⟩ : ∃ m, menZ p = m := ⟨_, rfl⟩
  have HH := Lib.hid hn
  have HM := Lib.hid hm
  clear hD hV hKn w0 w1 hn hm
  have HB := Lib.hid (Below.refl w.heap.size w)
  go_enter Tryd.func4, Tryd.ntmps4
  go_wp2_with (first
      | (guard_target = Go.wpList _ _ _ ((⟨some 2, .box _ _, _, _, _, _⟩ : Go.Oper) :: _) _ _; refine step_box rfl _ rfl p rfl ?_; intro b2 w1 N R; have HG2 := Lib.hid (show w.heap.size ≤ b2 by have := HB.out.size; have := N.at_; omega); have HB := Lib.hid (below_on HB.out N.below); have HR2 := Lib.hid R; clear N R))
  refine late_begin 18 (by kernel_rfl) ?_
  refine ltk 0 (by kernel_rfl) (fun _ _ d _ _ h => by cases d <;> exact h) (fun o ho => ?_)
  simp only [qa, qb, qc, qd] at ho; subst ho
  refine ⟨_, Or.inl ⟨by kernel_rfl, fun w' hl => Or.inl (run_load _ rfl _ rfl (p) (HR2.out.later hl))⟩, ?_⟩
  simp only [Act.put, pa, pb, pc]
  refine ltk 1 (by kernel_rfl) (fun _ _ d _ _ h => by cases d <;> exact h) (fun o ho => ?_)
  simp only [qa, qb, qc, qd] at ho; subst ho
  apply Exists.intro
  refine ⟨Or.inl ⟨by kernel_rfl, fun w' hl => Or.inl ?_⟩, ?_⟩
  · (go_simp; try with_reducible rfl)
  simp only [Act.put, pa, pb, pc]
  refine ltk 3 (by kernel_rfl) (fun _ _ d _ _ h => by cases d <;> exact h) (fun o ho => ?_)
  simp only [qa, qb, qc, qd] at ho; subst ho
  refine ⟨_, Or.inl ⟨by kernel_rfl, fun w' hl => Or.inl (run_load _ rfl _ rfl (p) (HR2.out.later hl))⟩, ?_⟩
  simp only [Act.put, pa, pb, pc]
  refine ltk 4 (by kernel_rfl) (fun _ _ d _ _ h => by cases d <;> exact h) (fun o ho => ?_)
  simp only [qa, qb, qc, qd] at ho; subst ho
  apply Exists.intro
  refine ⟨Or.inl ⟨by kernel_rfl, fun w' hl => Or.inl ?_⟩, ?_⟩
  · (go_simp; try with_reducible rfl)
  simp only [Act.put, pa, pb, pc]
  refine late_one 2 (by kernel_rfl) (by kernel_rfl) (fun o ho => ?_)
  simp only [qa, qb, qc, qd] at ho; subst ho
  refine ⟨by kernel_rfl, fun wn hl K hK => ?_⟩
  have HR2 := Lib.hid (HR2.out.later hl); have HB := Lib.hid (below_on HB.out hl); clear hl
  refine wp_enter _ _ (by go_simp; exact ⟨rfl, rfl⟩) ?_
  refine (heldK HH.out _ HC.out HP.out).mono ?_; rintro e wm ⟨rfl, hb⟩; refine ⟨_, rfl, ?_⟩
  refine hK.out _ _ hb ?_
  have HR2 := Lib.hid (HR2.out.later hb); have HB := Lib.hid (below_on HB.out hb); clear hb
  clear hK K
  simp only [Act.put, pa, pb, pc]
  refine late_one 5 (by kernel_rfl) (by kernel_rfl) (fun o ho => ?_)
  simp only [qa, qb, qc, qd] at ho; subst ho
  refine ⟨by kernel_rfl, fun wn hl K hK => ?_⟩
  have HR2 := Lib.hid (HR2.out.later hl); have HB := Lib.hid (below_on HB.out hl); clear hl
  refine wp_enter _ _ (by go_simp; exact ⟨rfl, rfl⟩) ?_
  refine (rheldK HH.out _ HC.out HP.out).mono ?_; rintro e wm ⟨rfl, hb⟩; refine ⟨_, rfl, ?_⟩
  refine hK.out _ _ hb ?_
  have HR2 := Lib.hid (HR2.out.later hb); have HB := Lib.hid (below_on HB.out hb); clear hb
  clear hK K
  simp only [Act.put, pa, pb, pc]
  refine ltk 6 (by kernel_rfl) (fun _ _ d _ _ h => by cases d <;> exact h) (fun o ho => ?_)
  simp only [qa, qb, qc, qd] at ho; subst ho
  apply Exists.intro
  refine ⟨Or.inl ⟨by kernel_rfl, fun w' hl => Or.inl ?_⟩, ?_⟩
  · (go_simp; try with_reducible rfl)
  simp only [Act.put, pa, pb, pc]
  refine ltk 7 (by kernel_rfl) (fun _ _ d _ _ h => by cases d <;> exact h) (fun o ho => ?_)
  simp only [qa, qb, qc, qd] at ho; subst ho
  apply Exists.intro
  refine ⟨Or.inl ⟨by kernel_rfl, fun w' hl => Or.inl ?_⟩, ?_⟩
  · (go_simp; try with_reducible rfl)
  simp only [Act.put, pa, pb, pc]
  refine ltk 8 (by kernel_rfl) (fun _ _ d _ _ h => by cases d <;> exact h) (fun o ho => ?_)
  simp only [qa, qb, qc, qd] at ho; subst ho
  refine ⟨_, Or.inl ⟨by kernel_rfl, fun w' hl => Or.inl (run_load _ rfl _ rfl (p) (HR2.out.later hl))⟩, ?_⟩
  simp only [Act.put, pa, pb, pc]
  refine ltk 10 (by kernel_rfl) (fun _ _ d _ _ h => by cases d <;> exact h) (fun o ho => ?_)
  simp only [qa, qb, qc, qd] at ho; subst ho
  refine ⟨_, Or.inl ⟨by kernel_rfl, fun w' hl => Or.inl (run_load _ rfl _ rfl (p) (HR2.out.later hl))⟩, ?_⟩
  simp only [Act.put, pa, pb, pc]
  refine late_one 9 (by kernel_rfl) (by kernel_rfl) (fun o ho => ?_)
  simp only [qa, qb, qc, qd] at ho; subst ho
  refine ⟨by kernel_rfl, fun wn hl K hK => ?_⟩
  have HR2 := Lib.hid (HR2.out.later hl); have HB := Lib.hid (below_on HB.out hl); clear hl
  refine wp_enter _ _ (by go_simp; exact ⟨rfl, rfl⟩) ?_
  refine (menK HM.out _ HP.out).mono ?_; rintro e wm ⟨rfl, hb⟩; refine ⟨_, rfl, ?_⟩
  refine hK.out _ _ hb ?_
  have HR2 := Lib.hid (HR2.out.later hb); have HB := Lib.hid (below_on HB.out hb); clear hb
  clear hK K
  simp only [Act.put, pa, pb, pc]
  refine late_one 11 (by kernel_rfl) (by kernel_rfl) (fun o ho => ?_)
  simp only [qa, qb, qc, qd] at ho; subst ho
  refine ⟨by kernel_rfl, fun wn hl K hK => ?_⟩
  have HR2 := Lib.hid (HR2.out.later hl); have HB := Lib.hid (below_on HB.out hl); clear hl
  refine wp_enter _ _ (by go_simp; exact ⟨rfl, rfl⟩) ?_
  refine (rmenK HM.out _ HP.out).mono ?_; rintro e wm ⟨rfl, hb⟩; refine ⟨_, rfl, ?_⟩
  refine hK.out _ _ hb ?_
  have HR2 := Lib.hid (HR2.out.later hb); have HB := Lib.hid (below_on HB.out hb); clear hb
  clear hK K
  simp only [Act.put, pa, pb, pc]
  refine ltk 12 (by kernel_rfl) (fun _ _ d _ _ h => by cases d <;> exact h) (fun o ho => ?_)
  simp only [qa, qb, qc, qd] at ho; subst ho
  apply Exists.intro
  refine ⟨Or.inl ⟨by kernel_rfl, fun w' hl => Or.inl ?_⟩, ?_⟩
  · (go_simp; try with_reducible rfl)
  simp only [Act.put, pa, pb, pc]
  refine ltk 13 (by kernel_rfl) (fun _ _ d _ _ h => by cases d <;> exact h) (fun o ho => ?_)
  simp only [qa, qb, qc, qd] at ho; subst ho
  apply Exists.intro
  refine ⟨Or.inl ⟨by kernel_rfl, fun w' hl => Or.inl ?_⟩, ?_⟩
  · (go_simp; try with_reducible rfl)
  simp only [Act.put, pa, pb, pc]
  refine ltk 14 (by kernel_rfl) (fun _ _ d _ _ h => by cases d <;> exact h) (fun o ho => ?_)
  simp only [qa, qb, qc, qd] at ho; subst ho
  apply Exists.intro
  refine ⟨Or.inl ⟨by kernel_rfl, fun w' hl => Or.inl ?_⟩, ?_⟩
  · (go_simp; try with_reducible rfl)
  simp only [Act.put, pa, pb, pc]
  refine late_one 15 (by kernel_rfl) (by kernel_rfl) (fun o ho => ?_)
  simp only [qa, qb, qc, qd] at ho; subst ho
  refine ⟨by kernel_rfl, fun wn hl K hK => ?_⟩
  have HR2 := Lib.hid (HR2.out.later hl); have HB := Lib.hid (below_on HB.out hl); clear hl
  refine wp_enter _ _ (by go_simp; exact ⟨rfl, rfl⟩) ?_
  refine (dr_awake _ (HT.out.on HB.out) (HK.out.on HB.out)).mono ?_; rintro e wm ⟨rfl, hb⟩; refine ⟨_, rfl, ?_⟩
  refine hK.out _ _ hb ?_
  have HR2 := Lib.hid (HR2.out.later hb); have HB := Lib.hid (below_on HB.out hb); clear hb
  clear hK K
  simp only [Act.put, pa, pb, pc]
  refine ltk 16 (by kernel_rfl) (fun _ _ d _ _ h => by cases d <;> exact h) (fun o ho => ?_)
  simp only [qa, qb, qc, qd] at ho; subst ho
  apply Exists.intro
  refine ⟨Or.inl ⟨by kernel_rfl, fun w' hl => Or.inl ?_⟩, ?_⟩
  · (go_simp; try with_reducible rfl)
  simp only [Act.put, pa, pb, pc]
  refine ltk 17 (by kernel_rfl) (fun _ _ d _ _ h => by cases d <;> exact h) (fun o ho => ?_)
  simp only [qa, qb, qc, qd] at ho; subst ho
  apply Exists.intro
  refine ⟨Or.inl ⟨by kernel_rfl, fun w' hl => Or.inl ?_⟩, ?_⟩
  · (go_simp; try with_reducible rfl)
  simp only [Act.put, pa, pb, pc]
  refine late_end (by kernel_rfl) (fun wn hl => ?_)
  have HR2 := Lib.hid (HR2.out.later hl); have HB := Lib.hid (below_on HB.out hl); clear hl
  go_wp2_with fail
  go_ret
  exact ⟨rfl, HB.out⟩
end Go.Proofs.YtdjnniohoicppaaDoor.dropCounts
