/-
  The walk of DropList.
-/
import Derived.Test.YtdjnniohoicppaaDoorDrC
import Derived.Test.YtdjnniohoicppaaDoorDrD
import Derived.WalkKit
import Derived.OpenShut
namespace Go.Proofs.YtdjnniohoicppaaDoor.dropList
open Go.RowKit
set_option linter.unusedVariables false
set_option linter.unusedSimpArgs false
set_option maxRecDepth 100000 in
set_option maxHeartbeats 4000000 in
theorem walk (p : Nat → Int) (w0 : WfP p) (w : World) (hD : TabDb w) (hV : TabVar w) (hKn : TabKn w) : Calls Tryd.prog 3 #[.agg (posA p)] w fun e w' => e = .returned (.bool true) ∧ Below w.heap.size w w' := by
  have HT := Lib.hid (show DrT w from ⟨hV, hD⟩)
  have HK := Lib.hid hKn
  have HP := Lib.hid (DrR.of w0)
  obtain ⟨L, hL0⟩ : ∃ L, drL p = L := ⟨_, rfl⟩
  have HL := Lib.hid hL0
  have HV := Lib.hid (show ∀ (i : Nat) (m : Mv), L[i]? = some m → FitV m by rw [← hL0]; exact fun i m h => drL_fit (List.mem_of_getElem? h))
  have HLn := Lib.hid (show L.length ≤ 384 by rw [← hL0]; exact drL_len p)
  clear hD hV hKn w0 hL0
  have HB := Lib.hid (Below.refl w.heap.size w)
  go_enter Tryd.func3, Tryd.ntmps3
  go_wp2_with (first
      | (guard_target = Go.wpList _ _ _ ((⟨some 1, .box _ _, _, _, _, _⟩ : Go.Oper) :: _) _ _; refine step_box rfl _ rfl p rfl ?_; intro b1 w1 N R; have HG1 := Lib.hid (show w.heap.size ≤ b1 by have := HB.out.size; have := N.at_; omega); have HB := Lib.hid (below_on HB.out N.below); have HR1 := Lib.hid R; clear N R))
  refine late_begin 9 (by kernel_rfl) ?_
  refine ltk 0 (by kernel_rfl) (fun _ _ d _ _ h => by cases d <;> exact h) (fun o ho => ?_)
  simp only [qa, qb, qc, qd] at ho; subst ho
  refine ⟨_, Or.inl ⟨by kernel_rfl, fun w' hl => Or.inl (run_load _ rfl _ rfl (p) (HR1.out.later hl))⟩, ?_⟩
  simp only [Act.put, pa, pb, pc]
  refine ltk 2 (by kernel_rfl) (fun _ _ d _ _ h => by cases d <;> exact h) (fun o ho => ?_)
  simp only [qa, qb, qc, qd] at ho; subst ho
  refine ⟨_, Or.inl ⟨by kernel_rfl, fun w' hl => Or.inl (run_load _ rfl _ rfl (p) (HR1.out.later hl))⟩, ?_⟩
  simp only [Act.put, pa, pb, pc]
  refine late_one 1 (by kernel_rfl) (by kernel_rfl) (fun o ho => ?_)
  simp only [qa, qb, qc, qd] at ho; subst ho
  refine ⟨by kernel_rfl, fun wn hl K hK => ?_⟩
  have HR1 := Lib.hid (HR1.out.later hl); have HB := Lib.hid (below_on HB.out hl); clear hl
  refine wp_enter _ _ (by go_simp; exact ⟨rfl, rfl⟩) ?_
  refine (list_dr p _ HP.out (HT.out.on HB.out)).mono ?_; rintro e wm ⟨v, rfl, hv, hb⟩; refine ⟨_, rfl, ?_⟩
  rw [HL.out] at hv; obtain ⟨a6, c6, rfl, hE⟩ := mvs_of hv; have HE6n := Lib.hid hE; clear hv hE
  refine hK.out _ _ hb ?_
  have HR1 := Lib.hid (HR1.out.later hb); have HB := Lib.hid (below_on HB.out hb); clear hb
  have HE6 := HE6n; clear HE6n
  clear hK K
  simp only [Act.put, pa, pb, pc]
  refine late_one 3 (by kernel_rfl) (by kernel_rfl) (fun o ho => ?_)
  simp only [qa, qb, qc, qd] at ho; subst ho
  refine ⟨by kernel_rfl, fun wn hl K hK => ?_⟩
  have HR1 := Lib.hid (HR1.out.later hl); have HE6 := Lib.hid (HE6.out.later hl); have HB := Lib.hid (below_on HB.out hl); clear hl
  refine wp_enter _ _ (by go_simp; exact ⟨rfl, rfl⟩) ?_
  refine (rlist_dr p _ HP.out).mono ?_; rintro e wm ⟨v, rfl, hv, hb⟩; refine ⟨_, rfl, ?_⟩
  rw [HL.out] at hv; obtain ⟨a7, c7, rfl, hE⟩ := mvs_of hv; have HE7n := Lib.hid hE; clear hv hE
  refine hK.out _ _ hb ?_
  have HR1 := Lib.hid (HR1.out.later hb); have HE6 := Lib.hid (HE6.out.later hb); have HB := Lib.hid (below_on HB.out hb); clear hb
  have HE7 := HE7n; clear HE7n
  clear hK K
  simp only [Act.put, pa, pb, pc]
  refine late_one 4 (by kernel_rfl) (by kernel_rfl) (fun o ho => ?_)
  simp only [qa, qb, qc, qd] at ho; subst ho
  refine ⟨by kernel_rfl, fun wn hl K hK => ?_⟩
  have HR1 := Lib.hid (HR1.out.later hl); have HE6 := Lib.hid (HE6.out.later hl); have HE7 := Lib.hid (HE7.out.later hl); have HB := Lib.hid (below_on HB.out hl); clear hl
  refine wp_enter _ _ (by go_simp; exact ⟨rfl, rfl⟩) ?_
  refine (same_dr L a6 a7 c6 c7 _ (by have := HLn.out; omega) HV.out HE6.out HE7.out).mono ?_; rintro e wm ⟨rfl, hb⟩; refine ⟨_, rfl, ?_⟩
  refine hK.out _ _ hb ?_
  have HR1 := Lib.hid (HR1.out.later hb); have HE6 := Lib.hid (HE6.out.later hb); have HE7 := Lib.hid (HE7.out.later hb); have HB := Lib.hid (below_on HB.out hb); clear hb
  clear hK K
  simp only [Act.put, pa, pb, pc]
  refine ltk 5 (by kernel_rfl) (fun _ _ d _ _ h => by cases d <;> exact h) (fun o ho => ?_)
  simp only [qa, qb, qc, qd] at ho; subst ho
  apply Exists.intro
  refine ⟨Or.inl ⟨by kernel_rfl, fun w' hl => Or.inl ?_⟩, ?_⟩
  · (go_simp; try with_reducible rfl)
  simp only [Act.put, pa, pb, pc]
  refine late_one 6 (by kernel_rfl) (by kernel_rfl) (fun o ho => ?_)
  simp only [qa, qb, qc, qd] at ho; subst ho
  refine ⟨by kernel_rfl, fun wn hl K hK => ?_⟩
  have HR1 := Lib.hid (HR1.out.later hl); have HE6 := Lib.hid (HE6.out.later hl); have HE7 := Lib.hid (HE7.out.later hl); have HB := Lib.hid (below_on HB.out hl); clear hl
  refine wp_enter _ _ (by go_simp; exact ⟨rfl, rfl⟩) ?_
  refine (dr_awake _ (HT.out.on HB.out) (HK.out.on HB.out)).mono ?_; rintro e wm ⟨rfl, hb⟩; refine ⟨_, rfl, ?_⟩
  refine hK.out _ _ hb ?_
  have HR1 := Lib.hid (HR1.out.later hb); have HE6 := Lib.hid (HE6.out.later hb); have HE7 := Lib.hid (HE7.out.later hb); have HB := Lib.hid (below_on HB.out hb); clear hb
  clear hK K
  simp only [Act.put, pa, pb, pc]
  refine ltk 7 (by kernel_rfl) (fun _ _ d _ _ h => by cases d <;> exact h) (fun o ho => ?_)
  simp only [qa, qb, qc, qd] at ho; subst ho
  apply Exists.intro
  refine ⟨Or.inl ⟨by kernel_rfl, fun w' hl => Or.inl ?_⟩, ?_⟩
  · (go_simp; try with_reducible rfl)
  simp only [Act.put, pa, pb, pc]
  refine ltk 8 (by kernel_rfl) (fun _ _ d _ _ h => by cases d <;> exact h) (fun o ho => ?_)
  simp only [qa, qb, qc, qd] at ho; subst ho
  apply Exists.intro
  refine ⟨Or.inl ⟨by kernel_rfl, fun w' hl => Or.inl ?_⟩, ?_⟩
  · (go_simp; try with_reducible rfl)
  simp only [Act.put, pa, pb, pc]
  refine late_end (by kernel_rfl) (fun wn hl => ?_)
  have HR1 := Lib.hid (HR1.out.later hl); have HE6 := Lib.hid (HE6.out.later hl); have HE7 := Lib.hid (HE7.out.later hl); have HB := Lib.hid (below_on HB.out hl); clear hl
  go_wp2_with fail
  go_ret
  exact ⟨rfl, HB.out⟩
end Go.Proofs.YtdjnniohoicppaaDoor.dropList
