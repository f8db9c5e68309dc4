/-
 The walk of AfterAll.
-/
import Derived.Test.YtidgfadbdgheiaaGreatDoorAfW
import Derived.Test.YtidgfadbdgheiaaGreatDoorAfGrE
import Derived.Test.YtidgfadbdgheiaaGreatDoorAfGrG
import Derived.WalkKit
import Derived.OpenShut
set_option maxRecDepth 100000
set_option maxHeartbeats 4000000
namespace Go.Proofs.YtidgfadbdgheiaaGreatDoor.afterAll
open Go.RowKit
set_option linter.unusedVariables false
set_option linter.unusedSimpArgs false
theorem walk (p : Nat → Int) (w0 : WfP p) (w : World) (hD : TabDb w) (hL : TabLead w) (hV : TabVar w) (hKn : TabKn w) (hG : TabGl w) : Calls Tryz.prog 3 #[.agg (posA p)] w fun e w' => e = .returned (.bool true) ∧ Below w.heap.size w w' := by
 have HT := H_ (show CsT w from ⟨hD, hL, hV, hG⟩)
 have HK := H_ hKn
 have HP := H_ w0
 obtain ⟨L, hL0⟩ : ∃ L, afL p = L := ⟨_, rfl⟩
 have HL := H_ hL0
 have HLn := H_ (show L.length ≤ 1000000 by rw [← hL0]; exact af_len p)
 have HFt := H_ (show ∀ (i : Nat) (m : Mv), L[i]? = some m → FitV m by rw [← hL0]; exact fun i m h => af_fit w0 (List.mem_of_getElem? h))
 clear hD hL hV hKn hG w0 hL0
 have HB := H_ (Below.refl w.heap.size w)
 go_enter Tryz.func3, Tryz.ntmps3
 go_wp2_with (guard_target = gB 1; refine step_box rfl _ rfl p rfl ?_; intro b1 w1 N R; have HG1 := H_ (nA HB.out N); have HB := H_ (below_on HB.out N.below); have HR1 := H_ R; clear N R)
 refine late_begin 9 (by kernel_rfl) ?_
 refine lv 0 rfl ⟨_, fun w' hl => (run_load _ rfl _ rfl (p) (HR1.out.later hl)), ?_⟩
 simp only [Act.put, pa, pb, pc]
 refine lv 2 rfl ⟨_, fun w' hl => (run_load _ rfl _ rfl (p) (HR1.out.later hl)), ?_⟩
 simp only [Act.put, pa, pb, pc]
 refine l1 1 rfl fun wn hl K hK => ?_
 have HR1 := H_ (HR1.out.later hl); have HB := H_ (below_on HB.out hl); clear hl
 refine we ?_
 refine (all_after p _ HP.out (HT.out.on HB.out)).mono ?_; rintro e wm ⟨v, rfl, hv, hb⟩; refine ⟨_, rfl, ?_⟩
 rw [HL.out] at hv; obtain ⟨a4, c4, rfl, hE⟩ := mvs_of hv; have HE4n := H_ hE; clear hv hE
 refine hK.out _ _ hb ?_
 have HR1 := H_ (HR1.out.later hb); have HB := H_ (below_on HB.out hb); clear hb
 have HE4 := HE4n; clear HE4n
 clear hK K
 simp only [Act.put, pa, pb, pc]
 refine l1 3 rfl fun wn hl K hK => ?_
 have HR1 := H_ (HR1.out.later hl); have HE4 := H_ (HE4.out.later hl); have HB := H_ (below_on HB.out hl); clear hl
 refine we ?_
 refine (rall_any p _ HP.out).mono ?_; rintro e wm ⟨v, rfl, hv, hb⟩; refine ⟨_, rfl, ?_⟩
 rw [HL.out] at hv; obtain ⟨a6, c6, rfl, hE⟩ := mvs_of hv; have HE6n := H_ hE; clear hv hE
 refine hK.out _ _ hb ?_
 have HR1 := H_ (HR1.out.later hb); have HE4 := H_ (HE4.out.later hb); have HB := H_ (below_on HB.out hb); clear hb
 have HE6 := HE6n; clear HE6n
 clear hK K
 simp only [Act.put, pa, pb, pc]
 refine l1 4 rfl fun wn hl K hK => ?_
 have HR1 := H_ (HR1.out.later hl); have HE4 := H_ (HE4.out.later hl); have HE6 := H_ (HE6.out.later hl); have HB := H_ (below_on HB.out hl); clear hl
 refine we ?_
 refine (same_dr L a4 a6 c4 c6 _ HLn.out HFt.out HE4.out HE6.out).mono ?_; rintro e wm ⟨rfl, hb⟩; refine ⟨_, rfl, ?_⟩
 refine hK.out _ _ hb ?_
 have HR1 := H_ (HR1.out.later hb); have HE4 := H_ (HE4.out.later hb); have HE6 := H_ (HE6.out.later hb); have HB := H_ (below_on HB.out hb); clear hb
 clear hK K
 simp only [Act.put, pa, pb, pc]
 refine lw 5 rfl ?_
 simp only [Act.put, pa, pb, pc]
 refine l1 6 rfl fun wn hl K hK => ?_
 have HR1 := H_ (HR1.out.later hl); have HE4 := H_ (HE4.out.later hl); have HE6 := H_ (HE6.out.later hl); have HB := H_ (below_on HB.out hl); clear hl
 refine we ?_
 refine (af_awake _ (HT.out.on HB.out) (HK.out.on HB.out)).mono ?_; rintro e wm ⟨rfl, hb⟩; refine ⟨_, rfl, ?_⟩
 refine hK.out _ _ hb ?_
 have HR1 := H_ (HR1.out.later hb); have HE4 := H_ (HE4.out.later hb); have HE6 := H_ (HE6.out.later hb); have HB := H_ (below_on HB.out hb); clear hb
 clear hK K
 simp only [Act.put, pa, pb, pc]
 refine lw 7 rfl ?_
 simp only [Act.put, pa, pb, pc]
 refine lw 8 rfl ?_
 simp only [Act.put, pa, pb, pc]
 refine late_end (by kernel_rfl) (fun wn hl => ?_)
 have HR1 := H_ (HR1.out.later hl); have HE4 := H_ (HE4.out.later hl); have HE6 := H_ (HE6.out.later hl); have HB := H_ (below_on HB.out hl); clear hl
 go_wp2_with fail
 go_ret
 exact ⟨rfl, HB.out⟩
end Go.Proofs.YtidgfadbdgheiaaGreatDoor.afterAll
