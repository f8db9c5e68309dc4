/-
 Layer 16: the contract of the document's own All.
-/
import Derived.Test.YtidgfadbdgheiaaGreatDoorAfGrF
import Derived.Test.YtidgfadbdgheiaaGreatDoorPrD
import Derived.Test.YtidgfadbdgheiaaGreatDoorAfCsK
import Derived.Test.YtidgfadbdgheiaaGreatDoorDrC
set_option maxRecDepth 100000
set_option maxHeartbeats 4000000
namespace Go.Proofs.YtidgfadbdgheiaaGreatDoor
open Go.RowKit Go.Shelf
set_option linter.unusedVariables false
set_option linter.unusedSimpArgs false
attribute [local go_sem] Oper.semAt_some

theorem rall_any (p : Nat → Int) (w : World) (hp : WfP p) : Calls Tryz.prog 8 #[.agg (posA p)] w (MvL (afL p) w) := by
 have HP := H_ hp
 clear hp
 have hn0 := all_len p
 have hn1 := cam_lenA p
 have hn2 := drL_len p
 unfold afL
 obtain ⟨L0, h0⟩ : ∃ L, (allL p).map pmM = L := ⟨_, rfl⟩
 obtain ⟨L1, h1⟩ : ∃ L, camL p = L := ⟨_, rfl⟩
 obtain ⟨L2, h2⟩ : ∃ L, drL p = L := ⟨_, rfl⟩
 have hl0 : L0.length ≤ 300000 := by rw [← h0, List.length_map]; omega
 have HL0 := H_ (show lm (allL p) = L0 from h0)
 have HL1 := H_ h1
 have HL2 := H_ h2
 rw [h1] at hn1
 rw [h2] at hn2
 have HN0 := H_ hl0
 have HN1 := H_ (show L1.length ≤ 300000 by omega)
 have HN2 := H_ (show L2.length ≤ 300000 by omega)
 have HA0 := H_ (show ([] : List Mv).length ≤ 1000000 by decide)
 have HA1 := H_ (show ([] ++ L0).length ≤ 1000000 by rw [List.nil_append]; omega)
 have HA2 := H_ (show ([] ++ L0 ++ L1).length ≤ 1000000 by rw [List.nil_append, List.length_append]; omega)
 rw [h0, h1, h2]
 clear h0 h1 h2 hn0 hn1 hn2 hl0
 have HB := H_ (Below.refl w.heap.size w)
 go_enter Tryz.func8, Tryz.ntmps8
 go_wp2_with (first
  | (guard_target = gB 1; refine step_box rfl _ rfl p rfl ?_; intro b1 w1 N R; have HG1 := H_ (nA HB.out N); have HB := H_ (below_on HB.out N.below); have HR1 := H_ R; clear N R; have HV := H_ (show MvsO (b1 + 1) [] (.slice none 0 0) w1 from World.ownsRow_nil _ _ _ _); have HSz := H_ (show b1 + 1 ≤ w1.heap.size from HR1.out.lt))
  | (guard_target = gL 1; refine step_load rfl _ rfl b1 rfl p HR1.out ?_)
  | (go_at_call 20; refine (rlist_pr p _ (PsR.of HP.out)).mono ?_; rintro e w3 ⟨v, rfl, hv, hb⟩; rw [HL0.out] at hv; obtain ⟨a0, c0, rfl, hm, hz, ha⟩ := mvs_at (mvsO_down hv (Nat.zero_le _)); have HR1 := H_ (HR1.out.later hb); have HV := H_ (HV.out.later hb); have HB := H_ (below_on HB.out hb); have HSz := H_ (Nat.le_trans HSz.out hb.size); obtain ⟨v0, w4, hr0, hO, hg⟩ := run_src HV.out (⟨hm, hz, fun g e => by obtain ⟨k, h1, _, h2⟩ := ha g e; exact ⟨k, h1, h2⟩, HN0.out⟩ : Src L0 a0 c0 w3.heap.size w3) HA0.out HSz.out; have hkp := mkept_grown hg; have hfrom := fun k e => MvsO.from HV.out (k := k) e; clear hv hb hm hz ha)
  | (guard_target = Go.wpList _ _ _ ((⟨some 7, .call _, _, _, _, _⟩ : Go.Oper) :: _) _ _; at_builtin; refine Lib.wpList_append_run _ rfl _ _ _ _ rfl _ _ rfl rfl _ _ hr0 ?_; have HR1 := H_ (show Row _ b1 p from hkp.obj (show _ = _ from HR1.out) (fun e => by have := hfrom _ e; omega)); have HB := H_ (HB.out.trans (hkp.below (fun i hi => by have := hfrom i hi; have := HG1.out; omega) HB.out.size)); have HSz := H_ (Nat.le_trans HSz.out hkp.size); have HV := H_ hO; clear hkp hfrom hO hg)
  | (go_at_call 21; refine (rlist_cs p _ (csR_of HP.out)).mono ?_; rintro e w3 ⟨v, rfl, hv, hb⟩; rw [HL1.out] at hv; obtain ⟨a1, c1, rfl, hm, hz, ha⟩ := mvs_at (mvsO_down hv (Nat.zero_le _)); have HR1 := H_ (HR1.out.later hb); have HV := H_ (HV.out.later hb); have HB := H_ (below_on HB.out hb); have HSz := H_ (Nat.le_trans HSz.out hb.size); obtain ⟨v1, w5, hr1, hO, hg⟩ := run_src HV.out (⟨hm, hz, fun g e => by obtain ⟨k, h1, _, h2⟩ := ha g e; exact ⟨k, h1, h2⟩, HN1.out⟩ : Src L1 a1 c1 w3.heap.size w3) HA1.out HSz.out; have hkp := mkept_grown hg; have hfrom := fun k e => MvsO.from HV.out (k := k) e; clear hv hb hm hz ha)
  | (guard_target = Go.wpList _ _ _ ((⟨some 11, .call _, _, _, _, _⟩ : Go.Oper) :: _) _ _; at_builtin; refine Lib.wpList_append_run _ rfl _ _ _ _ rfl _ _ rfl rfl _ _ hr1 ?_; have HR1 := H_ (show Row _ b1 p from hkp.obj (show _ = _ from HR1.out) (fun e => by have := hfrom _ e; omega)); have HB := H_ (HB.out.trans (hkp.below (fun i hi => by have := hfrom i hi; have := HG1.out; omega) HB.out.size)); have HSz := H_ (Nat.le_trans HSz.out hkp.size); have HV := H_ hO; clear hkp hfrom hO hg)
  | (go_at_call 22; refine (rlist_dr p _ HP.out.dr).mono ?_; rintro e w3 ⟨v, rfl, hv, hb⟩; rw [HL2.out] at hv; obtain ⟨a2, c2, rfl, hm, hz, ha⟩ := mvs_at (mvsO_down hv (Nat.zero_le _)); have HR1 := H_ (HR1.out.later hb); have HV := H_ (HV.out.later hb); have HB := H_ (below_on HB.out hb); have HSz := H_ (Nat.le_trans HSz.out hb.size); obtain ⟨v2, w6, hr2, hO, hg⟩ := run_src HV.out (⟨hm, hz, fun g e => by obtain ⟨k, h1, _, h2⟩ := ha g e; exact ⟨k, h1, h2⟩, HN2.out⟩ : Src L2 a2 c2 w3.heap.size w3) HA2.out HSz.out; have hkp := mkept_grown hg; have hfrom := fun k e => MvsO.from HV.out (k := k) e; clear hv hb hm hz ha)
  | (guard_target = Go.wpList _ _ _ ((⟨some 15, .call _, _, _, _, _⟩ : Go.Oper) :: _) _ _; at_builtin; refine Lib.wpList_append_run _ rfl _ _ _ _ rfl _ _ rfl rfl _ _ hr2 ?_; have HR1 := H_ (show Row _ b1 p from hkp.obj (show _ = _ from HR1.out) (fun e => by have := hfrom _ e; omega)); have HB := H_ (HB.out.trans (hkp.below (fun i hi => by have := hfrom i hi; have := HG1.out; omega) HB.out.size)); have HSz := H_ (Nat.le_trans HSz.out hkp.size); have HV := H_ hO; clear hkp hfrom hO hg))
 go_ret
 exact ⟨_, rfl, mvsO_down (show MvsO (b1 + 1) (L0 ++ L1 ++ L2) v2 w6 by have := HV.out; rw [List.nil_append] at this; exact this) (by have := HG1.out; omega), HB.out⟩
end Go.Proofs.YtidgfadbdgheiaaGreatDoor
