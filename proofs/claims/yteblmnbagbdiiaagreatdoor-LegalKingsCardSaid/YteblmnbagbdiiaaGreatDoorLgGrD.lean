/-
 Several texts in one: LgE, LgF.
-/
import Derived.Test.YteblmnbagbdiiaaGreatDoorLgGrC
/-
 Layer 17: Racing's win; Won; List.
-/
set_option maxRecDepth 100000
set_option maxHeartbeats 4000000
namespace Go.Proofs.YteblmnbagbdiiaaGreatDoor
open Go.RowKit Go.Shelf
set_option linter.unusedVariables false
set_option linter.unusedSimpArgs false
attribute [local go_sem] Oper.semAt_some

def comB (p : Nat → Int) : Bool := (p 78 == 1) && (wouL p).any fun m => goaB (movP p m) 1
theorem wou_fit {p : Nat → Int} (hp : WfP p) : ∀ (i : Nat) (m : Mv), (wouL p)[i]? = some m → FitV m := fun i m h => af_fit hp (List.mem_filter.1 (List.mem_of_getElem? h)).1
theorem wou_len (p : Nat → Int) : (wouL p).length ≤ 1000000 := Nat.le_trans (List.length_filter_le _ _) (af_len p)
theorem lg_cm (p : Nat → Int) (m : Mv) (b : Nat) (w : World) (hp : WfP p) (hm : FitV m) (hT : CsT w) (hr : Row w b p) : Calls Tryz.prog 226 #[.agg (mvA m), .pointer (some ⟨b, 0, none⟩)] w (BoL (goaB (movP p m) 1) w) := by
 have HP := H_ hp
 have HM := H_ hm
 have HT := H_ hT
 have HRb := H_ hr
 have HWf := mov_wf hp m
 obtain ⟨q, hq⟩ : ∃ q, movP p m = q := ⟨_, rfl⟩
 rw [hq] at HWf ⊢
 have HW := H_ HWf
 have HQ := H_ hq
 obtain ⟨x, hx⟩ : ∃ x, goaB q 1 = x := ⟨_, rfl⟩
 have HX := H_ hx
 rw [hx]
 clear hp hm hT hr HWf hq hx
 have HB := H_ (Below.refl w.heap.size w)
 go_enter Tryz.func226, Tryz.ntmps226
 go_wp2_with (first
   | (guard_target = gB 2; refine blk_box rfl 40 _ rfl (mvA m) rfl ?_; intro b2 w1 N R; have HG2 := H_ (nA HB.out N); have HRb := H_ (HRb.out.later N.below); have HB := H_ (below_on HB.out N.below); have HR2 := H_ R; clear N R)
   | (guard_target = gL 1; refine step_load rfl _ rfl b rfl p HRb.out ?_)
   | (guard_target = gL 2; refine blk_load rfl 40 _ rfl b2 rfl (mvA m) HR2.out _ Tryz.underlying40 rfl sizeMv ?_)
   | (go_at_call 13; refine (moveQ HQ.out rfl _ HP.out HM.out (HT.out.on HB.out)).mono ?_; rintro e w3 ⟨rfl, hb⟩; have HB := H_ (below_on HB.out hb); clear hb)
   | (guard_target = gA 4; refine step_alloc (op := ⟨some 4, _, _, _, _, _⟩) rfl rfl ?_; intro b4 wn N R; have HG4 := H_ (nA HB.out N); have HR4 := H_ R; have HB := H_ (below_on HB.out N.below); clear N R)
   | (guard_target = gS 4; refine step_store (op := ⟨none, .store _ (.tmp 4) _, _, _, _, _⟩) rfl _ _ rfl b4 rfl zeroP q rfl HR4.out ?_; intro wn U R; have HR4 := H_ R; have HB := H_ (HB.out.trans (U.below HG4.out)); clear U R)
   | (guard_target = gL 4; refine step_load rfl _ rfl b4 rfl q HR4.out ?_)
   | (go_at_call 173; refine (goalK HX.out _ HW.out (HT.out.on HB.out).db).mono ?_; rintro e w3 ⟨rfl, hb⟩; have HB := H_ (below_on HB.out hb); clear hb))
 go_ret
 exact ⟨rfl, HB.out⟩
theorem ent_cm : ∀ args w, (callFunc 226 args).run Tryz.prog w = .ok (.enter 226 args) w := enters_of Tryz.func226 (by kernel_rfl) rfl
theorem pred_cm {p : Nat → Int} {b1 : Nat} {w0 w : World} (hp : WfP p) (hT : CsT w0) (hB : Below w0.heap.size w0 w) (h1 : Row w b1 p) : PredB 226 #[.pointer (some ⟨b1, 0, none⟩)] (fun m => goaB (movP p m) 1) w.heap.size w := fun W m hb hm =>
 lg_cm p m b1 W hp hm (hT.on (below_on hB hb)) (h1.later hb)
theorem lg_come (p : Nat → Int) (w : World) (hp : WfP p) (hT : CsT w) : Calls Tryz.prog 174 #[.agg (posA p)] w (BoL (comB p) w) := by
 have HP := H_ hp
 have HT := H_ hT
 have HLn0 := wou_len p
 have HFi0 := wou_fit hp
 unfold comB
 obtain ⟨x, hx⟩ : ∃ x, ((wouL p).any fun m => goaB (movP p m) 1) = x := ⟨_, rfl⟩
 rw [hx]
 obtain ⟨L, hL⟩ : ∃ L, wouL p = L := ⟨_, rfl⟩
 rw [hL] at HLn0 HFi0 hx
 have HL := H_ hL
 have HLn := H_ HLn0
 have HFi := H_ HFi0
 have HAny := H_ hx
 clear hp hT HLn0 HFi0 hx hL
 have HB := H_ (Below.refl w.heap.size w)
 cases g1 : p 78 == 1
 ·skip
  go_enter Tryz.func174, Tryz.ntmps174
  go_wp2_with (first
   | (guard_target = gB 1; refine step_box rfl _ rfl p rfl ?_; intro b1 w1 N R; have HG1 := H_ (nA HB.out N); have HB := H_ (below_on HB.out N.below); have HR1 := H_ R; clear N R)
   | (guard_target = gL 3; refine gU rfl 5 _ rfl Tryz.underlying5 HR1.out 78 (by decide) rfl rfl ?_)
   | (guard_target = gL 1; refine step_load rfl _ rfl b1 rfl p HR1.out ?_)
   | (go_at_call 22; refine (lg_would p _ HP.out (HT.out.on HB.out)).mono ?_; rintro e w3 ⟨v, rfl, hv, hb⟩; rw [HL.out] at hv; obtain ⟨a3, c3, rfl, hE⟩ := mvs_of hv; have HE := H_ hE; have HR1 := H_ (HR1.out.later hb); have HB := H_ (below_on HB.out hb); clear hb hv hE)
   | (go_at_call 100; refine (containsF (f := fun m => goaB (movP p m) 1) ent_cm _ L a3 c3 _ (Nat.le_refl _) HLn.out HFi.out HE.out (pred_cm HP.out HT.out HB.out HR1.out)).mono ?_; rintro e w3 ⟨rfl, hb⟩; rw [HAny.out]; have HR1 := H_ (HR1.out.later hb); have HB := H_ (below_on HB.out hb); clear hb))
  go_ret
  exact ⟨rfl, HB.out⟩
 ·skip
  go_enter Tryz.func174, Tryz.ntmps174
  go_wp2_with (first
   | (guard_target = gB 1; refine step_box rfl _ rfl p rfl ?_; intro b1 w1 N R; have HG1 := H_ (nA HB.out N); have HB := H_ (below_on HB.out N.below); have HR1 := H_ R; clear N R)
   | (guard_target = gL 3; refine gU rfl 5 _ rfl Tryz.underlying5 HR1.out 78 (by decide) rfl rfl ?_)
   | (guard_target = gL 1; refine step_load rfl _ rfl b1 rfl p HR1.out ?_)
   | (go_at_call 22; refine (lg_would p _ HP.out (HT.out.on HB.out)).mono ?_; rintro e w3 ⟨v, rfl, hv, hb⟩; rw [HL.out] at hv; obtain ⟨a3, c3, rfl, hE⟩ := mvs_of hv; have HE := H_ hE; have HR1 := H_ (HR1.out.later hb); have HB := H_ (below_on HB.out hb); clear hb hv hE)
   | (go_at_call 100; refine (containsF (f := fun m => goaB (movP p m) 1) ent_cm _ L a3 c3 _ (Nat.le_refl _) HLn.out HFi.out HE.out (pred_cm HP.out HT.out HB.out HR1.out)).mono ?_; rintro e w3 ⟨rfl, hb⟩; rw [HAny.out]; have HR1 := H_ (HR1.out.later hb); have HB := H_ (below_on HB.out hb); clear hb))
  go_ret
  exact ⟨rfl, HB.out⟩
theorem comeK {p : Nat → Int} {b : Bool} (e : comB p = b) (w : World) (hp : WfP p) (hT : CsT w) : Calls Tryz.prog 174 #[.agg (posA p)] w (BoL b w) := e ▸ lg_come p w hp hT
theorem goal_1 (p : Nat → Int) (w : World) (hp : WfP p) (hT : CsT w) (hx : goaB p 0 = true) (hy : goaB p 1 = true) : Calls Tryz.prog 92 #[.agg (posA p)] w (ResL (3, 6) w) := by
 have HP := H_ hp
 have HT := H_ hT
 have HX := H_ hx
 have HY := H_ hy
 clear hp hT hx hy
 have HB := H_ (Below.refl w.heap.size w)
 go_enter Tryz.func92, Tryz.ntmps92
 go_wp2_with (first
   | (guard_target = gB 1; refine step_box rfl _ rfl p rfl ?_; intro b1 w1 N R; have HG1 := H_ (nA HB.out N); have HB := H_ (below_on HB.out N.below); have HR1 := H_ R; clear N R)
   | (guard_target = gA 2; refine blk_alloc (op := ⟨some 2, _, _, _, _, _⟩) rfl 44 rfl (rsA (0, 0)) rsZero ?_; intro b2 wn N R; have HG2 := H_ (nA HB.out N); have HD12 := H_ (show b1 ≠ b2 by have := HR1.out.lt; have := N.at_; omega); have HR1 := H_ (HR1.out.later N.below); have HR2 := H_ R; have HB := H_ (below_on HB.out N.below); clear N R))
 refine late_begin 6 (by kernel_rfl) ?_
 refine lv 0 rfl ⟨.agg (posA p), fun w' hl => (run_load _ rfl _ rfl p (HR1.out.later hl)), ?_⟩
 simp only [Act.put, pa, pb, pc]
 refine lv 2 rfl ⟨.agg (posA p), fun w' hl => (run_load _ rfl _ rfl p (HR1.out.later hl)), ?_⟩
 simp only [Act.put, pa, pb, pc]
 refine l1 1 rfl fun wn hl K hK => ?_
 have HR1 := H_ (HR1.out.later hl); have HR2 := H_ (HR2.out.later hl); have HB := H_ (below_on HB.out hl); clear hl
 refine we ?_
 refine (goalK HX.out _ HP.out (HT.out.on HB.out).db).mono ?_; rintro e wm ⟨rfl, hb⟩; refine ⟨_, rfl, ?_⟩
 refine hK.out _ _ hb ?_
 have HR1 := H_ (HR1.out.later hb); have HR2 := H_ (HR2.out.later hb); have HB := H_ (below_on HB.out hb); clear hb
 clear hK K
 simp only [Act.put, pa, pb, pc]
 refine l1 3 rfl fun wn hl K hK => ?_
 have HR1 := H_ (HR1.out.later hl); have HR2 := H_ (HR2.out.later hl); have HB := H_ (below_on HB.out hl); clear hl
 refine we ?_
 refine (goalK HY.out _ HP.out (HT.out.on HB.out).db).mono ?_; rintro e wm ⟨rfl, hb⟩; refine ⟨_, rfl, ?_⟩
 refine hK.out _ _ hb ?_
 have HR1 := H_ (HR1.out.later hb); have HR2 := H_ (HR2.out.later hb); have HB := H_ (below_on HB.out hb); clear hb
 clear hK K
 simp only [Act.put, pa, pb, pc]
 refine lw 4 rfl ?_
 simp only [Act.put, pa, pb, pc]
 refine lw 5 rfl ?_
 simp only [Act.put, pa, pb, pc]
 refine late_end (by kernel_rfl) (fun wn hl => ?_)
 have HR1 := H_ (HR1.out.later hl); have HR2 := H_ (HR2.out.later hl); have HB := H_ (below_on HB.out hl); clear hl
 go_wp2_with (first
   | (guard_target = Go.wpList _ _ _ ((⟨some _, .build _ _, _, _, _, _⟩ : Go.Oper) :: _) _ _; refine step_build rfl 44 _ rfl (rsA (3, 6)) (by kernel_rfl) ?_)
   | (guard_target = gS 2; refine blk_store (op := ⟨none, .store _ (.tmp 2) _, _, _, _, _⟩) rfl 44 _ _ rfl b2 rfl (rsA (0, 0)) (rsA (3, 6)) rfl HR2.out rfl (rs_one _) rsSize ?_; intro wn U R; have HR1 := H_ (HR1.out.apart U HD12.out); have HR2 := H_ R; have HB := H_ (HB.out.trans (U.below HG2.out)); clear U R))
 refine bodyPost_ret (v := .agg (rsA (3, 6))) (results_blk rfl _ _ _ _ rfl HR2.out Tryz.underlying44 rfl rsSize rfl) rfl ⟨rfl, HB.out⟩
theorem goal_2 (p : Nat → Int) (w : World) (hp : WfP p) (hT : CsT w) (hx : goaB p 0 = false) (hy : goaB p 1 = true) : Calls Tryz.prog 92 #[.agg (posA p)] w (ResL (wnZ 1 6) w) := by
 have HP := H_ hp
 have HT := H_ hT
 have HX := H_ hx
 have HY := H_ hy
 clear hp hT hx hy
 have HB := H_ (Below.refl w.heap.size w)
 go_enter Tryz.func92, Tryz.ntmps92
 go_wp2_with (first
   | (guard_target = gB 1; refine step_box rfl _ rfl p rfl ?_; intro b1 w1 N R; have HG1 := H_ (nA HB.out N); have HB := H_ (below_on HB.out N.below); have HR1 := H_ R; clear N R)
   | (guard_target = gA 2; refine blk_alloc (op := ⟨some 2, _, _, _, _, _⟩) rfl 44 rfl (rsA (0, 0)) rsZero ?_; intro b2 wn N R; have HG2 := H_ (nA HB.out N); have HD12 := H_ (show b1 ≠ b2 by have := HR1.out.lt; have := N.at_; omega); have HR1 := H_ (HR1.out.later N.below); have HR2 := H_ R; have HB := H_ (below_on HB.out N.below); clear N R))
 refine late_begin 6 (by kernel_rfl) ?_
 refine lv 0 rfl ⟨.agg (posA p), fun w' hl => (run_load _ rfl _ rfl p (HR1.out.later hl)), ?_⟩
 simp only [Act.put, pa, pb, pc]
 refine lv 2 rfl ⟨.agg (posA p), fun w' hl => (run_load _ rfl _ rfl p (HR1.out.later hl)), ?_⟩
 simp only [Act.put, pa, pb, pc]
 refine l1 1 rfl fun wn hl K hK => ?_
 have HR1 := H_ (HR1.out.later hl); have HR2 := H_ (HR2.out.later hl); have HB := H_ (below_on HB.out hl); clear hl
 refine we ?_
 refine (goalK HX.out _ HP.out (HT.out.on HB.out).db).mono ?_; rintro e wm ⟨rfl, hb⟩; refine ⟨_, rfl, ?_⟩
 refine hK.out _ _ hb ?_
 have HR1 := H_ (HR1.out.later hb); have HR2 := H_ (HR2.out.later hb); have HB := H_ (below_on HB.out hb); clear hb
 clear hK K
 simp only [Act.put, pa, pb, pc]
 refine l1 3 rfl fun wn hl K hK => ?_
 have HR1 := H_ (HR1.out.later hl); have HR2 := H_ (HR2.out.later hl); have HB := H_ (below_on HB.out hl); clear hl
 refine we ?_
 refine (goalK HY.out _ HP.out (HT.out.on HB.out).db).mono ?_; rintro e wm ⟨rfl, hb⟩; refine ⟨_, rfl, ?_⟩
 refine hK.out _ _ hb ?_
 have HR1 := H_ (HR1.out.later hb); have HR2 := H_ (HR2.out.later hb); have HB := H_ (below_on HB.out hb); clear hb
 clear hK K
 simp only [Act.put, pa, pb, pc]
 refine lw 4 rfl ?_
 simp only [Act.put, pa, pb, pc]
 refine lw 5 rfl ?_
 simp only [Act.put, pa, pb, pc]
 refine late_end (by kernel_rfl) (fun wn hl => ?_)
 have HR1 := H_ (HR1.out.later hl); have HR2 := H_ (HR2.out.later hl); have HB := H_ (below_on HB.out hl); clear hl
 go_wp2_with (first
   | (go_at_call 166; refine (lg_won 1 6 _).mono ?_; rintro e w3 ⟨rfl, hb⟩; have HR1 := H_ (HR1.out.later hb); have HR2 := H_ (Blk.later HR2.out hb); have HB := H_ (below_on HB.out hb); clear hb)
   | (guard_target = gS 2; refine blk_store (op := ⟨none, .store _ (.tmp 2) _, _, _, _, _⟩) rfl 44 _ _ rfl b2 rfl (rsA (0, 0)) (rsA (wnZ 1 6)) rfl HR2.out rfl (rs_one _) rsSize ?_; intro wn U R; have HR1 := H_ (HR1.out.apart U HD12.out); have HR2 := H_ R; have HB := H_ (HB.out.trans (U.below HG2.out)); clear U R))
 refine bodyPost_ret (v := .agg (rsA (wnZ 1 6))) (results_blk rfl _ _ _ _ rfl HR2.out Tryz.underlying44 rfl rsSize rfl) rfl ⟨rfl, HB.out⟩
theorem goal_3 (p : Nat → Int) (w : World) (hp : WfP p) (hT : CsT w) (hx : goaB p 0 = false) (hy : goaB p 1 = false) : Calls Tryz.prog 92 #[.agg (posA p)] w (ResL (0, 0) w) := by
 have HP := H_ hp
 have HT := H_ hT
 have HX := H_ hx
 have HY := H_ hy
 clear hp hT hx hy
 have HB := H_ (Below.refl w.heap.size w)
 go_enter Tryz.func92, Tryz.ntmps92
 go_wp2_with (first
   | (guard_target = gB 1; refine step_box rfl _ rfl p rfl ?_; intro b1 w1 N R; have HG1 := H_ (nA HB.out N); have HB := H_ (below_on HB.out N.below); have HR1 := H_ R; clear N R)
   | (guard_target = gA 2; refine blk_alloc (op := ⟨some 2, _, _, _, _, _⟩) rfl 44 rfl (rsA (0, 0)) rsZero ?_; intro b2 wn N R; have HG2 := H_ (nA HB.out N); have HD12 := H_ (show b1 ≠ b2 by have := HR1.out.lt; have := N.at_; omega); have HR1 := H_ (HR1.out.later N.below); have HR2 := H_ R; have HB := H_ (below_on HB.out N.below); clear N R))
 refine late_begin 6 (by kernel_rfl) ?_
 refine lv 0 rfl ⟨.agg (posA p), fun w' hl => (run_load _ rfl _ rfl p (HR1.out.later hl)), ?_⟩
 simp only [Act.put, pa, pb, pc]
 refine lv 2 rfl ⟨.agg (posA p), fun w' hl => (run_load _ rfl _ rfl p (HR1.out.later hl)), ?_⟩
 simp only [Act.put, pa, pb, pc]
 refine l1 1 rfl fun wn hl K hK => ?_
 have HR1 := H_ (HR1.out.later hl); have HR2 := H_ (HR2.out.later hl); have HB := H_ (below_on HB.out hl); clear hl
 refine we ?_
 refine (goalK HX.out _ HP.out (HT.out.on HB.out).db).mono ?_; rintro e wm ⟨rfl, hb⟩; refine ⟨_, rfl, ?_⟩
 refine hK.out _ _ hb ?_
 have HR1 := H_ (HR1.out.later hb); have HR2 := H_ (HR2.out.later hb); have HB := H_ (below_on HB.out hb); clear hb
 clear hK K
 simp only [Act.put, pa, pb, pc]
 refine l1 3 rfl fun wn hl K hK => ?_
 have HR1 := H_ (HR1.out.later hl); have HR2 := H_ (HR2.out.later hl); have HB := H_ (below_on HB.out hl); clear hl
 refine we ?_
 refine (goalK HY.out _ HP.out (HT.out.on HB.out).db).mono ?_; rintro e wm ⟨rfl, hb⟩; refine ⟨_, rfl, ?_⟩
 refine hK.out _ _ hb ?_
 have HR1 := H_ (HR1.out.later hb); have HR2 := H_ (HR2.out.later hb); have HB := H_ (below_on HB.out hb); clear hb
 clear hK K
 simp only [Act.put, pa, pb, pc]
 refine lw 4 rfl ?_
 simp only [Act.put, pa, pb, pc]
 refine lw 5 rfl ?_
 simp only [Act.put, pa, pb, pc]
 refine late_end (by kernel_rfl) (fun wn hl => ?_)
 have HR1 := H_ (HR1.out.later hl); have HR2 := H_ (HR2.out.later hl); have HB := H_ (below_on HB.out hl); clear hl
 go_wp2_with (first
   | (go_at_call 21; refine (lg_going _).mono ?_; rintro e w3 ⟨rfl, hb⟩; have HR1 := H_ (HR1.out.later hb); have HR2 := H_ (Blk.later HR2.out hb); have HB := H_ (below_on HB.out hb); clear hb)
   | (guard_target = gS 2; refine blk_store (op := ⟨none, .store _ (.tmp 2) _, _, _, _, _⟩) rfl 44 _ _ rfl b2 rfl (rsA (0, 0)) (rsA (0, 0)) rfl HR2.out rfl (rs_one _) rsSize ?_; intro wn U R; have HR1 := H_ (HR1.out.apart U HD12.out); have HR2 := H_ R; have HB := H_ (HB.out.trans (U.below HG2.out)); clear U R))
 refine bodyPost_ret (v := .agg (rsA (0, 0))) (results_blk rfl _ _ _ _ rfl HR2.out Tryz.underlying44 rfl rsSize rfl) rfl ⟨rfl, HB.out⟩
theorem goal_4 (p : Nat → Int) (w : World) (hp : WfP p) (hT : CsT w) (hx : goaB p 0 = true) (hy : goaB p 1 = false) (hc : comB p = true) : Calls Tryz.prog 92 #[.agg (posA p)] w (ResL (0, 0) w) := by
 have HP := H_ hp
 have HT := H_ hT
 have HX := H_ hx
 have HY := H_ hy
 have HC := H_ hc
 clear hp hT hx hy hc
 have HB := H_ (Below.refl w.heap.size w)
 go_enter Tryz.func92, Tryz.ntmps92
 go_wp2_with (first
   | (guard_target = gB 1; refine step_box rfl _ rfl p rfl ?_; intro b1 w1 N R; have HG1 := H_ (nA HB.out N); have HB := H_ (below_on HB.out N.below); have HR1 := H_ R; clear N R)
   | (guard_target = gA 2; refine blk_alloc (op := ⟨some 2, _, _, _, _, _⟩) rfl 44 rfl (rsA (0, 0)) rsZero ?_; intro b2 wn N R; have HG2 := H_ (nA HB.out N); have HD12 := H_ (show b1 ≠ b2 by have := HR1.out.lt; have := N.at_; omega); have HR1 := H_ (HR1.out.later N.below); have HR2 := H_ R; have HB := H_ (below_on HB.out N.below); clear N R))
 refine late_begin 6 (by kernel_rfl) ?_
 refine lv 0 rfl ⟨.agg (posA p), fun w' hl => (run_load _ rfl _ rfl p (HR1.out.later hl)), ?_⟩
 simp only [Act.put, pa, pb, pc]
 refine lv 2 rfl ⟨.agg (posA p), fun w' hl => (run_load _ rfl _ rfl p (HR1.out.later hl)), ?_⟩
 simp only [Act.put, pa, pb, pc]
 refine l1 1 rfl fun wn hl K hK => ?_
 have HR1 := H_ (HR1.out.later hl); have HR2 := H_ (HR2.out.later hl); have HB := H_ (below_on HB.out hl); clear hl
 refine we ?_
 refine (goalK HX.out _ HP.out (HT.out.on HB.out).db).mono ?_; rintro e wm ⟨rfl, hb⟩; refine ⟨_, rfl, ?_⟩
 refine hK.out _ _ hb ?_
 have HR1 := H_ (HR1.out.later hb); have HR2 := H_ (HR2.out.later hb); have HB := H_ (below_on HB.out hb); clear hb
 clear hK K
 simp only [Act.put, pa, pb, pc]
 refine l1 3 rfl fun wn hl K hK => ?_
 have HR1 := H_ (HR1.out.later hl); have HR2 := H_ (HR2.out.later hl); have HB := H_ (below_on HB.out hl); clear hl
 refine we ?_
 refine (goalK HY.out _ HP.out (HT.out.on HB.out).db).mono ?_; rintro e wm ⟨rfl, hb⟩; refine ⟨_, rfl, ?_⟩
 refine hK.out _ _ hb ?_
 have HR1 := H_ (HR1.out.later hb); have HR2 := H_ (HR2.out.later hb); have HB := H_ (below_on HB.out hb); clear hb
 clear hK K
 simp only [Act.put, pa, pb, pc]
 refine lw 4 rfl ?_
 simp only [Act.put, pa, pb, pc]
 refine lw 5 rfl ?_
 simp only [Act.put, pa, pb, pc]
 refine late_end (by kernel_rfl) (fun wn hl => ?_)
 have HR1 := H_ (HR1.out.later hl); have HR2 := H_ (HR2.out.later hl); have HB := H_ (below_on HB.out hl); clear hl
 go_wp2_with (first
   | (guard_target = gL 1; refine step_load rfl _ rfl b1 rfl p HR1.out ?_)
   | (go_at_call 174; refine (comeK HC.out _ HP.out (HT.out.on HB.out)).mono ?_; rintro e w3 ⟨rfl, hb⟩; have HR1 := H_ (HR1.out.later hb); have HR2 := H_ (HR2.out.later hb); have HB := H_ (below_on HB.out hb); clear hb)
   | (go_at_call 21; refine (lg_going _).mono ?_; rintro e w3 ⟨rfl, hb⟩; have HR1 := H_ (HR1.out.later hb); have HR2 := H_ (Blk.later HR2.out hb); have HB := H_ (below_on HB.out hb); clear hb)
   | (guard_target = gS 2; refine blk_store (op := ⟨none, .store _ (.tmp 2) _, _, _, _, _⟩) rfl 44 _ _ rfl b2 rfl (rsA (0, 0)) (rsA (0, 0)) rfl HR2.out rfl (rs_one _) rsSize ?_; intro wn U R; have HR1 := H_ (HR1.out.apart U HD12.out); have HR2 := H_ R; have HB := H_ (HB.out.trans (U.below HG2.out)); clear U R))
 refine bodyPost_ret (v := .agg (rsA (0, 0))) (results_blk rfl _ _ _ _ rfl HR2.out Tryz.underlying44 rfl rsSize rfl) rfl ⟨rfl, HB.out⟩
theorem goal_5 (p : Nat → Int) (w : World) (hp : WfP p) (hT : CsT w) (hx : goaB p 0 = true) (hy : goaB p 1 = false) (hc : comB p = false) : Calls Tryz.prog 92 #[.agg (posA p)] w (ResL (wnZ 0 6) w) := by
 have HP := H_ hp
 have HT := H_ hT
 have HX := H_ hx
 have HY := H_ hy
 have HC := H_ hc
 clear hp hT hx hy hc
 have HB := H_ (Below.refl w.heap.size w)
 go_enter Tryz.func92, Tryz.ntmps92
 go_wp2_with (first
   | (guard_target = gB 1; refine step_box rfl _ rfl p rfl ?_; intro b1 w1 N R; have HG1 := H_ (nA HB.out N); have HB := H_ (below_on HB.out N.below); have HR1 := H_ R; clear N R)
   | (guard_target = gA 2; refine blk_alloc (op := ⟨some 2, _, _, _, _, _⟩) rfl 44 rfl (rsA (0, 0)) rsZero ?_; intro b2 wn N R; have HG2 := H_ (nA HB.out N); have HD12 := H_ (show b1 ≠ b2 by have := HR1.out.lt; have := N.at_; omega); have HR1 := H_ (HR1.out.later N.below); have HR2 := H_ R; have HB := H_ (below_on HB.out N.below); clear N R))
 refine late_begin 6 (by kernel_rfl) ?_
 refine lv 0 rfl ⟨.agg (posA p), fun w' hl => (run_load _ rfl _ rfl p (HR1.out.later hl)), ?_⟩
 simp only [Act.put, pa, pb, pc]
 refine lv 2 rfl ⟨.agg (posA p), fun w' hl => (run_load _ rfl _ rfl p (HR1.out.later hl)), ?_⟩
 simp only [Act.put, pa, pb, pc]
 refine l1 1 rfl fun wn hl K hK => ?_
 have HR1 := H_ (HR1.out.later hl); have HR2 := H_ (HR2.out.later hl); have HB := H_ (below_on HB.out hl); clear hl
 refine we ?_
 refine (goalK HX.out _ HP.out (HT.out.on HB.out).db).mono ?_; rintro e wm ⟨rfl, hb⟩; refine ⟨_, rfl, ?_⟩
 refine hK.out _ _ hb ?_
 have HR1 := H_ (HR1.out.later hb); have HR2 := H_ (HR2.out.later hb); have HB := H_ (below_on HB.out hb); clear hb
 clear hK K
 simp only [Act.put, pa, pb, pc]
 refine l1 3 rfl fun wn hl K hK => ?_
 have HR1 := H_ (HR1.out.later hl); have HR2 := H_ (HR2.out.later hl); have HB := H_ (below_on HB.out hl); clear hl
 refine we ?_
 refine (goalK HY.out _ HP.out (HT.out.on HB.out).db).mono ?_; rintro e wm ⟨rfl, hb⟩; refine ⟨_, rfl, ?_⟩
 refine hK.out _ _ hb ?_
 have HR1 := H_ (HR1.out.later hb); have HR2 := H_ (HR2.out.later hb); have HB := H_ (below_on HB.out hb); clear hb
 clear hK K
 simp only [Act.put, pa, pb, pc]
 refine lw 4 rfl ?_
 simp only [Act.put, pa, pb, pc]
 refine lw 5 rfl ?_
 simp only [Act.put, pa, pb, pc]
 refine late_end (by kernel_rfl) (fun wn hl => ?_)
 have HR1 := H_ (HR1.out.later hl); have HR2 := H_ (HR2.out.later hl); have HB := H_ (below_on HB.out hl); clear hl
 go_wp2_with (first
   | (guard_target = gL 1; refine step_load rfl _ rfl b1 rfl p HR1.out ?_)
   | (go_at_call 174; refine (comeK HC.out _ HP.out (HT.out.on HB.out)).mono ?_; rintro e w3 ⟨rfl, hb⟩; have HR1 := H_ (HR1.out.later hb); have HR2 := H_ (HR2.out.later hb); have HB := H_ (below_on HB.out hb); clear hb)
   | (go_at_call 166; refine (lg_won 0 6 _).mono ?_; rintro e w3 ⟨rfl, hb⟩; have HR1 := H_ (HR1.out.later hb); have HR2 := H_ (Blk.later HR2.out hb); have HB := H_ (below_on HB.out hb); clear hb)
   | (guard_target = gS 2; refine blk_store (op := ⟨none, .store _ (.tmp 2) _, _, _, _, _⟩) rfl 44 _ _ rfl b2 rfl (rsA (0, 0)) (rsA (wnZ 0 6)) rfl HR2.out rfl (rs_one _) rsSize ?_; intro wn U R; have HR1 := H_ (HR1.out.apart U HD12.out); have HR2 := H_ R; have HB := H_ (HB.out.trans (U.below HG2.out)); clear U R))
 refine bodyPost_ret (v := .agg (rsA (wnZ 0 6))) (results_blk rfl _ _ _ _ rfl HR2.out Tryz.underlying44 rfl rsSize rfl) rfl ⟨rfl, HB.out⟩
def racZ (p : Nat → Int) : Int × Int := bif goaB p 0 && goaB p 1 then (3, 6) else bif goaB p 1 then wnZ 1 6 else bif goaB p 0 && !comB p then wnZ 0 6 else (0, 0)
theorem win_8 (p : Nat → Int) (w : World) (hp : WfP p) (hT : CsT w) : Calls Tryz.prog 92 #[.agg (posA p)] w (ResL (racZ p) w) := by
 unfold racZ
 cases hx : goaB p 0
 ·cases hy : goaB p 1
  ·exact goal_3 p w hp hT hx hy
  ·exact goal_2 p w hp hT hx hy
 ·cases hy : goaB p 1
  ·cases hc : comB p
   ·exact goal_5 p w hp hT hx hy hc
   ·exact goal_4 p w hp hT hx hy hc
  ·exact goal_1 p w hp hT hx hy
end Go.Proofs.YteblmnbagbdiiaaGreatDoor
/-
 Layer 17: ends, Won, List.
-/
namespace Go.Proofs.YteblmnbagbdiiaaGreatDoor
open Go.RowKit Go.Shelf
set_option linter.unusedVariables false
set_option linter.unusedSimpArgs false
attribute [local go_sem] Oper.semAt_some

def endsA : Array Value := #[(.func (.func 86) #[] #[]), (.func (.func 86) #[] #[]), (.func (.func 86) #[] #[]), (.func (.func 87) #[] #[]), (.func (.func 88) #[] #[]), (.func (.func 89) #[] #[]), (.func (.func 90) #[] #[]), (.func (.func 91) #[] #[]), (.func (.func 92) #[] #[])]
def nilsA : Array Value := #[.nilFunc, .nilFunc, .nilFunc, .nilFunc, .nilFunc, .nilFunc, .nilFunc, .nilFunc, .nilFunc]
theorem enZero : (Tryz.prog.info? 69).map (fun i => (i.zero, i.size)) = some (some (.agg nilsA), 9) := by kernel_rfl
theorem enSize : (Tryz.prog.info? 69).map (·.size) = some 9 := by kernel_rfl
theorem en_one : endsA.all (·.oneCell') = true := by kernel_rfl
theorem en1Size : (Tryz.prog.info? 68).map (·.size) = some 1 := by kernel_rfl
theorem lg_ends (w : World) : Calls Tryz.prog 39 #[] w (AggL endsA w) := by
 have HB := H_ (Below.refl w.heap.size w)
 go_enter Tryz.func39, Tryz.ntmps39
 go_wp2_with (first
   | (guard_target = gA 0; refine blk_alloc (op := ⟨some 0, _, _, _, _, _⟩) rfl 69 rfl nilsA enZero ?_; intro b0 wn N R; have HG0 := H_ (nA HB.out N); have HR0 := H_ R; have HB := H_ (below_on HB.out N.below); clear N R)
   | (guard_target = gS 0; refine blk_store (op := ⟨none, .store _ (.tmp 0) _, _, _, _, _⟩) rfl 69 _ _ rfl b0 rfl nilsA endsA rfl HR0.out rfl en_one enSize ?_; intro wn U R; have HR0 := H_ R; have HB := H_ (HB.out.trans (U.below HG0.out)); clear U R))
 refine bodyPost_ret (v := .agg endsA) (results_blk rfl _ _ _ _ rfl HR0.out Tryz.underlying69 rfl enSize rfl) rfl ⟨rfl, HB.out⟩
theorem win_0 (p : Nat → Int) (w : World) : Calls Tryz.prog 86 #[.agg (posA p)] w (ResL (0, 0) w) := by
 have HB := H_ (Below.refl w.heap.size w)
 go_enter Tryz.func86, Tryz.ntmps86
 go_wp2_with (first
   | (guard_target = gB 1; refine step_box rfl _ rfl p rfl ?_; intro b1 w1 N R; have HG1 := H_ (nA HB.out N); have HB := H_ (below_on HB.out N.below); have HR1 := H_ R; clear N R)
   | (guard_target = gA 2; refine blk_alloc (op := ⟨some 2, _, _, _, _, _⟩) rfl 44 rfl (rsA (0, 0)) rsZero ?_; intro b2 wn N R; have HG2 := H_ (nA HB.out N); have HR2 := H_ R; have HB := H_ (below_on HB.out N.below); clear N R)
   | (go_at_call 21; refine (lg_going _).mono ?_; rintro e w3 ⟨rfl, hb⟩; have HR2 := H_ (Blk.later HR2.out hb); have HB := H_ (below_on HB.out hb); clear hb)
   | (guard_target = gS 2; refine blk_store (op := ⟨none, .store _ (.tmp 2) _, _, _, _, _⟩) rfl 44 _ _ rfl b2 rfl (rsA (0, 0)) (rsA (0, 0)) rfl HR2.out rfl (rs_one _) rsSize ?_; intro wn U R; have HR2 := H_ R; have HB := H_ (HB.out.trans (U.below HG2.out)); clear U R))
 refine bodyPost_ret (v := .agg (rsA (0, 0))) (results_blk rfl _ _ _ _ rfl HR2.out Tryz.underlying44 rfl rsSize rfl) rfl ⟨rfl, HB.out⟩
def winZ (p : Nat → Int) : Int × Int :=
 bif p 0 == 3 then (bif !hkB p (p 78) then wnZ (oth (p 78)) 6 else (0, 0)) else
 bif p 0 == 4 then firZ (p 78) 8 (fun c => !menB p c) else
 bif p 0 == 5 then firZ (oth (p 78)) 7 (fun c => decide (3 ≤ p (84 + c.toNat))) else
 bif p 0 == 6 then firZ (oth (p 78)) 6 (fun c => hilB (kingZ p c)) else
 bif p 0 == 7 then (bif !menB p 0 then wnZ 1 8 else (0, 0)) else
 bif p 0 == 8 then racZ p else (0, 0)
def wonZ (p : Nat → Int) : Int × Int := bif decide (9 ≤ p 0) || decide (1 < p 78) then (0, 0) else winZ p
def Told (N : FuncId) (p : Nat → Int) : Prop := (∀ args w, (callFunc N args).run Tryz.prog w = .ok (.enter N args) w) ∧ ∀ w, CsT w → Calls Tryz.prog N #[.agg (posA p)] w (ResL (winZ p) w)
theorem entF_atGoal : ∀ args w, (callFunc 92 args).run Tryz.prog w = .ok (.enter 92 args) w := enters_of Tryz.func92 (by kernel_rfl) rfl
theorem entF_byChecks : ∀ args w, (callFunc 89 args).run Tryz.prog w = .ok (.enter 89 args) w := enters_of Tryz.func89 (by kernel_rfl) rfl
theorem entF_ends_1 : ∀ args w, (callFunc 86 args).run Tryz.prog w = .ok (.enter 86 args) w := enters_of Tryz.func86 (by kernel_rfl) rfl
theorem entF_hordeIsGone : ∀ args w, (callFunc 91 args).run Tryz.prog w = .ok (.enter 91 args) w := enters_of Tryz.func91 (by kernel_rfl) rfl
theorem entF_onHill : ∀ args w, (callFunc 90 args).run Tryz.prog w = .ok (.enter 90 args) w := enters_of Tryz.func90 (by kernel_rfl) rfl
theorem entF_withoutKing : ∀ args w, (callFunc 87 args).run Tryz.prog w = .ok (.enter 87 args) w := enters_of Tryz.func87 (by kernel_rfl) rfl
theorem entF_withoutMen : ∀ args w, (callFunc 88 args).run Tryz.prog w = .ok (.enter 88 args) w := enters_of Tryz.func88 (by kernel_rfl) rfl
theorem told_any (p : Nat → Int) (hp : WfP p) (ht : p 78 = 0 ∨ p 78 = 1) (k : Nat) (hk : k < 9) (hv : p 0 = (k : Int)) : ∃ N, endsA[k]? = some (.func (.func N) #[] #[]) ∧ Told N p := by
 have hb : ∀ n : Int, (p 0 == n) = ((k : Int) == n) := fun n => by rw [hv]
 match k, hk with
 | 0, _ => exact ⟨_, rfl, entF_ends_1, fun w hT => by unfold winZ; rw [hb 3, hb 4, hb 5, hb 6, hb 7, hb 8]; exact win_0 p w⟩
 | 1, _ => exact ⟨_, rfl, entF_ends_1, fun w hT => by unfold winZ; rw [hb 3, hb 4, hb 5, hb 6, hb 7, hb 8]; exact win_0 p w⟩
 | 2, _ => exact ⟨_, rfl, entF_ends_1, fun w hT => by unfold winZ; rw [hb 3, hb 4, hb 5, hb 6, hb 7, hb 8]; exact win_0 p w⟩
 | 3, _ => exact ⟨_, rfl, entF_withoutKing, fun w hT => by unfold winZ; rw [hb 3]; exact win_3 p w hp ht hT⟩
 | 4, _ => exact ⟨_, rfl, entF_withoutMen, fun w hT => by unfold winZ; rw [hb 3, hb 4]; exact win_4 p w hp ht hT⟩
 | 5, _ => exact ⟨_, rfl, entF_byChecks, fun w hT => by unfold winZ; rw [hb 3, hb 4, hb 5]; exact win_5 p w hp ht hT⟩
 | 6, _ => exact ⟨_, rfl, entF_onHill, fun w hT => by unfold winZ; rw [hb 3, hb 4, hb 5, hb 6]; exact win_6 p w hp ht hT⟩
 | 7, _ => exact ⟨_, rfl, entF_hordeIsGone, fun w hT => by unfold winZ; rw [hb 3, hb 4, hb 5, hb 6, hb 7]; exact win_7 p w hp ht hT⟩
 | 8, _ => exact ⟨_, rfl, entF_atGoal, fun w hT => by unfold winZ; rw [hb 3, hb 4, hb 5, hb 6, hb 7, hb 8]; exact win_8 p w hp hT⟩
theorem late_blkL {o : Oper} {a : Act} {w : World} {K : Act → World → Prop} {Q : Exit → Act → World → Prop} (T : TypeId) (x y : Operand) (ho : o.op = .store T x y) (b : Nat) (hx : a.eval x = .pointer (some ⟨b, 0, none⟩)) (cs ds : Array Value) (hy : a.eval y = .agg ds) (hr : Blk w b T cs)
  (hs : ds.size = cs.size) (h1 : ds.all (·.oneCell') = true) (hi : (Tryz.prog.info? T).map (·.size) = some ds.size)
  (h : ∀ w', Upd b w w' → Blk w' b T ds → K (a.put o.dst undef) w') : Wp Tryz.prog o a w K Q :=
 ⟨wp_store_mid T x y ho b 0 ds hx hy (hr.there 0 _ (by omega)) hi h1 (h _ (Upd.setCells _ _ _ _) (hr.whole hs))⟩
theorem run_fnE {o : Oper} {a : Act} {w : World} (x y : Operand) (N : FuncId) (v : Value) {c : Go.Call} (ho : o.op = .call c) (hc : c.callee = .value x) (hg : c.args = #[y]) (hx : a.eval x = .func (.func N) #[] #[]) (hy : a.eval y = v) (eN : ∀ args w, (callFunc N args).run Tryz.prog w = .ok (.enter N args) w) :
  (execOp a.eval o).run Tryz.prog w = .ok (.enter N #[v]) w := by
 generalize a.eval = ev at hx hy ⊢
 unfold execOp
 simp [ho, hc, hg, hx, hy, eN, go_sem]
theorem run_ixE {o : Oper} {a : Act} {w : World} (x y : Operand) (ho : o.op = .index 69 x y) (k : Nat) {N : FuncId} (hx : a.eval x = .agg endsA) (hy : a.eval y = .int .u8 (k : Int)) (hk : k < 9) (hv : endsA[k]? = some (.func (.func N) #[] #[])) :
  (execOp a.eval o).run Tryz.prog w = .ok (.value (.agg #[.func (.func N) #[] #[]])) w := by
 have h0 : (0 : Int) ≤ (k : Int) ∧ (k : Int) < ((9 : Nat) : Int) := by omega
 have hds : endsA.extract (k * 1) (k * 1 + 1) = #[.func (.func N) #[] #[]] := by
  match k, hk with
  | 0, _ => simp [endsA] at hv; subst hv; rfl
  | 1, _ => simp [endsA] at hv; subst hv; rfl
  | 2, _ => simp [endsA] at hv; subst hv; rfl
  | 3, _ => simp [endsA] at hv; subst hv; rfl
  | 4, _ => simp [endsA] at hv; subst hv; rfl
  | 5, _ => simp [endsA] at hv; subst hv; rfl
  | 6, _ => simp [endsA] at hv; subst hv; rfl
  | 7, _ => simp [endsA] at hv; subst hv; rfl
  | 8, _ => simp [endsA] at hv; subst hv; rfl
 unfold execOp
 simp only [ho, hx, hy, Instr.index, asIntOf, Sem.run_bind, Sem.run_pure, Result.andThen_ok, run_underlying Tryz.underlying69, h0, and_self, if_true, sizeOf_is en1Size, part, isAgg_yes Tryz.underlying68 rfl, Int.toNat_natCast, hds]
theorem run_flE {o : Oper} {a : Act} {w : World} (x : Operand) (ho : o.op = .field 68 x 0) (v : Value) (hx : a.eval x = .agg #[v]) : (execOp a.eval o).run Tryz.prog w = .ok (.value v) w := by
 unfold execOp
 simp [ho, hx, Instr.field, asAgg, run_underlying Tryz.underlying68, part, isAgg_no Tryz.underlying45 rfl]
theorem lg_Won (p : Nat → Int) (w : World) (hp : WfP p) (hT : CsT w) : Calls Tryz.prog 17 #[.agg (posA p)] w (ResL (wonZ p) w) := by
 have HP := H_ hp
 have HT := H_ hT
 have hv0 := (AtR.of hp).var.1
 have ht0 := (AtR.of hp).turn.1
 unfold wonZ
 cases g9 : decide (9 ≤ p 0)
 ·cases g1 : decide (1 < p 78)
  ·obtain ⟨v, hv⟩ := Int.eq_ofNat_of_zero_le hv0
   have hv9 : v < 9 := by have := of_decide_eq_false g9; omega
   obtain ⟨N0, hat, hto⟩ := told_any p hp (by have := of_decide_eq_false g1; omega) v hv9 hv
   show Calls _ _ _ _ (ResL (winZ p) w)
   obtain ⟨r, hr⟩ : ∃ r, winZ p = r := ⟨_, rfl⟩
   rw [hr]
   unfold Told at hto
   rw [hr] at hto
   have HV := H_ hv
   have HN := H_ hv9
   have HAt := H_ hat
   have HTo := H_ hto
   clear hp hT hv9 hat hto hr hv0 ht0 hv
   have HB := H_ (Below.refl w.heap.size w)
   go_enter Tryz.func17, Tryz.ntmps17
   go_wp2_with (first
    | (guard_target = gB 1; refine step_box rfl _ rfl p rfl ?_; intro b1 w1 N R; have HG1 := H_ (nA HB.out N); have HB := H_ (below_on HB.out N.below); have HR1 := H_ R; clear N R)
    | (guard_target = gA 2; refine blk_alloc (op := ⟨some 2, _, _, _, _, _⟩) rfl 44 rfl (rsA (0, 0)) rsZero ?_; intro b2 wn N R; have HG2 := H_ (nA HB.out N); have HD12 := H_ (show b1 ≠ b2 by have := HR1.out.lt; have := N.at_; omega); have HR1 := H_ (HR1.out.later N.below); have HR2 := H_ R; have HB := H_ (below_on HB.out N.below); clear N R)
    | (guard_target = gL 3; refine gU rfl 5 _ rfl Tryz.underlying5 HR1.out 0 (by decide) rfl rfl ?_)
    | (guard_target = gL 7; refine gU rfl 5 _ rfl Tryz.underlying5 HR1.out 78 (by decide) rfl rfl ?_))
   refine late_begin 7 (by kernel_rfl) ?_
   refine lw 1 rfl ?_
   simp only [Act.put, pa, pb, pc]
   refine lv 2 rfl ⟨.int .u8 (v : Int), fun w' hl => (run_get 5 _ rfl b1 0 rfl Tryz.underlying5 rfl (.int .u8 (v : Int)) (((HR1.out.later hl).cell 0 (by decide)).trans (by rw [HV.out]; rfl))), ?_⟩
   simp only [Act.put, pa, pb, pc]
   refine lv 5 rfl ⟨.agg (posA p), fun w' hl => (run_load _ rfl _ rfl p (HR1.out.later hl)), ?_⟩
   simp only [Act.put, pa, pb, pc]
   refine l1 0 rfl fun wn hl K hK => ?_
   have HR1 := H_ (HR1.out.later hl); have HR2 := H_ (HR2.out.later hl); have HB := H_ (below_on HB.out hl); clear hl
   refine we ?_
   refine (lg_ends _).mono ?_; rintro e wm ⟨rfl, hb⟩; refine ⟨_, rfl, ?_⟩
   refine hK.out _ _ hb ?_
   have HR1 := H_ (HR1.out.later hb); have HR2 := H_ (HR2.out.later hb); have HB := H_ (below_on HB.out hb); clear hb
   clear hK K
   simp only [Act.put, pa, pb, pc]
   refine lv 3 rfl ⟨.agg #[.func (.func N0) #[] #[]], fun w' hl => (run_ixE _ _ rfl v rfl rfl HN.out HAt.out), ?_⟩
   simp only [Act.put, pa, pb, pc]
   refine lv 4 rfl ⟨.func (.func N0) #[] #[], fun w' hl => (run_flE _ rfl _ rfl), ?_⟩
   simp only [Act.put, pa, pb, pc]
   refine l1 6 rfl fun wn hl K hK => ?_
   have HR1 := H_ (HR1.out.later hl); have HR2 := H_ (HR2.out.later hl); have HB := H_ (below_on HB.out hl); clear hl
   refine wp_enter _ _ (run_fnE _ _ N0 (.agg (posA p)) rfl rfl rfl rfl rfl HTo.out.1) ?_
   refine (HTo.out.2 _ (HT.out.on HB.out)).mono ?_; rintro e wm ⟨rfl, hb⟩; refine ⟨_, rfl, ?_⟩
   refine hK.out _ _ hb ?_
   have HR1 := H_ (HR1.out.later hb); have HR2 := H_ (HR2.out.later hb); have HB := H_ (below_on HB.out hb); clear hb
   clear hK K
   simp only [Act.put, pa, pb, pc]
   refine late_last 7 (by kernel_rfl) (by kernel_rfl) (by kernel_rfl) (fun o ho => ?_)
   simp only [qa, qb, qc, qd] at ho; subst ho
   refine ⟨by kernel_rfl, fun wn hl K hK => ?_⟩
   have HR1 := H_ (HR1.out.later hl); have HR2 := H_ (HR2.out.later hl); have HB := H_ (below_on HB.out hl); clear hl
   refine late_blkL 44 _ _ rfl b2 rfl (rsA (0, 0)) (rsA r) rfl HR2.out rfl (rs_one _) rsSize ?_; intro wm U R
   have HR1 := H_ (HR1.out.apart U HD12.out)
   have HR2 := H_ R; have HB := H_ (HB.out.trans (U.below HG2.out)); clear U R
   refine hK.out _ _ ?_
   clear hK K
   simp only [Act.put, pa, pb, pc]
   go_wp2_with fail
   refine bodyPost_ret (v := .agg (rsA r)) (results_blk rfl _ _ _ _ rfl HR2.out Tryz.underlying44 rfl rsSize rfl) rfl ⟨rfl, HB.out⟩
  ·clear hp hT hv0 ht0
   have HB := H_ (Below.refl w.heap.size w)
   go_enter Tryz.func17, Tryz.ntmps17
   go_wp2_with (first
    | (guard_target = gB 1; refine step_box rfl _ rfl p rfl ?_; intro b1 w1 N R; have HG1 := H_ (nA HB.out N); have HB := H_ (below_on HB.out N.below); have HR1 := H_ R; clear N R)
    | (guard_target = gA 2; refine blk_alloc (op := ⟨some 2, _, _, _, _, _⟩) rfl 44 rfl (rsA (0, 0)) rsZero ?_; intro b2 wn N R; have HG2 := H_ (nA HB.out N); have HD12 := H_ (show b1 ≠ b2 by have := HR1.out.lt; have := N.at_; omega); have HR1 := H_ (HR1.out.later N.below); have HR2 := H_ R; have HB := H_ (below_on HB.out N.below); clear N R)
    | (guard_target = gL 3; refine gU rfl 5 _ rfl Tryz.underlying5 HR1.out 0 (by decide) rfl rfl ?_)
    | (guard_target = gL 7; refine gU rfl 5 _ rfl Tryz.underlying5 HR1.out 78 (by decide) rfl rfl ?_)
    | (go_at_call 21; refine (lg_going _).mono ?_; rintro e w3 ⟨rfl, hb⟩; have HR1 := H_ (HR1.out.later hb); have HR2 := H_ (Blk.later HR2.out hb); have HB := H_ (below_on HB.out hb); clear hb)
    | (guard_target = gS 2; refine blk_store (op := ⟨none, .store _ (.tmp 2) _, _, _, _, _⟩) rfl 44 _ _ rfl b2 rfl (rsA (0, 0)) (rsA (0, 0)) rfl HR2.out rfl (rs_one _) rsSize ?_; intro wn U R; have HR1 := H_ (HR1.out.apart U HD12.out); have HR2 := H_ R; have HB := H_ (HB.out.trans (U.below HG2.out)); clear U R))
   refine bodyPost_ret (v := .agg (rsA (0, 0))) (results_blk rfl _ _ _ _ rfl HR2.out Tryz.underlying44 rfl rsSize rfl) rfl ⟨rfl, HB.out⟩
 ·clear hp hT hv0 ht0
  have HB := H_ (Below.refl w.heap.size w)
  go_enter Tryz.func17, Tryz.ntmps17
  go_wp2_with (first
   | (guard_target = gB 1; refine step_box rfl _ rfl p rfl ?_; intro b1 w1 N R; have HG1 := H_ (nA HB.out N); have HB := H_ (below_on HB.out N.below); have HR1 := H_ R; clear N R)
   | (guard_target = gA 2; refine blk_alloc (op := ⟨some 2, _, _, _, _, _⟩) rfl 44 rfl (rsA (0, 0)) rsZero ?_; intro b2 wn N R; have HG2 := H_ (nA HB.out N); have HD12 := H_ (show b1 ≠ b2 by have := HR1.out.lt; have := N.at_; omega); have HR1 := H_ (HR1.out.later N.below); have HR2 := H_ R; have HB := H_ (below_on HB.out N.below); clear N R)
   | (guard_target = gL 3; refine gU rfl 5 _ rfl Tryz.underlying5 HR1.out 0 (by decide) rfl rfl ?_)
   | (guard_target = gL 7; refine gU rfl 5 _ rfl Tryz.underlying5 HR1.out 78 (by decide) rfl rfl ?_)
   | (go_at_call 21; refine (lg_going _).mono ?_; rintro e w3 ⟨rfl, hb⟩; have HR1 := H_ (HR1.out.later hb); have HR2 := H_ (Blk.later HR2.out hb); have HB := H_ (below_on HB.out hb); clear hb)
   | (guard_target = gS 2; refine blk_store (op := ⟨none, .store _ (.tmp 2) _, _, _, _, _⟩) rfl 44 _ _ rfl b2 rfl (rsA (0, 0)) (rsA (0, 0)) rfl HR2.out rfl (rs_one _) rsSize ?_; intro wn U R; have HR1 := H_ (HR1.out.apart U HD12.out); have HR2 := H_ R; have HB := H_ (HB.out.trans (U.below HG2.out)); clear U R))
  refine bodyPost_ret (v := .agg (rsA (0, 0))) (results_blk rfl _ _ _ _ rfl HR2.out Tryz.underlying44 rfl rsSize rfl) rfl ⟨rfl, HB.out⟩
end Go.Proofs.YteblmnbagbdiiaaGreatDoor
