/-
  Layer 15's law's awake; whatever position: its pockets' numbers are bytes.
-/
import Derived.Test.YtdjnniohoicppaaDoorDrB
import Derived.Test.YtdjnniohoicppaaDoorRuStart
import Derived.Test.YtdjnniohoicppaaDoorPosEq
namespace Go.Proofs.YtdjnniohoicppaaDoor
open Go.RowKit Go.Shelf
set_option linter.unusedVariables false
set_option linter.unusedSimpArgs false
attribute [local go_sem] Oper.semAt_some

theorem DrR.of {p : Nat → Int} (h : WfP p) : DrR p := by
  have k : ∀ i, i < 88 → kAt i = .u8 → 0 ≤ p i ∧ p i ≤ 255 := fun i hi e => by have := h i hi; rw [e] at this; exact u8_rng this
  exact ⟨fun i hi => k _ (by omega) (kAt_board (Nat.zero_le _) hi), k 0 (by decide) rfl, k 78 (by decide) rfl, fun i h0 h1 => k i (by omega) (kAt_pk h0 h1)⟩
def awD : Nat → Int := upd (upd (startP 2) 68 1) 67 1
theorem awD_wf : WfP awD := fun i hi => by
  have key : ∀ i : Fin 88, (Lit.int (kAt i.val) (awD i.val)).wf = true := by decide +kernel
  exact key ⟨i, hi⟩
theorem awD_wf2 : WfP (upd awD 71 1) := fun i hi => by
  have key : ∀ i : Fin 88, (Lit.int (kAt i.val) (upd awD 71 1 i.val)).wf = true := by decide +kernel
  exact key ⟨i, hi⟩
theorem awD_len : (drL awD).length = 64 := by decide +kernel
theorem awD_0 : (drL awD)[0]? = some (dmv 1 16) := by kernel_rfl
theorem awD_63 : (drL awD)[63]? = some (dmv 2 47) := by kernel_rfl
theorem awD_held : helS awD 0 = 2 := by decide +kernel
theorem awD_men : menZ awD = 34 := by decide +kernel
theorem awD_no : (helC awD 0 5 == 0) = true := by decide +kernel
theorem awD_take : takP awD 0 5 = awD := by unfold takP; rw [awD_no]; rfl
theorem awD_add : addP awD 0 5 = upd awD 71 1 := by
  unfold addP
  rw [show (hasP 0 5 && decide (awD (pkJ 0 5) < 255)) = true by decide +kernel, cond_true, show pkJ 0 5 = 71 from rfl, show awD 71 = 0 by decide +kernel]; rfl
theorem awD_held3 : helS (upd awD 71 1) 0 = 3 := by decide +kernel
theorem takK {p q : Nat → Int} {b : Bool} {c k : Int} (e : takP p c k = q) (f : (helC p c k == 0) = b) (w : World) (hc : 0 ≤ c) (hp : DrR p) : Calls Tryd.prog 18 #[.agg (posA p), .int .u8 c, .int .u8 k] w (TakL q (!b) w) := e ▸ f ▸ dr_Take p c k w hc hp
theorem addK {p q : Nat → Int} {c k : Int} (e : addP p c k = q) (w : World) (hc : 0 ≤ c) (hp : DrR p) : Calls Tryd.prog 17 #[.agg (posA p), .int .u8 c, .int .u8 k] w (PosL q w) := e ▸ dr_Add p c k w hc hp
theorem heldK {p : Nat → Int} {c n : Int} (e : helS p c = n) (w : World) (hc : 0 ≤ c) (hp : DrR p) : Calls Tryd.prog 13 #[.agg (posA p), .int .u8 c] w (IntL n w) := e ▸ dr_Held p c w hc hp
theorem menK {p : Nat → Int} {n : Int} (e : menZ p = n) (w : World) (hp : DrR p) : Calls Tryd.prog 15 #[.agg (posA p)] w (IntL n w) := e ▸ dr_Men p w hp
set_option maxRecDepth 100000 in
set_option maxHeartbeats 4000000 in
theorem dr_awake (w : World) (hT : DrT w) (hK : TabKn w) : Calls Tryd.prog 12 #[] w (BoL true w) := by
  have HT := Lib.hid hT
  have HK := Lib.hid hK
  clear hT hK
  have HB := Lib.hid (Below.refl w.heap.size w)
  obtain ⟨Q0, HQ0⟩ : ∃ Q, Hid (startP 2 = Q) := ⟨_, Lib.hid rfl⟩
  obtain ⟨Q1, HQ1⟩ : ∃ Q, Hid (upd Q0 68 1 = Q) := ⟨_, Lib.hid rfl⟩
  obtain ⟨P, HP⟩ : ∃ Q, Hid (upd Q1 67 1 = Q) := ⟨_, Lib.hid rfl⟩
  obtain ⟨Q2, HQ2⟩ : ∃ Q, Hid (upd P 71 1 = Q) := ⟨_, Lib.hid rfl⟩
  have hP : awD = P := by rw [← HP.out, ← HQ1.out, ← HQ0.out]; rfl
  obtain ⟨L, hL⟩ : ∃ L, drL P = L := ⟨_, rfl⟩
  have HL := Lib.hid hL
  have HLn := Lib.hid (show L.length = 64 by rw [← hL, ← hP]; exact awD_len)
  have HL0 := Lib.hid (show L[0]? = some (dmv 1 16) by rw [← hL, ← hP]; exact awD_0)
  have HL63 := Lib.hid (show L[63]? = some (dmv 2 47) by rw [← hL, ← hP]; exact awD_63)
  have HDr := Lib.hid (show DrR P by rw [← hP]; exact DrR.of awD_wf)
  have HWf := Lib.hid (show WfP P by rw [← hP]; exact awD_wf)
  have HDr2 := Lib.hid (show DrR Q2 by rw [← HQ2.out, ← hP]; exact DrR.of awD_wf2)
  have HHe := Lib.hid (show helS P 0 = 2 by rw [← hP]; exact awD_held)
  have HH3 := Lib.hid (show helS Q2 0 = 3 by rw [← HQ2.out, ← hP]; exact awD_held3)
  have HMe := Lib.hid (show menZ P = 34 by rw [← hP]; exact awD_men)
  have HNo := Lib.hid (show (helC P 0 5 == 0) = true by rw [← hP]; exact awD_no)
  have HTk := Lib.hid (show takP P 0 5 = P by rw [← hP]; exact awD_take)
  have HAd := Lib.hid (show addP P 0 5 = Q2 by rw [← HQ2.out, ← hP]; exact awD_add)
  clear hP hL
  go_enter Tryd.func12, Tryd.ntmps12
  go_wp2_with (first
      | (go_at_call 25; refine (start_any 2 _ (by decide) (HT.out.on HB.out).var (HK.out.on HB.out)).mono ?_; rintro e w3 ⟨rfl, hb⟩; rw [HQ0.out]; have HB := Lib.hid (below_on HB.out hb); clear hb)
      | (guard_target = Go.wpList _ _ _ ((⟨some 1, .alloc _, _, _, _, _⟩ : Go.Oper) :: _) _ _; refine step_alloc (op := ⟨some 1, _, _, _, _, _⟩) rfl rfl ?_; intro b1 wn N R; have HG1 := Lib.hid (show w.heap.size ≤ b1 by have := HB.out.size; have := N.at_; omega); have HR1 := Lib.hid R; have HB := Lib.hid (below_on HB.out N.below); clear N R)
      | (guard_target = Go.wpList _ _ _ ((⟨none, .store _ (.tmp 1) _, _, _, _, _⟩ : Go.Oper) :: _) _ _; refine step_store (op := ⟨none, .store _ (.tmp 1) _, _, _, _, _⟩) rfl _ _ rfl b1 rfl zeroP Q0 rfl HR1.out ?_; intro wn U R; have HR1 := Lib.hid R; have HB := Lib.hid (HB.out.trans (U.below HG1.out)); clear U R)
      | (guard_target = Go.wpList _ _ _ ((⟨none, .store _ (.tmp 12) _, _, _, _, _⟩ : Go.Oper) :: _) _ _; refine step_cell (op := ⟨none, .store _ (.tmp 12) _, _, _, _, _⟩) rfl 5 _ _ rfl b1 68 rfl .u8 1 rfl Q0 HR1.out (by decide) rfl size5 ?_; intro wn U R; rw [HQ1.out] at R; have HR1 := Lib.hid R; have HB := Lib.hid (HB.out.trans (U.below HG1.out)); clear U R)
      | (guard_target = Go.wpList _ _ _ ((⟨none, .store _ (.tmp 15) _, _, _, _, _⟩ : Go.Oper) :: _) _ _; refine step_cell (op := ⟨none, .store _ (.tmp 15) _, _, _, _, _⟩) rfl 5 _ _ rfl b1 67 rfl .u8 1 rfl Q1 HR1.out (by decide) rfl size5 ?_; intro wn U R; rw [HP.out] at R; have HR1 := Lib.hid R; have HB := Lib.hid (HB.out.trans (U.below HG1.out)); clear U R)
      | (guard_target = Go.wpList _ _ _ ((⟨some _, .load _ (.tmp 1), _, _, _, _⟩ : Go.Oper) :: _) _ _; refine step_load rfl _ rfl b1 rfl P HR1.out ?_)
      | (go_at_call 10; refine (list_dr P _ HDr.out (HT.out.on HB.out)).mono ?_; rintro e w5 ⟨v, rfl, hv, hb⟩; rw [HL.out] at hv; obtain ⟨a5, c5, rfl, hE⟩ := mvs_of hv; obtain ⟨g5, rfl, _⟩ := hE.at HL0.out; rw [HLn.out]; have HE := Lib.hid hE; have HR1 := Lib.hid (HR1.out.later hb); have HB := Lib.hid (below_on HB.out hb); clear hE hv hb)
      | (go_at_call 18; refine (takK HTk.out HNo.out _ (by decide) HDr.out).mono ?_; rintro e w6 ⟨rfl, hb⟩; have HR1 := Lib.hid (HR1.out.later hb); have HE := Lib.hid (HE.out.later hb); have HB := Lib.hid (below_on HB.out hb); clear hb)
      | (guard_target = Go.wpList _ _ _ ((⟨some 4, .alloc _, _, _, _, _⟩ : Go.Oper) :: _) _ _; refine step_alloc (op := ⟨some 4, _, _, _, _, _⟩) rfl rfl ?_; intro b4 wn N R; have HG4 := Lib.hid (show w.heap.size ≤ b4 by have := HB.out.size; have := N.at_; omega); have HDg := Lib.hid (show g5 ≠ b4 by have := HE.out.lt HL0.out; have := N.at_; omega); have HD14 := Lib.hid (show b1 ≠ b4 by have := HR1.out.lt; have := N.at_; omega); have HR1 := Lib.hid (HR1.out.later N.below); have HE := Lib.hid (HE.out.later N.below); have HR4 := Lib.hid R; have HB := Lib.hid (below_on HB.out N.below); clear N R)
      | (guard_target = Go.wpList _ _ _ ((⟨none, .store _ (.tmp 4) _, _, _, _, _⟩ : Go.Oper) :: _) _ _; refine step_store (op := ⟨none, .store _ (.tmp 4) _, _, _, _, _⟩) rfl _ _ rfl b4 rfl zeroP P rfl HR4.out ?_; intro wn U R; have HR1 := Lib.hid (HR1.out.apart U HD14.out); have HE := Lib.hid (HE.out.upd U HDg.out); have HR4 := Lib.hid R; have HB := Lib.hid (HB.out.trans (U.below HG4.out)); clear U R)
      | (guard_target = Go.wpList _ _ _ ((⟨some _, .load _ (.tmp 4), _, _, _, _⟩ : Go.Oper) :: _) _ _; refine step_load rfl _ rfl b4 rfl P HR4.out ?_)
      | (guard_target = Go.wpList _ _ _ ((⟨some 29, .load _ (.tmp 28), _, _, _, _⟩ : Go.Oper) :: _) _ _; refine step_mvI (op := ⟨some 29, .load _ (.tmp 28), _, _, _, _⟩) rfl _ rfl g5 0 0 rfl rfl (dmv 1 16) (HE.out.get HL0.out) ?_)
      | (guard_target = Go.wpList _ _ _ ((⟨some 36, .load _ (.tmp 35), _, _, _, _⟩ : Go.Oper) :: _) _ _; refine step_mvI (op := ⟨some 36, .load _ (.tmp 35), _, _, _, _⟩) rfl _ rfl g5 63 315 rfl rfl (dmv 2 47) (HE.out.get HL63.out) ?_)
      | (guard_target = Go.wpList _ _ _ ((⟨some 30, .build _ _, _, _, _, _⟩ : Go.Oper) :: _) _ _; refine step_build (op := ⟨some 30, .build _ _, _, _, _, _⟩) rfl 45 _ rfl (mvA (dmv 1 16)) (by kernel_rfl) ?_)
      | (guard_target = Go.wpList _ _ _ ((⟨some 37, .build _ _, _, _, _, _⟩ : Go.Oper) :: _) _ _; refine step_build (op := ⟨some 37, .build _ _, _, _, _, _⟩) rfl 45 _ rfl (mvA (dmv 2 47)) (by kernel_rfl) ?_)
      | (guard_target = Go.wpList _ _ _ ((⟨some 31, .binOp _ _ _ _ _, _, _, _, _⟩ : Go.Oper) :: _) _ _; refine step_mv (op := ⟨some 31, .binOp _ _ _ _ _, _, _, _, _⟩) rfl _ _ rfl (dmv 1 16) (dmv 1 16) rfl rfl (dmv_fit (by decide) (by decide)) (dmv_fit (by decide) (by decide)) true (mvE_true.2 rfl) ?_)
      | (guard_target = Go.wpList _ _ _ ((⟨some 38, .binOp _ _ _ _ _, _, _, _, _⟩ : Go.Oper) :: _) _ _; refine step_mv (op := ⟨some 38, .binOp _ _ _ _ _, _, _, _, _⟩) rfl _ _ rfl (dmv 2 47) (dmv 2 47) rfl rfl (dmv_fit (by decide) (by decide)) (dmv_fit (by decide) (by decide)) true (mvE_true.2 rfl) ?_)
      | (go_at_call 13; guard_target = Go.Calls _ _ #[Go.Value.agg (posA P), _] _ _; refine (heldK HHe.out _ (by decide) HDr.out).mono ?_; rintro e w6 ⟨rfl, hb⟩; have HR1 := Lib.hid (HR1.out.later hb); have HE := Lib.hid (HE.out.later hb); have HR4 := Lib.hid (HR4.out.later hb); have HB := Lib.hid (below_on HB.out hb); clear hb)
      | (go_at_call 13; guard_target = Go.Calls _ _ #[Go.Value.agg (posA Q2), _] _ _; refine (heldK HH3.out _ (by decide) HDr2.out).mono ?_; rintro e w6 ⟨rfl, hb⟩; have HR1 := Lib.hid (HR1.out.later hb); have HE := Lib.hid (HE.out.later hb); have HR4 := Lib.hid (HR4.out.later hb); have HB := Lib.hid (below_on HB.out hb); clear hb)
      | (go_at_call 15; refine (menK HMe.out _ HDr.out).mono ?_; rintro e w6 ⟨rfl, hb⟩; have HR1 := Lib.hid (HR1.out.later hb); have HE := Lib.hid (HE.out.later hb); have HR4 := Lib.hid (HR4.out.later hb); have HB := Lib.hid (below_on HB.out hb); clear hb)
      | (go_at_call 17; refine (addK HAd.out _ (by decide) HDr.out).mono ?_; rintro e w6 ⟨rfl, hb⟩; have HR1 := Lib.hid (HR1.out.later hb); have HE := Lib.hid (HE.out.later hb); have HR4 := Lib.hid (HR4.out.later hb); have HB := Lib.hid (below_on HB.out hb); clear hb)
      | (guard_target = Go.wpList _ _ _ ((⟨some 57, .binOp _ _ _ _ _, _, _, _, _⟩ : Go.Oper) :: _) _ _; refine step_cmp (op := ⟨some 57, .binOp _ _ _ _ _, _, _, _, _⟩) rfl _ _ rfl P P rfl rfl HWf.out HWf.out true ⟨fun _ => rfl, fun _ => rfl⟩ ?_))
  go_ret
  exact ⟨rfl, HB.out⟩
end Go.Proofs.YtdjnniohoicppaaDoor
