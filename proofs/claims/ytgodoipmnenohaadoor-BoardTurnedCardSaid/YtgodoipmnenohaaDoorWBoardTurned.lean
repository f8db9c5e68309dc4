/-
  The walk of BoardTurned.
-/
import Derived.Test.YtgodoipmnenohaaDoorBoLaw
import Derived.Deep.LoopGhost
import Derived.WalkMore
import Derived.WalkKit
import Derived.OpenShut
namespace Go.Proofs.YtgodoipmnenohaaDoor.boardTurned
open Go.RowKit
set_option linter.unusedVariables false
set_option maxRecDepth 100000 in
set_option maxHeartbeats 4000000 in
theorem walk (p : Nat → Int) (a1 : Int) (hp : WfP p) (w1 : (Lit.int .u8 a1).wf = true) (w : World) (hD : TabDb w) :
    Calls Tryd.prog 8 #[.agg (posA p), .int .u8 a1] w fun e w' => e = .returned (.bool true) ∧ Below w.heap.size w w' := by
  have HM := Lib.hid hp.mir
  have HMM := Lib.hid (mir_mir hp.R)
  have HM0 := Lib.hid (mir_of0 p a1)
  have HM1 := Lib.hid (mir_of1 p a1)
  have HMA := Lib.hid (mir_all p)
  have HW := Lib.hid hp
  have HP := Lib.hid hp.R
  have HT := Lib.hid hD
  clear hp hD
  go_enter Tryd.func8, Tryd.ntmps8
  go_wp2_with (first | (refine step_box rfl _ rfl p rfl ?_; intro b1 wn N R; have HR1 := Lib.hid R; have HB := Lib.hid N.below; have HG1 := Lib.hid (Nat.le_of_eq N.at_.symm); clear N R))
  refine (bawake_any _ (HT.out.on HB.out)).mono ?_; rintro e wn ⟨rfl, hb⟩; have HR1 := Lib.hid (HR1.out.later hb); have HB := Lib.hid (below_on HB.out hb); clear hb
  go_wp2_with (refine step_load (by rfl) _ rfl _ rfl p HR1.out ?_)
  refine (mirror_any p _ HP.out (HT.out.on HB.out)).mono ?_; rintro e wn ⟨rfl, hb⟩; have HR1 := Lib.hid (HR1.out.later hb); have HB := Lib.hid (below_on HB.out hb); clear hb
  go_wp2_with (first | (refine step_alloc (op := ⟨some 5, _, _, _, _, _⟩) rfl rfl ?_; intro b2 wn N R; have HD12 := Lib.hid (N.ne HR1.out); have HR1 := Lib.hid (N.row HR1.out); have HR2 := Lib.hid R; have HG2 := Lib.hid (show w.heap.size ≤ b2 by have := HB.out.size; have := N.at_; omega); have HB := Lib.hid (below_on HB.out N.below); clear N R) | (refine step_store rfl _ _ rfl _ rfl _ (mirP p) rfl HR2.out ?_; intro wn U R; have HR1 := Lib.hid (HR1.out.apart U HD12.out); have HR2 := Lib.hid R; have HB := Lib.hid (HB.out.trans (U.below HG2.out)); clear U R))
  go_loopw [6, 7] (fun cl s wr => ∃ k : Nat, k ≤ 64 ∧ s = .int .i64 (k : Int) ∧ cl = .bool (cleanTo p k) ∧ Below w.heap.size w wr ∧ Row wr b1 p ∧ Row wr b2 (mirP p)) (fun _ s _ => 64 - (intOf s).toNat)
  case atStart => exact ⟨0, by omega, rfl, rfl, HB.out, HR1.out, HR2.out⟩
  case round =>
    clear HB HR1 HR2
    obtain ⟨k, hk, rfl, rfl, hb, hr1, hr2⟩ := hrel
    have HB := Lib.hid hb
    have HR1 := Lib.hid hr1
    have HR2 := Lib.hid hr2
    clear hb hr1 hr2
    by_cases hlt : k < 64
    · have HC := Lib.hid (show cleanTo p (k + 1) = (cleanTo p k && mayB (p (1 + k))) from rfl)
      obtain ⟨r0, r1⟩ := HP.out.bd k hlt
      have hcell := HR1.out.cell (1 + k) (by omega)
      rw [kAt_board (Nat.zero_le _) hlt] at hcell
      obtain ⟨x, HXx⟩ : ∃ x, Hid (p (1 + k) = x) := ⟨_, Lib.hid rfl⟩
      rw [HXx.out] at hcell r0 r1 HC
      have l0 : (0 : Int) ≤ (k : Int) := by omega
      have l1 : (k : Int) < 64 := by omega
      cases g0 : cleanTo p k
      · have HV := Lib.hid (show cleanTo p (k + 1) = false by rw [HC.out, g0]; rfl)
        go_wp2_with fail
        go_roundw
        case rel => exact ⟨k + 1, by omega, by go_num, by rw [HV.out], HB.out, HR1.out, HR2.out⟩
        case measure => simp [intOf]; omega
      · cases g1 : (x == 0)
        · cases g2 : pcB x
          · have HV := Lib.hid (show cleanTo p (k + 1) = false by rw [HC.out, g0]; unfold mayB; rw [g1, g2]; rfl)
            go_wp2_with fail
            refine (is_at g2 _ r0 r1).mono ?_; rintro e wn ⟨rfl, rfl⟩
            go_wp2_with fail
            go_roundw
            case rel => exact ⟨k + 1, by omega, by go_num, by rw [HV.out], HB.out, HR1.out, HR2.out⟩
            case measure => simp [intOf]; omega
          · have HV := Lib.hid (show cleanTo p (k + 1) = true by rw [HC.out, g0]; unfold mayB; rw [g1, g2]; rfl)
            go_wp2_with fail
            refine (is_at g2 _ r0 r1).mono ?_; rintro e wn ⟨rfl, rfl⟩
            go_wp2_with fail
            go_roundw
            case rel => exact ⟨k + 1, by omega, by go_num, by rw [HV.out], HB.out, HR1.out, HR2.out⟩
            case measure => simp [intOf]; omega
        · have HV := Lib.hid (show cleanTo p (k + 1) = true by rw [HC.out, g0]; unfold mayB; rw [g1]; rfl)
          go_wp2_with fail
          go_roundw
          case rel => exact ⟨k + 1, by omega, by go_num, by rw [HV.out], HB.out, HR1.out, HR2.out⟩
          case measure => simp [intOf]; omega
    · obtain rfl : k = 64 := by omega
      cases hcl : cleanTo p 64
      · go_wp2_with fail
        refine wp_region_up (by kernel_rfl) (by kernel_rfl) ?_
        first | go_big_quiet_skip | (go_big_quiet_want; go_big_quiet_op; go_big_quiet_on)
        first | go_big_quiet_skip | (go_big_quiet_want; go_big_quiet_op; go_big_quiet_on)
        first | go_big_quiet_skip | (go_big_quiet_want; go_big_quiet_op; go_big_quiet_on)
        first | go_big_quiet_skip | (go_big_quiet_want; go_big_quiet_op; go_big_quiet_on)
        first | go_big_quiet_skip | (go_big_quiet_want; go_big_quiet_op; go_big_quiet_on)
        first | go_big_quiet_skip | (go_big_quiet_want; go_big_quiet_op; go_big_quiet_on)
        first | go_big_quiet_skip | (go_big_quiet_want; go_big_quiet_op; go_big_quiet_on)
        refine wpQuiet_nil ?_
        intro wq hwq
        obtain ⟨⟨wn, hb⟩, rfl⟩ := hwq
        have HR1 := Lib.hid (HR1.out.later hb); have HR2 := Lib.hid (HR2.out.later hb); have HB := Lib.hid (below_on HB.out hb); clear hb
        go_wp2_with fail
        refine wp_region_up (by kernel_rfl) (by kernel_rfl) ?_
        first | go_big_quiet_skip | (go_big_quiet_want; refine up_load _ rfl _ rfl (mirP p) HR2.out ?_; simp only [Act.put, List.setIfInBounds_toArray, List.set_cons_zero, List.set_cons_succ]; go_big_quiet_on)
        first | go_big_quiet_skip | (go_big_quiet_want; go_big_quiet_op; go_big_quiet_on)
        go_big_quiet_want; go_big_quiet_op; apply Exists.intro; refine ⟨fun xu => ?_, ?_⟩; exact up_c (of_k (p := mirP p) HM0.out _ HM.out.R.bd); go_big_quiet_on
        first | go_big_quiet_skip | (go_big_quiet_want; refine up_load _ rfl _ rfl p HR1.out ?_; simp only [Act.put, List.setIfInBounds_toArray, List.set_cons_zero, List.set_cons_succ]; go_big_quiet_on)
        first | go_big_quiet_skip | (go_big_quiet_want; go_big_quiet_op; go_big_quiet_on)
        go_big_quiet_want; go_big_quiet_op; apply Exists.intro; refine ⟨fun xu => ?_, ?_⟩; exact up_c (of_any p _ _ _ HP.out.bd); go_big_quiet_on
        go_big_quiet_want; go_big_quiet_op; apply Exists.intro; refine ⟨fun xu => ?_, ?_⟩; exact up_s (flip_any _ _ (ofN_lt _ _ _)); go_big_quiet_on
        first | go_big_quiet_skip | (go_big_quiet_want; go_big_quiet_op; go_big_quiet_on)
        first | go_big_quiet_skip | (go_big_quiet_want; go_big_quiet_op; go_big_quiet_on)
        first | go_big_quiet_skip | (go_big_quiet_want; refine up_load _ rfl _ rfl (mirP p) HR2.out ?_; simp only [Act.put, List.setIfInBounds_toArray, List.set_cons_zero, List.set_cons_succ]; go_big_quiet_on)
        first | go_big_quiet_skip | (go_big_quiet_want; go_big_quiet_op; go_big_quiet_on)
        go_big_quiet_want; go_big_quiet_op; apply Exists.intro; refine ⟨fun xu => ?_, ?_⟩; exact up_c (of_k (p := mirP p) HM1.out _ HM.out.R.bd); go_big_quiet_on
        first | go_big_quiet_skip | (go_big_quiet_want; refine up_load _ rfl _ rfl p HR1.out ?_; simp only [Act.put, List.setIfInBounds_toArray, List.set_cons_zero, List.set_cons_succ]; go_big_quiet_on)
        first | go_big_quiet_skip | (go_big_quiet_want; go_big_quiet_op; go_big_quiet_on)
        go_big_quiet_want; go_big_quiet_op; apply Exists.intro; refine ⟨fun xu => ?_, ?_⟩; exact up_c (of_any p _ _ _ HP.out.bd); go_big_quiet_on
        go_big_quiet_want; go_big_quiet_op; apply Exists.intro; refine ⟨fun xu => ?_, ?_⟩; exact up_s (flip_any _ _ (ofN_lt _ _ _)); go_big_quiet_on
        first | go_big_quiet_skip | (go_big_quiet_want; go_big_quiet_op; go_big_quiet_on)
        first | go_big_quiet_skip | (go_big_quiet_want; go_big_quiet_op; go_big_quiet_on)
        first | go_big_quiet_skip | (go_big_quiet_want; go_big_quiet_op; go_big_quiet_on)
        first | go_big_quiet_skip | (go_big_quiet_want; refine up_load _ rfl _ rfl (mirP p) HR2.out ?_; simp only [Act.put, List.setIfInBounds_toArray, List.set_cons_zero, List.set_cons_succ]; go_big_quiet_on)
        go_big_quiet_want; go_big_quiet_op; apply Exists.intro; refine ⟨fun xu => ?_, ?_⟩; exact up_c (all_k (p := mirP p) HMA.out _ HM.out.R.bd); go_big_quiet_on
        first | go_big_quiet_skip | (go_big_quiet_want; refine up_load _ rfl _ rfl p HR1.out ?_; simp only [Act.put, List.setIfInBounds_toArray, List.set_cons_zero, List.set_cons_succ]; go_big_quiet_on)
        go_big_quiet_want; go_big_quiet_op; apply Exists.intro; refine ⟨fun xu => ?_, ?_⟩; exact up_c (all_set p _ HP.out.bd); go_big_quiet_on
        go_big_quiet_want; go_big_quiet_op; apply Exists.intro; refine ⟨fun xu => ?_, ?_⟩; exact up_s (flip_any _ _ (allN_lt _)); go_big_quiet_on
        first | go_big_quiet_skip | (go_big_quiet_want; go_big_quiet_op; go_big_quiet_on)
        first | go_big_quiet_skip | (go_big_quiet_want; go_big_quiet_op; go_big_quiet_on)
        first | go_big_quiet_skip | (go_big_quiet_want; go_big_quiet_op; go_big_quiet_on)
        refine wpQuiet_nil ?_
        intro wq hwq
        obtain ⟨⟨wn, hb⟩, rfl⟩ := hwq
        have HR1 := Lib.hid (HR1.out.later hb); have HR2 := Lib.hid (HR2.out.later hb); have HB := Lib.hid (below_on HB.out hb); clear hb
        go_wp2_with fail
        go_ret
        exact ⟨rfl, HB.out⟩
      · go_wp2_with fail
        have HE := Lib.hid (HMM.out hcl)
        refine wp_region_up (by kernel_rfl) (by kernel_rfl) ?_
        first | go_big_quiet_skip | (go_big_quiet_want; go_big_quiet_op; go_big_quiet_on)
        first | go_big_quiet_skip | (go_big_quiet_want; go_big_quiet_op; go_big_quiet_on)
        first | go_big_quiet_skip | (go_big_quiet_want; refine up_load _ rfl _ rfl (mirP p) HR2.out ?_; simp only [Act.put, List.setIfInBounds_toArray, List.set_cons_zero, List.set_cons_succ]; go_big_quiet_on)
        go_big_quiet_want; go_big_quiet_op; apply Exists.intro; refine ⟨fun xu => ?_, ?_⟩; exact up_c (mirror_any (mirP p) _ HM.out.R (HT.out.on (below_on HB.out xu.above))); go_big_quiet_on
        first | go_big_quiet_skip | (go_big_quiet_want; refine up_load _ rfl _ rfl p HR1.out ?_; simp only [Act.put, List.setIfInBounds_toArray, List.set_cons_zero, List.set_cons_succ]; go_big_quiet_on)
        go_big_quiet_want; refine up_unlike _ _ rfl (mirP (mirP p)) p rfl rfl HM.out.mir HE.out ?_; simp only [Act.put, List.setIfInBounds_toArray, List.set_cons_zero, List.set_cons_succ]; go_big_quiet_on
        first | go_big_quiet_skip | (go_big_quiet_want; go_big_quiet_op; go_big_quiet_on)
        refine wpQuiet_nil ?_
        intro wq hwq
        obtain ⟨⟨wn, hb⟩, rfl⟩ := hwq
        have HR1 := Lib.hid (HR1.out.later hb); have HR2 := Lib.hid (HR2.out.later hb); have HB := Lib.hid (below_on HB.out hb); clear hb
        go_wp2_with fail
        refine wp_region_up (by kernel_rfl) (by kernel_rfl) ?_
        first | go_big_quiet_skip | (go_big_quiet_want; refine up_load _ rfl _ rfl (mirP p) HR2.out ?_; simp only [Act.put, List.setIfInBounds_toArray, List.set_cons_zero, List.set_cons_succ]; go_big_quiet_on)
        first | go_big_quiet_skip | (go_big_quiet_want; go_big_quiet_op; go_big_quiet_on)
        go_big_quiet_want; go_big_quiet_op; apply Exists.intro; refine ⟨fun xu => ?_, ?_⟩; exact up_c (of_k (p := mirP p) HM0.out _ HM.out.R.bd); go_big_quiet_on
        first | go_big_quiet_skip | (go_big_quiet_want; refine up_load _ rfl _ rfl p HR1.out ?_; simp only [Act.put, List.setIfInBounds_toArray, List.set_cons_zero, List.set_cons_succ]; go_big_quiet_on)
        first | go_big_quiet_skip | (go_big_quiet_want; go_big_quiet_op; go_big_quiet_on)
        go_big_quiet_want; go_big_quiet_op; apply Exists.intro; refine ⟨fun xu => ?_, ?_⟩; exact up_c (of_any p _ _ _ HP.out.bd); go_big_quiet_on
        go_big_quiet_want; go_big_quiet_op; apply Exists.intro; refine ⟨fun xu => ?_, ?_⟩; exact up_s (flip_any _ _ (ofN_lt _ _ _)); go_big_quiet_on
        first | go_big_quiet_skip | (go_big_quiet_want; go_big_quiet_op; go_big_quiet_on)
        first | go_big_quiet_skip | (go_big_quiet_want; go_big_quiet_op; go_big_quiet_on)
        first | go_big_quiet_skip | (go_big_quiet_want; refine up_load _ rfl _ rfl (mirP p) HR2.out ?_; simp only [Act.put, List.setIfInBounds_toArray, List.set_cons_zero, List.set_cons_succ]; go_big_quiet_on)
        first | go_big_quiet_skip | (go_big_quiet_want; go_big_quiet_op; go_big_quiet_on)
        go_big_quiet_want; go_big_quiet_op; apply Exists.intro; refine ⟨fun xu => ?_, ?_⟩; exact up_c (of_k (p := mirP p) HM1.out _ HM.out.R.bd); go_big_quiet_on
        first | go_big_quiet_skip | (go_big_quiet_want; refine up_load _ rfl _ rfl p HR1.out ?_; simp only [Act.put, List.setIfInBounds_toArray, List.set_cons_zero, List.set_cons_succ]; go_big_quiet_on)
        first | go_big_quiet_skip | (go_big_quiet_want; go_big_quiet_op; go_big_quiet_on)
        go_big_quiet_want; go_big_quiet_op; apply Exists.intro; refine ⟨fun xu => ?_, ?_⟩; exact up_c (of_any p _ _ _ HP.out.bd); go_big_quiet_on
        go_big_quiet_want; go_big_quiet_op; apply Exists.intro; refine ⟨fun xu => ?_, ?_⟩; exact up_s (flip_any _ _ (ofN_lt _ _ _)); go_big_quiet_on
        first | go_big_quiet_skip | (go_big_quiet_want; go_big_quiet_op; go_big_quiet_on)
        first | go_big_quiet_skip | (go_big_quiet_want; go_big_quiet_op; go_big_quiet_on)
        first | go_big_quiet_skip | (go_big_quiet_want; go_big_quiet_op; go_big_quiet_on)
        first | go_big_quiet_skip | (go_big_quiet_want; refine up_load _ rfl _ rfl (mirP p) HR2.out ?_; simp only [Act.put, List.setIfInBounds_toArray, List.set_cons_zero, List.set_cons_succ]; go_big_quiet_on)
        go_big_quiet_want; go_big_quiet_op; apply Exists.intro; refine ⟨fun xu => ?_, ?_⟩; exact up_c (all_k (p := mirP p) HMA.out _ HM.out.R.bd); go_big_quiet_on
        first | go_big_quiet_skip | (go_big_quiet_want; refine up_load _ rfl _ rfl p HR1.out ?_; simp only [Act.put, List.setIfInBounds_toArray, List.set_cons_zero, List.set_cons_succ]; go_big_quiet_on)
        go_big_quiet_want; go_big_quiet_op; apply Exists.intro; refine ⟨fun xu => ?_, ?_⟩; exact up_c (all_set p _ HP.out.bd); go_big_quiet_on
        go_big_quiet_want; go_big_quiet_op; apply Exists.intro; refine ⟨fun xu => ?_, ?_⟩; exact up_s (flip_any _ _ (allN_lt _)); go_big_quiet_on
        first | go_big_quiet_skip | (go_big_quiet_want; go_big_quiet_op; go_big_quiet_on)
        first | go_big_quiet_skip | (go_big_quiet_want; go_big_quiet_op; go_big_quiet_on)
        first | go_big_quiet_skip | (go_big_quiet_want; go_big_quiet_op; go_big_quiet_on)
        refine wpQuiet_nil ?_
        intro wq hwq
        obtain ⟨⟨wn, hb⟩, rfl⟩ := hwq
        have HR1 := Lib.hid (HR1.out.later hb); have HR2 := Lib.hid (HR2.out.later hb); have HB := Lib.hid (below_on HB.out hb); clear hb
        go_wp2_with fail
        go_ret
        exact ⟨rfl, HB.out⟩
end Go.Proofs.YtgodoipmnenohaaDoor.boardTurned
