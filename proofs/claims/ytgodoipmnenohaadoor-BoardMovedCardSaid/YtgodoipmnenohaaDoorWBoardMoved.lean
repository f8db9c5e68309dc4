/-
  The walk of BoardMoved.
-/
import Derived.Test.YtgodoipmnenohaaDoorBoLaw
import Derived.Deep.LoopGhost
import Derived.WalkMore
import Derived.WalkKit
import Derived.OpenShut
namespace Go.Proofs.YtgodoipmnenohaaDoor.boardMoved
open Go.RowKit
set_option linter.unusedVariables false
set_option maxRecDepth 100000 in
set_option maxHeartbeats 4000000 in
theorem walk (p : Nat → Int) (a1 a2 : Int) (hp : WfP p) (w1 : (Lit.int .i64 a1).wf = true) (w2 : (Lit.int .i64 a2).wf = true) (w : World) (hD : TabDb w) :
    Calls Tryd.prog 9 #[.agg (posA p), .int .i64 a1, .int .i64 a2] w fun e w' => e = .returned (.bool true) ∧ Below w.heap.size w w' := by
  have HRg := Lib.hid (at_rng hp.R.bd a1)
  have HRt := Lib.hid (at_rng hp.R.bd a2)
  have HW := Lib.hid hp
  have HP := Lib.hid hp.R
  have HT := Lib.hid hD
  clear hp hD
  go_enter Tryd.func9, Tryd.ntmps9
  go_wp2_with (first | (refine step_box rfl _ rfl p rfl ?_; intro b1 wn N R; have HR1 := Lib.hid R; have HB := Lib.hid N.below; have HG1 := Lib.hid (Nat.le_of_eq N.at_.symm); clear N R))
  refine (bawake_any _ (HT.out.on HB.out)).mono ?_; rintro e wn ⟨rfl, hb⟩; have HR1 := Lib.hid (HR1.out.later hb); have HB := Lib.hid (below_on HB.out hb); clear hb
  go_wp2_with (refine step_load (by rfl) _ rfl _ rfl p HR1.out ?_)
  cases g0 : (atZ p a1 == 0)
  · obtain ⟨x, HXx⟩ : ∃ x, Hid (atZ p a1 = x) := ⟨_, Lib.hid rfl⟩
    rw [HXx.out] at g0 HRg
    obtain ⟨r0, r1⟩ := HRg.out
    by_cases k0 : a2 < 0
    · have d0 : decide (a2 < 0) = true := decide_eq_true k0
      refine (at_any p _ _ HP.out.bd).mono ?_; rintro e wn ⟨rfl, hb⟩; have HR1 := Lib.hid (HR1.out.later hb); have HB := Lib.hid (below_on HB.out hb); clear hb; rw [HXx.out]
      go_wp2_with fail
      go_ret
      exact ⟨rfl, HB.out⟩
    · have d0 : decide (a2 < 0) = false := decide_eq_false k0
      by_cases k1 : 63 < a2
      · have d1 : decide (63 < a2) = true := decide_eq_true k1
        refine (at_any p _ _ HP.out.bd).mono ?_; rintro e wn ⟨rfl, hb⟩; have HR1 := Lib.hid (HR1.out.later hb); have HB := Lib.hid (below_on HB.out hb); clear hb; rw [HXx.out]
        go_wp2_with fail
        go_ret
        exact ⟨rfl, HB.out⟩
      · have d1 : decide (63 < a2) = false := decide_eq_false k1
        obtain ⟨y, HYy⟩ : ∃ y, Hid (atZ p a2 = y) := ⟨_, Lib.hid rfl⟩
        rw [HYy.out] at HRt
        cases g1 : (y != 0)
        · cases g3 : (a1 == a2)
          · have hy : y = 0 := by simpa using g1
            have hx : x ≠ 0 := by simpa using g0
            have hs : sq a1 = true := by
              cases h : sq a1
              · exact absurd (HXx.out.symm.trans (atZ_no h)) hx
              · rfl
            obtain ⟨n, rfl⟩ := Int.eq_ofNat_of_zero_le (sq_true.1 hs).1
            obtain ⟨m, rfl⟩ := Int.eq_ofNat_of_zero_le (show 0 ≤ a2 by omega)
            have hn : n < 64 := by have := (sq_true.1 hs).2; omega
            have hm : m < 64 := by omega
            have hst : sq (m : Int) = true := sq_true.2 ⟨by omega, by omega⟩
            have hne : n ≠ m := by intro e; subst e; simp at g3
            have hpx : pcB x = true := by
              rcases at_pc p (n : Int) with h | h
              · exact absurd (HXx.out.symm.trans h) hx
              · rw [HXx.out] at h; exact h
            have hpn : p (1 + n) = x := by
              cases h : pcB (p (1 + n))
              · exact absurd (HXx.out.symm.trans (atZ_off hs h)) hx
              · rw [← HXx.out, atZ_yes hs h]
            have hpm : pcB (p (1 + m)) = false := by
              cases h : pcB (p (1 + m))
              · rfl
              · have e := (atZ_yes hst h).symm.trans HYy.out
                rw [hy] at e; rw [e] at h; cases h
            have HQ := Lib.hid (put_mov (p := p) hn hm hpx)
            have HW2 := Lib.hid ((HW.out.put (n : Int) 0 ⟨by omega, by omega⟩).put (m : Int) x ⟨r0, r1⟩)
            rw [HQ.out] at HW2
            have HE1 := Lib.hid (show ofN (movP p n m x) (colZ x) (kndZ x) = putN (clearN (ofN p (colZ x) (kndZ x)) (n : Int)) (m : Int) by
              unfold ofN; rw [mov_set hn hm hne (ofB_zero _ _) hpn (ofB_none hpm), ofB_own hpx]; rfl)
            have HE2 := Lib.hid (show cntN (ofN (movP p n m x) 0 0) = cntN (ofN p 0 0) from mov_cnt hn hm hne (ofB_zero _ _) hpn (ofB_none hpm))
            have HE3 := Lib.hid (show cntN (ofN (movP p n m x) 1 0) = cntN (ofN p 1 0) from mov_cnt hn hm hne (ofB_zero _ _) hpn (ofB_none hpm))
            have HE4 := Lib.hid (show ofN (movP p n m x) (1 - colZ x) 0 = ofN p (1 - colZ x) 0 by
              unfold ofN; rw [mov_set hn hm hne (ofB_zero _ _) hpn (ofB_none hpm), ofB_other hpx]; rfl)
            have hcz : 0 ≤ colZ x ∧ colZ x ≤ 1 := by rw [colZ_yes hpx]; rw [pcB_true] at hpx; omega
            obtain ⟨c0, c1⟩ := hcz
            obtain ⟨c, HCc⟩ : ∃ c, Hid (colZ x = c) := ⟨_, Lib.hid rfl⟩
            obtain ⟨k, HKk⟩ : ∃ k, Hid (kndZ x = k) := ⟨_, Lib.hid rfl⟩
            rw [HCc.out] at c0 c1 HE1 HE4
            rw [HKk.out] at HE1
            have hwr : IntKind.u8.wrap (1 - c) = 1 - c := IntWalk.u8_in _ (by omega)
            have c2 : 0 ≤ 1 - c := by omega
            clear hy hx hs hst hne hpx hpn hpm hn hm k0 k1
            refine (at_any p _ _ HP.out.bd).mono ?_; rintro e wn ⟨rfl, hb⟩; have HR1 := Lib.hid (HR1.out.later hb); have HB := Lib.hid (below_on HB.out hb); clear hb; rw [HXx.out]
            go_wp2_with (refine step_load (by rfl) _ rfl _ rfl p HR1.out ?_)
            refine (at_any p _ _ HP.out.bd).mono ?_; rintro e wn ⟨rfl, hb⟩; have HR1 := Lib.hid (HR1.out.later hb); have HB := Lib.hid (below_on HB.out hb); clear hb; rw [HYy.out]
            go_wp2_with (refine step_load (by rfl) _ rfl _ rfl p HR1.out ?_)
            refine (put_pos p _ _ _ (by decide) (by decide)).mono ?_; rintro e wn ⟨rfl, hb⟩; have HR1 := Lib.hid (HR1.out.later hb); have HB := Lib.hid (below_on HB.out hb); clear hb
            go_wp2_with fail
            refine (put_pos _ _ _ _ r0 r1).mono ?_; rintro e wn ⟨rfl, hb⟩; have HR1 := Lib.hid (HR1.out.later hb); have HB := Lib.hid (below_on HB.out hb); clear hb; rw [HQ.out]
            go_wp2_with (first | (refine step_alloc (op := ⟨some 8, _, _, _, _, _⟩) rfl rfl ?_; intro b2 wn N R; have HD12 := Lib.hid (N.ne HR1.out); have HR1 := Lib.hid (N.row HR1.out); have HR2 := Lib.hid R; have HG2 := Lib.hid (show w.heap.size ≤ b2 by have := HB.out.size; have := N.at_; omega); have HB := Lib.hid (below_on HB.out N.below); clear N R) | (refine step_store rfl _ _ rfl _ rfl _ (movP p n m x) rfl HR2.out ?_; intro wn U R; have HR1 := Lib.hid (HR1.out.apart U HD12.out); have HR2 := Lib.hid R; have HB := Lib.hid (HB.out.trans (U.below HG2.out)); clear U R))
            simp only [Act.put, List.setIfInBounds_toArray, List.set_cons_zero, List.set_cons_succ]
            refine wp_region_up (by kernel_rfl) (by kernel_rfl) ?_
            first | go_big_quiet_skip | (go_big_quiet_want; refine up_load _ rfl _ rfl p HR1.out ?_; simp only [Act.put, List.setIfInBounds_toArray, List.set_cons_zero, List.set_cons_succ]; go_big_quiet_on)
            first | go_big_quiet_skip | (go_big_quiet_want; go_big_quiet_op; go_big_quiet_on)
            go_big_quiet_want; go_big_quiet_op; apply Exists.intro; refine ⟨fun xu => ?_, ?_⟩; exact up_s (HCc.out ▸ col_any x _ r0 r1); go_big_quiet_on
            first | go_big_quiet_skip | (go_big_quiet_want; go_big_quiet_op; go_big_quiet_on)
            go_big_quiet_want; go_big_quiet_op; apply Exists.intro; refine ⟨fun xu => ?_, ?_⟩; exact up_s (HKk.out ▸ knd_any x _ r0 r1); go_big_quiet_on
            go_big_quiet_want; go_big_quiet_op; apply Exists.intro; refine ⟨fun xu => ?_, ?_⟩; exact up_c (of_any p _ _ _ HP.out.bd); go_big_quiet_on
            first | go_big_quiet_skip | (go_big_quiet_want; go_big_quiet_op; go_big_quiet_on)
            go_big_quiet_want; go_big_quiet_op; apply Exists.intro; refine ⟨fun xu => ?_, ?_⟩; exact up_s (clear_any _ _ _ (ofN_lt _ _ _)); go_big_quiet_on
            first | go_big_quiet_skip | (go_big_quiet_want; go_big_quiet_op; go_big_quiet_on)
            go_big_quiet_want; go_big_quiet_op; apply Exists.intro; refine ⟨fun xu => ?_, ?_⟩; exact up_s (put_any _ _ _ (clearN_lt (ofN_lt _ _ _) _)); go_big_quiet_on
            first | go_big_quiet_skip | (go_big_quiet_want; go_big_quiet_op; go_big_quiet_on)
            refine wpQuiet_nil ?_
            intro wq hwq
            obtain ⟨⟨wn, hb⟩, rfl⟩ := hwq
            have HR1 := Lib.hid (HR1.out.later hb); have HR2 := Lib.hid (HR2.out.later hb); have HB := Lib.hid (below_on HB.out hb); clear hb
            go_wp2_with fail
            refine wp_region_up (by kernel_rfl) (by kernel_rfl) ?_
            first | go_big_quiet_skip | (go_big_quiet_want; refine up_load _ rfl _ rfl (movP p n m x) HR2.out ?_; simp only [Act.put, List.setIfInBounds_toArray, List.set_cons_zero, List.set_cons_succ]; go_big_quiet_on)
            first | go_big_quiet_skip | (go_big_quiet_want; go_big_quiet_op; go_big_quiet_on)
            go_big_quiet_want; go_big_quiet_op; apply Exists.intro; refine ⟨fun xu => ?_, ?_⟩; exact up_s (HCc.out ▸ col_any x _ r0 r1); go_big_quiet_on
            first | go_big_quiet_skip | (go_big_quiet_want; go_big_quiet_op; go_big_quiet_on)
            go_big_quiet_want; go_big_quiet_op; apply Exists.intro; refine ⟨fun xu => ?_, ?_⟩; exact up_s (HKk.out ▸ knd_any x _ r0 r1); go_big_quiet_on
            go_big_quiet_want; go_big_quiet_op; apply Exists.intro; refine ⟨fun xu => ?_, ?_⟩; exact up_c (of_k (p := movP p n m x) HE1.out _ HW2.out.R.bd); go_big_quiet_on
            first | go_big_quiet_skip | (go_big_quiet_want; go_big_quiet_op; go_big_quiet_on)
            first | go_big_quiet_skip | (go_big_quiet_want; go_big_quiet_op; go_big_quiet_on)
            first | go_big_quiet_skip | (go_big_quiet_want; go_big_quiet_op; go_big_quiet_on)
            first | go_big_quiet_skip | (go_big_quiet_want; refine up_load _ rfl _ rfl (movP p n m x) HR2.out ?_; simp only [Act.put, List.setIfInBounds_toArray, List.set_cons_zero, List.set_cons_succ]; go_big_quiet_on)
            go_big_quiet_want; go_big_quiet_op; apply Exists.intro; refine ⟨fun xu => ?_, ?_⟩; exact up_c (count_k (p := movP p n m x) HE2.out _ HW2.out.R.bd); go_big_quiet_on
            first | go_big_quiet_skip | (go_big_quiet_want; refine up_load _ rfl _ rfl p HR1.out ?_; simp only [Act.put, List.setIfInBounds_toArray, List.set_cons_zero, List.set_cons_succ]; go_big_quiet_on)
            go_big_quiet_want; go_big_quiet_op; apply Exists.intro; refine ⟨fun xu => ?_, ?_⟩; exact up_c (count_set p _ _ _ HP.out.bd); go_big_quiet_on
            first | go_big_quiet_skip | (go_big_quiet_want; go_big_quiet_op; go_big_quiet_on)
            first | go_big_quiet_skip | (go_big_quiet_want; go_big_quiet_op; go_big_quiet_on)
            first | go_big_quiet_skip | (go_big_quiet_want; go_big_quiet_op; go_big_quiet_on)
            first | go_big_quiet_skip | (go_big_quiet_want; refine up_load _ rfl _ rfl (movP p n m x) HR2.out ?_; simp only [Act.put, List.setIfInBounds_toArray, List.set_cons_zero, List.set_cons_succ]; go_big_quiet_on)
            go_big_quiet_want; go_big_quiet_op; apply Exists.intro; refine ⟨fun xu => ?_, ?_⟩; exact up_c (count_k (p := movP p n m x) HE3.out _ HW2.out.R.bd); go_big_quiet_on
            first | go_big_quiet_skip | (go_big_quiet_want; refine up_load _ rfl _ rfl p HR1.out ?_; simp only [Act.put, List.setIfInBounds_toArray, List.set_cons_zero, List.set_cons_succ]; go_big_quiet_on)
            go_big_quiet_want; go_big_quiet_op; apply Exists.intro; refine ⟨fun xu => ?_, ?_⟩; exact up_c (count_set p _ _ _ HP.out.bd); go_big_quiet_on
            first | go_big_quiet_skip | (go_big_quiet_want; go_big_quiet_op; go_big_quiet_on)
            first | go_big_quiet_skip | (go_big_quiet_want; go_big_quiet_op; go_big_quiet_on)
            first | go_big_quiet_skip | (go_big_quiet_want; go_big_quiet_op; go_big_quiet_on)
            first | go_big_quiet_skip | (go_big_quiet_want; refine up_load _ rfl _ rfl (movP p n m x) HR2.out ?_; simp only [Act.put, List.setIfInBounds_toArray, List.set_cons_zero, List.set_cons_succ]; go_big_quiet_on)
            first | go_big_quiet_skip | (go_big_quiet_want; go_big_quiet_op; go_big_quiet_on)
            go_big_quiet_want; go_big_quiet_op; apply Exists.intro; refine ⟨fun xu => ?_, ?_⟩; exact up_s (HCc.out ▸ col_any x _ r0 r1); go_big_quiet_on
            first | go_big_quiet_skip | (go_big_quiet_want; go_big_quiet_op; go_big_quiet_on)
            go_big_quiet_want; go_big_quiet_op; apply Exists.intro; refine ⟨fun xu => ?_, ?_⟩; exact up_c (of_k (p := movP p n m x) HE4.out _ HW2.out.R.bd); go_big_quiet_on
            first | go_big_quiet_skip | (go_big_quiet_want; refine up_load _ rfl _ rfl p HR1.out ?_; simp only [Act.put, List.setIfInBounds_toArray, List.set_cons_zero, List.set_cons_succ]; go_big_quiet_on)
            first | go_big_quiet_skip | (go_big_quiet_want; go_big_quiet_op; go_big_quiet_on)
            go_big_quiet_want; go_big_quiet_op; apply Exists.intro; refine ⟨fun xu => ?_, ?_⟩; exact up_s (HCc.out ▸ col_any x _ r0 r1); go_big_quiet_on
            first | go_big_quiet_skip | (go_big_quiet_want; go_big_quiet_op; go_big_quiet_on)
            go_big_quiet_want; go_big_quiet_op; apply Exists.intro; refine ⟨fun xu => ?_, ?_⟩; exact up_c (of_any p _ _ _ HP.out.bd); go_big_quiet_on
            first | go_big_quiet_skip | (go_big_quiet_want; go_big_quiet_op; go_big_quiet_on)
            first | go_big_quiet_skip | (go_big_quiet_want; go_big_quiet_op; go_big_quiet_on)
            first | go_big_quiet_skip | (go_big_quiet_want; go_big_quiet_op; go_big_quiet_on)
            refine wpQuiet_nil ?_
            intro wq hwq
            obtain ⟨⟨wn, hb⟩, rfl⟩ := hwq
            have HR1 := Lib.hid (HR1.out.later hb); have HR2 := Lib.hid (HR2.out.later hb); have HB := Lib.hid (below_on HB.out hb); clear hb
            go_wp2_with fail
            go_ret
            exact ⟨rfl, HB.out⟩
          · refine (at_any p _ _ HP.out.bd).mono ?_; rintro e wn ⟨rfl, hb⟩; have HR1 := Lib.hid (HR1.out.later hb); have HB := Lib.hid (below_on HB.out hb); clear hb; rw [HXx.out]
            go_wp2_with (refine step_load (by rfl) _ rfl _ rfl p HR1.out ?_)
            refine (at_any p _ _ HP.out.bd).mono ?_; rintro e wn ⟨rfl, hb⟩; have HR1 := Lib.hid (HR1.out.later hb); have HB := Lib.hid (below_on HB.out hb); clear hb; rw [HYy.out]
            go_wp2_with fail
            go_ret
            exact ⟨rfl, HB.out⟩
        · refine (at_any p _ _ HP.out.bd).mono ?_; rintro e wn ⟨rfl, hb⟩; have HR1 := Lib.hid (HR1.out.later hb); have HB := Lib.hid (below_on HB.out hb); clear hb; rw [HXx.out]
          go_wp2_with (refine step_load (by rfl) _ rfl _ rfl p HR1.out ?_)
          refine (at_any p _ _ HP.out.bd).mono ?_; rintro e wn ⟨rfl, hb⟩; have HR1 := Lib.hid (HR1.out.later hb); have HB := Lib.hid (below_on HB.out hb); clear hb; rw [HYy.out]
          go_wp2_with fail
          go_ret
          exact ⟨rfl, HB.out⟩
  · obtain ⟨x, HXx⟩ : ∃ x, Hid (atZ p a1 = x) := ⟨_, Lib.hid rfl⟩
    rw [HXx.out] at g0 HRg
    refine (at_any p _ _ HP.out.bd).mono ?_; rintro e wn ⟨rfl, hb⟩; have HR1 := Lib.hid (HR1.out.later hb); have HB := Lib.hid (below_on HB.out hb); clear hb; rw [HXx.out]
    go_wp2_with fail
    go_ret
    exact ⟨rfl, HB.out⟩
end Go.Proofs.YtgodoipmnenohaaDoor.boardMoved
