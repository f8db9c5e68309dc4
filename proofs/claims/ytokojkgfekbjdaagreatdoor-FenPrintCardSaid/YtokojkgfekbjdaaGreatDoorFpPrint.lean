/-
  Contract of the program's Print (layer 10).
-/
import Derived.Test.YtokojkgfekbjdaaGreatDoorFpWr
namespace Go.Proofs.YtokojkgfekbjdaaGreatDoor
open Go.RowKit
set_option linter.unusedVariables false
set_option linter.unusedSimpArgs false

set_option maxRecDepth 100000 in
set_option maxHeartbeats 1000000 in
theorem print_any (p : Nat → Int) (w : World) (hp : FitF p) (hT : TabVar w) (hC : TabCorn w) (hPw : TabPow w) : Calls Tryz.prog 10 #[.agg (posA p)] w (StL (bz (fenL p)) w) := by
  have HP := Lib.hid hp
  have HT := Lib.hid hT
  have HC := Lib.hid hC
  have HPw := Lib.hid hPw
  obtain ⟨b, hb⟩ : ∃ b, wrB p = b := ⟨_, rfl⟩
  have HWb := Lib.hid hb
  clear hp hT hC hPw hb
  cases b
  · have HE := Lib.hid (show fenL p = [] by unfold fenL; rw [HWb.out]; rfl)
    go_enter Tryz.func10, Tryz.ntmps10
    go_wp2_with (first
      | (refine step_box rfl _ rfl p rfl ?_; intro b1 w1 N R; have HB := Lib.hid N.below; have HR := Lib.hid R; clear N R)
      | (refine step_load rfl _ rfl b1 rfl p HR.out ?_)
      | (go_at_call 23; refine (canBe_any p _ HP.out (HT.out.on HB.out)).mono ?_; rintro e w' ⟨rfl, hb9⟩; rw [HWb.out]; have HB := Lib.hid (below_on HB.out hb9); clear hb9))
    go_ret
    exact ⟨by rw [HE.out]; rfl, HB.out⟩
  · obtain ⟨t, ht⟩ : ∃ t, bz (fenT6 p) = t := ⟨_, rfl⟩
    have hsz : t.size = (fenT6 p).length := by rw [← ht, bz_size]
    have HTt := Lib.hid ht
    by_cases g0 : (fenT6 p).length ≤ 200
    · have HE := Lib.hid (show bz (fenL p) = t by unfold fenL; rw [HWb.out, decide_eq_true g0, ← ht]; rfl)
      have g1 : decide (200 < (t.size : Int)) = false := decide_eq_false (by omega)
      clear ht hsz g0
      go_enter Tryz.func10, Tryz.ntmps10
      go_wp2_with (first
        | (refine step_box rfl _ rfl p rfl ?_; intro b1 w1 N R; have HB := Lib.hid N.below; have HR := Lib.hid R; clear N R)
        | (refine step_load rfl _ rfl b1 rfl p HR.out ?_)
        | (go_at_call 23; refine (canBe_any p _ HP.out (HT.out.on HB.out)).mono ?_; rintro e w' ⟨rfl, hb9⟩; rw [HWb.out]; have HR := Lib.hid (HR.out.later hb9); have HB := Lib.hid (below_on HB.out hb9); clear hb9)
        | (go_at_call 24; refine (written_any p _ HP.out HWb.out (HT.out.on HB.out) (HC.out.on HB.out) (HPw.out.on HB.out)).mono ?_; rintro e w' ⟨rfl, hb9⟩; rw [HTt.out]; have HB := Lib.hid (below_on HB.out hb9); clear hb9))
      go_ret
      exact ⟨by rw [HE.out]; rfl, HB.out⟩
    · have HE := Lib.hid (show fenL p = [] by unfold fenL; rw [decide_eq_false g0, Bool.and_false]; rfl)
      have g1 : decide (200 < (t.size : Int)) = true := decide_eq_true (by omega)
      clear ht hsz g0
      go_enter Tryz.func10, Tryz.ntmps10
      go_wp2_with (first
        | (refine step_box rfl _ rfl p rfl ?_; intro b1 w1 N R; have HB := Lib.hid N.below; have HR := Lib.hid R; clear N R)
        | (refine step_load rfl _ rfl b1 rfl p HR.out ?_)
        | (go_at_call 23; refine (canBe_any p _ HP.out (HT.out.on HB.out)).mono ?_; rintro e w' ⟨rfl, hb9⟩; rw [HWb.out]; have HR := Lib.hid (HR.out.later hb9); have HB := Lib.hid (below_on HB.out hb9); clear hb9)
        | (go_at_call 24; refine (written_any p _ HP.out HWb.out (HT.out.on HB.out) (HC.out.on HB.out) (HPw.out.on HB.out)).mono ?_; rintro e w' ⟨rfl, hb9⟩; rw [HTt.out]; have HB := Lib.hid (below_on HB.out hb9); clear hb9))
      go_ret
      exact ⟨by rw [HE.out]; rfl, HB.out⟩
end Go.Proofs.YtokojkgfekbjdaaGreatDoor
