/-
  The walk of BoardAt.
-/
import Derived.Test.YtgodoipmnenohaaDoorBoLaw
import Derived.Deep.LoopGhost
import Derived.WalkMore
import Derived.WalkKit
import Derived.OpenShut
namespace Go.Proofs.YtgodoipmnenohaaDoor.boardAt
open Go.RowKit
set_option linter.unusedVariables false
set_option maxRecDepth 100000 in
set_option maxHeartbeats 4000000 in
theorem walk (p : Nat → Int) (a1 : Int) (hp : WfP p) (w1 : (Lit.int .i64 a1).wf = true) (w : World) (hD : TabDb w) :
    Calls Tryd.prog 6 #[.agg (posA p), .int .i64 a1] w fun e w' => e = .returned (.bool true) ∧ Below w.heap.size w w' := by
  have HRg := Lib.hid (at_rng hp.R.bd a1)
  have HHo := Lib.hid (fun c k : Int => has_of p c k a1)
  have HHa := Lib.hid (has_all p a1)
  have HW := Lib.hid hp
  have HP := Lib.hid hp.R
  have HT := Lib.hid hD
  clear hp hD
  go_enter Tryd.func6, Tryd.ntmps6
  go_wp2_with (first | (refine step_box rfl _ rfl p rfl ?_; intro b1 wn N R; have HR1 := Lib.hid R; have HB := Lib.hid N.below; have HG1 := Lib.hid (Nat.le_of_eq N.at_.symm); clear N R))
  refine (bawake_any _ (HT.out.on HB.out)).mono ?_; rintro e wn ⟨rfl, hb⟩; have HR1 := Lib.hid (HR1.out.later hb); have HB := Lib.hid (below_on HB.out hb); clear hb
  go_wp2_with (refine step_load (by rfl) _ rfl _ rfl p HR1.out ?_)
  refine (at_any p _ _ HP.out.bd).mono ?_; rintro e wn ⟨rfl, hb⟩; have HR1 := Lib.hid (HR1.out.later hb); have HB := Lib.hid (below_on HB.out hb); clear hb
  obtain ⟨r0, r1⟩ := HRg.out
  obtain ⟨x, HXx⟩ : ∃ x, Hid (atZ p a1 = x) := ⟨_, Lib.hid rfl⟩
  rw [HXx.out] at r0 r1 HHo HHa
  rw [HXx.out]
  cases g0 : (x != 0)
  · go_wp2_with fail
    go_loopw [6] (fun co wr => ∃ c : Nat, c ≤ 3 ∧ co = .int .u8 (c : Int) ∧ Below w.heap.size w wr ∧ Row wr b1 p) (fun co _ => 3 - (intOf co).toNat)
    case atStart => exact ⟨0, by omega, rfl, HB.out, HR1.out⟩
    case round =>
      clear HB HR1
      obtain ⟨c, hc, rfl, hb, hr⟩ := hrel
      have HB := Lib.hid hb
      have HR1 := Lib.hid hr
      clear hb hr
      by_cases hlt : c < 3
      · have d1 : decide ((c : Int) < 3) = true := decide_eq_true (by omega)
        go_wp2_with fail
        go_loopw [7] (fun kd wr => ∃ k : Nat, k ≤ 8 ∧ kd = .int .u8 (k : Int) ∧ Below w.heap.size w wr ∧ Row wr b1 p) (fun kd _ => 8 - (intOf kd).toNat)
        case atStart => exact ⟨0, by omega, rfl, HB.out, HR1.out⟩
        case round =>
          clear HB HR1
          obtain ⟨k, hk, rfl, hb, hr⟩ := hrel
          have HB := Lib.hid hb
          have HR1 := Lib.hid hr
          clear hb hr
          by_cases hl2 : k < 8
          · have HO := Lib.hid (HHo.out (c : Int) (k : Int))
            have HV := Lib.hid (show hasN (ofN p (c : Int) (k : Int)) a1 = false by rw [HO.out, g0]; rfl)
            go_wp2_with (refine step_load (by rfl) _ rfl _ rfl p HR1.out ?_)
            refine (of_any p _ _ _ HP.out.bd).mono ?_; rintro e wn ⟨rfl, hb⟩; have HR1 := Lib.hid (HR1.out.later hb); have HB := Lib.hid (below_on HB.out hb); clear hb
            go_wp2_with fail
            refine (has_any _ _ _ (ofN_lt _ _ _)).mono ?_; rintro e wn ⟨rfl, rfl⟩; rw [HV.out]
            go_wp2_with fail
            go_roundw
            case rel => exact ⟨k + 1, by omega, by go_num, HB.out, HR1.out⟩
            case measure => simp [intOf]; omega
          · obtain rfl : k = 8 := by omega
            go_wp2_with fail
            go_roundw
            case rel => exact ⟨c + 1, by omega, by go_num, HB.out, HR1.out⟩
            case measure => simp [intOf]; omega
      · obtain rfl : c = 3 := by omega
        go_wp2_with (refine step_load (by rfl) _ rfl _ rfl p HR1.out ?_)
        refine (all_set p _ HP.out.bd).mono ?_; rintro e wn ⟨rfl, hb⟩; have HR1 := Lib.hid (HR1.out.later hb); have HB := Lib.hid (below_on HB.out hb); clear hb
        go_wp2_with fail
        refine (has_any _ _ _ (allN_lt _)).mono ?_; rintro e wn ⟨rfl, rfl⟩; rw [HHa.out]
        go_wp2_with fail
        go_ret
        exact ⟨ret_bool (by simp), HB.out⟩
  · go_wp2_with fail
    go_loopw [6] (fun co wr => ∃ c : Nat, c ≤ 3 ∧ co = .int .u8 (c : Int) ∧ Below w.heap.size w wr ∧ Row wr b1 p) (fun co _ => 3 - (intOf co).toNat)
    case atStart => exact ⟨0, by omega, rfl, HB.out, HR1.out⟩
    case round =>
      clear HB HR1
      obtain ⟨c, hc, rfl, hb, hr⟩ := hrel
      have HB := Lib.hid hb
      have HR1 := Lib.hid hr
      clear hb hr
      by_cases hlt : c < 3
      · have d1 : decide ((c : Int) < 3) = true := decide_eq_true (by omega)
        go_wp2_with fail
        go_loopw [7] (fun kd wr => ∃ k : Nat, k ≤ 8 ∧ kd = .int .u8 (k : Int) ∧ Below w.heap.size w wr ∧ Row wr b1 p) (fun kd _ => 8 - (intOf kd).toNat)
        case atStart => exact ⟨0, by omega, rfl, HB.out, HR1.out⟩
        case round =>
          clear HB HR1
          obtain ⟨k, hk, rfl, hb, hr⟩ := hrel
          have HB := Lib.hid hb
          have HR1 := Lib.hid hr
          clear hb hr
          by_cases hl2 : k < 8
          · have HO := Lib.hid (HHo.out (c : Int) (k : Int))
            cases g1 : (colZ x == (c : Int))
            · have HV := Lib.hid (show hasN (ofN p (c : Int) (k : Int)) a1 = false by rw [HO.out, g0, g1]; rfl)
              go_wp2_with fail
              refine (col_any _ _ r0 r1).mono ?_; rintro e wn ⟨rfl, rfl⟩
              go_wp2_with (refine step_load (by rfl) _ rfl _ rfl p HR1.out ?_)
              refine (of_any p _ _ _ HP.out.bd).mono ?_; rintro e wn ⟨rfl, hb⟩; have HR1 := Lib.hid (HR1.out.later hb); have HB := Lib.hid (below_on HB.out hb); clear hb
              go_wp2_with fail
              refine (has_any _ _ _ (ofN_lt _ _ _)).mono ?_; rintro e wn ⟨rfl, rfl⟩; rw [HV.out]
              go_wp2_with fail
              go_roundw
              case rel => exact ⟨k + 1, by omega, by go_num, HB.out, HR1.out⟩
              case measure => simp [intOf]; omega
            · by_cases e0 : k = 0
              · subst e0
                have HV := Lib.hid (show hasN (ofN p (c : Int) 0) a1 = true from (HHo.out (c : Int) 0).trans (by rw [g0, g1]; rfl))
                go_wp2_with fail
                refine (col_any _ _ r0 r1).mono ?_; rintro e wn ⟨rfl, rfl⟩
                go_wp2_with (refine step_load (by rfl) _ rfl _ rfl p HR1.out ?_)
                refine (of_any p _ _ _ HP.out.bd).mono ?_; rintro e wn ⟨rfl, hb⟩; have HR1 := Lib.hid (HR1.out.later hb); have HB := Lib.hid (below_on HB.out hb); clear hb
                go_wp2_with fail
                refine (has_any _ _ _ (ofN_lt _ _ _)).mono ?_; rintro e wn ⟨rfl, rfl⟩; rw [HV.out]
                go_wp2_with fail
                go_roundw
                case rel => exact ⟨0 + 1, by omega, by go_num, HB.out, HR1.out⟩
                case measure => simp [intOf]
              · have g2 : ((k : Int) == 0) = false := by simp; omega
                cases g3 : (kndZ x == (k : Int))
                · have HV := Lib.hid (show hasN (ofN p (c : Int) (k : Int)) a1 = false by rw [HO.out, g0, g1, g2, g3]; rfl)
                  go_wp2_with fail
                  refine (col_any _ _ r0 r1).mono ?_; rintro e wn ⟨rfl, rfl⟩
                  go_wp2_with fail
                  refine (knd_any _ _ r0 r1).mono ?_; rintro e wn ⟨rfl, rfl⟩
                  go_wp2_with (refine step_load (by rfl) _ rfl _ rfl p HR1.out ?_)
                  refine (of_any p _ _ _ HP.out.bd).mono ?_; rintro e wn ⟨rfl, hb⟩; have HR1 := Lib.hid (HR1.out.later hb); have HB := Lib.hid (below_on HB.out hb); clear hb
                  go_wp2_with fail
                  refine (has_any _ _ _ (ofN_lt _ _ _)).mono ?_; rintro e wn ⟨rfl, rfl⟩; rw [HV.out]
                  go_wp2_with fail
                  go_roundw
                  case rel => exact ⟨k + 1, by omega, by go_num, HB.out, HR1.out⟩
                  case measure => simp [intOf]; omega
                · have HV := Lib.hid (show hasN (ofN p (c : Int) (k : Int)) a1 = true by rw [HO.out, g0, g1, g2, g3]; rfl)
                  go_wp2_with fail
                  refine (col_any _ _ r0 r1).mono ?_; rintro e wn ⟨rfl, rfl⟩
                  go_wp2_with fail
                  refine (knd_any _ _ r0 r1).mono ?_; rintro e wn ⟨rfl, rfl⟩
                  go_wp2_with (refine step_load (by rfl) _ rfl _ rfl p HR1.out ?_)
                  refine (of_any p _ _ _ HP.out.bd).mono ?_; rintro e wn ⟨rfl, hb⟩; have HR1 := Lib.hid (HR1.out.later hb); have HB := Lib.hid (below_on HB.out hb); clear hb
                  go_wp2_with fail
                  refine (has_any _ _ _ (ofN_lt _ _ _)).mono ?_; rintro e wn ⟨rfl, rfl⟩; rw [HV.out]
                  go_wp2_with fail
                  go_roundw
                  case rel => exact ⟨k + 1, by omega, by go_num, HB.out, HR1.out⟩
                  case measure => simp [intOf]; omega
          · obtain rfl : k = 8 := by omega
            go_wp2_with fail
            go_roundw
            case rel => exact ⟨c + 1, by omega, by go_num, HB.out, HR1.out⟩
            case measure => simp [intOf]; omega
      · obtain rfl : c = 3 := by omega
        go_wp2_with (refine step_load (by rfl) _ rfl _ rfl p HR1.out ?_)
        refine (all_set p _ HP.out.bd).mono ?_; rintro e wn ⟨rfl, hb⟩; have HR1 := Lib.hid (HR1.out.later hb); have HB := Lib.hid (below_on HB.out hb); clear hb
        go_wp2_with fail
        refine (has_any _ _ _ (allN_lt _)).mono ?_; rintro e wn ⟨rfl, rfl⟩; rw [HHa.out]
        go_wp2_with fail
        go_ret
        exact ⟨ret_bool (by simp), HB.out⟩
end Go.Proofs.YtgodoipmnenohaaDoor.boardAt
