/-
  The walk of MovesArg.
-/
import Derived.Test.YtgfgohlolnlcjabDoorMvG
import Derived.Test.YtgfgohlolnlcjabDoorMvLaid
import Derived.WalkKit
import Derived.OpenShut
namespace Go.Proofs.YtgfgohlolnlcjabDoor.movesArg
open Go.RowKit
set_option linter.unusedVariables false
set_option linter.unusedSimpArgs false
/-- The position of another variant, another turn. -/
def argP (p : Nat → Int) (v c : Int) : Nat → Int := upd (upd p 0 v) 78 c
theorem argP_0 (p : Nat → Int) (v c : Int) : argP p v c 0 = v := by unfold argP; rw [upd_other _ _ _ _ (by omega), upd_same]
theorem argP_78 (p : Nat → Int) (v c : Int) : argP p v c 78 = c := upd_same _ _ _
theorem argP_fit {p : Nat → Int} (hp : FitM p) {v c : Int} (hv : 0 ≤ v ∧ v ≤ 255) (hc : 0 ≤ c ∧ c ≤ 255) : FitM (argP p v c) :=
  ⟨by rw [argP_0]; exact hv, by rw [argP_78]; exact hc, fun i h1 h2 => by unfold argP; rw [upd_other _ _ _ _ (by omega), upd_other _ _ _ _ (by omega)]; exact hp.rook i h1 h2⟩
theorem fit_mv0 : FitV mv0 := fitV_of rfl
set_option maxRecDepth 100000 in
set_option maxHeartbeats 1000000 in
theorem arg_long (p : Nat → Int) (m : Mv) (l : List UInt8) (v c : Int) (w : World) (hp : FitM p) (hm : FitV m) (hv : 0 ≤ v ∧ v ≤ 255) (hc : 0 ≤ c ∧ c ≤ 255) (hl : 5000 < l.length) (hG : TabGo w) (hM : TabMv w) (hV : TabVar w) (hK : TabKn w) : Calls Tryd.prog 3 #[.agg (posA p), .agg (mvA m), .string (bz l), .int .u8 v, .int .u8 c] w (BoL true w) := by
  have HG := Lib.hid hG
  have HMx := Lib.hid hM
  have HV := Lib.hid hV
  have HK := Lib.hid hK
  have HB := Lib.hid (Below.refl w.heap.size w)
  have HFm := Lib.hid hm
  obtain ⟨t, ht⟩ : ∃ t, bz l = t := ⟨_, rfl⟩
  have HT := Lib.hid ht
  have hts : t.size = l.length := by rw [← ht, bz_size]
  have g0 : decide ((5000 : Int) < (t.size : Int)) = true := decide_eq_true (by omega)
  rw [ht]
  clear hG hM hV hK hp hm ht hts hl hv hc
  go_enter Tryd.func3, Tryd.ntmps3
  go_wp2_with (first
      | (refine step_box rfl _ rfl p rfl ?_; intro b0 w1 N R; have HG0 := Lib.hid (show w.heap.size ≤ b0 from Nat.le_of_eq N.at_.symm); have HB := Lib.hid (HB.out.trans (N.below.mono HB.out.size)); have HR := Lib.hid R; clear N R)
      | (refine blk_box rfl 33 _ rfl (mvA m) rfl ?_; intro b1 w2 N R; have HD1 := Lib.hid (show b1 ≠ b0 by rw [N.at_]; exact (Nat.ne_of_lt HR.out.lt).symm); have HR := Lib.hid (HR.out.later N.below); have HB := Lib.hid (HB.out.trans (N.below.mono HB.out.size)); have HM := Lib.hid R; clear N R)
      | (go_at_call 4; refine (mawake_any _ (HG.out.on HB.out) (HMx.out.on HB.out) (HV.out.on HB.out) (HK.out.on HB.out)).mono ?_; rintro e w3 ⟨rfl, hb⟩; have HR := Lib.hid (HR.out.later hb); have HM := Lib.hid (HM.out.later hb); have HB := Lib.hid (below_on HB.out hb); clear hb))
  exact bodyPost_ret (results_tmp rfl _ _ _) rfl ⟨rfl, HB.out⟩
set_option maxRecDepth 100000 in
set_option maxHeartbeats 1000000 in
theorem arg_a (p : Nat → Int) (m : Mv) (l : List UInt8) (v c : Int) (w : World) (hp : FitM p) (hm : FitV m) (hv : 0 ≤ v ∧ v ≤ 255) (hc : 0 ≤ c ∧ c ≤ 255) (hl : l.length ≤ 5000) (h1 : decide (9 ≤ v) = true) (hG : TabGo w) (hM : TabMv w) (hV : TabVar w) (hK : TabKn w) : Calls Tryd.prog 3 #[.agg (posA p), .agg (mvA m), .string (bz l), .int .u8 v, .int .u8 c] w (BoL true w) := by
  have HG := Lib.hid hG
  have HMx := Lib.hid hM
  have HV := Lib.hid hV
  have HK := Lib.hid hK
  have HB := Lib.hid (Below.refl w.heap.size w)
  have HFm := Lib.hid hm
  obtain ⟨t, ht⟩ : ∃ t, bz l = t := ⟨_, rfl⟩
  have HT := Lib.hid ht
  have hts : t.size = l.length := by rw [← ht, bz_size]
  have g0 : decide ((5000 : Int) < (t.size : Int)) = false := decide_eq_false (by omega)
  have HL := Lib.hid (show l.length ≤ 10000 by omega)
  have hsm : smB (argP p v c) = false := by
    unfold smB; rw [argP_0, argP_78]
    have a := of_decide_eq_true h1
    rw [decide_eq_false (show ¬ v < 9 by omega)]; rfl
  have hx : mvP (argP p v c) l = none := by unfold mvP; rw [hsm]; rfl
  have hy : mvT (argP p v c) m = [] := by unfold mvT; rw [hsm]; rfl
  obtain ⟨q, hq⟩ : ∃ q, argP p v c = q := ⟨_, rfl⟩
  have HQ := Lib.hid (show ∀ (w : World) (b : Nat), Row w b (upd (upd p 0 v) 78 c) → Row w b q from fun w b h => by rw [← hq]; exact h)
  have HFq := Lib.hid (show FitM q by rw [← hq]; exact argP_fit hp hv hc)
  rw [hq] at hx hsm
  have HP := Lib.hid (show pmO (mvP q l) = mv0 by rw [hx]; rfl)
  have HE := Lib.hid (show enO q (mvP q l) = 2 by rw [hx]; show (bif smB q then (5 : Int) else 2) = 2; rw [hsm]; rfl)
  rw [hq] at hy
  obtain ⟨y, hy1⟩ : ∃ y, bz (mvT q m) = y := ⟨_, rfl⟩
  have HY := Lib.hid hy1
  have ey : y.toList.isEmpty = true := by rw [← hy1, bz_toList, hy]; rfl
  rw [ht]
  clear hG hM hV hK hp hm ht hts hl hx hq hsm hv hc hy hy1
  go_enter Tryd.func3, Tryd.ntmps3
  go_wp2_with (first
      | (refine step_box rfl _ rfl p rfl ?_; intro b0 w1 N R; have HG0 := Lib.hid (show w.heap.size ≤ b0 from Nat.le_of_eq N.at_.symm); have HB := Lib.hid (HB.out.trans (N.below.mono HB.out.size)); have HR := Lib.hid R; clear N R)
      | (refine blk_box rfl 33 _ rfl (mvA m) rfl ?_; intro b1 w2 N R; have HD1 := Lib.hid (show b1 ≠ b0 by rw [N.at_]; exact (Nat.ne_of_lt HR.out.lt).symm); have HR := Lib.hid (HR.out.later N.below); have HB := Lib.hid (HB.out.trans (N.below.mono HB.out.size)); have HM := Lib.hid R; clear N R)
      | (go_at_call 4; refine (mawake_any _ (HG.out.on HB.out) (HMx.out.on HB.out) (HV.out.on HB.out) (HK.out.on HB.out)).mono ?_; rintro e w3 ⟨rfl, hb⟩; have HR := Lib.hid (HR.out.later hb); have HM := Lib.hid (HM.out.later hb); have HB := Lib.hid (below_on HB.out hb); clear hb)
      | (refine step_cell rfl 5 _ _ rfl b0 0 rfl .u8 v rfl p ?_ (by decide) rfl (by kernel_rfl) ?_; exact HR.out; intro w7 U R; have HM := Lib.hid (HM.out.apart U HD1.out); have HR := Lib.hid R; have HB := Lib.hid (HB.out.trans (U.below HG0.out)); clear U R)
      | (refine step_cell rfl 5 _ _ rfl b0 78 rfl .u8 c rfl (upd p 0 v) ?_ (by decide) rfl (by kernel_rfl) ?_; exact HR.out; intro w8 U R; have HM := Lib.hid (HM.out.apart U HD1.out); have HR := Lib.hid (HQ.out _ _ R); have HB := Lib.hid (HB.out.trans (U.below HG0.out)); clear U R)
      | (refine step_load rfl _ rfl b0 rfl q ?_ ?_; exact HR.out)
      | (go_at_call 5; rw [← HT.out]; refine (mvParse_any q l _ HL.out HFq.out (HG.out.on HB.out) (HMx.out.on HB.out)).mono ?_; rintro e w5 ⟨rfl, hb⟩; rw [HP.out, HE.out, HT.out]; have HR := Lib.hid (HR.out.later hb); have HM := Lib.hid (HM.out.later hb); have HB := Lib.hid (below_on HB.out hb); clear hb)
      | (refine blk_alloc rfl 33 rfl (mvA mv0) zeroMv ?_; intro b8 w6 N R; have HGb8 := Lib.hid (show w.heap.size ≤ b8 by rw [N.at_]; exact HB.out.size); have HDHRb8 := Lib.hid (show b0 ≠ b8 by rw [N.at_]; exact Nat.ne_of_lt HR.out.lt); have HR := Lib.hid (HR.out.later N.below); have HDHMb8 := Lib.hid (show b1 ≠ b8 by rw [N.at_]; exact Nat.ne_of_lt HM.out.lt); have HM := Lib.hid (HM.out.later N.below); have HB := Lib.hid (HB.out.trans (N.below.mono HB.out.size)); have HW := Lib.hid R; clear N R)
      | (refine blk_store rfl 33 _ _ rfl b8 rfl (mvA mv0) (mvA mv0) rfl ?_ rfl (mv_one _) sizeMv ?_; exact HW.out; intro w7 U R; have HR := Lib.hid (HR.out.apart U HDHRb8.out); have HM := Lib.hid (HM.out.apart U HDHMb8.out); have HB := Lib.hid (HB.out.trans (U.below HGb8.out)); have HW := Lib.hid R; clear U R)
      | (refine blk_load rfl 33 _ rfl b1 rfl (mvA m) ?_ _ Tryd.underlying33 rfl sizeMv ?_; exact HM.out)
      | (refine blk_load rfl 33 _ rfl b8 rfl (mvA mv0) ?_ _ Tryd.underlying33 rfl sizeMv ?_; exact HW.out)
      | (refine step_mv rfl _ _ rfl mv0 mv0 rfl rfl fit_mv0 fit_mv0 true (mvE_true.2 rfl) ?_)
      | (go_at_call 6; refine (mvText_any q m _ HFq.out HFm.out (HG.out.on HB.out)).mono ?_; rintro e w4 ⟨rfl, hb⟩; rw [HY.out]; have HR := Lib.hid (HR.out.later hb); have HM := Lib.hid (HM.out.later hb); have HW := Lib.hid (HW.out.later hb); have HB := Lib.hid (below_on HB.out hb); clear hb))
  exact bodyPost_ret (results_tmp rfl _ _ _) rfl ⟨by simp, HB.out⟩
set_option maxRecDepth 100000 in
set_option maxHeartbeats 1000000 in
theorem arg_b (p : Nat → Int) (m : Mv) (l : List UInt8) (v c : Int) (w : World) (hp : FitM p) (hm : FitV m) (hv : 0 ≤ v ∧ v ≤ 255) (hc : 0 ≤ c ∧ c ≤ 255) (hl : l.length ≤ 5000) (h1 : decide (9 ≤ v) = false) (h2 : decide (1 < c) = true) (hG : TabGo w) (hM : TabMv w) (hV : TabVar w) (hK : TabKn w) : Calls Tryd.prog 3 #[.agg (posA p), .agg (mvA m), .string (bz l), .int .u8 v, .int .u8 c] w (BoL true w) := by
  have HG := Lib.hid hG
  have HMx := Lib.hid hM
  have HV := Lib.hid hV
  have HK := Lib.hid hK
  have HB := Lib.hid (Below.refl w.heap.size w)
  have HFm := Lib.hid hm
  obtain ⟨t, ht⟩ : ∃ t, bz l = t := ⟨_, rfl⟩
  have HT := Lib.hid ht
  have hts : t.size = l.length := by rw [← ht, bz_size]
  have g0 : decide ((5000 : Int) < (t.size : Int)) = false := decide_eq_false (by omega)
  have HL := Lib.hid (show l.length ≤ 10000 by omega)
  have hsm : smB (argP p v c) = false := by
    unfold smB; rw [argP_0, argP_78]
    have b := of_decide_eq_true h2
    rw [decide_eq_false (show ¬ c ≤ 1 by omega), Bool.and_false]
  have hx : mvP (argP p v c) l = none := by unfold mvP; rw [hsm]; rfl
  have hy : mvT (argP p v c) m = [] := by unfold mvT; rw [hsm]; rfl
  obtain ⟨q, hq⟩ : ∃ q, argP p v c = q := ⟨_, rfl⟩
  have HQ := Lib.hid (show ∀ (w : World) (b : Nat), Row w b (upd (upd p 0 v) 78 c) → Row w b q from fun w b h => by rw [← hq]; exact h)
  have HFq := Lib.hid (show FitM q by rw [← hq]; exact argP_fit hp hv hc)
  rw [hq] at hx hsm
  have HP := Lib.hid (show pmO (mvP q l) = mv0 by rw [hx]; rfl)
  have HE := Lib.hid (show enO q (mvP q l) = 2 by rw [hx]; show (bif smB q then (5 : Int) else 2) = 2; rw [hsm]; rfl)
  rw [hq] at hy
  obtain ⟨y, hy1⟩ : ∃ y, bz (mvT q m) = y := ⟨_, rfl⟩
  have HY := Lib.hid hy1
  have ey : y.toList.isEmpty = true := by rw [← hy1, bz_toList, hy]; rfl
  rw [ht]
  clear hG hM hV hK hp hm ht hts hl hx hq hsm hv hc hy hy1
  go_enter Tryd.func3, Tryd.ntmps3
  go_wp2_with (first
      | (refine step_box rfl _ rfl p rfl ?_; intro b0 w1 N R; have HG0 := Lib.hid (show w.heap.size ≤ b0 from Nat.le_of_eq N.at_.symm); have HB := Lib.hid (HB.out.trans (N.below.mono HB.out.size)); have HR := Lib.hid R; clear N R)
      | (refine blk_box rfl 33 _ rfl (mvA m) rfl ?_; intro b1 w2 N R; have HD1 := Lib.hid (show b1 ≠ b0 by rw [N.at_]; exact (Nat.ne_of_lt HR.out.lt).symm); have HR := Lib.hid (HR.out.later N.below); have HB := Lib.hid (HB.out.trans (N.below.mono HB.out.size)); have HM := Lib.hid R; clear N R)
      | (go_at_call 4; refine (mawake_any _ (HG.out.on HB.out) (HMx.out.on HB.out) (HV.out.on HB.out) (HK.out.on HB.out)).mono ?_; rintro e w3 ⟨rfl, hb⟩; have HR := Lib.hid (HR.out.later hb); have HM := Lib.hid (HM.out.later hb); have HB := Lib.hid (below_on HB.out hb); clear hb)
      | (refine step_cell rfl 5 _ _ rfl b0 0 rfl .u8 v rfl p ?_ (by decide) rfl (by kernel_rfl) ?_; exact HR.out; intro w7 U R; have HM := Lib.hid (HM.out.apart U HD1.out); have HR := Lib.hid R; have HB := Lib.hid (HB.out.trans (U.below HG0.out)); clear U R)
      | (refine step_cell rfl 5 _ _ rfl b0 78 rfl .u8 c rfl (upd p 0 v) ?_ (by decide) rfl (by kernel_rfl) ?_; exact HR.out; intro w8 U R; have HM := Lib.hid (HM.out.apart U HD1.out); have HR := Lib.hid (HQ.out _ _ R); have HB := Lib.hid (HB.out.trans (U.below HG0.out)); clear U R)
      | (refine step_load rfl _ rfl b0 rfl q ?_ ?_; exact HR.out)
      | (go_at_call 5; rw [← HT.out]; refine (mvParse_any q l _ HL.out HFq.out (HG.out.on HB.out) (HMx.out.on HB.out)).mono ?_; rintro e w5 ⟨rfl, hb⟩; rw [HP.out, HE.out, HT.out]; have HR := Lib.hid (HR.out.later hb); have HM := Lib.hid (HM.out.later hb); have HB := Lib.hid (below_on HB.out hb); clear hb)
      | (refine blk_alloc rfl 33 rfl (mvA mv0) zeroMv ?_; intro b8 w6 N R; have HGb8 := Lib.hid (show w.heap.size ≤ b8 by rw [N.at_]; exact HB.out.size); have HDHRb8 := Lib.hid (show b0 ≠ b8 by rw [N.at_]; exact Nat.ne_of_lt HR.out.lt); have HR := Lib.hid (HR.out.later N.below); have HDHMb8 := Lib.hid (show b1 ≠ b8 by rw [N.at_]; exact Nat.ne_of_lt HM.out.lt); have HM := Lib.hid (HM.out.later N.below); have HB := Lib.hid (HB.out.trans (N.below.mono HB.out.size)); have HW := Lib.hid R; clear N R)
      | (refine blk_store rfl 33 _ _ rfl b8 rfl (mvA mv0) (mvA mv0) rfl ?_ rfl (mv_one _) sizeMv ?_; exact HW.out; intro w7 U R; have HR := Lib.hid (HR.out.apart U HDHRb8.out); have HM := Lib.hid (HM.out.apart U HDHMb8.out); have HB := Lib.hid (HB.out.trans (U.below HGb8.out)); have HW := Lib.hid R; clear U R)
      | (refine blk_load rfl 33 _ rfl b1 rfl (mvA m) ?_ _ Tryd.underlying33 rfl sizeMv ?_; exact HM.out)
      | (refine blk_load rfl 33 _ rfl b8 rfl (mvA mv0) ?_ _ Tryd.underlying33 rfl sizeMv ?_; exact HW.out)
      | (refine step_mv rfl _ _ rfl mv0 mv0 rfl rfl fit_mv0 fit_mv0 true (mvE_true.2 rfl) ?_)
      | (go_at_call 6; refine (mvText_any q m _ HFq.out HFm.out (HG.out.on HB.out)).mono ?_; rintro e w4 ⟨rfl, hb⟩; rw [HY.out]; have HR := Lib.hid (HR.out.later hb); have HM := Lib.hid (HM.out.later hb); have HW := Lib.hid (HW.out.later hb); have HB := Lib.hid (below_on HB.out hb); clear hb))
  exact bodyPost_ret (results_tmp rfl _ _ _) rfl ⟨by simp, HB.out⟩
set_option maxRecDepth 100000 in
set_option maxHeartbeats 1000000 in
theorem arg_c (p : Nat → Int) (m : Mv) (l : List UInt8) (v c : Int) (w : World) (hp : FitM p) (hm : FitV m) (hv : 0 ≤ v ∧ v ≤ 255) (hc : 0 ≤ c ∧ c ≤ 255) (hl : l.length ≤ 5000) (h1 : decide (9 ≤ v) = false) (h2 : decide (1 < c) = false) (x : Mv) (hx : mvP (argP p v c) l = some x) (hG : TabGo w) (hM : TabMv w) (hV : TabVar w) (hK : TabKn w) : Calls Tryd.prog 3 #[.agg (posA p), .agg (mvA m), .string (bz l), .int .u8 v, .int .u8 c] w (BoL true w) := by
  have HG := Lib.hid hG
  have HMx := Lib.hid hM
  have HV := Lib.hid hV
  have HK := Lib.hid hK
  have HB := Lib.hid (Below.refl w.heap.size w)
  have HFm := Lib.hid hm
  obtain ⟨t, ht⟩ : ∃ t, bz l = t := ⟨_, rfl⟩
  have HT := Lib.hid ht
  have hts : t.size = l.length := by rw [← ht, bz_size]
  have g0 : decide ((5000 : Int) < (t.size : Int)) = false := decide_eq_false (by omega)
  have HL := Lib.hid (show l.length ≤ 10000 by omega)
  have hsm : smB (argP p v c) = true := by
    unfold smB; rw [argP_0, argP_78]
    have a := of_decide_eq_false h1
    have b := of_decide_eq_false h2
    rw [decide_eq_true (show v < 9 by omega), decide_eq_true (show c ≤ 1 by omega)]; rfl
  obtain ⟨q, hq⟩ : ∃ q, argP p v c = q := ⟨_, rfl⟩
  have HQ := Lib.hid (show ∀ (w : World) (b : Nat), Row w b (upd (upd p 0 v) 78 c) → Row w b q from fun w b h => by rw [← hq]; exact h)
  have HFq := Lib.hid (show FitM q by rw [← hq]; exact argP_fit hp hv hc)
  rw [hq] at hx hsm
  have HP := Lib.hid (show pmO (mvP q l) = x by rw [hx]; rfl)
  have HE := Lib.hid (show enO q (mvP q l) = 0 by rw [hx]; rfl)
  rw [ht]
  clear hG hM hV hK hp hm ht hts hl hx hq hsm hv hc
  go_enter Tryd.func3, Tryd.ntmps3
  go_wp2_with (first
      | (refine step_box rfl _ rfl p rfl ?_; intro b0 w1 N R; have HG0 := Lib.hid (show w.heap.size ≤ b0 from Nat.le_of_eq N.at_.symm); have HB := Lib.hid (HB.out.trans (N.below.mono HB.out.size)); have HR := Lib.hid R; clear N R)
      | (refine blk_box rfl 33 _ rfl (mvA m) rfl ?_; intro b1 w2 N R; have HD1 := Lib.hid (show b1 ≠ b0 by rw [N.at_]; exact (Nat.ne_of_lt HR.out.lt).symm); have HR := Lib.hid (HR.out.later N.below); have HB := Lib.hid (HB.out.trans (N.below.mono HB.out.size)); have HM := Lib.hid R; clear N R)
      | (go_at_call 4; refine (mawake_any _ (HG.out.on HB.out) (HMx.out.on HB.out) (HV.out.on HB.out) (HK.out.on HB.out)).mono ?_; rintro e w3 ⟨rfl, hb⟩; have HR := Lib.hid (HR.out.later hb); have HM := Lib.hid (HM.out.later hb); have HB := Lib.hid (below_on HB.out hb); clear hb)
      | (refine step_cell rfl 5 _ _ rfl b0 0 rfl .u8 v rfl p ?_ (by decide) rfl (by kernel_rfl) ?_; exact HR.out; intro w7 U R; have HM := Lib.hid (HM.out.apart U HD1.out); have HR := Lib.hid R; have HB := Lib.hid (HB.out.trans (U.below HG0.out)); clear U R)
      | (refine step_cell rfl 5 _ _ rfl b0 78 rfl .u8 c rfl (upd p 0 v) ?_ (by decide) rfl (by kernel_rfl) ?_; exact HR.out; intro w8 U R; have HM := Lib.hid (HM.out.apart U HD1.out); have HR := Lib.hid (HQ.out _ _ R); have HB := Lib.hid (HB.out.trans (U.below HG0.out)); clear U R)
      | (refine step_load rfl _ rfl b0 rfl q ?_ ?_; exact HR.out)
      | (go_at_call 5; rw [← HT.out]; refine (mvParse_any q l _ HL.out HFq.out (HG.out.on HB.out) (HMx.out.on HB.out)).mono ?_; rintro e w5 ⟨rfl, hb⟩; rw [HP.out, HE.out, HT.out]; have HR := Lib.hid (HR.out.later hb); have HM := Lib.hid (HM.out.later hb); have HB := Lib.hid (below_on HB.out hb); clear hb)
      | (refine blk_alloc rfl 33 rfl (mvA mv0) zeroMv ?_; intro b8 w6 N R; have HGb8 := Lib.hid (show w.heap.size ≤ b8 by rw [N.at_]; exact HB.out.size); have HDHRb8 := Lib.hid (show b0 ≠ b8 by rw [N.at_]; exact Nat.ne_of_lt HR.out.lt); have HR := Lib.hid (HR.out.later N.below); have HDHMb8 := Lib.hid (show b1 ≠ b8 by rw [N.at_]; exact Nat.ne_of_lt HM.out.lt); have HM := Lib.hid (HM.out.later N.below); have HB := Lib.hid (HB.out.trans (N.below.mono HB.out.size)); have HW := Lib.hid R; clear N R)
      | (refine blk_store rfl 33 _ _ rfl b8 rfl (mvA mv0) (mvA x) rfl ?_ rfl (mv_one _) sizeMv ?_; exact HW.out; intro w7 U R; have HR := Lib.hid (HR.out.apart U HDHRb8.out); have HM := Lib.hid (HM.out.apart U HDHMb8.out); have HB := Lib.hid (HB.out.trans (U.below HGb8.out)); have HW := Lib.hid R; clear U R))
  exact bodyPost_ret (results_tmp rfl _ _ _) rfl ⟨by simp, HB.out⟩
set_option maxRecDepth 100000 in
set_option maxHeartbeats 1000000 in
theorem arg_d (p : Nat → Int) (m : Mv) (l : List UInt8) (v c : Int) (w : World) (hp : FitM p) (hm : FitV m) (hv : 0 ≤ v ∧ v ≤ 255) (hc : 0 ≤ c ∧ c ≤ 255) (hl : l.length ≤ 5000) (h1 : decide (9 ≤ v) = false) (h2 : decide (1 < c) = false) (hx : mvP (argP p v c) l = none) (hG : TabGo w) (hM : TabMv w) (hV : TabVar w) (hK : TabKn w) : Calls Tryd.prog 3 #[.agg (posA p), .agg (mvA m), .string (bz l), .int .u8 v, .int .u8 c] w (BoL true w) := by
  have HG := Lib.hid hG
  have HMx := Lib.hid hM
  have HV := Lib.hid hV
  have HK := Lib.hid hK
  have HB := Lib.hid (Below.refl w.heap.size w)
  have HFm := Lib.hid hm
  obtain ⟨t, ht⟩ : ∃ t, bz l = t := ⟨_, rfl⟩
  have HT := Lib.hid ht
  have hts : t.size = l.length := by rw [← ht, bz_size]
  have g0 : decide ((5000 : Int) < (t.size : Int)) = false := decide_eq_false (by omega)
  have HL := Lib.hid (show l.length ≤ 10000 by omega)
  have hsm : smB (argP p v c) = true := by
    unfold smB; rw [argP_0, argP_78]
    have a := of_decide_eq_false h1
    have b := of_decide_eq_false h2
    rw [decide_eq_true (show v < 9 by omega), decide_eq_true (show c ≤ 1 by omega)]; rfl
  obtain ⟨q, hq⟩ : ∃ q, argP p v c = q := ⟨_, rfl⟩
  have HQ := Lib.hid (show ∀ (w : World) (b : Nat), Row w b (upd (upd p 0 v) 78 c) → Row w b q from fun w b h => by rw [← hq]; exact h)
  have HFq := Lib.hid (show FitM q by rw [← hq]; exact argP_fit hp hv hc)
  rw [hq] at hx hsm
  have HP := Lib.hid (show pmO (mvP q l) = mv0 by rw [hx]; rfl)
  have HE := Lib.hid (show enO q (mvP q l) = 5 by rw [hx]; show (bif smB q then (5 : Int) else 2) = 5; rw [hsm]; rfl)
  rw [ht]
  clear hG hM hV hK hp hm ht hts hl hx hq hsm hv hc
  go_enter Tryd.func3, Tryd.ntmps3
  go_wp2_with (first
      | (refine step_box rfl _ rfl p rfl ?_; intro b0 w1 N R; have HG0 := Lib.hid (show w.heap.size ≤ b0 from Nat.le_of_eq N.at_.symm); have HB := Lib.hid (HB.out.trans (N.below.mono HB.out.size)); have HR := Lib.hid R; clear N R)
      | (refine blk_box rfl 33 _ rfl (mvA m) rfl ?_; intro b1 w2 N R; have HD1 := Lib.hid (show b1 ≠ b0 by rw [N.at_]; exact (Nat.ne_of_lt HR.out.lt).symm); have HR := Lib.hid (HR.out.later N.below); have HB := Lib.hid (HB.out.trans (N.below.mono HB.out.size)); have HM := Lib.hid R; clear N R)
      | (go_at_call 4; refine (mawake_any _ (HG.out.on HB.out) (HMx.out.on HB.out) (HV.out.on HB.out) (HK.out.on HB.out)).mono ?_; rintro e w3 ⟨rfl, hb⟩; have HR := Lib.hid (HR.out.later hb); have HM := Lib.hid (HM.out.later hb); have HB := Lib.hid (below_on HB.out hb); clear hb)
      | (refine step_cell rfl 5 _ _ rfl b0 0 rfl .u8 v rfl p ?_ (by decide) rfl (by kernel_rfl) ?_; exact HR.out; intro w7 U R; have HM := Lib.hid (HM.out.apart U HD1.out); have HR := Lib.hid R; have HB := Lib.hid (HB.out.trans (U.below HG0.out)); clear U R)
      | (refine step_cell rfl 5 _ _ rfl b0 78 rfl .u8 c rfl (upd p 0 v) ?_ (by decide) rfl (by kernel_rfl) ?_; exact HR.out; intro w8 U R; have HM := Lib.hid (HM.out.apart U HD1.out); have HR := Lib.hid (HQ.out _ _ R); have HB := Lib.hid (HB.out.trans (U.below HG0.out)); clear U R)
      | (refine step_load rfl _ rfl b0 rfl q ?_ ?_; exact HR.out)
      | (go_at_call 5; rw [← HT.out]; refine (mvParse_any q l _ HL.out HFq.out (HG.out.on HB.out) (HMx.out.on HB.out)).mono ?_; rintro e w5 ⟨rfl, hb⟩; rw [HP.out, HE.out, HT.out]; have HR := Lib.hid (HR.out.later hb); have HM := Lib.hid (HM.out.later hb); have HB := Lib.hid (below_on HB.out hb); clear hb)
      | (refine blk_alloc rfl 33 rfl (mvA mv0) zeroMv ?_; intro b8 w6 N R; have HGb8 := Lib.hid (show w.heap.size ≤ b8 by rw [N.at_]; exact HB.out.size); have HDHRb8 := Lib.hid (show b0 ≠ b8 by rw [N.at_]; exact Nat.ne_of_lt HR.out.lt); have HR := Lib.hid (HR.out.later N.below); have HDHMb8 := Lib.hid (show b1 ≠ b8 by rw [N.at_]; exact Nat.ne_of_lt HM.out.lt); have HM := Lib.hid (HM.out.later N.below); have HB := Lib.hid (HB.out.trans (N.below.mono HB.out.size)); have HW := Lib.hid R; clear N R)
      | (refine blk_store rfl 33 _ _ rfl b8 rfl (mvA mv0) (mvA mv0) rfl ?_ rfl (mv_one _) sizeMv ?_; exact HW.out; intro w7 U R; have HR := Lib.hid (HR.out.apart U HDHRb8.out); have HM := Lib.hid (HM.out.apart U HDHMb8.out); have HB := Lib.hid (HB.out.trans (U.below HGb8.out)); have HW := Lib.hid R; clear U R))
  exact bodyPost_ret (results_tmp rfl _ _ _) rfl ⟨by simp, HB.out⟩
theorem walk (p : Nat → Int) (m : Mv) (t : ByteArray) (v c : Int) (hw : WfP p) (hm : FitV m) (_ht : t.size ≤ maxLen) (hv : (Lit.int .u8 v).wf = true) (hc : (Lit.int .u8 c).wf = true) (w : World) (hV : TabVar w) (hK : TabKn w) (hG : TabGo w) (hM : TabMv w) :
    Calls Tryd.prog 3 #[.agg (posA p), .agg (mvA m), .string t, .int .u8 v, .int .u8 c] w fun e w' => e = .returned (.bool true) ∧ Below w.heap.size w w' := by
  have hp := FitM.of hw
  have hv := u8_rng hv
  have hc := u8_rng hc
  rw [← bz_of t]
  generalize t.data.toList = l
  by_cases hl : l.length ≤ 5000
  · cases h1 : decide (9 ≤ v)
    · cases h2 : decide (1 < c)
      · cases hx : mvP (argP p v c) l with
        | none => exact arg_d p m l v c w hp hm hv hc hl h1 h2 hx hG hM hV hK
        | some x => exact arg_c p m l v c w hp hm hv hc hl h1 h2 x hx hG hM hV hK
      · exact arg_b p m l v c w hp hm hv hc hl h1 h2 hG hM hV hK
    · exact arg_a p m l v c w hp hm hv hc hl h1 hG hM hV hK
  · exact arg_long p m l v c w hp hm hv hc (by omega) hG hM hV hK
end Go.Proofs.YtgfgohlolnlcjabDoor.movesArg
