/-
  The walk of MovesBack.
-/
import Derived.Test.YtgfgohlolnlcjaaDoorMvG
import Derived.Test.YtgfgohlolnlcjaaDoorMvLaid
import Derived.WalkKit
import Derived.OpenShut
namespace Go.Proofs.YtgfgohlolnlcjaaDoor.movesBack
open Go.RowKit
set_option linter.unusedVariables false
set_option linter.unusedSimpArgs false
theorem fit_mv0 : FitV mv0 := fitV_of rfl
set_option maxRecDepth 100000 in
set_option maxHeartbeats 1000000 in
theorem back_long (p : Nat → Int) (m : Mv) (l : List UInt8) (w : World) (hp : FitM p) (hm : FitV m) (hl : 5000 < l.length) (hG : TabGo w) (hM : TabMv w) (hV : TabVar w) (hK : TabKn w) : Calls Tryd.prog 5 #[.agg (posA p), .agg (mvA m), .string (bz l)] w (BoL true w) := by
  have HG := Lib.hid hG
  have HMx := Lib.hid hM
  have HV := Lib.hid hV
  have HK := Lib.hid hK
  have HB := Lib.hid (Below.refl w.heap.size w)
  have HFp := Lib.hid hp
  have HFm := Lib.hid hm
  have HOnce := Lib.hid trivial
  have HOnceT := Lib.hid trivial
  obtain ⟨t, ht⟩ : ∃ t, bz l = t := ⟨_, rfl⟩
  have HT := Lib.hid ht
  have hts : t.size = l.length := by rw [← ht, bz_size]
  have g0 : decide ((5000 : Int) < (t.size : Int)) = true := decide_eq_true (by omega)
  rw [ht]
  clear hG hM hV hK hp hm ht hts hl
  go_enter Tryd.func5, Tryd.ntmps5
  go_wp2_with (first
      | (refine step_box rfl _ rfl p rfl ?_; intro b0 w1 N R; have HB := Lib.hid (HB.out.trans (N.below.mono HB.out.size)); have HR := Lib.hid R; clear N R)
      | (refine blk_box rfl 33 _ rfl (mvA m) rfl ?_; intro b1 w2 N R; have HR := Lib.hid (HR.out.later N.below); have HB := Lib.hid (HB.out.trans (N.below.mono HB.out.size)); have HM := Lib.hid R; clear N R)
      | (go_at_call 13; refine (mawake_any _ (HG.out.on HB.out) (HMx.out.on HB.out) (HV.out.on HB.out) (HK.out.on HB.out)).mono ?_; rintro e w3 ⟨rfl, hb⟩; have HR := Lib.hid (HR.out.later hb); have HM := Lib.hid (HM.out.later hb); have HB := Lib.hid (below_on HB.out hb); clear hb))
  exact bodyPost_ret (results_tmp rfl _ _ _) rfl ⟨rfl, HB.out⟩
set_option maxRecDepth 100000 in
set_option maxHeartbeats 1000000 in
theorem back_00 (p : Nat → Int) (m : Mv) (l : List UInt8) (w : World) (hp : FitM p) (hm : FitV m) (hl : l.length ≤ 5000) (h0 : mvT p m = []) (h1 : mvP p l = none) (hG : TabGo w) (hM : TabMv w) (hV : TabVar w) (hK : TabKn w) : Calls Tryd.prog 5 #[.agg (posA p), .agg (mvA m), .string (bz l)] w (BoL true w) := by
  have HG := Lib.hid hG
  have HMx := Lib.hid hM
  have HV := Lib.hid hV
  have HK := Lib.hid hK
  have HB := Lib.hid (Below.refl w.heap.size w)
  have HFp := Lib.hid hp
  have HFm := Lib.hid hm
  have HOnce := Lib.hid trivial
  have HOnceT := Lib.hid trivial
  obtain ⟨t, ht⟩ : ∃ t, bz l = t := ⟨_, rfl⟩
  have HT := Lib.hid ht
  have hts : t.size = l.length := by rw [← ht, bz_size]
  have g0 : decide ((5000 : Int) < (t.size : Int)) = false := decide_eq_false (by omega)
  have HL := Lib.hid (show l.length ≤ 10000 by omega)
  obtain ⟨s, hs⟩ : ∃ s, mvT p m = s := ⟨_, rfl⟩
  obtain ⟨x, hx⟩ : ∃ x, bz s = x := ⟨_, rfl⟩
  have HX := Lib.hid (show bz (mvT p m) = x by rw [hs]; exact hx)
  have ex : x.toList.isEmpty = true := by rw [← hx, bz_toList, ← hs, h0]; rfl
  obtain ⟨n, hn⟩ : ∃ n, enO p (mvP p l) = n := ⟨_, rfl⟩
  have HE := Lib.hid hn
  have HP := Lib.hid (show pmO (mvP p l) = mv0 by rw [h1]; rfl)
  have gn : (n != 0) = true := by
    rw [← hn, h1]; show ((bif smB p then (5 : Int) else 2) != 0) = true
    cases smB p <;> rfl
  clear hn
  rw [ht]
  clear hG hM hV hK hp hm ht hts hl h0 h1 hs hx
  go_enter Tryd.func5, Tryd.ntmps5
  go_wp2_with (first
      | (refine step_box rfl _ rfl p rfl ?_; intro b0 w1 N R; have HB := Lib.hid (HB.out.trans (N.below.mono HB.out.size)); have HR := Lib.hid R; clear N R)
      | (refine blk_box rfl 33 _ rfl (mvA m) rfl ?_; intro b1 w2 N R; have HR := Lib.hid (HR.out.later N.below); have HB := Lib.hid (HB.out.trans (N.below.mono HB.out.size)); have HM := Lib.hid R; clear N R)
      | (go_at_call 13; refine (mawake_any _ (HG.out.on HB.out) (HMx.out.on HB.out) (HV.out.on HB.out) (HK.out.on HB.out)).mono ?_; rintro e w3 ⟨rfl, hb⟩; have HR := Lib.hid (HR.out.later hb); have HM := Lib.hid (HM.out.later hb); have HB := Lib.hid (below_on HB.out hb); clear hb)
      | (refine step_load rfl _ rfl b0 rfl p ?_ ?_; exact HR.out)
      | (refine blk_load rfl 33 _ rfl b1 rfl (mvA m) ?_ _ Tryd.underlying33 rfl sizeMv ?_; exact HM.out)
      | (go_at_call 9; clear HOnceT; refine (mvText_any p m _ HFp.out HFm.out (HG.out.on HB.out)).mono ?_; rintro e w4 ⟨rfl, hb⟩; rw [HX.out]; have HR := Lib.hid (HR.out.later hb); have HM := Lib.hid (HM.out.later hb); have HB := Lib.hid (below_on HB.out hb); clear hb))
  rw [← HT.out]
  refine (mvParse_any p l _ HL.out HFp.out (HG.out.on HB.out) (HMx.out.on HB.out)).mono ?_; rintro e w5 ⟨rfl, hb⟩; rw [HP.out, HE.out, HT.out]; have HR := Lib.hid (HR.out.later hb); have HM := Lib.hid (HM.out.later hb); have HB := Lib.hid (below_on HB.out hb); clear hb
  go_wp2_with (first
      | (refine blk_alloc rfl 33 rfl (mvA mv0) zeroMv ?_; intro b10 w6 N R; have HGb10 := Lib.hid (show w.heap.size ≤ b10 by rw [N.at_]; exact HB.out.size); have HDHRb10 := Lib.hid (show b0 ≠ b10 by rw [N.at_]; exact Nat.ne_of_lt HR.out.lt); have HR := Lib.hid (HR.out.later N.below); have HDHMb10 := Lib.hid (show b1 ≠ b10 by rw [N.at_]; exact Nat.ne_of_lt HM.out.lt); have HM := Lib.hid (HM.out.later N.below); have HB := Lib.hid (HB.out.trans (N.below.mono HB.out.size)); have HQ := Lib.hid R; clear N R)
      | (refine blk_store rfl 33 _ _ rfl b10 rfl (mvA mv0) (mvA mv0) rfl ?_ rfl (mv_one _) sizeMv ?_; exact HQ.out; intro w7 U R; have HR := Lib.hid (HR.out.apart U HDHRb10.out); have HM := Lib.hid (HM.out.apart U HDHMb10.out); have HB := Lib.hid (HB.out.trans (U.below HGb10.out)); have HQ := Lib.hid R; clear U R)
      | (refine step_load rfl _ rfl b0 rfl p ?_ ?_; exact HR.out)
      | (refine blk_load rfl 33 _ rfl b10 rfl (mvA mv0) ?_ _ Tryd.underlying33 rfl sizeMv ?_; exact HQ.out)
      | (refine step_mv rfl _ _ rfl mv0 mv0 rfl rfl fit_mv0 fit_mv0 true (mvE_true.2 rfl) ?_))
  exact bodyPost_ret (results_tmp rfl _ _ _) rfl ⟨by simp, HB.out⟩
set_option maxRecDepth 100000 in
set_option maxHeartbeats 1000000 in
theorem back_01 (p : Nat → Int) (m : Mv) (l : List UInt8) (w : World) (hp : FitM p) (hm : FitV m) (hl : l.length ≤ 5000) (h0 : mvT p m = []) (v : Mv) (h1 : mvP p l = some v) (hG : TabGo w) (hM : TabMv w) (hV : TabVar w) (hK : TabKn w) : Calls Tryd.prog 5 #[.agg (posA p), .agg (mvA m), .string (bz l)] w (BoL true w) := by
  have HG := Lib.hid hG
  have HMx := Lib.hid hM
  have HV := Lib.hid hV
  have HK := Lib.hid hK
  have HB := Lib.hid (Below.refl w.heap.size w)
  have HFp := Lib.hid hp
  have HFm := Lib.hid hm
  have HOnce := Lib.hid trivial
  have HOnceT := Lib.hid trivial
  obtain ⟨t, ht⟩ : ∃ t, bz l = t := ⟨_, rfl⟩
  have HT := Lib.hid ht
  have hts : t.size = l.length := by rw [← ht, bz_size]
  have g0 : decide ((5000 : Int) < (t.size : Int)) = false := decide_eq_false (by omega)
  have HL := Lib.hid (show l.length ≤ 10000 by omega)
  obtain ⟨s, hs⟩ : ∃ s, mvT p m = s := ⟨_, rfl⟩
  obtain ⟨x, hx⟩ : ∃ x, bz s = x := ⟨_, rfl⟩
  have HX := Lib.hid (show bz (mvT p m) = x by rw [hs]; exact hx)
  have ex : x.toList.isEmpty = true := by rw [← hx, bz_toList, ← hs, h0]; rfl
  have HP := Lib.hid (show pmO (mvP p l) = v by rw [h1]; rfl)
  have HE := Lib.hid (show enO p (mvP p l) = 0 by rw [h1]; rfl)
  have HFv := Lib.hid (mvP_fit hp h1)
  have HTv := Lib.hid (show bz (mvT p v) = t by rw [(mv_text h1).1]; exact ht)
  rw [ht]
  clear hG hM hV hK hp hm ht hts hl h0 h1 hs hx
  go_enter Tryd.func5, Tryd.ntmps5
  go_wp2_with (first
      | (refine step_box rfl _ rfl p rfl ?_; intro b0 w1 N R; have HB := Lib.hid (HB.out.trans (N.below.mono HB.out.size)); have HR := Lib.hid R; clear N R)
      | (refine blk_box rfl 33 _ rfl (mvA m) rfl ?_; intro b1 w2 N R; have HR := Lib.hid (HR.out.later N.below); have HB := Lib.hid (HB.out.trans (N.below.mono HB.out.size)); have HM := Lib.hid R; clear N R)
      | (go_at_call 13; refine (mawake_any _ (HG.out.on HB.out) (HMx.out.on HB.out) (HV.out.on HB.out) (HK.out.on HB.out)).mono ?_; rintro e w3 ⟨rfl, hb⟩; have HR := Lib.hid (HR.out.later hb); have HM := Lib.hid (HM.out.later hb); have HB := Lib.hid (below_on HB.out hb); clear hb)
      | (refine step_load rfl _ rfl b0 rfl p ?_ ?_; exact HR.out)
      | (refine blk_load rfl 33 _ rfl b1 rfl (mvA m) ?_ _ Tryd.underlying33 rfl sizeMv ?_; exact HM.out)
      | (go_at_call 9; clear HOnceT; refine (mvText_any p m _ HFp.out HFm.out (HG.out.on HB.out)).mono ?_; rintro e w4 ⟨rfl, hb⟩; rw [HX.out]; have HR := Lib.hid (HR.out.later hb); have HM := Lib.hid (HM.out.later hb); have HB := Lib.hid (below_on HB.out hb); clear hb))
  rw [← HT.out]
  refine (mvParse_any p l _ HL.out HFp.out (HG.out.on HB.out) (HMx.out.on HB.out)).mono ?_; rintro e w5 ⟨rfl, hb⟩; rw [HP.out, HE.out, HT.out]; have HR := Lib.hid (HR.out.later hb); have HM := Lib.hid (HM.out.later hb); have HB := Lib.hid (below_on HB.out hb); clear hb
  go_wp2_with (first
      | (refine blk_alloc rfl 33 rfl (mvA mv0) zeroMv ?_; intro b10 w6 N R; have HGb10 := Lib.hid (show w.heap.size ≤ b10 by rw [N.at_]; exact HB.out.size); have HDHRb10 := Lib.hid (show b0 ≠ b10 by rw [N.at_]; exact Nat.ne_of_lt HR.out.lt); have HR := Lib.hid (HR.out.later N.below); have HDHMb10 := Lib.hid (show b1 ≠ b10 by rw [N.at_]; exact Nat.ne_of_lt HM.out.lt); have HM := Lib.hid (HM.out.later N.below); have HB := Lib.hid (HB.out.trans (N.below.mono HB.out.size)); have HQ := Lib.hid R; clear N R)
      | (refine blk_store rfl 33 _ _ rfl b10 rfl (mvA mv0) (mvA v) rfl ?_ rfl (mv_one _) sizeMv ?_; exact HQ.out; intro w7 U R; have HR := Lib.hid (HR.out.apart U HDHRb10.out); have HM := Lib.hid (HM.out.apart U HDHMb10.out); have HB := Lib.hid (HB.out.trans (U.below HGb10.out)); have HQ := Lib.hid R; clear U R)
      | (refine step_load rfl _ rfl b0 rfl p ?_ ?_; exact HR.out)
      | (refine blk_load rfl 33 _ rfl b10 rfl (mvA v) ?_ _ Tryd.underlying33 rfl sizeMv ?_; exact HQ.out)
      | (go_at_call 9; refine (mvText_any p v _ HFp.out HFv.out (HG.out.on HB.out)).mono ?_; rintro e w4 ⟨rfl, hb⟩; rw [HTv.out]; have HR := Lib.hid (HR.out.later hb); have HM := Lib.hid (HM.out.later hb); have HQ := Lib.hid (HQ.out.later hb); have HB := Lib.hid (below_on HB.out hb); clear hb))
  exact bodyPost_ret (results_tmp rfl _ _ _) rfl ⟨by simp, HB.out⟩
set_option maxRecDepth 100000 in
set_option maxHeartbeats 1000000 in
theorem back_10 (p : Nat → Int) (m : Mv) (l : List UInt8) (w : World) (hp : FitM p) (hm : FitV m) (hl : l.length ≤ 5000) (h0 : mvT p m ≠ []) (h1 : mvP p l = none) (hG : TabGo w) (hM : TabMv w) (hV : TabVar w) (hK : TabKn w) : Calls Tryd.prog 5 #[.agg (posA p), .agg (mvA m), .string (bz l)] w (BoL true w) := by
  have HG := Lib.hid hG
  have HMx := Lib.hid hM
  have HV := Lib.hid hV
  have HK := Lib.hid hK
  have HB := Lib.hid (Below.refl w.heap.size w)
  have HFp := Lib.hid hp
  have HFm := Lib.hid hm
  have HOnce := Lib.hid trivial
  have HOnceT := Lib.hid trivial
  obtain ⟨t, ht⟩ : ∃ t, bz l = t := ⟨_, rfl⟩
  have HT := Lib.hid ht
  have hts : t.size = l.length := by rw [← ht, bz_size]
  have g0 : decide ((5000 : Int) < (t.size : Int)) = false := decide_eq_false (by omega)
  have HL := Lib.hid (show l.length ≤ 10000 by omega)
  obtain ⟨s, hs⟩ : ∃ s, mvT p m = s := ⟨_, rfl⟩
  obtain ⟨x, hx⟩ : ∃ x, bz s = x := ⟨_, rfl⟩
  have HX := Lib.hid (show bz (mvT p m) = x by rw [hs]; exact hx)
  have ex : x.toList.isEmpty = false := by rw [← hx, bz_toList, ← hs]; exact List.isEmpty_eq_false_iff.2 h0
  have HS := Lib.hid hx
  have HSl := Lib.hid (show s.length ≤ 10000 by rw [← hs]; exact Nat.le_trans (mvT_len p m) (by decide))
  have h2 : mvP p s = some m := mv_back hp.turn.1 hm.pr.1 hs (by rw [← hs]; exact h0)
  have HPs := Lib.hid (show pmO (mvP p s) = m by rw [h2]; rfl)
  have HEs := Lib.hid (show enO p (mvP p s) = 0 by rw [h2]; rfl)
  clear h2
  obtain ⟨n, hn⟩ : ∃ n, enO p (mvP p l) = n := ⟨_, rfl⟩
  have HE := Lib.hid hn
  have HP := Lib.hid (show pmO (mvP p l) = mv0 by rw [h1]; rfl)
  have gn : (n != 0) = true := by
    rw [← hn, h1]; show ((bif smB p then (5 : Int) else 2) != 0) = true
    cases smB p <;> rfl
  clear hn
  rw [ht]
  clear hG hM hV hK hp hm ht hts hl h0 h1 hs hx
  go_enter Tryd.func5, Tryd.ntmps5
  go_wp2_with (first
      | (refine step_box rfl _ rfl p rfl ?_; intro b0 w1 N R; have HB := Lib.hid (HB.out.trans (N.below.mono HB.out.size)); have HR := Lib.hid R; clear N R)
      | (refine blk_box rfl 33 _ rfl (mvA m) rfl ?_; intro b1 w2 N R; have HR := Lib.hid (HR.out.later N.below); have HB := Lib.hid (HB.out.trans (N.below.mono HB.out.size)); have HM := Lib.hid R; clear N R)
      | (go_at_call 13; refine (mawake_any _ (HG.out.on HB.out) (HMx.out.on HB.out) (HV.out.on HB.out) (HK.out.on HB.out)).mono ?_; rintro e w3 ⟨rfl, hb⟩; have HR := Lib.hid (HR.out.later hb); have HM := Lib.hid (HM.out.later hb); have HB := Lib.hid (below_on HB.out hb); clear hb)
      | (refine step_load rfl _ rfl b0 rfl p ?_ ?_; exact HR.out)
      | (refine blk_load rfl 33 _ rfl b1 rfl (mvA m) ?_ _ Tryd.underlying33 rfl sizeMv ?_; exact HM.out)
      | (go_at_call 9; clear HOnceT; refine (mvText_any p m _ HFp.out HFm.out (HG.out.on HB.out)).mono ?_; rintro e w4 ⟨rfl, hb⟩; rw [HX.out]; have HR := Lib.hid (HR.out.later hb); have HM := Lib.hid (HM.out.later hb); have HB := Lib.hid (below_on HB.out hb); clear hb))
  rw [← HS.out]
  refine (mvParse_any p s _ HSl.out HFp.out (HG.out.on HB.out) (HMx.out.on HB.out)).mono ?_; rintro e w5 ⟨rfl, hb⟩; rw [HPs.out, HEs.out, HS.out]; have HR := Lib.hid (HR.out.later hb); have HM := Lib.hid (HM.out.later hb); have HB := Lib.hid (below_on HB.out hb); clear hb
  go_wp2_with (first
      | (refine blk_alloc rfl 33 rfl (mvA mv0) zeroMv ?_; intro b8 w6 N R; have HGb8 := Lib.hid (show w.heap.size ≤ b8 by rw [N.at_]; exact HB.out.size); have HDHRb8 := Lib.hid (show b0 ≠ b8 by rw [N.at_]; exact Nat.ne_of_lt HR.out.lt); have HR := Lib.hid (HR.out.later N.below); have HDHMb8 := Lib.hid (show b1 ≠ b8 by rw [N.at_]; exact Nat.ne_of_lt HM.out.lt); have HM := Lib.hid (HM.out.later N.below); have HB := Lib.hid (HB.out.trans (N.below.mono HB.out.size)); have HW := Lib.hid R; clear N R)
      | (refine blk_store rfl 33 _ _ rfl b8 rfl (mvA mv0) (mvA m) rfl ?_ rfl (mv_one _) sizeMv ?_; exact HW.out; intro w7 U R; have HR := Lib.hid (HR.out.apart U HDHRb8.out); have HM := Lib.hid (HM.out.apart U HDHMb8.out); have HB := Lib.hid (HB.out.trans (U.below HGb8.out)); have HW := Lib.hid R; clear U R)
      | (refine step_load rfl _ rfl b0 rfl p ?_ ?_; exact HR.out)
      | (refine blk_load rfl 33 _ rfl b1 rfl (mvA m) ?_ _ Tryd.underlying33 rfl sizeMv ?_; exact HM.out)
      | (refine blk_load rfl 33 _ rfl b8 rfl (mvA m) ?_ _ Tryd.underlying33 rfl sizeMv ?_; exact HW.out)
      | (refine step_mvn rfl _ _ rfl m m rfl rfl HFm.out HFm.out true (mvE_true.2 rfl) ?_))
  rw [← HT.out]
  refine (mvParse_any p l _ HL.out HFp.out (HG.out.on HB.out) (HMx.out.on HB.out)).mono ?_; rintro e w5 ⟨rfl, hb⟩; rw [HP.out, HE.out, HT.out]; have HR := Lib.hid (HR.out.later hb); have HM := Lib.hid (HM.out.later hb); have HB := Lib.hid (below_on HB.out hb); clear hb
  go_wp2_with (first
      | (refine blk_alloc rfl 33 rfl (mvA mv0) zeroMv ?_; intro b10 w6 N R; have HGb10 := Lib.hid (show w.heap.size ≤ b10 by rw [N.at_]; exact HB.out.size); have HDHRb10 := Lib.hid (show b0 ≠ b10 by rw [N.at_]; exact Nat.ne_of_lt HR.out.lt); have HR := Lib.hid (HR.out.later N.below); have HDHMb10 := Lib.hid (show b1 ≠ b10 by rw [N.at_]; exact Nat.ne_of_lt HM.out.lt); have HM := Lib.hid (HM.out.later N.below); have HB := Lib.hid (HB.out.trans (N.below.mono HB.out.size)); have HQ := Lib.hid R; clear N R)
      | (refine blk_store rfl 33 _ _ rfl b10 rfl (mvA mv0) (mvA mv0) rfl ?_ rfl (mv_one _) sizeMv ?_; exact HQ.out; intro w7 U R; have HR := Lib.hid (HR.out.apart U HDHRb10.out); have HM := Lib.hid (HM.out.apart U HDHMb10.out); have HB := Lib.hid (HB.out.trans (U.below HGb10.out)); have HQ := Lib.hid R; clear U R)
      | (refine step_load rfl _ rfl b0 rfl p ?_ ?_; exact HR.out)
      | (refine blk_load rfl 33 _ rfl b10 rfl (mvA mv0) ?_ _ Tryd.underlying33 rfl sizeMv ?_; exact HQ.out)
      | (refine step_mv rfl _ _ rfl mv0 mv0 rfl rfl fit_mv0 fit_mv0 true (mvE_true.2 rfl) ?_))
  exact bodyPost_ret (results_tmp rfl _ _ _) rfl ⟨by simp, HB.out⟩
set_option maxRecDepth 100000 in
set_option maxHeartbeats 1000000 in
theorem back_11 (p : Nat → Int) (m : Mv) (l : List UInt8) (w : World) (hp : FitM p) (hm : FitV m) (hl : l.length ≤ 5000) (h0 : mvT p m ≠ []) (v : Mv) (h1 : mvP p l = some v) (hG : TabGo w) (hM : TabMv w) (hV : TabVar w) (hK : TabKn w) : Calls Tryd.prog 5 #[.agg (posA p), .agg (mvA m), .string (bz l)] w (BoL true w) := by
  have HG := Lib.hid hG
  have HMx := Lib.hid hM
  have HV := Lib.hid hV
  have HK := Lib.hid hK
  have HB := Lib.hid (Below.refl w.heap.size w)
  have HFp := Lib.hid hp
  have HFm := Lib.hid hm
  have HOnce := Lib.hid trivial
  have HOnceT := Lib.hid trivial
  obtain ⟨t, ht⟩ : ∃ t, bz l = t := ⟨_, rfl⟩
  have HT := Lib.hid ht
  have hts : t.size = l.length := by rw [← ht, bz_size]
  have g0 : decide ((5000 : Int) < (t.size : Int)) = false := decide_eq_false (by omega)
  have HL := Lib.hid (show l.length ≤ 10000 by omega)
  obtain ⟨s, hs⟩ : ∃ s, mvT p m = s := ⟨_, rfl⟩
  obtain ⟨x, hx⟩ : ∃ x, bz s = x := ⟨_, rfl⟩
  have HX := Lib.hid (show bz (mvT p m) = x by rw [hs]; exact hx)
  have ex : x.toList.isEmpty = false := by rw [← hx, bz_toList, ← hs]; exact List.isEmpty_eq_false_iff.2 h0
  have HS := Lib.hid hx
  have HSl := Lib.hid (show s.length ≤ 10000 by rw [← hs]; exact Nat.le_trans (mvT_len p m) (by decide))
  have h2 : mvP p s = some m := mv_back hp.turn.1 hm.pr.1 hs (by rw [← hs]; exact h0)
  have HPs := Lib.hid (show pmO (mvP p s) = m by rw [h2]; rfl)
  have HEs := Lib.hid (show enO p (mvP p s) = 0 by rw [h2]; rfl)
  clear h2
  have HP := Lib.hid (show pmO (mvP p l) = v by rw [h1]; rfl)
  have HE := Lib.hid (show enO p (mvP p l) = 0 by rw [h1]; rfl)
  have HFv := Lib.hid (mvP_fit hp h1)
  have HTv := Lib.hid (show bz (mvT p v) = t by rw [(mv_text h1).1]; exact ht)
  rw [ht]
  clear hG hM hV hK hp hm ht hts hl h0 h1 hs hx
  go_enter Tryd.func5, Tryd.ntmps5
  go_wp2_with (first
      | (refine step_box rfl _ rfl p rfl ?_; intro b0 w1 N R; have HB := Lib.hid (HB.out.trans (N.below.mono HB.out.size)); have HR := Lib.hid R; clear N R)
      | (refine blk_box rfl 33 _ rfl (mvA m) rfl ?_; intro b1 w2 N R; have HR := Lib.hid (HR.out.later N.below); have HB := Lib.hid (HB.out.trans (N.below.mono HB.out.size)); have HM := Lib.hid R; clear N R)
      | (go_at_call 13; refine (mawake_any _ (HG.out.on HB.out) (HMx.out.on HB.out) (HV.out.on HB.out) (HK.out.on HB.out)).mono ?_; rintro e w3 ⟨rfl, hb⟩; have HR := Lib.hid (HR.out.later hb); have HM := Lib.hid (HM.out.later hb); have HB := Lib.hid (below_on HB.out hb); clear hb)
      | (refine step_load rfl _ rfl b0 rfl p ?_ ?_; exact HR.out)
      | (refine blk_load rfl 33 _ rfl b1 rfl (mvA m) ?_ _ Tryd.underlying33 rfl sizeMv ?_; exact HM.out)
      | (go_at_call 9; clear HOnceT; refine (mvText_any p m _ HFp.out HFm.out (HG.out.on HB.out)).mono ?_; rintro e w4 ⟨rfl, hb⟩; rw [HX.out]; have HR := Lib.hid (HR.out.later hb); have HM := Lib.hid (HM.out.later hb); have HB := Lib.hid (below_on HB.out hb); clear hb))
  rw [← HS.out]
  refine (mvParse_any p s _ HSl.out HFp.out (HG.out.on HB.out) (HMx.out.on HB.out)).mono ?_; rintro e w5 ⟨rfl, hb⟩; rw [HPs.out, HEs.out, HS.out]; have HR := Lib.hid (HR.out.later hb); have HM := Lib.hid (HM.out.later hb); have HB := Lib.hid (below_on HB.out hb); clear hb
  go_wp2_with (first
      | (refine blk_alloc rfl 33 rfl (mvA mv0) zeroMv ?_; intro b8 w6 N R; have HGb8 := Lib.hid (show w.heap.size ≤ b8 by rw [N.at_]; exact HB.out.size); have HDHRb8 := Lib.hid (show b0 ≠ b8 by rw [N.at_]; exact Nat.ne_of_lt HR.out.lt); have HR := Lib.hid (HR.out.later N.below); have HDHMb8 := Lib.hid (show b1 ≠ b8 by rw [N.at_]; exact Nat.ne_of_lt HM.out.lt); have HM := Lib.hid (HM.out.later N.below); have HB := Lib.hid (HB.out.trans (N.below.mono HB.out.size)); have HW := Lib.hid R; clear N R)
      | (refine blk_store rfl 33 _ _ rfl b8 rfl (mvA mv0) (mvA m) rfl ?_ rfl (mv_one _) sizeMv ?_; exact HW.out; intro w7 U R; have HR := Lib.hid (HR.out.apart U HDHRb8.out); have HM := Lib.hid (HM.out.apart U HDHMb8.out); have HB := Lib.hid (HB.out.trans (U.below HGb8.out)); have HW := Lib.hid R; clear U R)
      | (refine step_load rfl _ rfl b0 rfl p ?_ ?_; exact HR.out)
      | (refine blk_load rfl 33 _ rfl b1 rfl (mvA m) ?_ _ Tryd.underlying33 rfl sizeMv ?_; exact HM.out)
      | (refine blk_load rfl 33 _ rfl b8 rfl (mvA m) ?_ _ Tryd.underlying33 rfl sizeMv ?_; exact HW.out)
      | (refine step_mvn rfl _ _ rfl m m rfl rfl HFm.out HFm.out true (mvE_true.2 rfl) ?_))
  rw [← HT.out]
  refine (mvParse_any p l _ HL.out HFp.out (HG.out.on HB.out) (HMx.out.on HB.out)).mono ?_; rintro e w5 ⟨rfl, hb⟩; rw [HP.out, HE.out, HT.out]; have HR := Lib.hid (HR.out.later hb); have HM := Lib.hid (HM.out.later hb); have HB := Lib.hid (below_on HB.out hb); clear hb
  go_wp2_with (first
      | (refine blk_alloc rfl 33 rfl (mvA mv0) zeroMv ?_; intro b10 w6 N R; have HGb10 := Lib.hid (show w.heap.size ≤ b10 by rw [N.at_]; exact HB.out.size); have HDHRb10 := Lib.hid (show b0 ≠ b10 by rw [N.at_]; exact Nat.ne_of_lt HR.out.lt); have HR := Lib.hid (HR.out.later N.below); have HDHMb10 := Lib.hid (show b1 ≠ b10 by rw [N.at_]; exact Nat.ne_of_lt HM.out.lt); have HM := Lib.hid (HM.out.later N.below); have HB := Lib.hid (HB.out.trans (N.below.mono HB.out.size)); have HQ := Lib.hid R; clear N R)
      | (refine blk_store rfl 33 _ _ rfl b10 rfl (mvA mv0) (mvA v) rfl ?_ rfl (mv_one _) sizeMv ?_; exact HQ.out; intro w7 U R; have HR := Lib.hid (HR.out.apart U HDHRb10.out); have HM := Lib.hid (HM.out.apart U HDHMb10.out); have HB := Lib.hid (HB.out.trans (U.below HGb10.out)); have HQ := Lib.hid R; clear U R)
      | (refine step_load rfl _ rfl b0 rfl p ?_ ?_; exact HR.out)
      | (refine blk_load rfl 33 _ rfl b10 rfl (mvA v) ?_ _ Tryd.underlying33 rfl sizeMv ?_; exact HQ.out)
      | (go_at_call 9; refine (mvText_any p v _ HFp.out HFv.out (HG.out.on HB.out)).mono ?_; rintro e w4 ⟨rfl, hb⟩; rw [HTv.out]; have HR := Lib.hid (HR.out.later hb); have HM := Lib.hid (HM.out.later hb); have HQ := Lib.hid (HQ.out.later hb); have HB := Lib.hid (below_on HB.out hb); clear hb))
  exact bodyPost_ret (results_tmp rfl _ _ _) rfl ⟨by simp, HB.out⟩
theorem walk (p : Nat → Int) (m : Mv) (t : ByteArray) (hw : WfP p) (hm : FitV m) (_ht : t.size ≤ maxLen) (w : World) (hV : TabVar w) (hK : TabKn w) (hG : TabGo w) (hM : TabMv w) :
    Calls Tryd.prog 5 #[.agg (posA p), .agg (mvA m), .string t] w fun e w' => e = .returned (.bool true) ∧ Below w.heap.size w w' := by
  have hp := FitM.of hw
  rw [← bz_of t]
  generalize t.data.toList = l
  by_cases hl : l.length ≤ 5000
  · by_cases h0 : mvT p m = []
    · cases h1 : mvP p l with
      | none => exact back_00 p m l w hp hm hl h0 h1 hG hM hV hK
      | some v => exact back_01 p m l w hp hm hl h0 v h1 hG hM hV hK
    · cases h1 : mvP p l with
      | none => exact back_10 p m l w hp hm hl h0 h1 hG hM hV hK
      | some v => exact back_11 p m l w hp hm hl h0 v h1 hG hM hV hK
  · exact back_long p m l w hp hm (by omega) hG hM hV hK
end Go.Proofs.YtgfgohlolnlcjaaDoor.movesBack
