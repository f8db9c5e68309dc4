/-
  Contracts of layer 11's functions: plainText, Text, readPlain, readDrop.
-/
import Derived.Test.YtnogmogmlilpiaaDoorMvD
import Derived.Test.YtnogmogmlilpiaaDoorMvCut
namespace Go.Proofs.YtnogmogmlilpiaaDoor
open Go.RowKit
set_option linter.unusedVariables false
set_option linter.unusedSimpArgs false

theorem enL_len (f t : Int) : (enL f t).length ≤ 4 := by
  cases h : (sqB f && sqB t && (f != t))
  · rw [enL_no h]; simp
  · rw [enL_yes h]
    simp only [Bool.and_eq_true] at h
    obtain ⟨x, y, e1, _⟩ := sqM_two h.1.1
    obtain ⟨z, u, e2, _⟩ := sqM_two h.1.2
    rw [e1, e2]; simp
theorem kdL_rng (l : List UInt8) : 0 ≤ kdL l ∧ kdL l ≤ 7 := by
  unfold kdL kndZ
  have := prs_rng (bz l)
  cases h : pcB (prsZ (bz l))
  · exact ⟨by show (0 : Int) ≤ 0; decide, by show (0 : Int) ≤ 7; decide⟩
  · show 0 ≤ prsZ (bz l) % 8 ∧ prsZ (bz l) % 8 ≤ 7; omega
set_option maxRecDepth 100000 in
set_option maxHeartbeats 400000 in
theorem plT_w0 (p : Nat → Int) (m : Mv) (w : World) (hp : FitM p) (hm : FitV m) (hs : smB p = true) (hG : TabGo w) (h1 : (sqB m.f && sqB m.t && (m.f != m.t)) = false) : Calls Tryd.prog 28 #[.agg (posA p), .agg (mvA m)] w (StL (bz (plT p m)) w) := by
  have HFp := Lib.hid hp
  have HFm := Lib.hid hm
  have HSm := Lib.hid hs
  have HG := Lib.hid hG
  have HB := Lib.hid (Below.refl w.heap.size w)
  obtain ⟨q, hq⟩ : ∃ q, bz (enL m.f m.t) = q := ⟨_, rfl⟩
  have HQ := Lib.hid hq
  have hqe : q.toList.isEmpty = true := by rw [← hq, bz_toList, enL_no h1]; rfl
  have HS := Lib.hid (show plT p m = [] by unfold plT; rw [h1, Bool.false_and]; rfl)
  clear h1 hq hp hm hs hG
  go_enter Tryd.func28, Tryd.ntmps28
  go_wp2_with (first
      | (refine step_box rfl _ rfl p rfl ?_; intro b0 w1 N R; have HB := Lib.hid (HB.out.trans (N.below.mono HB.out.size)); have HR := Lib.hid R; clear N R)
      | (refine blk_box rfl 33 _ rfl (mvA m) rfl ?_; intro b1 w2 N R; have HR := Lib.hid (HR.out.later N.below); have HB := Lib.hid (HB.out.trans (N.below.mono HB.out.size)); have HM := Lib.hid R; clear N R)
      | (refine step_get rfl 26 _ rfl b1 0 rfl Tryd.underlying26 rfl (.int .i8 m.f) ?_ ?_; exact HM.out.cell 0)
      | (refine step_get rfl 26 _ rfl b1 1 rfl Tryd.underlying26 rfl (.int .i8 m.t) ?_ ?_; exact HM.out.cell 1)
      | (go_at_call 41; refine (ends_any m.f m.t _ HFm.out.f HFm.out.t).mono ?_; rintro e w3 ⟨rfl, hb⟩; rw [HQ.out]; have HR := Lib.hid (HR.out.later hb); have HM := Lib.hid (HM.out.later hb); have HB := Lib.hid (below_on HB.out hb); clear hb)
      | (refine step_get rfl 5 _ rfl b1 2 rfl Tryd.underlying5 rfl (.int .u8 m.pr) ?_ ?_; exact HM.out.cell 2))
  go_ret
  exact ⟨by rw [HS.out]; rfl, HB.out⟩
set_option maxRecDepth 100000 in
set_option maxHeartbeats 400000 in
theorem plT_w1 (p : Nat → Int) (m : Mv) (w : World) (hp : FitM p) (hm : FitV m) (hs : smB p = true) (hG : TabGo w) (h1 : (sqB m.f && sqB m.t && (m.f != m.t)) = true) (h2 : (m.pr == 1) = true) : Calls Tryd.prog 28 #[.agg (posA p), .agg (mvA m)] w (StL (bz (plT p m)) w) := by
  have HFp := Lib.hid hp
  have HFm := Lib.hid hm
  have HSm := Lib.hid hs
  have HG := Lib.hid hG
  have HB := Lib.hid (Below.refl w.heap.size w)
  obtain ⟨q, hq⟩ : ∃ q, bz (enL m.f m.t) = q := ⟨_, rfl⟩
  have HQ := Lib.hid hq
  have hqe : q.toList.isEmpty = false := by
    rw [← hq, bz_toList]
    exact List.isEmpty_eq_false_iff.2 (enL_ne h1)
  have HS := Lib.hid (show plT p m = [] by unfold plT; rw [h1, h2]; rfl)
  clear h1 hq hp hm hs hG
  go_enter Tryd.func28, Tryd.ntmps28
  go_wp2_with (first
      | (refine step_box rfl _ rfl p rfl ?_; intro b0 w1 N R; have HB := Lib.hid (HB.out.trans (N.below.mono HB.out.size)); have HR := Lib.hid R; clear N R)
      | (refine blk_box rfl 33 _ rfl (mvA m) rfl ?_; intro b1 w2 N R; have HR := Lib.hid (HR.out.later N.below); have HB := Lib.hid (HB.out.trans (N.below.mono HB.out.size)); have HM := Lib.hid R; clear N R)
      | (refine step_get rfl 26 _ rfl b1 0 rfl Tryd.underlying26 rfl (.int .i8 m.f) ?_ ?_; exact HM.out.cell 0)
      | (refine step_get rfl 26 _ rfl b1 1 rfl Tryd.underlying26 rfl (.int .i8 m.t) ?_ ?_; exact HM.out.cell 1)
      | (go_at_call 41; refine (ends_any m.f m.t _ HFm.out.f HFm.out.t).mono ?_; rintro e w3 ⟨rfl, hb⟩; rw [HQ.out]; have HR := Lib.hid (HR.out.later hb); have HM := Lib.hid (HM.out.later hb); have HB := Lib.hid (below_on HB.out hb); clear hb)
      | (refine step_get rfl 5 _ rfl b1 2 rfl Tryd.underlying5 rfl (.int .u8 m.pr) ?_ ?_; exact HM.out.cell 2))
  go_ret
  exact ⟨by rw [HS.out]; rfl, HB.out⟩
set_option maxRecDepth 100000 in
set_option maxHeartbeats 400000 in
theorem plT_w2 (p : Nat → Int) (m : Mv) (w : World) (hp : FitM p) (hm : FitV m) (hs : smB p = true) (hG : TabGo w) (h1 : (sqB m.f && sqB m.t && (m.f != m.t)) = true) (h2 : (m.pr == 1) = false) (h3 : decide (6 < m.pr) = true) : Calls Tryd.prog 28 #[.agg (posA p), .agg (mvA m)] w (StL (bz (plT p m)) w) := by
  have HFp := Lib.hid hp
  have HFm := Lib.hid hm
  have HSm := Lib.hid hs
  have HG := Lib.hid hG
  have HB := Lib.hid (Below.refl w.heap.size w)
  obtain ⟨q, hq⟩ : ∃ q, bz (enL m.f m.t) = q := ⟨_, rfl⟩
  have HQ := Lib.hid hq
  have hqe : q.toList.isEmpty = false := by
    rw [← hq, bz_toList]
    exact List.isEmpty_eq_false_iff.2 (enL_ne h1)
  have HS := Lib.hid (show plT p m = [] by unfold plT; rw [h1, h2, h3]; rfl)
  clear h1 hq hp hm hs hG
  go_enter Tryd.func28, Tryd.ntmps28
  go_wp2_with (first
      | (refine step_box rfl _ rfl p rfl ?_; intro b0 w1 N R; have HB := Lib.hid (HB.out.trans (N.below.mono HB.out.size)); have HR := Lib.hid R; clear N R)
      | (refine blk_box rfl 33 _ rfl (mvA m) rfl ?_; intro b1 w2 N R; have HR := Lib.hid (HR.out.later N.below); have HB := Lib.hid (HB.out.trans (N.below.mono HB.out.size)); have HM := Lib.hid R; clear N R)
      | (refine step_get rfl 26 _ rfl b1 0 rfl Tryd.underlying26 rfl (.int .i8 m.f) ?_ ?_; exact HM.out.cell 0)
      | (refine step_get rfl 26 _ rfl b1 1 rfl Tryd.underlying26 rfl (.int .i8 m.t) ?_ ?_; exact HM.out.cell 1)
      | (go_at_call 41; refine (ends_any m.f m.t _ HFm.out.f HFm.out.t).mono ?_; rintro e w3 ⟨rfl, hb⟩; rw [HQ.out]; have HR := Lib.hid (HR.out.later hb); have HM := Lib.hid (HM.out.later hb); have HB := Lib.hid (below_on HB.out hb); clear hb)
      | (refine step_get rfl 5 _ rfl b1 2 rfl Tryd.underlying5 rfl (.int .u8 m.pr) ?_ ?_; exact HM.out.cell 2))
  go_ret
  exact ⟨by rw [HS.out]; rfl, HB.out⟩
set_option maxRecDepth 100000 in
set_option maxHeartbeats 400000 in
theorem plT_w3 (p : Nat → Int) (m : Mv) (w : World) (hp : FitM p) (hm : FitV m) (hs : smB p = true) (hG : TabGo w) (h1 : (sqB m.f && sqB m.t && (m.f != m.t)) = true) (h2 : (m.pr == 1) = false) (h3 : decide (6 < m.pr) = false) (k : Int) (hk : mkZ 1 m.pr = k) (h4 : coB p (enL m.f m.t ++ leF k) = true) : Calls Tryd.prog 28 #[.agg (posA p), .agg (mvA m)] w (StL (bz (plT p m)) w) := by
  have HFp := Lib.hid hp
  have HFm := Lib.hid hm
  have HSm := Lib.hid hs
  have HG := Lib.hid hG
  have HB := Lib.hid (Below.refl w.heap.size w)
  obtain ⟨q, hq⟩ : ∃ q, bz (enL m.f m.t) = q := ⟨_, rfl⟩
  have HQ := Lib.hid hq
  have hqe : q.toList.isEmpty = false := by
    rw [← hq, bz_toList]
    exact List.isEmpty_eq_false_iff.2 (enL_ne h1)
  have HK := Lib.hid hk
  have HKr := Lib.hid (show 0 ≤ k ∧ k ≤ 255 by rw [← hk]; have := mk_rng 1 m.pr (by decide); omega)
  obtain ⟨l, hl⟩ : ∃ l, letZ k = l := ⟨_, rfl⟩
  have HL := Lib.hid hl
  have HT := Lib.hid (show bz (enL m.f m.t ++ leF k) = q ++ l by rw [← hq, ← hl, leF_bz, bz_app])
  have HLn := Lib.hid (show (enL m.f m.t ++ leF k).length ≤ 10000 by
    have h1 := enL_len m.f m.t
    have h2 := leF_len k
    rw [List.length_append]; omega)
  have HC := Lib.hid h4
  obtain ⟨cm, hcm⟩ : ∃ cm, coM p (enL m.f m.t ++ leF k) = cm := ⟨_, rfl⟩
  have HCm := Lib.hid hcm
  have qs : q.size ≤ 4 := by rw [← hq, bz_size]; exact enL_len m.f m.t
  have ls : l.size ≤ 1 := by rw [← hl, leF_bz, bz_size]; exact leF_len k
  have k1 : ¬ (9223372036854775807 < q.size + l.size) := by omega
  have HS := Lib.hid (show plT p m = [] by unfold plT; rw [h1, h2, h3, hk, h4]; rfl)
  clear h1 h4 hk hl hq hp hm hs hG hcm qs ls
  go_enter Tryd.func28, Tryd.ntmps28
  go_wp2_with (first
      | (refine step_box rfl _ rfl p rfl ?_; intro b0 w1 N R; have HB := Lib.hid (HB.out.trans (N.below.mono HB.out.size)); have HR := Lib.hid R; clear N R)
      | (refine blk_box rfl 33 _ rfl (mvA m) rfl ?_; intro b1 w2 N R; have HR := Lib.hid (HR.out.later N.below); have HB := Lib.hid (HB.out.trans (N.below.mono HB.out.size)); have HM := Lib.hid R; clear N R)
      | (refine step_get rfl 26 _ rfl b1 0 rfl Tryd.underlying26 rfl (.int .i8 m.f) ?_ ?_; exact HM.out.cell 0)
      | (refine step_get rfl 26 _ rfl b1 1 rfl Tryd.underlying26 rfl (.int .i8 m.t) ?_ ?_; exact HM.out.cell 1)
      | (go_at_call 41; refine (ends_any m.f m.t _ HFm.out.f HFm.out.t).mono ?_; rintro e w3 ⟨rfl, hb⟩; rw [HQ.out]; have HR := Lib.hid (HR.out.later hb); have HM := Lib.hid (HM.out.later hb); have HB := Lib.hid (below_on HB.out hb); clear hb)
      | (refine step_get rfl 5 _ rfl b1 2 rfl Tryd.underlying5 rfl (.int .u8 m.pr) ?_ ?_; exact HM.out.cell 2)
      | (go_at_call 38; refine (mk_any 1 m.pr _ (by decide) HFm.out.pr.1).mono ?_; rintro e w4 ⟨rfl, rfl⟩; rw [HK.out])
      | (go_at_call 37; refine (let_any k _ HKr.out.1 HKr.out.2).mono ?_; rintro e w4 ⟨rfl, rfl⟩; rw [HL.out])
      | (refine step_load rfl _ rfl b0 rfl p HR.out ?_)
      | (go_at_call 16; rw [← HT.out]; refine (cof_any p (enL m.f m.t ++ leF k) _ HLn.out HFp.out HSm.out (HG.out.on HB.out)).mono ?_; rintro e w4 ⟨rfl, hb⟩; rw [HC.out, HCm.out]; have HR := Lib.hid (HR.out.later hb); have HM := Lib.hid (HM.out.later hb); have HB := Lib.hid (below_on HB.out hb); clear hb)
      | (refine blk_alloc rfl 33 rfl (mvA mv0) zeroMv ?_; intro b2 w4 N R; have HG2 := Lib.hid (show w.heap.size ≤ b2 by rw [N.at_]; exact HB.out.size); have HDHR2 := Lib.hid (show b0 ≠ b2 by rw [N.at_]; exact Nat.ne_of_lt HR.out.lt); have HDHM2 := Lib.hid (show b1 ≠ b2 by rw [N.at_]; exact Nat.ne_of_lt HM.out.lt); have HR := Lib.hid (HR.out.later N.below); have HM := Lib.hid (HM.out.later N.below); have HB := Lib.hid (HB.out.trans (N.below.mono HB.out.size)); have HX := Lib.hid R; clear N R)
      | (refine blk_store rfl 33 _ _ rfl b2 rfl (mvA mv0) (mvA cm) rfl ?_ rfl (mv_one _) sizeMv ?_; exact HX.out; intro w5 U R; have HR := Lib.hid (HR.out.apart U HDHR2.out); have HM := Lib.hid (HM.out.apart U HDHM2.out); have HB := Lib.hid (HB.out.trans (U.below HG2.out)); have HX := Lib.hid R; clear U R))
  go_ret
  exact ⟨by rw [HS.out]; rfl, HB.out⟩
set_option maxRecDepth 100000 in
set_option maxHeartbeats 400000 in
theorem plT_w4 (p : Nat → Int) (m : Mv) (w : World) (hp : FitM p) (hm : FitV m) (hs : smB p = true) (hG : TabGo w) (h1 : (sqB m.f && sqB m.t && (m.f != m.t)) = true) (h2 : (m.pr == 1) = false) (h3 : decide (6 < m.pr) = false) (k : Int) (hk : mkZ 1 m.pr = k) (h4 : coB p (enL m.f m.t ++ leF k) = false) : Calls Tryd.prog 28 #[.agg (posA p), .agg (mvA m)] w (StL (bz (plT p m)) w) := by
  have HFp := Lib.hid hp
  have HFm := Lib.hid hm
  have HSm := Lib.hid hs
  have HG := Lib.hid hG
  have HB := Lib.hid (Below.refl w.heap.size w)
  obtain ⟨q, hq⟩ : ∃ q, bz (enL m.f m.t) = q := ⟨_, rfl⟩
  have HQ := Lib.hid hq
  have hqe : q.toList.isEmpty = false := by
    rw [← hq, bz_toList]
    exact List.isEmpty_eq_false_iff.2 (enL_ne h1)
  have HK := Lib.hid hk
  have HKr := Lib.hid (show 0 ≤ k ∧ k ≤ 255 by rw [← hk]; have := mk_rng 1 m.pr (by decide); omega)
  obtain ⟨l, hl⟩ : ∃ l, letZ k = l := ⟨_, rfl⟩
  have HL := Lib.hid hl
  have HT := Lib.hid (show bz (enL m.f m.t ++ leF k) = q ++ l by rw [← hq, ← hl, leF_bz, bz_app])
  have HLn := Lib.hid (show (enL m.f m.t ++ leF k).length ≤ 10000 by
    have h1 := enL_len m.f m.t
    have h2 := leF_len k
    rw [List.length_append]; omega)
  have HC := Lib.hid h4
  obtain ⟨cm, hcm⟩ : ∃ cm, coM p (enL m.f m.t ++ leF k) = cm := ⟨_, rfl⟩
  have HCm := Lib.hid hcm
  have qs : q.size ≤ 4 := by rw [← hq, bz_size]; exact enL_len m.f m.t
  have ls : l.size ≤ 1 := by rw [← hl, leF_bz, bz_size]; exact leF_len k
  have k1 : ¬ (9223372036854775807 < q.size + l.size) := by omega
  have HS := Lib.hid (show bz (plT p m) = q ++ l by unfold plT; rw [h1, h2, h3, hk, h4, ← hq, ← hl, leF_bz, bz_app]; rfl)
  clear h1 h4 hk hl hq hp hm hs hG hcm qs ls
  go_enter Tryd.func28, Tryd.ntmps28
  go_wp2_with (first
      | (refine step_box rfl _ rfl p rfl ?_; intro b0 w1 N R; have HB := Lib.hid (HB.out.trans (N.below.mono HB.out.size)); have HR := Lib.hid R; clear N R)
      | (refine blk_box rfl 33 _ rfl (mvA m) rfl ?_; intro b1 w2 N R; have HR := Lib.hid (HR.out.later N.below); have HB := Lib.hid (HB.out.trans (N.below.mono HB.out.size)); have HM := Lib.hid R; clear N R)
      | (refine step_get rfl 26 _ rfl b1 0 rfl Tryd.underlying26 rfl (.int .i8 m.f) ?_ ?_; exact HM.out.cell 0)
      | (refine step_get rfl 26 _ rfl b1 1 rfl Tryd.underlying26 rfl (.int .i8 m.t) ?_ ?_; exact HM.out.cell 1)
      | (go_at_call 41; refine (ends_any m.f m.t _ HFm.out.f HFm.out.t).mono ?_; rintro e w3 ⟨rfl, hb⟩; rw [HQ.out]; have HR := Lib.hid (HR.out.later hb); have HM := Lib.hid (HM.out.later hb); have HB := Lib.hid (below_on HB.out hb); clear hb)
      | (refine step_get rfl 5 _ rfl b1 2 rfl Tryd.underlying5 rfl (.int .u8 m.pr) ?_ ?_; exact HM.out.cell 2)
      | (go_at_call 38; refine (mk_any 1 m.pr _ (by decide) HFm.out.pr.1).mono ?_; rintro e w4 ⟨rfl, rfl⟩; rw [HK.out])
      | (go_at_call 37; refine (let_any k _ HKr.out.1 HKr.out.2).mono ?_; rintro e w4 ⟨rfl, rfl⟩; rw [HL.out])
      | (refine step_load rfl _ rfl b0 rfl p HR.out ?_)
      | (go_at_call 16; rw [← HT.out]; refine (cof_any p (enL m.f m.t ++ leF k) _ HLn.out HFp.out HSm.out (HG.out.on HB.out)).mono ?_; rintro e w4 ⟨rfl, hb⟩; rw [HC.out, HCm.out]; have HR := Lib.hid (HR.out.later hb); have HM := Lib.hid (HM.out.later hb); have HB := Lib.hid (below_on HB.out hb); clear hb)
      | (refine blk_alloc rfl 33 rfl (mvA mv0) zeroMv ?_; intro b2 w4 N R; have HG2 := Lib.hid (show w.heap.size ≤ b2 by rw [N.at_]; exact HB.out.size); have HDHR2 := Lib.hid (show b0 ≠ b2 by rw [N.at_]; exact Nat.ne_of_lt HR.out.lt); have HDHM2 := Lib.hid (show b1 ≠ b2 by rw [N.at_]; exact Nat.ne_of_lt HM.out.lt); have HR := Lib.hid (HR.out.later N.below); have HM := Lib.hid (HM.out.later N.below); have HB := Lib.hid (HB.out.trans (N.below.mono HB.out.size)); have HX := Lib.hid R; clear N R)
      | (refine blk_store rfl 33 _ _ rfl b2 rfl (mvA mv0) (mvA cm) rfl ?_ rfl (mv_one _) sizeMv ?_; exact HX.out; intro w5 U R; have HR := Lib.hid (HR.out.apart U HDHR2.out); have HM := Lib.hid (HM.out.apart U HDHM2.out); have HB := Lib.hid (HB.out.trans (U.below HG2.out)); have HX := Lib.hid R; clear U R))
  go_ret
  exact ⟨by rw [HS.out, ← HT.out]; rfl, HB.out⟩
theorem plT_any (p : Nat → Int) (m : Mv) (w : World) (hp : FitM p) (hm : FitV m) (hs : smB p = true) (hG : TabGo w) : Calls Tryd.prog 28 #[.agg (posA p), .agg (mvA m)] w (StL (bz (plT p m)) w) := by
  cases h1 : (sqB m.f && sqB m.t && (m.f != m.t))
  · exact plT_w0 p m w hp hm hs hG h1
  · cases h2 : (m.pr == 1)
    · cases h3 : decide (6 < m.pr)
      · cases h4 : coB p (enL m.f m.t ++ leF (mkZ 1 m.pr))
        · exact plT_w4 p m w hp hm hs hG h1 h2 h3 _ rfl h4
        · exact plT_w3 p m w hp hm hs hG h1 h2 h3 _ rfl h4
      · exact plT_w2 p m w hp hm hs hG h1 h2 h3
    · exact plT_w1 p m w hp hm hs hG h1 h2
set_option maxRecDepth 100000 in
set_option maxHeartbeats 400000 in
theorem text_w0 (p : Nat → Int) (m : Mv) (w : World) (hp : FitM p) (hm : FitV m) (hG : TabGo w) (h0 : smB p = false) : Calls Tryd.prog 14 #[.agg (posA p), .agg (mvA m)] w (StL (bz (mvT p m)) w) := by
  have HFp := Lib.hid hp
  have HFm := Lib.hid hm
  have HG := Lib.hid hG
  have HB := Lib.hid (Below.refl w.heap.size w)
  have H0 := Lib.hid h0
  have HS := Lib.hid (show mvT p m = [] by unfold mvT; rw [h0]; rfl)
  clear h0 hp hm hG
  go_enter Tryd.func14, Tryd.ntmps14
  go_wp2_with (first
      | (refine step_box rfl _ rfl p rfl ?_; intro b0 w1 N R; have HB := Lib.hid (HB.out.trans (N.below.mono HB.out.size)); have HR := Lib.hid R; clear N R)
      | (refine blk_box rfl 33 _ rfl (mvA m) rfl ?_; intro b1 w2 N R; have HR := Lib.hid (HR.out.later N.below); have HB := Lib.hid (HB.out.trans (N.below.mono HB.out.size)); have HM := Lib.hid R; clear N R)
      | (refine step_load rfl _ rfl b0 rfl p HR.out ?_)
      | (go_at_call 6; refine (some_any p _).mono ?_; rintro e w3 ⟨rfl, hb⟩; rw [H0.out]; have HR := Lib.hid (HR.out.later hb); have HM := Lib.hid (HM.out.later hb); have HB := Lib.hid (below_on HB.out hb); clear hb))
  go_ret
  exact ⟨by rw [HS.out]; rfl, HB.out⟩
set_option maxRecDepth 100000 in
set_option maxHeartbeats 400000 in
theorem text_w1 (p : Nat → Int) (m : Mv) (w : World) (hp : FitM p) (hm : FitV m) (hG : TabGo w) (h0 : smB p = true) (h1 : (m.dr != 0) = true) : Calls Tryd.prog 14 #[.agg (posA p), .agg (mvA m)] w (StL (bz (mvT p m)) w) := by
  have HFp := Lib.hid hp
  have HFm := Lib.hid hm
  have HG := Lib.hid hG
  have HB := Lib.hid (Below.refl w.heap.size w)
  have H0 := Lib.hid h0
  have HS := Lib.hid (show mvT p m = drT m by unfold mvT; rw [h0, h1]; rfl)
  clear h0 hp hm hG
  go_enter Tryd.func14, Tryd.ntmps14
  go_wp2_with (first
      | (refine step_box rfl _ rfl p rfl ?_; intro b0 w1 N R; have HB := Lib.hid (HB.out.trans (N.below.mono HB.out.size)); have HR := Lib.hid R; clear N R)
      | (refine blk_box rfl 33 _ rfl (mvA m) rfl ?_; intro b1 w2 N R; have HR := Lib.hid (HR.out.later N.below); have HB := Lib.hid (HB.out.trans (N.below.mono HB.out.size)); have HM := Lib.hid R; clear N R)
      | (refine step_load rfl _ rfl b0 rfl p HR.out ?_)
      | (go_at_call 6; refine (some_any p _).mono ?_; rintro e w3 ⟨rfl, hb⟩; rw [H0.out]; have HR := Lib.hid (HR.out.later hb); have HM := Lib.hid (HM.out.later hb); have HB := Lib.hid (below_on HB.out hb); clear hb)
      | (refine step_get rfl 5 _ rfl b1 3 rfl Tryd.underlying5 rfl (.int .u8 m.dr) ?_ ?_; exact HM.out.cell 3)
      | (refine blk_load rfl 33 _ rfl b1 rfl (mvA m) HM.out _ Tryd.underlying33 rfl sizeMv ?_)
      | (go_at_call 26; refine (drop_any m _ HFm.out).mono ?_; rintro e w4 ⟨rfl, hb⟩; have HR := Lib.hid (HR.out.later hb); have HM := Lib.hid (HM.out.later hb); have HB := Lib.hid (below_on HB.out hb); clear hb))
  go_ret
  exact ⟨by rw [HS.out]; rfl, HB.out⟩
set_option maxRecDepth 100000 in
set_option maxHeartbeats 400000 in
theorem text_w2 (p : Nat → Int) (m : Mv) (w : World) (hp : FitM p) (hm : FitV m) (hG : TabGo w) (h0 : smB p = true) (h1 : (m.dr != 0) = false) (h2 : m.ca = true) : Calls Tryd.prog 14 #[.agg (posA p), .agg (mvA m)] w (StL (bz (mvT p m)) w) := by
  have HFp := Lib.hid hp
  have HFm := Lib.hid hm
  have HG := Lib.hid hG
  have HB := Lib.hid (Below.refl w.heap.size w)
  have H0 := Lib.hid h0
  have HZ := Lib.hid (show m.dr = 0 by simpa using h1)
  have HCa := Lib.hid h2
  have HS := Lib.hid (show mvT p m = csT p m by unfold mvT; rw [h0, h1, h2]; rfl)
  clear h0 h1 h2 hp hm hG
  go_enter Tryd.func14, Tryd.ntmps14
  go_wp2_with (first
      | (refine step_box rfl _ rfl p rfl ?_; intro b0 w1 N R; have HB := Lib.hid (HB.out.trans (N.below.mono HB.out.size)); have HR := Lib.hid R; clear N R)
      | (refine blk_box rfl 33 _ rfl (mvA m) rfl ?_; intro b1 w2 N R; have HR := Lib.hid (HR.out.later N.below); have HB := Lib.hid (HB.out.trans (N.below.mono HB.out.size)); have HM := Lib.hid R; clear N R)
      | (refine step_load rfl _ rfl b0 rfl p HR.out ?_)
      | (go_at_call 6; refine (some_any p _).mono ?_; rintro e w3 ⟨rfl, hb⟩; rw [H0.out]; have HR := Lib.hid (HR.out.later hb); have HM := Lib.hid (HM.out.later hb); have HB := Lib.hid (below_on HB.out hb); clear hb)
      | (refine step_get rfl 5 _ rfl b1 3 rfl Tryd.underlying5 rfl (.int .u8 0) ?_ ?_; exact (HM.out.cell 3).trans (by show some (Value.int IntKind.u8 m.dr) = _; rw [HZ.out]))
      | (refine step_get rfl 4 _ rfl b1 4 rfl Tryd.underlying4 rfl (.bool true) ?_ ?_; exact (HM.out.cell 4).trans (by show some (Value.bool m.ca) = _; rw [HCa.out]))
      | (refine blk_load rfl 33 _ rfl b1 rfl (mvA m) HM.out _ Tryd.underlying33 rfl sizeMv ?_)
      | (go_at_call 27; refine (csT_any p m _ HFp.out HFm.out H0.out (HG.out.on HB.out)).mono ?_; rintro e w4 ⟨rfl, hb⟩; have HR := Lib.hid (HR.out.later hb); have HM := Lib.hid (HM.out.later hb); have HB := Lib.hid (below_on HB.out hb); clear hb))
  go_ret
  exact ⟨by rw [HS.out]; rfl, HB.out⟩
set_option maxRecDepth 100000 in
set_option maxHeartbeats 400000 in
theorem text_w3 (p : Nat → Int) (m : Mv) (w : World) (hp : FitM p) (hm : FitV m) (hG : TabGo w) (h0 : smB p = true) (h1 : (m.dr != 0) = false) (h2 : m.ca = false) : Calls Tryd.prog 14 #[.agg (posA p), .agg (mvA m)] w (StL (bz (mvT p m)) w) := by
  have HFp := Lib.hid hp
  have HFm := Lib.hid hm
  have HG := Lib.hid hG
  have HB := Lib.hid (Below.refl w.heap.size w)
  have H0 := Lib.hid h0
  have HZ := Lib.hid (show m.dr = 0 by simpa using h1)
  have HCa := Lib.hid h2
  have HS := Lib.hid (show mvT p m = plT p m by unfold mvT; rw [h0, h1, h2]; rfl)
  clear h0 h1 h2 hp hm hG
  go_enter Tryd.func14, Tryd.ntmps14
  go_wp2_with (first
      | (refine step_box rfl _ rfl p rfl ?_; intro b0 w1 N R; have HB := Lib.hid (HB.out.trans (N.below.mono HB.out.size)); have HR := Lib.hid R; clear N R)
      | (refine blk_box rfl 33 _ rfl (mvA m) rfl ?_; intro b1 w2 N R; have HR := Lib.hid (HR.out.later N.below); have HB := Lib.hid (HB.out.trans (N.below.mono HB.out.size)); have HM := Lib.hid R; clear N R)
      | (refine step_load rfl _ rfl b0 rfl p HR.out ?_)
      | (go_at_call 6; refine (some_any p _).mono ?_; rintro e w3 ⟨rfl, hb⟩; rw [H0.out]; have HR := Lib.hid (HR.out.later hb); have HM := Lib.hid (HM.out.later hb); have HB := Lib.hid (below_on HB.out hb); clear hb)
      | (refine step_get rfl 5 _ rfl b1 3 rfl Tryd.underlying5 rfl (.int .u8 0) ?_ ?_; exact (HM.out.cell 3).trans (by show some (Value.int IntKind.u8 m.dr) = _; rw [HZ.out]))
      | (refine step_get rfl 4 _ rfl b1 4 rfl Tryd.underlying4 rfl (.bool false) ?_ ?_; exact (HM.out.cell 4).trans (by show some (Value.bool m.ca) = _; rw [HCa.out]))
      | (refine blk_load rfl 33 _ rfl b1 rfl (mvA m) HM.out _ Tryd.underlying33 rfl sizeMv ?_)
      | (go_at_call 28; refine (plT_any p m _ HFp.out HFm.out H0.out (HG.out.on HB.out)).mono ?_; rintro e w4 ⟨rfl, hb⟩; have HR := Lib.hid (HR.out.later hb); have HM := Lib.hid (HM.out.later hb); have HB := Lib.hid (below_on HB.out hb); clear hb))
  go_ret
  exact ⟨by rw [HS.out]; rfl, HB.out⟩
theorem mvText_any (p : Nat → Int) (m : Mv) (w : World) (hp : FitM p) (hm : FitV m) (hG : TabGo w) : Calls Tryd.prog 14 #[.agg (posA p), .agg (mvA m)] w (StL (bz (mvT p m)) w) := by
  cases h0 : smB p
  · exact text_w0 p m w hp hm hG h0
  · cases h1 : (m.dr != 0)
    · cases h2 : m.ca
      · exact text_w3 p m w hp hm hG h0 h1 h2
      · exact text_w2 p m w hp hm hG h0 h1 h2
    · exact text_w1 p m w hp hm hG h0 h1
set_option maxRecDepth 100000 in
set_option maxHeartbeats 400000 in
theorem rplain_any (l : List UInt8) (w : World) (hl : l.length ≤ 10000) : Calls Tryd.prog 17 #[.string (bz l)] w (MvL (plM l) w) := by
  have HB := Lib.hid (Below.refl w.heap.size w)
  obtain ⟨t, ht⟩ : ∃ t, bz l = t := ⟨_, rfl⟩
  obtain ⟨rr, hrr⟩ : ∃ rr, (rdE l).2 = rr := ⟨_, rfl⟩
  obtain ⟨rs, hrs⟩ : ∃ rs, bz rr = rs := ⟨_, rfl⟩
  have hmk := rdE_mk l
  obtain ⟨x, hx⟩ : ∃ x, (rdE l).1.f = x := ⟨_, rfl⟩
  obtain ⟨y, hy⟩ : ∃ y, (rdE l).1.t = y := ⟨_, rfl⟩
  rw [hx, hy] at hmk
  have HE := Lib.hid (show ∀ w, Calls Tryd.prog 29 #[.string t] w (MvS ⟨x, y, 0, 0, false⟩ rs w) from fun w => by rw [← ht, ← hmk, ← hrs, ← hrr]; exact rends_any l w hl)
  have HRs := Lib.hid hrs
  obtain ⟨kd, hkd⟩ : ∃ kd, kdL rr = kd := ⟨_, rfl⟩
  have HKd := Lib.hid hkd
  have HS := Lib.hid (show plM l = ⟨x, y, kd, 0, false⟩ by unfold plM; rw [hx, hy, hrr, hkd])
  rw [ht, HS.out]
  clear ht hrr hrs hmk hx hy hkd hl HS
  go_enter Tryd.func17, Tryd.ntmps17
  go_wp2_with (first
      | (refine blk_alloc rfl 33 rfl (mvA mv0) zeroMv ?_; intro b1 w2 N R; have HG1 := Lib.hid (show w.heap.size ≤ b1 by rw [N.at_]; exact HB.out.size); have HB := Lib.hid (HB.out.trans (N.below.mono HB.out.size)); have HQ := Lib.hid R; clear N R))
  refine (HE.out _).mono ?_; rintro e w3 ⟨rfl, hb⟩; have HQ := Lib.hid (HQ.out.later hb); have HB := Lib.hid (below_on HB.out hb); clear hb
  go_wp2_with (first
      | (refine blk_alloc rfl 33 rfl (mvA mv0) zeroMv ?_; intro b2 w4 N R; have HG2 := Lib.hid (show w.heap.size ≤ b2 by rw [N.at_]; exact HB.out.size); have HDHQ2 := Lib.hid (show b1 ≠ b2 by rw [N.at_]; exact Nat.ne_of_lt HQ.out.lt); have HQ := Lib.hid (HQ.out.later N.below); have HB := Lib.hid (HB.out.trans (N.below.mono HB.out.size)); have HM := Lib.hid R; clear N R)
      | (refine blk_store rfl 33 _ _ rfl b2 rfl (mvA mv0) (mvA ⟨x, y, 0, 0, false⟩) rfl ?_ rfl (mv_one _) sizeMv ?_; exact HM.out; intro w5 U R; have HQ := Lib.hid (HQ.out.apart U HDHQ2.out); have HB := Lib.hid (HB.out.trans (U.below HG2.out)); have HM := Lib.hid R; clear U R)
      | (go_at_call 32; rw [← HRs.out]; refine (kind_any rr _).mono ?_; rintro e w6 ⟨rfl, rfl⟩; rw [HKd.out])
      | (refine blk_cell rfl 5 _ _ rfl b2 2 rfl .u8 kd rfl 33 (mvA ⟨x, y, 0, 0, false⟩) ?_ (by show 2 < 5; decide) (by kernel_rfl) ?_; exact HM.out; intro w7 U R; have R := (show Blk w7 b2 33 (mvA ⟨x, y, kd, 0, false⟩) from R); have HQ := Lib.hid (HQ.out.apart U HDHQ2.out); have HB := Lib.hid (HB.out.trans (U.below HG2.out)); have HM := Lib.hid R; clear U R)
      | (refine blk_load rfl 33 _ rfl b2 rfl (mvA ⟨x, y, kd, 0, false⟩) HM.out _ Tryd.underlying33 rfl sizeMv ?_)
      | (refine blk_store rfl 33 _ _ rfl b1 rfl (mvA mv0) (mvA ⟨x, y, kd, 0, false⟩) rfl ?_ rfl (mv_one _) sizeMv ?_; exact HQ.out; intro w8 U R; have HB := Lib.hid (HB.out.trans (U.below HG1.out)); have HQ := Lib.hid R; clear U R))
  refine bodyPost_ret (results_mv1 rfl _ _ _ ⟨x, y, kd, 0, false⟩ rfl HQ.out) rfl ⟨rfl, HB.out⟩
set_option maxRecDepth 100000 in
set_option maxHeartbeats 400000 in
theorem rdrop_any (l : List UInt8) (w : World) (hl : l.length ≤ 10000) (hM : TabMv w) : Calls Tryd.prog 18 #[.string (bz l)] w (MvL (drM l) w) := by
  have HB := Lib.hid (Below.refl w.heap.size w)
  have HMx := Lib.hid hM
  obtain ⟨t, ht⟩ : ∃ t, bz l = t := ⟨_, rfl⟩
  obtain ⟨rr, hrr⟩ : ∃ rr, cutA 64 l = rr := ⟨_, rfl⟩
  obtain ⟨rs, hrs⟩ : ∃ rs, bz rr = rs := ⟨_, rfl⟩
  obtain ⟨v, hv⟩ : ∃ v, bz (cutB 64 l) = v := ⟨_, rfl⟩
  have HC := Lib.hid (show ∀ w, TabMv w → Calls Tryd.prog 33 #[.string t, .string ⟨#[64]⟩] w fun e w' => (∃ f, e = .returned (.tuple #[.string rs, .string v, .bool f])) ∧ Below w.heap.size w w' from fun w hM => by
    rw [← ht, ← hrs, ← hrr, ← hv]
    refine (cutM_any 64 l w hl hM).mono ?_
    rintro e w' ⟨h1, n, rfl⟩
    exact ⟨h1, (Below.refl _ _).trans ⟨rfl, rfl, rfl, Nat.le_refl _, fun _ _ => rfl⟩⟩)
  obtain ⟨s, hs⟩ : ∃ s, parseZ v = s := ⟨_, rfl⟩
  have s1 := parseZ_rng v
  rw [hs] at s1
  have HX := Lib.hid hs
  have ws : IntKind.i8.wrap s = s := IntWalk.i8_in s (by omega)
  have HRs := Lib.hid hrs
  obtain ⟨kd, hkd⟩ : ∃ kd, kdL rr = kd := ⟨_, rfl⟩
  have HKd := Lib.hid hkd
  have HS := Lib.hid (show drM l = ⟨s, s, 0, kd, false⟩ by unfold drM; rw [hv, hs, hrr, hkd])
  rw [ht, HS.out]
  clear ht hrr hrs hs hkd hl HS hv s1 hM
  go_enter Tryd.func18, Tryd.ntmps18
  go_wp2_with (first
      | (refine blk_alloc rfl 33 rfl (mvA mv0) zeroMv ?_; intro b1 w2 N R; have HG1 := Lib.hid (show w.heap.size ≤ b1 by rw [N.at_]; exact HB.out.size); have HB := Lib.hid (HB.out.trans (N.below.mono HB.out.size)); have HQ := Lib.hid R; clear N R))
  refine (HC.out _ (HMx.out.on HB.out)).mono ?_; rintro e w3 ⟨⟨f9, rfl⟩, hb⟩; have HQ := Lib.hid (HQ.out.later hb); have HB := Lib.hid (below_on HB.out hb); clear hb
  go_wp2_with (first
      | (go_at_call 34; refine (parse_any v _).mono ?_; rintro e w5 ⟨rfl, hb⟩; rw [HX.out]; have HQ := Lib.hid (HQ.out.later hb); have HB := Lib.hid (below_on HB.out hb); clear hb)
      | (go_at_call 32; rw [← HRs.out]; refine (kind_any rr _).mono ?_; rintro e w6 ⟨rfl, rfl⟩; rw [HKd.out])
      | (refine step_build rfl 33 _ rfl (mvA ⟨s, s, 0, kd, false⟩) (by kernel_rfl) ?_)
      | (refine blk_store rfl 33 _ _ rfl b1 rfl (mvA mv0) (mvA ⟨s, s, 0, kd, false⟩) rfl ?_ rfl (mv_one _) sizeMv ?_; exact HQ.out; intro w8 U R; have HB := Lib.hid (HB.out.trans (U.below HG1.out)); have HQ := Lib.hid R; clear U R))
  refine bodyPost_ret (results_mv1 rfl _ _ _ ⟨s, s, 0, kd, false⟩ rfl HQ.out) rfl ⟨rfl, HB.out⟩
end Go.Proofs.YtnogmogmlilpiaaDoor
