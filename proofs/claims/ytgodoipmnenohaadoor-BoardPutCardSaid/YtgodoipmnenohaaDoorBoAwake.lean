/-
  Layer 6's awake; contracts at known answers.
-/
import Derived.Test.YtgodoipmnenohaaDoorPosW
namespace Go.Proofs.YtgodoipmnenohaaDoor
open Go.RowKit
set_option linter.unusedVariables false
def awP : Nat → Int := upd (upd (upd zeroP 5 6) 52 9) 1 7
theorem awP_wf : WfP awP := ((WfP.zero.upd 4 6 (by decide) (by decide)).upd 51 9 (by decide) (by decide)).upd 0 7 (by decide) (by decide)
theorem at_k {p : Nat → Int} {s v : Int} (h : atZ p s = v) (w : World) (hp : BdR p) : Calls Tryd.prog 11 #[.agg (posA p), .int .i64 s] w (U8L v w) := h ▸ at_any p s w hp
theorem of_k {p : Nat → Int} {c k : Int} {n : Nat} (h : ofN p c k = n) (w : World) (hp : BdR p) : Calls Tryd.prog 13 #[.agg (posA p), .int .u8 c, .int .u8 k] w (U64Post n w) := h ▸ of_any p c k w hp
theorem all_k {p : Nat → Int} {n : Nat} (h : allN p = n) (w : World) (hp : BdR p) : Calls Tryd.prog 14 #[.agg (posA p)] w (U64Post n w) := h ▸ all_set p w hp
theorem find_k {p : Nat → Int} {c k v : Int} (h : firstN (ofN p c k) = v) (w : World) (hp : BdR p) (hD : TabDb w) : Calls Tryd.prog 16 #[.agg (posA p), .int .u8 c, .int .u8 k] w (IntL v w) := h ▸ find_set p c k w hp hD
theorem count_k {p : Nat → Int} {c k v : Int} (h : cntN (ofN p c k) = v) (w : World) (hp : BdR p) : Calls Tryd.prog 18 #[.agg (posA p), .int .u8 c, .int .u8 k] w (IntL v w) := h ▸ count_set p c k w hp
theorem step_row {w : World} {b : Nat} {p q : Nat → Int} (h : Row w b p) (e : posA p = posA q) : Row w b q := by unfold Row at *; rw [h, e]
theorem aw_1 : atZ awP 4 = 6 := by decide +kernel
theorem aw_2 : atZ awP 51 = 9 := by decide +kernel
theorem aw_3 : atZ awP 0 = 0 := by decide +kernel
theorem aw_4 : atZ awP 64 = 0 := by decide +kernel
theorem aw_5 : ofN awP 0 6 = putN 0 4 := by decide +kernel
theorem aw_6 : ofN awP 1 0 = putN 0 51 := by decide +kernel
theorem aw_7 : ofN awP 2 0 = 0 := by decide +kernel
theorem aw_8 : allN awP = putN (putN 0 4) 51 := by decide +kernel
theorem aw_9 : firstN (ofN awP 1 1) = 51 := by decide +kernel
theorem aw_10 : firstN (ofN awP 1 5) = -1 := by decide +kernel
theorem aw_11 : cntN (ofN awP 0 0) = 1 := by decide +kernel
theorem aw_12 : atZ (putP awP 51 5) 51 = 5 := by decide +kernel
theorem aw_13 : atZ (putP awP 4 7) 4 = 6 := by decide +kernel
theorem aw_14 : atZ (mirP awP) 60 = 14 := by decide +kernel
theorem aw_15 : atZ (mirP awP) 11 = 1 := by decide +kernel
set_option maxRecDepth 100000 in
set_option maxHeartbeats 4000000 in
theorem bawake_any (w : World) (hD : TabDb w) : Calls Tryd.prog 24 #[] w (BoL true w) := by
  have HT := Lib.hid hD
  clear hD
  have HW := Lib.hid awP_wf.R
  have HWm := Lib.hid awP_wf.mir.R
  have Z := Lib.hid (show (0 : Nat) < W64 by decide)
  have HQ1 := Lib.hid (awP_wf.put 51 5 (by decide)).R.bd
  have HQ2 := Lib.hid (awP_wf.put 4 7 (by decide)).R.bd
  have K1 := Lib.hid aw_1
  have K2 := Lib.hid aw_2
  have K3 := Lib.hid aw_3
  have K4 := Lib.hid aw_4
  have K5 := Lib.hid aw_5
  have K6 := Lib.hid aw_6
  have K7 := Lib.hid aw_7
  have K8 := Lib.hid aw_8
  have K9 := Lib.hid aw_9
  have K10 := Lib.hid aw_10
  have K11 := Lib.hid aw_11
  have K12 := Lib.hid aw_12
  have K13 := Lib.hid aw_13
  have K14 := Lib.hid aw_14
  have K15 := Lib.hid aw_15
  have HA := Lib.hid (show awP = upd (upd (upd zeroP 5 6) 52 9) 1 7 from rfl)
  go_enter Tryd.func24, Tryd.ntmps24
  go_wp2_with (first
    | (refine step_alloc (op := ⟨some 1, _, _, _, _, _⟩) rfl rfl ?_; intro b1 wn N R; have HR1 := Lib.hid R; have HB := Lib.hid N.below; have HG1 := Lib.hid (Nat.le_of_eq N.at_.symm); clear N R)
    | (refine step_cell (by rfl) 5 _ _ rfl b1 5 rfl .u8 6 rfl _ HR1.out (by omega) rfl size5 ?_; intro wn U R; have HR1 := Lib.hid R; have HB := Lib.hid (HB.out.trans (U.below HG1.out)); clear U R)
    | (refine step_cell (by rfl) 5 _ _ rfl b1 52 rfl .u8 9 rfl _ HR1.out (by omega) rfl size5 ?_; intro wn U R; have HR1 := Lib.hid R; have HB := Lib.hid (HB.out.trans (U.below HG1.out)); clear U R)
    | (refine step_cell (by rfl) 5 _ _ rfl b1 1 rfl .u8 7 rfl _ HR1.out (by omega) rfl size5 ?_; intro wn U R; have HR1 := Lib.hid R; have HB := Lib.hid (HB.out.trans (U.below HG1.out)); clear U R)
    | (refine step_load rfl _ rfl _ rfl awP (show Row _ b1 awP from HR1.out) ?_))
  refine (mirror_any awP _ HW.out (HT.out.on HB.out)).mono ?_; rintro e wn ⟨rfl, hb⟩; have HR1 := Lib.hid (HR1.out.later hb); have HB := Lib.hid (below_on HB.out hb); clear hb
  have HR1 := Lib.hid (show Row _ b1 awP from HR1.out)
  go_wp2_with (first
    | (refine step_alloc (op := ⟨some 2, _, _, _, _, _⟩) rfl rfl ?_; intro b2 wn N R; have HD := Lib.hid (N.ne HR1.out); have HR1 := Lib.hid (N.row HR1.out); have HR2 := Lib.hid R; have HG2 := Lib.hid (show w.heap.size ≤ b2 by have := HB.out.size; have := N.at_; omega); have HB := Lib.hid (below_on HB.out N.below); clear N R)
    | (refine step_store rfl _ _ rfl _ rfl _ (mirP awP) rfl HR2.out ?_; intro wn U R; have HR1 := Lib.hid (HR1.out.apart U HD.out); have HR2 := Lib.hid R; have HB := Lib.hid (HB.out.trans (U.below HG2.out)); clear U R))
  simp only [List.append_eq, List.cons_append, List.nil_append]
  go_wp2_with (first | (refine step_load (by rfl) _ rfl _ rfl awP HR1.out ?_) | (refine step_load (by rfl) _ rfl _ rfl (mirP awP) HR2.out ?_))
  refine (at_k (p := awP) (v := 6) K1.out _ HW.out.bd).mono ?_; rintro e wn ⟨rfl, hb⟩; have HR1 := Lib.hid (HR1.out.later hb); have HR2 := Lib.hid (HR2.out.later hb); have HB := Lib.hid (below_on HB.out hb); clear hb
  go_wp2_with (first | (refine step_load (by rfl) _ rfl _ rfl awP HR1.out ?_) | (refine step_load (by rfl) _ rfl _ rfl (mirP awP) HR2.out ?_))
  refine (at_k (p := awP) (v := 9) K2.out _ HW.out.bd).mono ?_; rintro e wn ⟨rfl, hb⟩; have HR1 := Lib.hid (HR1.out.later hb); have HR2 := Lib.hid (HR2.out.later hb); have HB := Lib.hid (below_on HB.out hb); clear hb
  go_wp2_with (first | (refine step_load (by rfl) _ rfl _ rfl awP HR1.out ?_) | (refine step_load (by rfl) _ rfl _ rfl (mirP awP) HR2.out ?_))
  refine (at_k (p := awP) (v := 0) K3.out _ HW.out.bd).mono ?_; rintro e wn ⟨rfl, hb⟩; have HR1 := Lib.hid (HR1.out.later hb); have HR2 := Lib.hid (HR2.out.later hb); have HB := Lib.hid (below_on HB.out hb); clear hb
  go_wp2_with (first | (refine step_load (by rfl) _ rfl _ rfl awP HR1.out ?_) | (refine step_load (by rfl) _ rfl _ rfl (mirP awP) HR2.out ?_))
  refine (at_k (p := awP) (v := 0) K4.out _ HW.out.bd).mono ?_; rintro e wn ⟨rfl, hb⟩; have HR1 := Lib.hid (HR1.out.later hb); have HR2 := Lib.hid (HR2.out.later hb); have HB := Lib.hid (below_on HB.out hb); clear hb
  go_wp2_with (first | (refine step_load (by rfl) _ rfl _ rfl awP HR1.out ?_) | (refine step_load (by rfl) _ rfl _ rfl (mirP awP) HR2.out ?_))
  refine (of_k (p := awP) (n := putN 0 4) K5.out _ HW.out.bd).mono ?_; rintro e wn ⟨rfl, hb⟩; have HR1 := Lib.hid (HR1.out.later hb); have HR2 := Lib.hid (HR2.out.later hb); have HB := Lib.hid (below_on HB.out hb); clear hb
  go_wp2_with (first | (refine step_load (by rfl) _ rfl _ rfl awP HR1.out ?_) | (refine step_load (by rfl) _ rfl _ rfl (mirP awP) HR2.out ?_))
  refine (put_any 0 _ _ Z.out).mono ?_; rintro e wn ⟨rfl, rfl⟩
  go_wp2_with (first | (refine step_load (by rfl) _ rfl _ rfl awP HR1.out ?_) | (refine step_load (by rfl) _ rfl _ rfl (mirP awP) HR2.out ?_))
  refine (of_k (p := awP) (n := putN 0 51) K6.out _ HW.out.bd).mono ?_; rintro e wn ⟨rfl, hb⟩; have HR1 := Lib.hid (HR1.out.later hb); have HR2 := Lib.hid (HR2.out.later hb); have HB := Lib.hid (below_on HB.out hb); clear hb
  go_wp2_with (first | (refine step_load (by rfl) _ rfl _ rfl awP HR1.out ?_) | (refine step_load (by rfl) _ rfl _ rfl (mirP awP) HR2.out ?_))
  refine (put_any 0 _ _ Z.out).mono ?_; rintro e wn ⟨rfl, rfl⟩
  go_wp2_with (first | (refine step_load (by rfl) _ rfl _ rfl awP HR1.out ?_) | (refine step_load (by rfl) _ rfl _ rfl (mirP awP) HR2.out ?_))
  refine (of_k (p := awP) (n := 0) K7.out _ HW.out.bd).mono ?_; rintro e wn ⟨rfl, hb⟩; have HR1 := Lib.hid (HR1.out.later hb); have HR2 := Lib.hid (HR2.out.later hb); have HB := Lib.hid (below_on HB.out hb); clear hb
  go_wp2_with (first | (refine step_load (by rfl) _ rfl _ rfl awP HR1.out ?_) | (refine step_load (by rfl) _ rfl _ rfl (mirP awP) HR2.out ?_))
  refine (all_k (p := awP) (n := putN (putN 0 4) 51) K8.out _ HW.out.bd).mono ?_; rintro e wn ⟨rfl, hb⟩; have HR1 := Lib.hid (HR1.out.later hb); have HR2 := Lib.hid (HR2.out.later hb); have HB := Lib.hid (below_on HB.out hb); clear hb
  go_wp2_with (first | (refine step_load (by rfl) _ rfl _ rfl awP HR1.out ?_) | (refine step_load (by rfl) _ rfl _ rfl (mirP awP) HR2.out ?_))
  refine (put_any 0 _ _ Z.out).mono ?_; rintro e wn ⟨rfl, rfl⟩
  go_wp2_with (first | (refine step_load (by rfl) _ rfl _ rfl awP HR1.out ?_) | (refine step_load (by rfl) _ rfl _ rfl (mirP awP) HR2.out ?_))
  refine (put_any _ _ _ (putN_lt Z.out _)).mono ?_; rintro e wn ⟨rfl, rfl⟩
  go_wp2_with (first | (refine step_load (by rfl) _ rfl _ rfl awP HR1.out ?_) | (refine step_load (by rfl) _ rfl _ rfl (mirP awP) HR2.out ?_))
  refine (find_k (p := awP) (v := 51) K9.out _ HW.out.bd (HT.out.on HB.out)).mono ?_; rintro e wn ⟨rfl, hb⟩; have HR1 := Lib.hid (HR1.out.later hb); have HR2 := Lib.hid (HR2.out.later hb); have HB := Lib.hid (below_on HB.out hb); clear hb
  go_wp2_with (first | (refine step_load (by rfl) _ rfl _ rfl awP HR1.out ?_) | (refine step_load (by rfl) _ rfl _ rfl (mirP awP) HR2.out ?_))
  refine (find_k (p := awP) (v := -1) K10.out _ HW.out.bd (HT.out.on HB.out)).mono ?_; rintro e wn ⟨rfl, hb⟩; have HR1 := Lib.hid (HR1.out.later hb); have HR2 := Lib.hid (HR2.out.later hb); have HB := Lib.hid (below_on HB.out hb); clear hb
  go_wp2_with (first | (refine step_load (by rfl) _ rfl _ rfl awP HR1.out ?_) | (refine step_load (by rfl) _ rfl _ rfl (mirP awP) HR2.out ?_))
  refine (count_k (p := awP) (v := 1) K11.out _ HW.out.bd).mono ?_; rintro e wn ⟨rfl, hb⟩; have HR1 := Lib.hid (HR1.out.later hb); have HR2 := Lib.hid (HR2.out.later hb); have HB := Lib.hid (below_on HB.out hb); clear hb
  go_wp2_with (first | (refine step_load (by rfl) _ rfl _ rfl awP HR1.out ?_) | (refine step_load (by rfl) _ rfl _ rfl (mirP awP) HR2.out ?_))
  refine (put_pos awP _ _ _ (by decide) (by decide)).mono ?_; rintro e wn ⟨rfl, hb⟩; have HR1 := Lib.hid (HR1.out.later hb); have HR2 := Lib.hid (HR2.out.later hb); have HB := Lib.hid (below_on HB.out hb); clear hb
  go_wp2_with (first | (refine step_load (by rfl) _ rfl _ rfl awP HR1.out ?_) | (refine step_load (by rfl) _ rfl _ rfl (mirP awP) HR2.out ?_))
  refine (at_k (p := putP awP 51 5) (v := 5) K12.out _ HQ1.out).mono ?_; rintro e wn ⟨rfl, hb⟩; have HR1 := Lib.hid (HR1.out.later hb); have HR2 := Lib.hid (HR2.out.later hb); have HB := Lib.hid (below_on HB.out hb); clear hb
  go_wp2_with (first | (refine step_load (by rfl) _ rfl _ rfl awP HR1.out ?_) | (refine step_load (by rfl) _ rfl _ rfl (mirP awP) HR2.out ?_))
  refine (put_pos awP _ _ _ (by decide) (by decide)).mono ?_; rintro e wn ⟨rfl, hb⟩; have HR1 := Lib.hid (HR1.out.later hb); have HR2 := Lib.hid (HR2.out.later hb); have HB := Lib.hid (below_on HB.out hb); clear hb
  go_wp2_with (first | (refine step_load (by rfl) _ rfl _ rfl awP HR1.out ?_) | (refine step_load (by rfl) _ rfl _ rfl (mirP awP) HR2.out ?_))
  refine (at_k (p := putP awP 4 7) (v := 6) K13.out _ HQ2.out).mono ?_; rintro e wn ⟨rfl, hb⟩; have HR1 := Lib.hid (HR1.out.later hb); have HR2 := Lib.hid (HR2.out.later hb); have HB := Lib.hid (below_on HB.out hb); clear hb
  go_wp2_with (first | (refine step_load (by rfl) _ rfl _ rfl awP HR1.out ?_) | (refine step_load (by rfl) _ rfl _ rfl (mirP awP) HR2.out ?_))
  refine (at_k (p := mirP awP) (v := 14) K14.out _ HWm.out.bd).mono ?_; rintro e wn ⟨rfl, hb⟩; have HR1 := Lib.hid (HR1.out.later hb); have HR2 := Lib.hid (HR2.out.later hb); have HB := Lib.hid (below_on HB.out hb); clear hb
  go_wp2_with (first | (refine step_load (by rfl) _ rfl _ rfl awP HR1.out ?_) | (refine step_load (by rfl) _ rfl _ rfl (mirP awP) HR2.out ?_))
  refine (at_k (p := mirP awP) (v := 1) K15.out _ HWm.out.bd).mono ?_; rintro e wn ⟨rfl, hb⟩; have HR1 := Lib.hid (HR1.out.later hb); have HR2 := Lib.hid (HR2.out.later hb); have HB := Lib.hid (below_on HB.out hb); clear hb
  go_wp2_with fail
  go_ret
  exact ⟨rfl, HB.out⟩
end Go.Proofs.YtgodoipmnenohaaDoor
