/-
  The walk of FenClocks.
-/
import Derived.Test.YtkcflknjnefhbaaGreatDoorFnAhead
import Derived.Test.YtkcflknjnefhbaaGreatDoorFnBad
import Derived.Test.YtkcflknjnefhbaaGreatDoorRdBackA
import Derived.Test.YtkcflknjnefhbaaGreatDoorFpBaseB
import Derived.Test.YtkcflknjnefhbaaGreatDoorRdBaseA
import Derived.WalkKit
import Derived.OpenShut
namespace Go.Proofs.YtkcflknjnefhbaaGreatDoor.fenClocks
open Go.RowKit
set_option linter.unusedVariables false
set_option linter.unusedSimpArgs false
theorem fen_short {p : Nat → Int} {s : List UInt8} (h : fenL p = s) : s.length ≤ 200 := by
  subst h
  unfold fenL
  cases hc : (wrB p && decide ((fenT6 p).length ≤ 200))
  · exact Nat.zero_le _
  · rw [Bool.and_eq_true, decide_eq_true_eq] at hc; exact hc.2
theorem clk_none {p : Nat → Int} {h f : Int} (hw : wrB p = true) (hx : (decide (0 ≤ h) && decide (0 ≤ f) && decide (h ≤ 10000) && decide (f ≤ 10000)) = false) : fenL (clkP p h f) = [] := by
  unfold fenL; rw [clk_wr hw, hx]; rfl
theorem fen_at {p : Nat → Int} (h : fenL p ≠ []) : fenL p = hdL p ++ (digL (p 86).toNat ++ 32 :: digL (p 87).toNat) := by
  obtain ⟨hw, _, e⟩ := fenL_text h
  rw [e, fen_hd (wrB_pass hw)]
theorem clk_some {p : Nat → Int} {h f : Int} (hs : fenL p ≠ []) (h0 : 0 ≤ h) (h1 : h ≤ 10000) (f0 : 0 ≤ f) (f1 : f ≤ 10000) (hl : (fenL p).length + 8 ≤ 200) : fenL (clkP p h f) = hdL p ++ (digL h.toNat ++ 32 :: digL f.toNat) := by
  obtain ⟨hw, _, _⟩ := fenL_text hs
  have e1 := fen_at hs
  have hw2 : wrB (clkP p h f) = true := by
    rw [clk_wr hw, decide_eq_true h0, decide_eq_true f0, decide_eq_true h1, decide_eq_true f1]; rfl
  have e2 : fenT6 (clkP p h f) = hdL p ++ (digL h.toNat ++ 32 :: digL f.toNat) := by
    rw [fen_hd (wrB_pass hw2), clk_hd, clkP_half, clkP_full]
  have l1 := dig_len1 (p 86).toNat
  have l2 := dig_len1 (p 87).toNat
  have l3 := dig_len5 (n := h.toNat) (by omega)
  have l4 := dig_len5 (n := f.toNat) (by omega)
  rw [e1] at hl
  unfold fenL
  rw [hw2, e2, decide_eq_true (by simp at hl ⊢; omega)]
  rfl
theorem ahead2 (t : ByteArray) (l : List UInt8) (w : World) (ht : t = bz l) (hl : l.length ≤ 1000000) : Calls Tryz.prog 13 #[.string t, .int .i64 2] w (StL (bz (ahL 2 l)) w) := by
  subst ht
  exact ahead_any l 2 w hl (by decide) (by decide)
theorem digitsI (h : Int) (w : World) (h0 : 0 ≤ h) (h1 : h ≤ 10000) : Calls Tryz.prog 14 #[.int .i64 h] w (StL (bz (digL h.toNat)) w) := by
  obtain ⟨n, rfl⟩ := Int.eq_ofNat_of_zero_le h0
  exact digits_any n w (Nat.lt_of_le_of_lt (show n ≤ 10000 by omega) (by decide))
set_option maxRecDepth 100000 in
set_option maxHeartbeats 1000000 in
theorem clk_wnone (p : Nat → Int) (h f : Int) (w : World) (hF : FitF p) (s : List UInt8) (hs : fenL p = s) (he : s.isEmpty = true) (hM : TabMx w) (hT : TabErr w) (hC : TabCorn w) (hV : TabVar w) (hP : TabPow w) (hK : TabKn w) :
    Calls Tryz.prog 5 #[.agg (posA p), .int .i64 h, .int .i64 f] w (BoL true w) := by
  have HM := Lib.hid hM
  have HT := Lib.hid hT
  have HC := Lib.hid hC
  have HV := Lib.hid hV
  have HP := Lib.hid hP
  have HK := Lib.hid hK
  have HF := Lib.hid hF
  have hsl := fen_short hs
  obtain ⟨y, hy⟩ : ∃ y, bz s = y := ⟨_, rfl⟩
  have hys : y.size = s.length := by rw [← hy, bz_size]
  have hye : y.toList.isEmpty = true := by rw [← hy, bz_toList]; exact he
  have HS := Lib.hid (show bz (fenL p) = y by rw [hs]; exact hy)
  clear hM hT hC hV hP hK hF hs hy hsl he hys
  have HOnce := Lib.hid trivial
  have HOnceA := Lib.hid trivial
  have HOnceD := Lib.hid trivial
  go_enter Tryz.func5, Tryz.ntmps5
  go_wp2_with (first
    | (refine step_box rfl _ rfl p rfl ?_; intro b0 w1 N R; have HG0 := Lib.hid (show w.heap.size ≤ b0 from Nat.le_of_eq N.at_.symm); have HB := Lib.hid N.below; have HR := Lib.hid R; clear N R)
    | (go_at_call 11; refine (fawake_any _ (HM.out.on HB.out) (HT.out.on HB.out) (HC.out.on HB.out) (HV.out.on HB.out) (HP.out.on HB.out) (HK.out.on HB.out)).mono ?_; rintro e w2 ⟨rfl, hb⟩; have HR := Lib.hid (HR.out.later hb); have HB := Lib.hid (HB.out.trans (hb.mono HB.out.size)); clear hb)
    | (refine step_load rfl _ rfl b0 rfl p ?_ ?_; exact HR.out)
    | (go_at_call 12; clear HOnce; refine (print_any p _ HF.out (HV.out.on HB.out) (HC.out.on HB.out) (HP.out.on HB.out)).mono ?_; rintro e w3 ⟨rfl, hb⟩; rw [HS.out]; have HR := Lib.hid (HR.out.later hb); have HB := Lib.hid (HB.out.trans (hb.mono HB.out.size)); clear hb))
  exact bodyPost_ret (results_tmp rfl _ _ _) rfl ⟨rfl, HB.out⟩
set_option maxRecDepth 100000 in
set_option maxHeartbeats 1000000 in
theorem clk_wb0 (p : Nat → Int) (h f : Int) (w : World) (hF : FitF p) (s : List UInt8) (hs : fenL p = s) (he : s.isEmpty = false) (c0 : decide (h < 0) = true) (hM : TabMx w) (hT : TabErr w) (hC : TabCorn w) (hV : TabVar w) (hP : TabPow w) (hK : TabKn w) :
    Calls Tryz.prog 5 #[.agg (posA p), .int .i64 h, .int .i64 f] w (BoL true w) := by
  have HM := Lib.hid hM
  have HT := Lib.hid hT
  have HC := Lib.hid hC
  have HV := Lib.hid hV
  have HP := Lib.hid hP
  have HK := Lib.hid hK
  have HF := Lib.hid hF
  have hsl := fen_short hs
  obtain ⟨y, hy⟩ : ∃ y, bz s = y := ⟨_, rfl⟩
  have hys : y.size = s.length := by rw [← hy, bz_size]
  have hye : y.toList.isEmpty = false := by rw [← hy, bz_toList]; exact he
  have HS := Lib.hid (show bz (fenL p) = y by rw [hs]; exact hy)
  have hne : fenL p ≠ [] := by rw [hs]; intro e; rw [e] at he; cases he
  have e2 : fenL (clkP p h f) = [] := clk_none (fenL_text hne).1 (by
    have g := of_decide_eq_true c0
    rw [decide_eq_false (show ¬ 0 ≤ h by omega)]; rfl)
  have HS2 := Lib.hid (show bz (fenL (clkP p h f)) = ⟨#[]⟩ by rw [e2]; rfl)
  clear e2
  clear hne
  clear hM hT hC hV hP hK hF hs hy hsl he hys
  have HOnce := Lib.hid trivial
  have HOnceA := Lib.hid trivial
  have HOnceD := Lib.hid trivial
  go_enter Tryz.func5, Tryz.ntmps5
  go_wp2_with (first
    | (refine step_box rfl _ rfl p rfl ?_; intro b0 w1 N R; have HG0 := Lib.hid (show w.heap.size ≤ b0 from Nat.le_of_eq N.at_.symm); have HB := Lib.hid N.below; have HR := Lib.hid R; clear N R)
    | (go_at_call 11; refine (fawake_any _ (HM.out.on HB.out) (HT.out.on HB.out) (HC.out.on HB.out) (HV.out.on HB.out) (HP.out.on HB.out) (HK.out.on HB.out)).mono ?_; rintro e w2 ⟨rfl, hb⟩; have HR := Lib.hid (HR.out.later hb); have HB := Lib.hid (HB.out.trans (hb.mono HB.out.size)); clear hb)
    | (refine step_load rfl _ rfl b0 rfl p ?_ ?_; exact HR.out)
    | (go_at_call 12; clear HOnce; refine (print_any p _ HF.out (HV.out.on HB.out) (HC.out.on HB.out) (HP.out.on HB.out)).mono ?_; rintro e w3 ⟨rfl, hb⟩; rw [HS.out]; have HR := Lib.hid (HR.out.later hb); have HB := Lib.hid (HB.out.trans (hb.mono HB.out.size)); clear hb)
    | (refine step_alloc rfl rfl ?_; intro b1 w5 N R; have HG1 := Lib.hid (show w.heap.size ≤ b1 by rw [N.at_]; exact HB.out.size); have HR1 := Lib.hid R; have HB := Lib.hid (HB.out.trans (N.below.mono HB.out.size)); clear N R)
    | (refine step_store rfl _ _ rfl b1 rfl zeroP p rfl ?_ ?_; exact HR1.out; intro w6 U R; have HR1 := Lib.hid R; have HB := Lib.hid (HB.out.trans (U.below HG1.out)); clear U R)
    | (refine step_cell rfl 3 _ _ rfl b1 86 rfl .i64 h rfl p ?_ (by decide) rfl (by kernel_rfl) ?_; exact HR1.out; intro w7 U R; have HR1 := Lib.hid R; have HB := Lib.hid (HB.out.trans (U.below HG1.out)); clear U R)
    | (refine step_cell rfl 3 _ _ rfl b1 87 rfl .i64 f rfl (upd p 86 h) ?_ (by decide) rfl (by kernel_rfl) ?_; exact HR1.out; intro w8 U R; have HR1 := Lib.hid (show Row w8 b1 (clkP p h f) from R); have HB := Lib.hid (HB.out.trans (U.below HG1.out)); clear U R)
    | (refine step_load rfl _ rfl b1 rfl (clkP p h f) ?_ ?_; exact HR1.out)
    | (go_at_call 12; refine (print_any (clkP p h f) _ (HF.out.clk h f) (HV.out.on HB.out) (HC.out.on HB.out) (HP.out.on HB.out)).mono ?_; rintro e w9 ⟨rfl, hb⟩; rw [HS2.out]; have HR1 := Lib.hid (HR1.out.later hb); have HB := Lib.hid (HB.out.trans (hb.mono HB.out.size)); clear hb))
  exact bodyPost_ret (results_tmp rfl _ _ _) rfl ⟨by simp, HB.out⟩
set_option maxRecDepth 100000 in
set_option maxHeartbeats 1000000 in
theorem clk_wb1 (p : Nat → Int) (h f : Int) (w : World) (hF : FitF p) (s : List UInt8) (hs : fenL p = s) (he : s.isEmpty = false) (c0 : decide (h < 0) = false) (c1 : decide (f < 0) = true) (hM : TabMx w) (hT : TabErr w) (hC : TabCorn w) (hV : TabVar w) (hP : TabPow w) (hK : TabKn w) :
    Calls Tryz.prog 5 #[.agg (posA p), .int .i64 h, .int .i64 f] w (BoL true w) := by
  have HM := Lib.hid hM
  have HT := Lib.hid hT
  have HC := Lib.hid hC
  have HV := Lib.hid hV
  have HP := Lib.hid hP
  have HK := Lib.hid hK
  have HF := Lib.hid hF
  have hsl := fen_short hs
  obtain ⟨y, hy⟩ : ∃ y, bz s = y := ⟨_, rfl⟩
  have hys : y.size = s.length := by rw [← hy, bz_size]
  have hye : y.toList.isEmpty = false := by rw [← hy, bz_toList]; exact he
  have HS := Lib.hid (show bz (fenL p) = y by rw [hs]; exact hy)
  have hne : fenL p ≠ [] := by rw [hs]; intro e; rw [e] at he; cases he
  have e2 : fenL (clkP p h f) = [] := clk_none (fenL_text hne).1 (by
    have g := of_decide_eq_true c1
    rw [decide_eq_false (show ¬ 0 ≤ f by omega), Bool.and_false]; rfl)
  have HS2 := Lib.hid (show bz (fenL (clkP p h f)) = ⟨#[]⟩ by rw [e2]; rfl)
  clear e2
  clear hne
  clear hM hT hC hV hP hK hF hs hy hsl he hys
  have HOnce := Lib.hid trivial
  have HOnceA := Lib.hid trivial
  have HOnceD := Lib.hid trivial
  go_enter Tryz.func5, Tryz.ntmps5
  go_wp2_with (first
    | (refine step_box rfl _ rfl p rfl ?_; intro b0 w1 N R; have HG0 := Lib.hid (show w.heap.size ≤ b0 from Nat.le_of_eq N.at_.symm); have HB := Lib.hid N.below; have HR := Lib.hid R; clear N R)
    | (go_at_call 11; refine (fawake_any _ (HM.out.on HB.out) (HT.out.on HB.out) (HC.out.on HB.out) (HV.out.on HB.out) (HP.out.on HB.out) (HK.out.on HB.out)).mono ?_; rintro e w2 ⟨rfl, hb⟩; have HR := Lib.hid (HR.out.later hb); have HB := Lib.hid (HB.out.trans (hb.mono HB.out.size)); clear hb)
    | (refine step_load rfl _ rfl b0 rfl p ?_ ?_; exact HR.out)
    | (go_at_call 12; clear HOnce; refine (print_any p _ HF.out (HV.out.on HB.out) (HC.out.on HB.out) (HP.out.on HB.out)).mono ?_; rintro e w3 ⟨rfl, hb⟩; rw [HS.out]; have HR := Lib.hid (HR.out.later hb); have HB := Lib.hid (HB.out.trans (hb.mono HB.out.size)); clear hb)
    | (refine step_alloc rfl rfl ?_; intro b1 w5 N R; have HG1 := Lib.hid (show w.heap.size ≤ b1 by rw [N.at_]; exact HB.out.size); have HR1 := Lib.hid R; have HB := Lib.hid (HB.out.trans (N.below.mono HB.out.size)); clear N R)
    | (refine step_store rfl _ _ rfl b1 rfl zeroP p rfl ?_ ?_; exact HR1.out; intro w6 U R; have HR1 := Lib.hid R; have HB := Lib.hid (HB.out.trans (U.below HG1.out)); clear U R)
    | (refine step_cell rfl 3 _ _ rfl b1 86 rfl .i64 h rfl p ?_ (by decide) rfl (by kernel_rfl) ?_; exact HR1.out; intro w7 U R; have HR1 := Lib.hid R; have HB := Lib.hid (HB.out.trans (U.below HG1.out)); clear U R)
    | (refine step_cell rfl 3 _ _ rfl b1 87 rfl .i64 f rfl (upd p 86 h) ?_ (by decide) rfl (by kernel_rfl) ?_; exact HR1.out; intro w8 U R; have HR1 := Lib.hid (show Row w8 b1 (clkP p h f) from R); have HB := Lib.hid (HB.out.trans (U.below HG1.out)); clear U R)
    | (refine step_load rfl _ rfl b1 rfl (clkP p h f) ?_ ?_; exact HR1.out)
    | (go_at_call 12; refine (print_any (clkP p h f) _ (HF.out.clk h f) (HV.out.on HB.out) (HC.out.on HB.out) (HP.out.on HB.out)).mono ?_; rintro e w9 ⟨rfl, hb⟩; rw [HS2.out]; have HR1 := Lib.hid (HR1.out.later hb); have HB := Lib.hid (HB.out.trans (hb.mono HB.out.size)); clear hb))
  exact bodyPost_ret (results_tmp rfl _ _ _) rfl ⟨by simp, HB.out⟩
set_option maxRecDepth 100000 in
set_option maxHeartbeats 1000000 in
theorem clk_wb2 (p : Nat → Int) (h f : Int) (w : World) (hF : FitF p) (s : List UInt8) (hs : fenL p = s) (he : s.isEmpty = false) (c0 : decide (h < 0) = false) (c1 : decide (f < 0) = false) (c2 : decide (10000 < h) = true) (hM : TabMx w) (hT : TabErr w) (hC : TabCorn w) (hV : TabVar w) (hP : TabPow w) (hK : TabKn w) :
    Calls Tryz.prog 5 #[.agg (posA p), .int .i64 h, .int .i64 f] w (BoL true w) := by
  have HM := Lib.hid hM
  have HT := Lib.hid hT
  have HC := Lib.hid hC
  have HV := Lib.hid hV
  have HP := Lib.hid hP
  have HK := Lib.hid hK
  have HF := Lib.hid hF
  have hsl := fen_short hs
  obtain ⟨y, hy⟩ : ∃ y, bz s = y := ⟨_, rfl⟩
  have hys : y.size = s.length := by rw [← hy, bz_size]
  have hye : y.toList.isEmpty = false := by rw [← hy, bz_toList]; exact he
  have HS := Lib.hid (show bz (fenL p) = y by rw [hs]; exact hy)
  have hne : fenL p ≠ [] := by rw [hs]; intro e; rw [e] at he; cases he
  have e2 : fenL (clkP p h f) = [] := clk_none (fenL_text hne).1 (by
    have g := of_decide_eq_true c2
    rw [decide_eq_false (show ¬ h ≤ 10000 by omega), Bool.and_false]; rfl)
  have HS2 := Lib.hid (show bz (fenL (clkP p h f)) = ⟨#[]⟩ by rw [e2]; rfl)
  clear e2
  clear hne
  clear hM hT hC hV hP hK hF hs hy hsl he hys
  have HOnce := Lib.hid trivial
  have HOnceA := Lib.hid trivial
  have HOnceD := Lib.hid trivial
  go_enter Tryz.func5, Tryz.ntmps5
  go_wp2_with (first
    | (refine step_box rfl _ rfl p rfl ?_; intro b0 w1 N R; have HG0 := Lib.hid (show w.heap.size ≤ b0 from Nat.le_of_eq N.at_.symm); have HB := Lib.hid N.below; have HR := Lib.hid R; clear N R)
    | (go_at_call 11; refine (fawake_any _ (HM.out.on HB.out) (HT.out.on HB.out) (HC.out.on HB.out) (HV.out.on HB.out) (HP.out.on HB.out) (HK.out.on HB.out)).mono ?_; rintro e w2 ⟨rfl, hb⟩; have HR := Lib.hid (HR.out.later hb); have HB := Lib.hid (HB.out.trans (hb.mono HB.out.size)); clear hb)
    | (refine step_load rfl _ rfl b0 rfl p ?_ ?_; exact HR.out)
    | (go_at_call 12; clear HOnce; refine (print_any p _ HF.out (HV.out.on HB.out) (HC.out.on HB.out) (HP.out.on HB.out)).mono ?_; rintro e w3 ⟨rfl, hb⟩; rw [HS.out]; have HR := Lib.hid (HR.out.later hb); have HB := Lib.hid (HB.out.trans (hb.mono HB.out.size)); clear hb)
    | (refine step_alloc rfl rfl ?_; intro b1 w5 N R; have HG1 := Lib.hid (show w.heap.size ≤ b1 by rw [N.at_]; exact HB.out.size); have HR1 := Lib.hid R; have HB := Lib.hid (HB.out.trans (N.below.mono HB.out.size)); clear N R)
    | (refine step_store rfl _ _ rfl b1 rfl zeroP p rfl ?_ ?_; exact HR1.out; intro w6 U R; have HR1 := Lib.hid R; have HB := Lib.hid (HB.out.trans (U.below HG1.out)); clear U R)
    | (refine step_cell rfl 3 _ _ rfl b1 86 rfl .i64 h rfl p ?_ (by decide) rfl (by kernel_rfl) ?_; exact HR1.out; intro w7 U R; have HR1 := Lib.hid R; have HB := Lib.hid (HB.out.trans (U.below HG1.out)); clear U R)
    | (refine step_cell rfl 3 _ _ rfl b1 87 rfl .i64 f rfl (upd p 86 h) ?_ (by decide) rfl (by kernel_rfl) ?_; exact HR1.out; intro w8 U R; have HR1 := Lib.hid (show Row w8 b1 (clkP p h f) from R); have HB := Lib.hid (HB.out.trans (U.below HG1.out)); clear U R)
    | (refine step_load rfl _ rfl b1 rfl (clkP p h f) ?_ ?_; exact HR1.out)
    | (go_at_call 12; refine (print_any (clkP p h f) _ (HF.out.clk h f) (HV.out.on HB.out) (HC.out.on HB.out) (HP.out.on HB.out)).mono ?_; rintro e w9 ⟨rfl, hb⟩; rw [HS2.out]; have HR1 := Lib.hid (HR1.out.later hb); have HB := Lib.hid (HB.out.trans (hb.mono HB.out.size)); clear hb))
  exact bodyPost_ret (results_tmp rfl _ _ _) rfl ⟨by simp, HB.out⟩
set_option maxRecDepth 100000 in
set_option maxHeartbeats 1000000 in
theorem clk_wb3 (p : Nat → Int) (h f : Int) (w : World) (hF : FitF p) (s : List UInt8) (hs : fenL p = s) (he : s.isEmpty = false) (c0 : decide (h < 0) = false) (c1 : decide (f < 0) = false) (c2 : decide (10000 < h) = false) (c3 : decide (10000 < f) = true) (hM : TabMx w) (hT : TabErr w) (hC : TabCorn w) (hV : TabVar w) (hP : TabPow w) (hK : TabKn w) :
    Calls Tryz.prog 5 #[.agg (posA p), .int .i64 h, .int .i64 f] w (BoL true w) := by
  have HM := Lib.hid hM
  have HT := Lib.hid hT
  have HC := Lib.hid hC
  have HV := Lib.hid hV
  have HP := Lib.hid hP
  have HK := Lib.hid hK
  have HF := Lib.hid hF
  have hsl := fen_short hs
  obtain ⟨y, hy⟩ : ∃ y, bz s = y := ⟨_, rfl⟩
  have hys : y.size = s.length := by rw [← hy, bz_size]
  have hye : y.toList.isEmpty = false := by rw [← hy, bz_toList]; exact he
  have HS := Lib.hid (show bz (fenL p) = y by rw [hs]; exact hy)
  have hne : fenL p ≠ [] := by rw [hs]; intro e; rw [e] at he; cases he
  have e2 : fenL (clkP p h f) = [] := clk_none (fenL_text hne).1 (by
    have g := of_decide_eq_true c3
    rw [decide_eq_false (show ¬ f ≤ 10000 by omega), Bool.and_false])
  have HS2 := Lib.hid (show bz (fenL (clkP p h f)) = ⟨#[]⟩ by rw [e2]; rfl)
  clear e2
  clear hne
  clear hM hT hC hV hP hK hF hs hy hsl he hys
  have HOnce := Lib.hid trivial
  have HOnceA := Lib.hid trivial
  have HOnceD := Lib.hid trivial
  go_enter Tryz.func5, Tryz.ntmps5
  go_wp2_with (first
    | (refine step_box rfl _ rfl p rfl ?_; intro b0 w1 N R; have HG0 := Lib.hid (show w.heap.size ≤ b0 from Nat.le_of_eq N.at_.symm); have HB := Lib.hid N.below; have HR := Lib.hid R; clear N R)
    | (go_at_call 11; refine (fawake_any _ (HM.out.on HB.out) (HT.out.on HB.out) (HC.out.on HB.out) (HV.out.on HB.out) (HP.out.on HB.out) (HK.out.on HB.out)).mono ?_; rintro e w2 ⟨rfl, hb⟩; have HR := Lib.hid (HR.out.later hb); have HB := Lib.hid (HB.out.trans (hb.mono HB.out.size)); clear hb)
    | (refine step_load rfl _ rfl b0 rfl p ?_ ?_; exact HR.out)
    | (go_at_call 12; clear HOnce; refine (print_any p _ HF.out (HV.out.on HB.out) (HC.out.on HB.out) (HP.out.on HB.out)).mono ?_; rintro e w3 ⟨rfl, hb⟩; rw [HS.out]; have HR := Lib.hid (HR.out.later hb); have HB := Lib.hid (HB.out.trans (hb.mono HB.out.size)); clear hb)
    | (refine step_alloc rfl rfl ?_; intro b1 w5 N R; have HG1 := Lib.hid (show w.heap.size ≤ b1 by rw [N.at_]; exact HB.out.size); have HR1 := Lib.hid R; have HB := Lib.hid (HB.out.trans (N.below.mono HB.out.size)); clear N R)
    | (refine step_store rfl _ _ rfl b1 rfl zeroP p rfl ?_ ?_; exact HR1.out; intro w6 U R; have HR1 := Lib.hid R; have HB := Lib.hid (HB.out.trans (U.below HG1.out)); clear U R)
    | (refine step_cell rfl 3 _ _ rfl b1 86 rfl .i64 h rfl p ?_ (by decide) rfl (by kernel_rfl) ?_; exact HR1.out; intro w7 U R; have HR1 := Lib.hid R; have HB := Lib.hid (HB.out.trans (U.below HG1.out)); clear U R)
    | (refine step_cell rfl 3 _ _ rfl b1 87 rfl .i64 f rfl (upd p 86 h) ?_ (by decide) rfl (by kernel_rfl) ?_; exact HR1.out; intro w8 U R; have HR1 := Lib.hid (show Row w8 b1 (clkP p h f) from R); have HB := Lib.hid (HB.out.trans (U.below HG1.out)); clear U R)
    | (refine step_load rfl _ rfl b1 rfl (clkP p h f) ?_ ?_; exact HR1.out)
    | (go_at_call 12; refine (print_any (clkP p h f) _ (HF.out.clk h f) (HV.out.on HB.out) (HC.out.on HB.out) (HP.out.on HB.out)).mono ?_; rintro e w9 ⟨rfl, hb⟩; rw [HS2.out]; have HR1 := Lib.hid (HR1.out.later hb); have HB := Lib.hid (HB.out.trans (hb.mono HB.out.size)); clear hb))
  exact bodyPost_ret (results_tmp rfl _ _ _) rfl ⟨by simp, HB.out⟩
set_option maxRecDepth 100000 in
set_option maxHeartbeats 1000000 in
theorem clk_wfar (p : Nat → Int) (h f : Int) (w : World) (hF : FitF p) (s : List UInt8) (hs : fenL p = s) (he : s.isEmpty = false) (c0 : decide (h < 0) = false) (c1 : decide (f < 0) = false) (c2 : decide (10000 < h) = false) (c3 : decide (10000 < f) = false) (hl : 200 < s.length + 8) (hM : TabMx w) (hT : TabErr w) (hC : TabCorn w) (hV : TabVar w) (hP : TabPow w) (hK : TabKn w) :
    Calls Tryz.prog 5 #[.agg (posA p), .int .i64 h, .int .i64 f] w (BoL true w) := by
  have HM := Lib.hid hM
  have HT := Lib.hid hT
  have HC := Lib.hid hC
  have HV := Lib.hid hV
  have HP := Lib.hid hP
  have HK := Lib.hid hK
  have HF := Lib.hid hF
  have hsl := fen_short hs
  obtain ⟨y, hy⟩ : ∃ y, bz s = y := ⟨_, rfl⟩
  have hys : y.size = s.length := by rw [← hy, bz_size]
  have hye : y.toList.isEmpty = false := by rw [← hy, bz_toList]; exact he
  have HS := Lib.hid (show bz (fenL p) = y by rw [hs]; exact hy)
  have hne : fenL p ≠ [] := by rw [hs]; intro e; rw [e] at he; cases he
  obtain ⟨y2, hy2⟩ : ∃ y2, bz (fenL (clkP p h f)) = y2 := ⟨_, rfl⟩
  have HS2 := Lib.hid hy2
  clear hy2
  have k0 : (y.size : Int) ≤ 200 := by omega
  have k1 : (0 : Int) ≤ (y.size : Int) := by omega
  have g8 : decide ((200 : Int) < (y.size : Int) + 8) = true := decide_eq_true (by omega)
  clear hne
  clear hM hT hC hV hP hK hF hs hy hsl he hys hl
  have HOnce := Lib.hid trivial
  have HOnceA := Lib.hid trivial
  have HOnceD := Lib.hid trivial
  go_enter Tryz.func5, Tryz.ntmps5
  go_wp2_with (first
    | (refine step_box rfl _ rfl p rfl ?_; intro b0 w1 N R; have HG0 := Lib.hid (show w.heap.size ≤ b0 from Nat.le_of_eq N.at_.symm); have HB := Lib.hid N.below; have HR := Lib.hid R; clear N R)
    | (go_at_call 11; refine (fawake_any _ (HM.out.on HB.out) (HT.out.on HB.out) (HC.out.on HB.out) (HV.out.on HB.out) (HP.out.on HB.out) (HK.out.on HB.out)).mono ?_; rintro e w2 ⟨rfl, hb⟩; have HR := Lib.hid (HR.out.later hb); have HB := Lib.hid (HB.out.trans (hb.mono HB.out.size)); clear hb)
    | (refine step_load rfl _ rfl b0 rfl p ?_ ?_; exact HR.out)
    | (go_at_call 12; clear HOnce; refine (print_any p _ HF.out (HV.out.on HB.out) (HC.out.on HB.out) (HP.out.on HB.out)).mono ?_; rintro e w3 ⟨rfl, hb⟩; rw [HS.out]; have HR := Lib.hid (HR.out.later hb); have HB := Lib.hid (HB.out.trans (hb.mono HB.out.size)); clear hb)
    | (refine step_alloc rfl rfl ?_; intro b1 w5 N R; have HG1 := Lib.hid (show w.heap.size ≤ b1 by rw [N.at_]; exact HB.out.size); have HR1 := Lib.hid R; have HB := Lib.hid (HB.out.trans (N.below.mono HB.out.size)); clear N R)
    | (refine step_store rfl _ _ rfl b1 rfl zeroP p rfl ?_ ?_; exact HR1.out; intro w6 U R; have HR1 := Lib.hid R; have HB := Lib.hid (HB.out.trans (U.below HG1.out)); clear U R)
    | (refine step_cell rfl 3 _ _ rfl b1 86 rfl .i64 h rfl p ?_ (by decide) rfl (by kernel_rfl) ?_; exact HR1.out; intro w7 U R; have HR1 := Lib.hid R; have HB := Lib.hid (HB.out.trans (U.below HG1.out)); clear U R)
    | (refine step_cell rfl 3 _ _ rfl b1 87 rfl .i64 f rfl (upd p 86 h) ?_ (by decide) rfl (by kernel_rfl) ?_; exact HR1.out; intro w8 U R; have HR1 := Lib.hid (show Row w8 b1 (clkP p h f) from R); have HB := Lib.hid (HB.out.trans (U.below HG1.out)); clear U R)
    | (refine step_load rfl _ rfl b1 rfl (clkP p h f) ?_ ?_; exact HR1.out)
    | (go_at_call 12; refine (print_any (clkP p h f) _ (HF.out.clk h f) (HV.out.on HB.out) (HC.out.on HB.out) (HP.out.on HB.out)).mono ?_; rintro e w9 ⟨rfl, hb⟩; rw [HS2.out]; have HR1 := Lib.hid (HR1.out.later hb); have HB := Lib.hid (HB.out.trans (hb.mono HB.out.size)); clear hb))
  exact bodyPost_ret (results_tmp rfl _ _ _) rfl ⟨by simp, HB.out⟩
set_option maxRecDepth 100000 in
set_option maxHeartbeats 1000000 in
theorem clk_win (p : Nat → Int) (h f : Int) (w : World) (hF : FitF p) (s : List UInt8) (hs : fenL p = s) (he : s.isEmpty = false) (c0 : decide (h < 0) = false) (c1 : decide (f < 0) = false) (c2 : decide (10000 < h) = false) (c3 : decide (10000 < f) = false) (hl : s.length + 8 ≤ 200) (hM : TabMx w) (hT : TabErr w) (hC : TabCorn w) (hV : TabVar w) (hP : TabPow w) (hK : TabKn w) :
    Calls Tryz.prog 5 #[.agg (posA p), .int .i64 h, .int .i64 f] w (BoL true w) := by
  have HM := Lib.hid hM
  have HT := Lib.hid hT
  have HC := Lib.hid hC
  have HV := Lib.hid hV
  have HP := Lib.hid hP
  have HK := Lib.hid hK
  have HF := Lib.hid hF
  have hsl := fen_short hs
  obtain ⟨y, hy⟩ : ∃ y, bz s = y := ⟨_, rfl⟩
  have hys : y.size = s.length := by rw [← hy, bz_size]
  have hye : y.toList.isEmpty = false := by rw [← hy, bz_toList]; exact he
  have HS := Lib.hid (show bz (fenL p) = y by rw [hs]; exact hy)
  have hne : fenL p ≠ [] := by rw [hs]; intro e; rw [e] at he; cases he
  have h0 : 0 ≤ h := by have := of_decide_eq_false c0; omega
  have f0 : 0 ≤ f := by have := of_decide_eq_false c1; omega
  have h1 : h ≤ 10000 := by have := of_decide_eq_false c2; omega
  have f1 : f ≤ 10000 := by have := of_decide_eq_false c3; omega
  have e2 := clk_some (h := h) (f := f) hne h0 h1 f0 f1 (by rw [hs]; exact hl)
  obtain ⟨s2, hs2⟩ : ∃ s2, fenL (clkP p h f) = s2 := ⟨_, rfl⟩
  have hsl2 := fen_short hs2
  rw [hs2] at e2
  have a1 : ahL 2 s = hdL p := by rw [← hs, fen_at hne]; exact ah_clk
  have a2 : ahL 2 s2 = hdL p := by rw [e2]; exact ah_clk
  obtain ⟨y2, hy2⟩ : ∃ y2, bz s2 = y2 := ⟨_, rfl⟩
  obtain ⟨D, hD⟩ : ∃ D, bz (hdL p) = D := ⟨_, rfl⟩
  obtain ⟨d1, hd1⟩ : ∃ d1, bz (digL h.toNat) = d1 := ⟨_, rfl⟩
  obtain ⟨d2, hd2⟩ : ∃ d2, bz (digL f.toNat) = d2 := ⟨_, rfl⟩
  have HS2 := Lib.hid (show bz (fenL (clkP p h f)) = y2 by rw [hs2]; exact hy2)
  have HA1 := Lib.hid (show bz (ahL 2 s) = D by rw [a1]; exact hD)
  have HA2 := Lib.hid (show bz (ahL 2 s2) = D by rw [a2]; exact hD)
  have HD1 := Lib.hid hd1
  have HD2 := Lib.hid hd2
  have HY := Lib.hid hy.symm
  have HY2 := Lib.hid hy2.symm
  have HN1 := Lib.hid (show s.length ≤ 1000000 by omega)
  have HN2 := Lib.hid (show s2.length ≤ 1000000 by omega)
  have HH := Lib.hid (And.intro h0 h1)
  have HFf := Lib.hid (And.intro f0 f1)
  have hsz : D.size + d1.size + 1 + d2.size ≤ 200 := by
    rw [← hD, ← hd1, ← hd2, bz_size, bz_size, bz_size]
    rw [e2] at hsl2; simp at hsl2; omega
  have k1 := cat_ok (a := D) (b := d1) (by omega) (by omega)
  have k2 : ¬ (9223372036854775807 < D.size + d1.size + 1) := by omega
  have k3 : ¬ (9223372036854775807 < D.size + d1.size + 1 + d2.size) := by omega
  have g9 : (y2.toList == (D ++ d1 ++ ⟨#[32]⟩ ++ d2).toList) = true := by
    rw [← hy2, ← hD, ← hd1, ← hd2, show (⟨#[32]⟩ : ByteArray) = bz [32] from rfl, bz_app, bz_app, bz_app, e2, bz_toList, bz_toList]
    simp
  have k0 : (y.size : Int) ≤ 200 := by omega
  have k4 : (0 : Int) ≤ (y.size : Int) := by omega
  have g8 : decide ((200 : Int) < (y.size : Int) + 8) = false := decide_eq_false (by omega)
  clear e2 a1 a2 hs2 hsl2 hy2 hD hd1 hd2 hsz h0 h1 f0 f1
  clear hne
  clear hM hT hC hV hP hK hF hs hy hsl he hys hl
  have HOnce := Lib.hid trivial
  have HOnceA := Lib.hid trivial
  have HOnceD := Lib.hid trivial
  go_enter Tryz.func5, Tryz.ntmps5
  go_wp2_with (first
    | (refine step_box rfl _ rfl p rfl ?_; intro b0 w1 N R; have HG0 := Lib.hid (show w.heap.size ≤ b0 from Nat.le_of_eq N.at_.symm); have HB := Lib.hid N.below; have HR := Lib.hid R; clear N R)
    | (go_at_call 11; refine (fawake_any _ (HM.out.on HB.out) (HT.out.on HB.out) (HC.out.on HB.out) (HV.out.on HB.out) (HP.out.on HB.out) (HK.out.on HB.out)).mono ?_; rintro e w2 ⟨rfl, hb⟩; have HR := Lib.hid (HR.out.later hb); have HB := Lib.hid (HB.out.trans (hb.mono HB.out.size)); clear hb)
    | (refine step_load rfl _ rfl b0 rfl p ?_ ?_; exact HR.out)
    | (go_at_call 12; clear HOnce; refine (print_any p _ HF.out (HV.out.on HB.out) (HC.out.on HB.out) (HP.out.on HB.out)).mono ?_; rintro e w3 ⟨rfl, hb⟩; rw [HS.out]; have HR := Lib.hid (HR.out.later hb); have HB := Lib.hid (HB.out.trans (hb.mono HB.out.size)); clear hb)
    | (refine step_alloc rfl rfl ?_; intro b1 w5 N R; have HG1 := Lib.hid (show w.heap.size ≤ b1 by rw [N.at_]; exact HB.out.size); have HR1 := Lib.hid R; have HB := Lib.hid (HB.out.trans (N.below.mono HB.out.size)); clear N R)
    | (refine step_store rfl _ _ rfl b1 rfl zeroP p rfl ?_ ?_; exact HR1.out; intro w6 U R; have HR1 := Lib.hid R; have HB := Lib.hid (HB.out.trans (U.below HG1.out)); clear U R)
    | (refine step_cell rfl 3 _ _ rfl b1 86 rfl .i64 h rfl p ?_ (by decide) rfl (by kernel_rfl) ?_; exact HR1.out; intro w7 U R; have HR1 := Lib.hid R; have HB := Lib.hid (HB.out.trans (U.below HG1.out)); clear U R)
    | (refine step_cell rfl 3 _ _ rfl b1 87 rfl .i64 f rfl (upd p 86 h) ?_ (by decide) rfl (by kernel_rfl) ?_; exact HR1.out; intro w8 U R; have HR1 := Lib.hid (show Row w8 b1 (clkP p h f) from R); have HB := Lib.hid (HB.out.trans (U.below HG1.out)); clear U R)
    | (refine step_load rfl _ rfl b1 rfl (clkP p h f) ?_ ?_; exact HR1.out)
    | (go_at_call 12; refine (print_any (clkP p h f) _ (HF.out.clk h f) (HV.out.on HB.out) (HC.out.on HB.out) (HP.out.on HB.out)).mono ?_; rintro e w9 ⟨rfl, hb⟩; rw [HS2.out]; have HR1 := Lib.hid (HR1.out.later hb); have HB := Lib.hid (HB.out.trans (hb.mono HB.out.size)); clear hb)
    | (go_at_call 13; clear HOnceA; refine (ahead2 y s _ HY.out HN1.out).mono ?_; rintro e w10 ⟨rfl, hb⟩; rw [HA1.out]; have HB := Lib.hid (HB.out.trans (hb.mono HB.out.size)); clear hb)
    | (go_at_call 13; refine (ahead2 y2 s2 _ HY2.out HN2.out).mono ?_; rintro e w10 ⟨rfl, hb⟩; rw [HA2.out]; have HB := Lib.hid (HB.out.trans (hb.mono HB.out.size)); clear hb)
    | (go_at_call 14; clear HOnceD; refine (digitsI h _ HH.out.1 HH.out.2).mono ?_; rintro e w10 ⟨rfl, hb⟩; rw [HD1.out]; have HB := Lib.hid (HB.out.trans (hb.mono HB.out.size)); clear hb)
    | (go_at_call 14; refine (digitsI f _ HFf.out.1 HFf.out.2).mono ?_; rintro e w10 ⟨rfl, hb⟩; rw [HD2.out]; have HB := Lib.hid (HB.out.trans (hb.mono HB.out.size)); clear hb))
  exact bodyPost_ret (results_tmp rfl _ _ _) rfl ⟨by simp, HB.out⟩
theorem walk (p : Nat → Int) (h f : Int) (hw : WfP p) (_hh : (Lit.int .i64 h).wf = true) (_hf : (Lit.int .i64 f).wf = true) (w : World) (hP : TabPow w) (hEr : TabErrR w) (hEs : TabErrS w) (hV : TabVar w) (hK : TabKn w) (hC : TabCorn w) (hM : TabMx w) :
    Calls Tryz.prog 5 #[.agg (posA p), .int .i64 h, .int .i64 f] w fun e w' => e = .returned (.bool true) ∧ Below w.heap.size w w' := by
  have hT : TabErr w := ⟨hEs, hEr⟩
  have hF := FitF.of hw
  cases he : (fenL p).isEmpty
  · cases c0 : decide (h < 0)
    · cases c1 : decide (f < 0)
      · cases c2 : decide (10000 < h)
        · cases c3 : decide (10000 < f)
          · by_cases hl : (fenL p).length + 8 ≤ 200
            · exact clk_win p h f w hF _ rfl he c0 c1 c2 c3 hl hM hT hC hV hP hK
            · exact clk_wfar p h f w hF _ rfl he c0 c1 c2 c3 (by omega) hM hT hC hV hP hK
          · exact clk_wb3 p h f w hF _ rfl he c0 c1 c2 c3 hM hT hC hV hP hK
        · exact clk_wb2 p h f w hF _ rfl he c0 c1 c2 hM hT hC hV hP hK
      · exact clk_wb1 p h f w hF _ rfl he c0 c1 hM hT hC hV hP hK
    · exact clk_wb0 p h f w hF _ rfl he c0 hM hT hC hV hP hK
  · exact clk_wnone p h f w hF _ rfl he hM hT hC hV hP hK
end Go.Proofs.YtkcflknjnefhbaaGreatDoor.fenClocks
