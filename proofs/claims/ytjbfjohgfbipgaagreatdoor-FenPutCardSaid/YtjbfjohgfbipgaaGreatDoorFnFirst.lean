/-
  Contract of 'first': the text of a variant's first position (layer 10).
-/
import Derived.Test.YtjbfjohgfbipgaaGreatDoorFnAwM
import Derived.Test.YtjbfjohgfbipgaaGreatDoorRdBaseA
namespace Go.Proofs.YtjbfjohgfbipgaaGreatDoor
open Go.RowKit
set_option linter.unusedVariables false
set_option linter.unusedSimpArgs false

/-- FitF, computed. -/
def fitB (p : Nat → Int) : Bool := ((List.range 65).all fun j => decide (0 ≤ p j) && decide (p j ≤ 255)) && (decide (0 ≤ p 65) && Nat.blt (p 65).toNat W64) && ((List.range 13).all fun j => decide (0 ≤ p (66 + j)) && decide (p (66 + j) ≤ 255)) && ((List.range 5).all fun j => decide (-128 ≤ p (79 + j)) && decide (p (79 + j) ≤ 127)) && ((List.range 2).all fun j => decide (0 ≤ p (84 + j)) && decide (p (84 + j) ≤ 255))
theorem fitB_fit {p : Nat → Int} (h : fitB p = true) : FitF p := by
  unfold fitB at h
  simp only [Bool.and_eq_true, List.all_eq_true, List.mem_range, decide_eq_true_eq, Nat.blt_eq] at h
  obtain ⟨⟨⟨⟨h1, h2⟩, h3⟩, h4⟩, h5⟩ := h
  refine ⟨h1 0 (by omega), fun j hj => h1 (1 + j) (by omega), h2, fun i a b => ?_, h3 12 (by omega), fun i a b => ?_, h4 4 (by omega), fun i a b => ?_⟩
  · have := h3 (i - 66) (by omega); rwa [show 66 + (i - 66) = i by omega] at this
  · have := h4 (i - 79) (by omega); rwa [show 79 + (i - 79) = i by omega] at this
  · have := h5 (i - 84) (by omega); rwa [show 84 + (i - 84) = i by omega] at this
theorem fit_start0 : FitF (startP 0) := fitB_fit (by decide +kernel)
theorem fit_start2 : FitF (startP 2) := fitB_fit (by decide +kernel)
theorem fit_start5 : FitF (startP 5) := fitB_fit (by decide +kernel)
theorem fit_start8 : FitF (startP 8) := fitB_fit (by decide +kernel)
set_option maxRecDepth 100000 in
theorem ffirst_any (v : Nat) (hv : v < 9) (t : List UInt8) (w : World) (hF : FitF (startP v)) (ht : fenL (startP v) = t) (hV : TabVar w) (hK : TabKn w) (hC : TabCorn w) (hP : TabPow w) : Calls Tryz.prog 13 #[.int .u8 (v : Int)] w (StL (bz t) w) := by
  subst ht
  have HF := Lib.hid hF
  have HV := Lib.hid hV
  have HK := Lib.hid hK
  have HC := Lib.hid hC
  have HP := Lib.hid hP
  have Hv := Lib.hid hv
  obtain ⟨q, hq⟩ : ∃ q, startP v = q := ⟨_, rfl⟩
  have HQ := Lib.hid hq
  rw [hq] at HF ⊢
  clear hF hV hK hC hP hv hq
  go_enter Tryz.func13, Tryz.ntmps13
  go_wp2_with (first
    | (go_at_call 25; refine (start_any v _ (by have := Hv.out; omega) HV.out HK.out).mono ?_; rintro e w1 ⟨rfl, hb⟩; rw [HQ.out, decide_eq_true Hv.out]; have HB := Lib.hid hb; have HB0 := Lib.hid hb.size; clear hb)
    | (refine step_alloc rfl rfl ?_; intro b w2 N R; have HR := Lib.hid R; have HB := Lib.hid (HB.out.trans (N.below.mono HB.out.size)); have HG := Lib.hid (show w.heap.size ≤ b by rw [N.at_]; exact Nat.le_trans HB0.out (Nat.le_refl _)); clear N R)
    | (refine step_store rfl _ _ rfl b rfl zeroP q rfl ?_ ?_; exact HR.out; intro w3 U R; have HR := Lib.hid R; have HB := Lib.hid (HB.out.trans (U.below HG.out)); clear U R)
    | (refine step_load rfl _ rfl b rfl q ?_ ?_; exact HR.out)
    | (go_at_call 6; refine (print_any q _ HF.out (HV.out.on HB.out) (HC.out.on HB.out) (HP.out.on HB.out)).mono ?_; rintro e w4 ⟨rfl, hb⟩; have HB := Lib.hid (HB.out.trans (hb.mono HB.out.size)); clear hb))
  exact bodyPost_ret (results_tmp rfl _ _ _) rfl ⟨rfl, HB.out⟩
end Go.Proofs.YtjbfjohgfbipgaaGreatDoor
