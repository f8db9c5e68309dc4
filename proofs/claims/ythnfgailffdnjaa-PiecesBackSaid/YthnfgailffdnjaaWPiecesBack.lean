/-
  The walk of PiecesBack.
-/
import Derived.Test.YthnfgailffdnjaaPcAwake
import Derived.WalkKit
import Derived.OpenShut
namespace Go.Proofs.Ythnfgailffdnjaa.piecesBack
open Go.RowKit
set_option linter.unusedVariables false
set_option maxHeartbeats 1000000 in
theorem back_no (p : Int) (w : World) (hp : 0 ≤ p) (hq : p ≤ 255) (l0 : 0 ≤ colZ p) (l2 : 0 ≤ kndZ p) (h : pcB p = false) (p1 : prsB (letZ p) = false) (p2 : (prsZ (letZ p) == 0) = true) (p3 : (mkZ (colZ p) (kndZ p) == 0) = true) (p4 : (letZ p).toList.isEmpty = true) (p5 : (colZ p == 2) = true) (p6 : (kndZ p == 0) = true) :
    Calls Try.prog 5 #[.int .u8 p] w fun e w' => e = .returned (.bool true) ∧ Below w.heap.size w w' := by
  go_enter Try.func5, Try.ntmps5
  go_wp2_with (first | (go_at_call 25; refine (pawake_any _).mono ?_; rintro e w' ⟨rfl, rfl⟩) | (go_at_call 21; refine (let_any _ _ (by assumption) (by assumption)).mono ?_; rintro e w' ⟨rfl, rfl⟩) | (go_at_call 18; refine (prs_any _ _).mono ?_; rintro e w' ⟨rfl, rfl⟩) | (go_at_call 14; refine (col_any _ _ (by assumption) (by assumption)).mono ?_; rintro e w' ⟨rfl, rfl⟩) | (go_at_call 16; refine (knd_any _ _ (by assumption) (by assumption)).mono ?_; rintro e w' ⟨rfl, rfl⟩) | (go_at_call 10; refine (mk_any _ _ _ (by assumption) (by assumption)).mono ?_; rintro e w' ⟨rfl, rfl⟩) | (go_at_call 12; refine (is_any _ _ (by assumption) (by assumption)).mono ?_; rintro e w' ⟨rfl, rfl⟩))
  go_ret
  exact ⟨rfl, Below.refl _ _⟩
set_option maxHeartbeats 1000000 in
theorem back_yes (p : Int) (w : World) (hp : 0 ≤ p) (hq : p ≤ 255) (l0 : 0 ≤ colZ p) (l2 : 0 ≤ kndZ p) (h : pcB p = true) (p1 : prsB (letZ p) = true) (p2 : (prsZ (letZ p) == p) = true) (p3 : (mkZ (colZ p) (kndZ p) == p) = true) (p4 : (((letZ p).size : Int) == 1) = true) (p5 : decide (colZ p ≤ 1) = true) (p6 : decide (1 ≤ kndZ p) = true) (p7 : decide (kndZ p ≤ 6) = true) :
    Calls Try.prog 5 #[.int .u8 p] w fun e w' => e = .returned (.bool true) ∧ Below w.heap.size w w' := by
  go_enter Try.func5, Try.ntmps5
  go_wp2_with (first | (go_at_call 25; refine (pawake_any _).mono ?_; rintro e w' ⟨rfl, rfl⟩) | (go_at_call 21; refine (let_any _ _ (by assumption) (by assumption)).mono ?_; rintro e w' ⟨rfl, rfl⟩) | (go_at_call 18; refine (prs_any _ _).mono ?_; rintro e w' ⟨rfl, rfl⟩) | (go_at_call 14; refine (col_any _ _ (by assumption) (by assumption)).mono ?_; rintro e w' ⟨rfl, rfl⟩) | (go_at_call 16; refine (knd_any _ _ (by assumption) (by assumption)).mono ?_; rintro e w' ⟨rfl, rfl⟩) | (go_at_call 10; refine (mk_any _ _ _ (by assumption) (by assumption)).mono ?_; rintro e w' ⟨rfl, rfl⟩) | (go_at_call 12; refine (is_any _ _ (by assumption) (by assumption)).mono ?_; rintro e w' ⟨rfl, rfl⟩))
  go_ret
  exact ⟨rfl, Below.refl _ _⟩
theorem walk (a0 : Int) (w0 : (Lit.int .u8 a0).wf = true) (w : World) :
    Calls Try.prog 5 #[.int .u8 a0] w fun e w' => e = .returned (.bool true) ∧ Below w.heap.size w w' := by
  obtain ⟨hp, hq⟩ := u8_rng w0
  have l0 := (col_rng a0).1
  have l2 := (knd_rng a0).1
  cases h : pcB a0
  · have e1 : prsZ (letZ a0) = 0 := by rw [letZ_no h]; rfl
    refine back_no a0 w hp hq l0 l2 h (prsB_none e1) (by rw [e1]; rfl) ?_ (by rw [letZ_no h]; decide +kernel) (by rw [colZ_no h]; rfl) (by rw [kndZ_no h]; rfl)
    rw [colZ_no h, kndZ_no h]; decide +kernel
  · obtain ⟨e1, e2⟩ := prs_letter h
    have hr := pcB_true.1 h
    refine back_yes a0 w hp hq l0 l2 h (prsB_some (by rw [e1]; omega)) (by rw [e1]; simp) ?_ (by rw [e2]; rfl) ?_ ?_ ?_
    · rw [colZ_yes h, kndZ_yes h, mkZ_yes (mkB_true.2 (by omega)), beq_iff_eq]; omega
    · rw [colZ_yes h]; exact decide_eq_true (by omega)
    · rw [kndZ_yes h]; exact decide_eq_true (by omega)
    · rw [kndZ_yes h]; exact decide_eq_true (by omega)
end Go.Proofs.Ythnfgailffdnjaa.piecesBack
