/-
  The walk of PiecesMakes.
-/
import Derived.Test.YthnfgailffdnjaaPcAwake
import Derived.WalkKit
import Derived.OpenShut
namespace Go.Proofs.Ythnfgailffdnjaa.piecesMakes
open Go.RowKit
set_option linter.unusedVariables false
set_option maxHeartbeats 1000000 in
theorem makes_no0 (c k : Int) (w : World) (hc : 0 ≤ c) (hd : c ≤ 255) (hk : 0 ≤ k) (hl : k ≤ 255) (m : (mkZ c k == 0) = true) (g0 : decide (1 < c) = true) :
    Calls Try.prog 8 #[.int .u8 c, .int .u8 k] w fun e w' => e = .returned (.bool true) ∧ Below w.heap.size w w' := by
  go_enter Try.func8, Try.ntmps8
  go_wp2_with (first | (go_at_call 25; refine (pawake_any _).mono ?_; rintro e w' ⟨rfl, rfl⟩) | (go_at_call 10; refine (mk_any _ _ _ (by assumption) (by assumption)).mono ?_; rintro e w' ⟨rfl, rfl⟩))
  go_ret
  exact ⟨rfl, Below.refl _ _⟩
set_option maxHeartbeats 1000000 in
theorem makes_no1 (c k : Int) (w : World) (hc : 0 ≤ c) (hd : c ≤ 255) (hk : 0 ≤ k) (hl : k ≤ 255) (m : (mkZ c k == 0) = true) (g0 : decide (1 < c) = false) (g1 : decide (k < 1) = true) :
    Calls Try.prog 8 #[.int .u8 c, .int .u8 k] w fun e w' => e = .returned (.bool true) ∧ Below w.heap.size w w' := by
  go_enter Try.func8, Try.ntmps8
  go_wp2_with (first | (go_at_call 25; refine (pawake_any _).mono ?_; rintro e w' ⟨rfl, rfl⟩) | (go_at_call 10; refine (mk_any _ _ _ (by assumption) (by assumption)).mono ?_; rintro e w' ⟨rfl, rfl⟩))
  go_ret
  exact ⟨rfl, Below.refl _ _⟩
set_option maxHeartbeats 1000000 in
theorem makes_no2 (c k : Int) (w : World) (hc : 0 ≤ c) (hd : c ≤ 255) (hk : 0 ≤ k) (hl : k ≤ 255) (m : (mkZ c k == 0) = true) (g0 : decide (1 < c) = false) (g1 : decide (k < 1) = false) (g2 : decide (6 < k) = true) :
    Calls Try.prog 8 #[.int .u8 c, .int .u8 k] w fun e w' => e = .returned (.bool true) ∧ Below w.heap.size w w' := by
  go_enter Try.func8, Try.ntmps8
  go_wp2_with (first | (go_at_call 25; refine (pawake_any _).mono ?_; rintro e w' ⟨rfl, rfl⟩) | (go_at_call 10; refine (mk_any _ _ _ (by assumption) (by assumption)).mono ?_; rintro e w' ⟨rfl, rfl⟩))
  go_ret
  exact ⟨rfl, Below.refl _ _⟩
set_option maxHeartbeats 1000000 in
theorem makes_yes (c k : Int) (w : World) (hc : 0 ≤ c) (hd : c ≤ 255) (hk : 0 ≤ k) (hl : k ≤ 255) (hd1 : c ≤ 1) (hl6 : k ≤ 6) (g0 : decide (1 < c) = false) (g1 : decide (k < 1) = false) (g2 : decide (6 < k) = false) (q0 : 0 ≤ mkZ c k) (q1 : mkZ c k ≤ 255) (n0 : 0 ≤ 1 - c) (m1 : pcB (mkZ c k) = true) (m2 : (colZ (mkZ c k) == c) = true) (m3 : (kndZ (mkZ c k) == k) = true) (m4 : (mkZ c k == 8 * c + k) = true) (m5 : (othZ (mkZ c k) == mkZ (1 - c) k) = true) :
    Calls Try.prog 8 #[.int .u8 c, .int .u8 k] w fun e w' => e = .returned (.bool true) ∧ Below w.heap.size w w' := by
  go_enter Try.func8, Try.ntmps8
  go_wp2_with (first | (go_at_call 25; refine (pawake_any _).mono ?_; rintro e w' ⟨rfl, rfl⟩) | (go_at_call 10; refine (mk_any _ _ _ (by assumption) (by assumption)).mono ?_; rintro e w' ⟨rfl, rfl⟩) | (go_at_call 12; refine (is_any _ _ (by assumption) (by assumption)).mono ?_; rintro e w' ⟨rfl, rfl⟩) | (go_at_call 14; refine (col_any _ _ (by assumption) (by assumption)).mono ?_; rintro e w' ⟨rfl, rfl⟩) | (go_at_call 16; refine (knd_any _ _ (by assumption) (by assumption)).mono ?_; rintro e w' ⟨rfl, rfl⟩) | (go_at_call 23; refine (oth_any _ _ (by assumption) (by assumption)).mono ?_; rintro e w' ⟨rfl, rfl⟩))
  go_ret
  exact ⟨rfl, Below.refl _ _⟩
theorem walk (a0 a1 : Int) (w0 : (Lit.int .u8 a0).wf = true) (w1 : (Lit.int .u8 a1).wf = true) (w : World) :
    Calls Try.prog 8 #[.int .u8 a0, .int .u8 a1] w fun e w' => e = .returned (.bool true) ∧ Below w.heap.size w w' := by
  obtain ⟨hc, hd⟩ := u8_rng w0
  obtain ⟨hk, hl⟩ := u8_rng w1
  by_cases g0 : 1 < a0
  · exact makes_no0 a0 a1 w hc hd hk hl (by rw [mkZ_no (mkB_false.2 (.inl g0))]; rfl) (decide_eq_true g0)
  by_cases g1 : a1 < 1
  · exact makes_no1 a0 a1 w hc hd hk hl (by rw [mkZ_no (mkB_false.2 (.inr (.inl g1)))]; rfl) (decide_eq_false g0) (decide_eq_true g1)
  by_cases g2 : 6 < a1
  · exact makes_no2 a0 a1 w hc hd hk hl (by rw [mkZ_no (mkB_false.2 (.inr (.inr g2)))]; rfl) (decide_eq_false g0) (decide_eq_false g1) (decide_eq_true g2)
  have e := mkB_true.2 (⟨by omega, by omega, by omega⟩ : a0 ≤ 1 ∧ 1 ≤ a1 ∧ a1 ≤ 6)
  have h := mk_pc a0 a1 hc e
  have r := mk_rng a0 a1 hc
  refine makes_yes a0 a1 w hc hd hk hl (by omega) (by omega) (decide_eq_false g0) (decide_eq_false g1) (decide_eq_false g2) r.1 (by omega) (by omega) h ?_ ?_ ?_ ?_
  · rw [colZ_yes h, mkZ_yes e, beq_iff_eq]; omega
  · rw [kndZ_yes h, mkZ_yes e, beq_iff_eq]; omega
  · rw [mkZ_yes e, beq_iff_eq]
  · rw [othZ_yes h, mkZ_yes e, show (8 * a0 + a1) / 8 = a0 by omega, show (8 * a0 + a1) % 8 = a1 by omega, beq_iff_eq]
end Go.Proofs.Ythnfgailffdnjaa.piecesMakes
