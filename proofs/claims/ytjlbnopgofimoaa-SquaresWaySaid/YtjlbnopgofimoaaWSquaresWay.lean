/-
  The walk of SquaresWay.
-/
import Derived.Test.YtjlbnopgofimoaaSqAwake
import Derived.WalkKit
import Derived.OpenShut
namespace Go.Proofs.Ytjlbnopgofimoaa.squaresWay
open Go.RowKit
set_option linter.unusedVariables false
theorem text_none {s : Int} (h : sqB s = false) : (textZ s).toList.isEmpty = true := by rw [textZ_no h]; decide +kernel
theorem text_some {s : Int} (h : sqB s = true) : (textZ s).toList.isEmpty = false := by
  have key : ∀ n : Fin 64, (textZ (n.val : Int)).toList.isEmpty = false := by decide +kernel
  rw [sqB_true] at h
  obtain ⟨n, rfl⟩ := Int.eq_ofNat_of_zero_le h.1
  exact key ⟨n, by omega⟩
theorem gap_turn (a b : Int) : gapZ a b = gapZ b a := by unfold gapZ; split <;> split <;> omega
theorem dist_turn (a b : Int) : distZ a b = distZ b a := by
  unfold distZ
  rw [Bool.and_comm (sqB a), gap_turn (a / 8), gap_turn (a % 8)]
theorem gap_flip (a b : Int) : gapZ (7 - a) (7 - b) = gapZ a b := by unfold gapZ; split <;> split <;> omega
theorem flip_sq (s : Int) : sqB (flipZ s) = sqB s := by
  cases h : sqB s
  · rw [flipZ_no h]; rfl
  · rw [flipZ_yes h]; rw [sqB_true] at h ⊢; omega
theorem dist_flip (a b : Int) : distZ (flipZ a) (flipZ b) = distZ a b := by
  cases h : (sqB a && sqB b)
  · rw [distZ_no h, distZ_no (by rw [flip_sq, flip_sq]; exact h)]
  · rw [distZ_yes h, distZ_yes (by rw [flip_sq, flip_sq]; exact h)]
    rw [Bool.and_eq_true] at h
    obtain ⟨ha, hb⟩ := h
    have a1 : flipZ a / 8 = 7 - a / 8 := by rw [flipZ_yes ha]; omega
    have a2 : flipZ a % 8 = a % 8 := by rw [flipZ_yes ha]; omega
    have b1 : flipZ b / 8 = 7 - b / 8 := by rw [flipZ_yes hb]; omega
    have b2 : flipZ b % 8 = b % 8 := by rw [flipZ_yes hb]; omega
    rw [a1, a2, b1, b2, gap_flip]
theorem dist_rng (a b : Int) : -1 ≤ distZ a b ∧ distZ a b ≤ 7 := by
  cases h : (sqB a && sqB b)
  · rw [distZ_no h]; omega
  · rw [distZ_yes h]
    rw [Bool.and_eq_true, sqB_true, sqB_true] at h
    unfold gapZ
    split <;> split <;> split <;> omega
theorem dist_nonneg {a b : Int} (ha : sqB a = true) (hb : sqB b = true) : 0 ≤ distZ a b := by
  rw [distZ_yes (by rw [ha, hb]; rfl)]
  unfold gapZ
  split <;> split <;> split <;> omega
theorem dist_sq {a b : Int} (h : ¬ distZ a b < 0) : sqB a = true ∧ sqB b = true := by
  cases e : (sqB a && sqB b)
  · exact absurd (distZ_no e) (by omega)
  · simpa using e
theorem dist_zero {a b : Int} (ha : sqB a = true) (hb : sqB b = true) : (distZ a b == 0) = (a == b) := by
  rw [distZ_yes (by rw [ha, hb]; rfl)]
  rw [sqB_true] at ha hb
  rw [Bool.eq_iff_iff, beq_iff_eq, beq_iff_eq]
  unfold gapZ
  split <;> split <;> split <;> constructor <;> intro h <;> omega
theorem dist_way {a b c : Int} (ha : sqB a = true) (hb : sqB b = true) (hc : sqB c = true) : distZ a c ≤ distZ a b + distZ b c := by
  rw [distZ_yes (a := a) (b := b) (by rw [ha, hb]; rfl), distZ_yes (a := b) (b := c) (by rw [hb, hc]; rfl), distZ_yes (a := a) (b := c) (by rw [ha, hc]; rfl)]
  generalize a / 8 = x; generalize b / 8 = y; generalize c / 8 = z
  generalize a % 8 = x'; generalize b % 8 = y'; generalize c % 8 = z'
  have g : ∀ u v : Int, u - v ≤ gapZ u v ∧ v - u ≤ gapZ u v := by intro u v; unfold gapZ; split <;> omega
  have g' : ∀ u v : Int, gapZ u v = u - v ∨ gapZ u v = v - u := by intro u v; unfold gapZ; split <;> omega
  have h1 := g x y; have h2 := g y z; have h3 := g' x z
  have h4 := g x' y'; have h5 := g y' z'; have h6 := g' x' z'
  split <;> split <;> split <;> omega
set_option maxHeartbeats 1000000 in
theorem way_a (a b c : Int) (w : World) (k1 : (distZ a b != distZ b a) = false) (k2 : (distZ (flipZ a) (flipZ b) != distZ a b) = false) (k3 : decide (7 < distZ a b) = false) (k4 : decide (distZ a b < 0) = true) (k5 : (textZ a).toList.isEmpty = true) :
    Calls Try.prog 8 #[.int .i64 a, .int .i64 b, .int .i64 c] w fun e w' => e = .returned (.bool true) ∧ Below w.heap.size w w' := by
  go_enter Try.func8, Try.ntmps8
  go_wp2_with fail
  refine (awake_any _).mono ?_; rintro e w1 ⟨rfl, hb1⟩
  have HB1 := Lib.hid hb1; clear hb1
  go_wp2_with fail
  refine (dist_any _ _ _).mono ?_; rintro e w2 ⟨rfl, hb2⟩
  have HB2 := Lib.hid (sq_next HB1.out hb2); clear hb2
  go_wp2_with fail
  refine (dist_any _ _ _).mono ?_; rintro e w3 ⟨rfl, hb3⟩
  have HB3 := Lib.hid (sq_next HB2.out hb3); clear hb3
  go_wp2_with fail
  refine (dist_any _ _ _).mono ?_; rintro e w4 ⟨rfl, hb4⟩
  have HB4 := Lib.hid (sq_next HB3.out hb4); clear hb4
  go_wp2_with fail
  refine (dist_any _ _ _).mono ?_; rintro e w5 ⟨rfl, hb5⟩
  have HB5 := Lib.hid (sq_next HB4.out hb5); clear hb5
  go_wp2_with (go_at_call 22; refine (sflip_any _ _).mono ?_; rintro e w' ⟨rfl, rfl⟩)
  refine (dist_any _ _ _).mono ?_; rintro e w6 ⟨rfl, hb6⟩
  have HB6 := Lib.hid (sq_next HB5.out hb6); clear hb6
  go_wp2_with fail
  refine (text_any _ _).mono ?_; rintro e w7 ⟨rfl, hb7⟩
  have HB7 := Lib.hid (sq_next HB6.out hb7); clear hb7
  go_wp2
  go_ret
  exact ⟨rfl, HB7.out⟩
set_option maxHeartbeats 1000000 in
theorem way_b (a b c : Int) (w : World) (k1 : (distZ a b != distZ b a) = false) (k2 : (distZ (flipZ a) (flipZ b) != distZ a b) = false) (k3 : decide (7 < distZ a b) = false) (k4 : decide (distZ a b < 0) = true) (k5 : (textZ a).toList.isEmpty = false) (k6 : (textZ b).toList.isEmpty = true) :
    Calls Try.prog 8 #[.int .i64 a, .int .i64 b, .int .i64 c] w fun e w' => e = .returned (.bool true) ∧ Below w.heap.size w w' := by
  go_enter Try.func8, Try.ntmps8
  go_wp2_with fail
  refine (awake_any _).mono ?_; rintro e w1 ⟨rfl, hb1⟩
  have HB1 := Lib.hid hb1; clear hb1
  go_wp2_with fail
  refine (dist_any _ _ _).mono ?_; rintro e w2 ⟨rfl, hb2⟩
  have HB2 := Lib.hid (sq_next HB1.out hb2); clear hb2
  go_wp2_with fail
  refine (dist_any _ _ _).mono ?_; rintro e w3 ⟨rfl, hb3⟩
  have HB3 := Lib.hid (sq_next HB2.out hb3); clear hb3
  go_wp2_with fail
  refine (dist_any _ _ _).mono ?_; rintro e w4 ⟨rfl, hb4⟩
  have HB4 := Lib.hid (sq_next HB3.out hb4); clear hb4
  go_wp2_with fail
  refine (dist_any _ _ _).mono ?_; rintro e w5 ⟨rfl, hb5⟩
  have HB5 := Lib.hid (sq_next HB4.out hb5); clear hb5
  go_wp2_with (go_at_call 22; refine (sflip_any _ _).mono ?_; rintro e w' ⟨rfl, rfl⟩)
  refine (dist_any _ _ _).mono ?_; rintro e w6 ⟨rfl, hb6⟩
  have HB6 := Lib.hid (sq_next HB5.out hb6); clear hb6
  go_wp2_with fail
  refine (text_any _ _).mono ?_; rintro e w7 ⟨rfl, hb7⟩
  have HB7 := Lib.hid (sq_next HB6.out hb7); clear hb7
  go_wp2_with fail
  refine (text_any _ _).mono ?_; rintro e w8 ⟨rfl, hb8⟩
  have HB8 := Lib.hid (sq_next HB7.out hb8); clear hb8
  go_wp2
  go_ret
  exact ⟨rfl, HB8.out⟩
set_option maxHeartbeats 1000000 in
theorem way_true_off (a b c : Int) (w : World) (k1 : (distZ a b != distZ b a) = false) (k2 : (distZ (flipZ a) (flipZ b) != distZ a b) = false) (k3 : decide (7 < distZ a b) = false) (k4 : decide (distZ a b < 0) = false) (k5 : (distZ a b == 0) = true) (k6 : (a == b) = true) (k7 : decide (distZ b c < 0) = true) :
    Calls Try.prog 8 #[.int .i64 a, .int .i64 b, .int .i64 c] w fun e w' => e = .returned (.bool true) ∧ Below w.heap.size w w' := by
  go_enter Try.func8, Try.ntmps8
  go_wp2_with fail
  refine (awake_any _).mono ?_; rintro e w1 ⟨rfl, hb1⟩
  have HB1 := Lib.hid hb1; clear hb1
  go_wp2_with fail
  refine (dist_any _ _ _).mono ?_; rintro e w2 ⟨rfl, hb2⟩
  have HB2 := Lib.hid (sq_next HB1.out hb2); clear hb2
  go_wp2_with fail
  refine (dist_any _ _ _).mono ?_; rintro e w3 ⟨rfl, hb3⟩
  have HB3 := Lib.hid (sq_next HB2.out hb3); clear hb3
  go_wp2_with fail
  refine (dist_any _ _ _).mono ?_; rintro e w4 ⟨rfl, hb4⟩
  have HB4 := Lib.hid (sq_next HB3.out hb4); clear hb4
  go_wp2_with fail
  refine (dist_any _ _ _).mono ?_; rintro e w5 ⟨rfl, hb5⟩
  have HB5 := Lib.hid (sq_next HB4.out hb5); clear hb5
  go_wp2_with (go_at_call 22; refine (sflip_any _ _).mono ?_; rintro e w' ⟨rfl, rfl⟩)
  refine (dist_any _ _ _).mono ?_; rintro e w6 ⟨rfl, hb6⟩
  have HB6 := Lib.hid (sq_next HB5.out hb6); clear hb6
  go_wp2
  go_ret
  exact ⟨rfl, HB6.out⟩
set_option maxHeartbeats 1000000 in
theorem way_true_on (a b c : Int) (w : World) (k1 : (distZ a b != distZ b a) = false) (k2 : (distZ (flipZ a) (flipZ b) != distZ a b) = false) (k3 : decide (7 < distZ a b) = false) (k4 : decide (distZ a b < 0) = false) (k5 : (distZ a b == 0) = true) (k6 : (a == b) = true) (k7 : decide (distZ b c < 0) = false) (l1 : -1 ≤ distZ a b) (l2 : distZ a b ≤ 7) (l3 : -1 ≤ distZ b c) (l4 : distZ b c ≤ 7) (k8 : decide (distZ a c ≤ distZ a b + distZ b c) = true) :
    Calls Try.prog 8 #[.int .i64 a, .int .i64 b, .int .i64 c] w fun e w' => e = .returned (.bool true) ∧ Below w.heap.size w w' := by
  go_enter Try.func8, Try.ntmps8
  go_wp2_with fail
  refine (awake_any _).mono ?_; rintro e w1 ⟨rfl, hb1⟩
  have HB1 := Lib.hid hb1; clear hb1
  go_wp2_with fail
  refine (dist_any _ _ _).mono ?_; rintro e w2 ⟨rfl, hb2⟩
  have HB2 := Lib.hid (sq_next HB1.out hb2); clear hb2
  go_wp2_with fail
  refine (dist_any _ _ _).mono ?_; rintro e w3 ⟨rfl, hb3⟩
  have HB3 := Lib.hid (sq_next HB2.out hb3); clear hb3
  go_wp2_with fail
  refine (dist_any _ _ _).mono ?_; rintro e w4 ⟨rfl, hb4⟩
  have HB4 := Lib.hid (sq_next HB3.out hb4); clear hb4
  go_wp2_with fail
  refine (dist_any _ _ _).mono ?_; rintro e w5 ⟨rfl, hb5⟩
  have HB5 := Lib.hid (sq_next HB4.out hb5); clear hb5
  go_wp2_with (go_at_call 22; refine (sflip_any _ _).mono ?_; rintro e w' ⟨rfl, rfl⟩)
  refine (dist_any _ _ _).mono ?_; rintro e w6 ⟨rfl, hb6⟩
  have HB6 := Lib.hid (sq_next HB5.out hb6); clear hb6
  go_wp2
  go_ret
  exact ⟨rfl, HB6.out⟩
set_option maxHeartbeats 1000000 in
theorem way_false_off (a b c : Int) (w : World) (k1 : (distZ a b != distZ b a) = false) (k2 : (distZ (flipZ a) (flipZ b) != distZ a b) = false) (k3 : decide (7 < distZ a b) = false) (k4 : decide (distZ a b < 0) = false) (k5 : (distZ a b == 0) = false) (k6 : (a == b) = false) (k7 : decide (distZ b c < 0) = true) :
    Calls Try.prog 8 #[.int .i64 a, .int .i64 b, .int .i64 c] w fun e w' => e = .returned (.bool true) ∧ Below w.heap.size w w' := by
  go_enter Try.func8, Try.ntmps8
  go_wp2_with fail
  refine (awake_any _).mono ?_; rintro e w1 ⟨rfl, hb1⟩
  have HB1 := Lib.hid hb1; clear hb1
  go_wp2_with fail
  refine (dist_any _ _ _).mono ?_; rintro e w2 ⟨rfl, hb2⟩
  have HB2 := Lib.hid (sq_next HB1.out hb2); clear hb2
  go_wp2_with fail
  refine (dist_any _ _ _).mono ?_; rintro e w3 ⟨rfl, hb3⟩
  have HB3 := Lib.hid (sq_next HB2.out hb3); clear hb3
  go_wp2_with fail
  refine (dist_any _ _ _).mono ?_; rintro e w4 ⟨rfl, hb4⟩
  have HB4 := Lib.hid (sq_next HB3.out hb4); clear hb4
  go_wp2_with fail
  refine (dist_any _ _ _).mono ?_; rintro e w5 ⟨rfl, hb5⟩
  have HB5 := Lib.hid (sq_next HB4.out hb5); clear hb5
  go_wp2_with (go_at_call 22; refine (sflip_any _ _).mono ?_; rintro e w' ⟨rfl, rfl⟩)
  refine (dist_any _ _ _).mono ?_; rintro e w6 ⟨rfl, hb6⟩
  have HB6 := Lib.hid (sq_next HB5.out hb6); clear hb6
  go_wp2
  go_ret
  exact ⟨rfl, HB6.out⟩
set_option maxHeartbeats 1000000 in
theorem way_false_on (a b c : Int) (w : World) (k1 : (distZ a b != distZ b a) = false) (k2 : (distZ (flipZ a) (flipZ b) != distZ a b) = false) (k3 : decide (7 < distZ a b) = false) (k4 : decide (distZ a b < 0) = false) (k5 : (distZ a b == 0) = false) (k6 : (a == b) = false) (k7 : decide (distZ b c < 0) = false) (l1 : -1 ≤ distZ a b) (l2 : distZ a b ≤ 7) (l3 : -1 ≤ distZ b c) (l4 : distZ b c ≤ 7) (k8 : decide (distZ a c ≤ distZ a b + distZ b c) = true) :
    Calls Try.prog 8 #[.int .i64 a, .int .i64 b, .int .i64 c] w fun e w' => e = .returned (.bool true) ∧ Below w.heap.size w w' := by
  go_enter Try.func8, Try.ntmps8
  go_wp2_with fail
  refine (awake_any _).mono ?_; rintro e w1 ⟨rfl, hb1⟩
  have HB1 := Lib.hid hb1; clear hb1
  go_wp2_with fail
  refine (dist_any _ _ _).mono ?_; rintro e w2 ⟨rfl, hb2⟩
  have HB2 := Lib.hid (sq_next HB1.out hb2); clear hb2
  go_wp2_with fail
  refine (dist_any _ _ _).mono ?_; rintro e w3 ⟨rfl, hb3⟩
  have HB3 := Lib.hid (sq_next HB2.out hb3); clear hb3
  go_wp2_with fail
  refine (dist_any _ _ _).mono ?_; rintro e w4 ⟨rfl, hb4⟩
  have HB4 := Lib.hid (sq_next HB3.out hb4); clear hb4
  go_wp2_with fail
  refine (dist_any _ _ _).mono ?_; rintro e w5 ⟨rfl, hb5⟩
  have HB5 := Lib.hid (sq_next HB4.out hb5); clear hb5
  go_wp2_with (go_at_call 22; refine (sflip_any _ _).mono ?_; rintro e w' ⟨rfl, rfl⟩)
  refine (dist_any _ _ _).mono ?_; rintro e w6 ⟨rfl, hb6⟩
  have HB6 := Lib.hid (sq_next HB5.out hb6); clear hb6
  go_wp2
  go_ret
  exact ⟨rfl, HB6.out⟩
theorem walk (a0 a1 a2 : Int) (w0 : (Lit.int .i64 a0).wf = true) (w1 : (Lit.int .i64 a1).wf = true) (w2 : (Lit.int .i64 a2).wf = true) (w : World) :
    Calls Try.prog 8 #[.int .i64 a0, .int .i64 a1, .int .i64 a2] w fun e w' => e = .returned (.bool true) ∧ Below w.heap.size w w' := by
  have k1 : (distZ a0 a1 != distZ a1 a0) = false := by rw [dist_turn a0 a1]; simp
  have k2 : (distZ (flipZ a0) (flipZ a1) != distZ a0 a1) = false := by rw [dist_flip a0 a1]; simp
  have l := dist_rng a0 a1
  have l' := dist_rng a1 a2
  have k3 : decide (7 < distZ a0 a1) = false := decide_eq_false (by omega)
  cases k4 : decide (distZ a0 a1 < 0)
  · have hs := dist_sq (of_decide_eq_false k4)
    have hz := dist_zero hs.1 hs.2
    cases k7 : decide (distZ a1 a2 < 0)
    · have hs' := dist_sq (of_decide_eq_false k7)
      have k8 := decide_eq_true (dist_way hs.1 hs.2 hs'.2)
      cases k5 : (distZ a0 a1 == 0)
      · exact way_false_on a0 a1 a2 w k1 k2 k3 k4 k5 (hz.symm.trans k5) k7 l.1 l.2 l'.1 l'.2 k8
      · exact way_true_on a0 a1 a2 w k1 k2 k3 k4 k5 (hz.symm.trans k5) k7 l.1 l.2 l'.1 l'.2 k8
    · cases k5 : (distZ a0 a1 == 0)
      · exact way_false_off a0 a1 a2 w k1 k2 k3 k4 k5 (hz.symm.trans k5) k7
      · exact way_true_off a0 a1 a2 w k1 k2 k3 k4 k5 (hz.symm.trans k5) k7
  · cases ha : sqB a0
    · exact way_a a0 a1 a2 w k1 k2 k3 k4 (text_none ha)
    · cases hb : sqB a1
      · exact way_b a0 a1 a2 w k1 k2 k3 k4 (text_some ha) (text_none hb)
      · exact absurd (of_decide_eq_true k4) (by have := dist_nonneg ha hb; omega)
end Go.Proofs.Ytjlbnopgofimoaa.squaresWay
