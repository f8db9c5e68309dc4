/-
  The walk of SquaresSteps.
-/
import Derived.Test.YtjlbnopgofimoaaSqAwake
import Derived.WalkKit
import Derived.OpenShut
namespace Go.Proofs.Ytjlbnopgofimoaa.squaresSteps
open Go.RowKit
set_option linter.unusedVariables false
theorem beq_of {a b : Int} (h : a = b) : (a == b) = true := by rw [h]; simp
theorem beq_no {a b : Int} (h : ¬ a = b) : (a == b) = false := by simpa using h
theorem step_to {s f r : Int} (h : sqB s = true) (o : ofOk (fileZ s + f) (rankZ s + r) = true) : ofZ (fileZ s + f) (rankZ s + r) = s + 8 * r + f := by
  rw [ofZ_yes o, fileZ_yes h, rankZ_yes h]; omega
theorem step_far {s f r : Int} (h : sqB s = true) (o : ofOk (fileZ s + f) (rankZ s + r) = true) (l1 : -1 ≤ f) (l2 : f ≤ 1) (l3 : -1 ≤ r) (l4 : r ≤ 1) :
    distZ s (ofZ (fileZ s + f) (rankZ s + r)) = if f = 0 ∧ r = 0 then 0 else 1 := by
  have e1 := of_file o
  have e2 := of_rank o
  have hs := of_sq o
  rw [fileZ_yes hs] at e1
  rw [rankZ_yes hs] at e2
  rw [distZ_yes (by rw [h, hs]; rfl), e1, e2, fileZ_yes h, rankZ_yes h]
  unfold gapZ
  split <;> split <;> split <;> split <;> omega
set_option maxHeartbeats 1000000 in
theorem out_0 (s f r : Int) (w : World) (g0 : decide (s < 0) = true) :
    Calls Try.prog 9 #[.int .i64 s, .int .i64 f, .int .i64 r] w fun e w' => e = .returned (.bool true) ∧ Below w.heap.size w w' := by
  go_enter Try.func9, Try.ntmps9
  go_wp2_with fail
  refine (awake_any _).mono ?_; rintro e w1 ⟨rfl, hb1⟩
  have HB1 := Lib.hid hb1; clear hb1
  go_wp2
  go_ret
  exact ⟨rfl, HB1.out⟩
set_option maxHeartbeats 1000000 in
theorem out_1 (s f r : Int) (w : World) (g0 : decide (s < 0) = false) (g1 : decide (63 < s) = true) :
    Calls Try.prog 9 #[.int .i64 s, .int .i64 f, .int .i64 r] w fun e w' => e = .returned (.bool true) ∧ Below w.heap.size w w' := by
  go_enter Try.func9, Try.ntmps9
  go_wp2_with fail
  refine (awake_any _).mono ?_; rintro e w1 ⟨rfl, hb1⟩
  have HB1 := Lib.hid hb1; clear hb1
  go_wp2
  go_ret
  exact ⟨rfl, HB1.out⟩
set_option maxHeartbeats 1000000 in
theorem out_2 (s f r : Int) (w : World) (g0 : decide (s < 0) = false) (g1 : decide (63 < s) = false) (g2 : decide (f < -1) = true) :
    Calls Try.prog 9 #[.int .i64 s, .int .i64 f, .int .i64 r] w fun e w' => e = .returned (.bool true) ∧ Below w.heap.size w w' := by
  go_enter Try.func9, Try.ntmps9
  go_wp2_with fail
  refine (awake_any _).mono ?_; rintro e w1 ⟨rfl, hb1⟩
  have HB1 := Lib.hid hb1; clear hb1
  go_wp2
  go_ret
  exact ⟨rfl, HB1.out⟩
set_option maxHeartbeats 1000000 in
theorem out_3 (s f r : Int) (w : World) (g0 : decide (s < 0) = false) (g1 : decide (63 < s) = false) (g2 : decide (f < -1) = false) (g3 : decide (1 < f) = true) :
    Calls Try.prog 9 #[.int .i64 s, .int .i64 f, .int .i64 r] w fun e w' => e = .returned (.bool true) ∧ Below w.heap.size w w' := by
  go_enter Try.func9, Try.ntmps9
  go_wp2_with fail
  refine (awake_any _).mono ?_; rintro e w1 ⟨rfl, hb1⟩
  have HB1 := Lib.hid hb1; clear hb1
  go_wp2
  go_ret
  exact ⟨rfl, HB1.out⟩
set_option maxHeartbeats 1000000 in
theorem out_4 (s f r : Int) (w : World) (g0 : decide (s < 0) = false) (g1 : decide (63 < s) = false) (g2 : decide (f < -1) = false) (g3 : decide (1 < f) = false) (g4 : decide (r < -1) = true) :
    Calls Try.prog 9 #[.int .i64 s, .int .i64 f, .int .i64 r] w fun e w' => e = .returned (.bool true) ∧ Below w.heap.size w w' := by
  go_enter Try.func9, Try.ntmps9
  go_wp2_with fail
  refine (awake_any _).mono ?_; rintro e w1 ⟨rfl, hb1⟩
  have HB1 := Lib.hid hb1; clear hb1
  go_wp2
  go_ret
  exact ⟨rfl, HB1.out⟩
set_option maxHeartbeats 1000000 in
theorem out_5 (s f r : Int) (w : World) (g0 : decide (s < 0) = false) (g1 : decide (63 < s) = false) (g2 : decide (f < -1) = false) (g3 : decide (1 < f) = false) (g4 : decide (r < -1) = false) (g5 : decide (1 < r) = true) :
    Calls Try.prog 9 #[.int .i64 s, .int .i64 f, .int .i64 r] w fun e w' => e = .returned (.bool true) ∧ Below w.heap.size w w' := by
  go_enter Try.func9, Try.ntmps9
  go_wp2_with fail
  refine (awake_any _).mono ?_; rintro e w1 ⟨rfl, hb1⟩
  have HB1 := Lib.hid hb1; clear hb1
  go_wp2
  go_ret
  exact ⟨rfl, HB1.out⟩
set_option maxHeartbeats 1000000 in
theorem off_0 (s f r : Int) (w : World) (g0 : decide (s < 0) = false) (g1 : decide (63 < s) = false) (g2 : decide (f < -1) = false) (g3 : decide (1 < f) = false) (g4 : decide (r < -1) = false) (g5 : decide (1 < r) = false) (l1 : -1 ≤ f) (l2 : f ≤ 1) (l3 : -1 ≤ r) (l4 : r ≤ 1) (m1 : -1 ≤ fileZ s) (m2 : fileZ s ≤ 7) (m3 : -1 ≤ rankZ s) (m4 : rankZ s ≤ 7) (o1 : ofOk (fileZ s + f) (rankZ s + r) = false) (c0 : decide (fileZ s + f < 0) = true) :
    Calls Try.prog 9 #[.int .i64 s, .int .i64 f, .int .i64 r] w fun e w' => e = .returned (.bool true) ∧ Below w.heap.size w w' := by
  go_enter Try.func9, Try.ntmps9
  go_wp2_with fail
  refine (awake_any _).mono ?_; rintro e w1 ⟨rfl, hb1⟩
  have HB1 := Lib.hid hb1; clear hb1
  go_wp2_with (first | (go_at_call 12; refine (file_any _ _).mono ?_; rintro e w' ⟨rfl, rfl⟩) | (go_at_call 14; refine (rank_any _ _).mono ?_; rintro e w' ⟨rfl, rfl⟩) | (go_at_call 10; refine (of_any _ _ _).mono ?_; rintro e w' ⟨rfl, rfl⟩))
  go_ret
  exact ⟨rfl, HB1.out⟩
set_option maxHeartbeats 1000000 in
theorem off_1 (s f r : Int) (w : World) (g0 : decide (s < 0) = false) (g1 : decide (63 < s) = false) (g2 : decide (f < -1) = false) (g3 : decide (1 < f) = false) (g4 : decide (r < -1) = false) (g5 : decide (1 < r) = false) (l1 : -1 ≤ f) (l2 : f ≤ 1) (l3 : -1 ≤ r) (l4 : r ≤ 1) (m1 : -1 ≤ fileZ s) (m2 : fileZ s ≤ 7) (m3 : -1 ≤ rankZ s) (m4 : rankZ s ≤ 7) (o1 : ofOk (fileZ s + f) (rankZ s + r) = false) (c0 : decide (fileZ s + f < 0) = false) (c1 : decide (7 < fileZ s + f) = true) :
    Calls Try.prog 9 #[.int .i64 s, .int .i64 f, .int .i64 r] w fun e w' => e = .returned (.bool true) ∧ Below w.heap.size w w' := by
  go_enter Try.func9, Try.ntmps9
  go_wp2_with fail
  refine (awake_any _).mono ?_; rintro e w1 ⟨rfl, hb1⟩
  have HB1 := Lib.hid hb1; clear hb1
  go_wp2_with (first | (go_at_call 12; refine (file_any _ _).mono ?_; rintro e w' ⟨rfl, rfl⟩) | (go_at_call 14; refine (rank_any _ _).mono ?_; rintro e w' ⟨rfl, rfl⟩) | (go_at_call 10; refine (of_any _ _ _).mono ?_; rintro e w' ⟨rfl, rfl⟩))
  go_ret
  exact ⟨rfl, HB1.out⟩
set_option maxHeartbeats 1000000 in
theorem off_2 (s f r : Int) (w : World) (g0 : decide (s < 0) = false) (g1 : decide (63 < s) = false) (g2 : decide (f < -1) = false) (g3 : decide (1 < f) = false) (g4 : decide (r < -1) = false) (g5 : decide (1 < r) = false) (l1 : -1 ≤ f) (l2 : f ≤ 1) (l3 : -1 ≤ r) (l4 : r ≤ 1) (m1 : -1 ≤ fileZ s) (m2 : fileZ s ≤ 7) (m3 : -1 ≤ rankZ s) (m4 : rankZ s ≤ 7) (o1 : ofOk (fileZ s + f) (rankZ s + r) = false) (c0 : decide (fileZ s + f < 0) = false) (c1 : decide (7 < fileZ s + f) = false) (c2 : decide (rankZ s + r < 0) = true) :
    Calls Try.prog 9 #[.int .i64 s, .int .i64 f, .int .i64 r] w fun e w' => e = .returned (.bool true) ∧ Below w.heap.size w w' := by
  go_enter Try.func9, Try.ntmps9
  go_wp2_with fail
  refine (awake_any _).mono ?_; rintro e w1 ⟨rfl, hb1⟩
  have HB1 := Lib.hid hb1; clear hb1
  go_wp2_with (first | (go_at_call 12; refine (file_any _ _).mono ?_; rintro e w' ⟨rfl, rfl⟩) | (go_at_call 14; refine (rank_any _ _).mono ?_; rintro e w' ⟨rfl, rfl⟩) | (go_at_call 10; refine (of_any _ _ _).mono ?_; rintro e w' ⟨rfl, rfl⟩))
  go_ret
  exact ⟨rfl, HB1.out⟩
set_option maxHeartbeats 1000000 in
theorem off_3 (s f r : Int) (w : World) (g0 : decide (s < 0) = false) (g1 : decide (63 < s) = false) (g2 : decide (f < -1) = false) (g3 : decide (1 < f) = false) (g4 : decide (r < -1) = false) (g5 : decide (1 < r) = false) (l1 : -1 ≤ f) (l2 : f ≤ 1) (l3 : -1 ≤ r) (l4 : r ≤ 1) (m1 : -1 ≤ fileZ s) (m2 : fileZ s ≤ 7) (m3 : -1 ≤ rankZ s) (m4 : rankZ s ≤ 7) (o1 : ofOk (fileZ s + f) (rankZ s + r) = false) (c0 : decide (fileZ s + f < 0) = false) (c1 : decide (7 < fileZ s + f) = false) (c2 : decide (rankZ s + r < 0) = false) (c3 : decide (7 < rankZ s + r) = true) :
    Calls Try.prog 9 #[.int .i64 s, .int .i64 f, .int .i64 r] w fun e w' => e = .returned (.bool true) ∧ Below w.heap.size w w' := by
  go_enter Try.func9, Try.ntmps9
  go_wp2_with fail
  refine (awake_any _).mono ?_; rintro e w1 ⟨rfl, hb1⟩
  have HB1 := Lib.hid hb1; clear hb1
  go_wp2_with (first | (go_at_call 12; refine (file_any _ _).mono ?_; rintro e w' ⟨rfl, rfl⟩) | (go_at_call 14; refine (rank_any _ _).mono ?_; rintro e w' ⟨rfl, rfl⟩) | (go_at_call 10; refine (of_any _ _ _).mono ?_; rintro e w' ⟨rfl, rfl⟩))
  go_ret
  exact ⟨rfl, HB1.out⟩
set_option maxHeartbeats 1000000 in
theorem on_0 (s f r : Int) (w : World) (g0 : decide (s < 0) = false) (g1 : decide (63 < s) = false) (g2 : decide (f < -1) = false) (g3 : decide (1 < f) = false) (g4 : decide (r < -1) = false) (g5 : decide (1 < r) = false) (l1 : -1 ≤ f) (l2 : f ≤ 1) (l3 : -1 ≤ r) (l4 : r ≤ 1) (m1 : -1 ≤ fileZ s) (m2 : fileZ s ≤ 7) (m3 : -1 ≤ rankZ s) (m4 : rankZ s ≤ 7) (s1 : 0 ≤ s) (s2 : s ≤ 63) (o1 : ofOk (fileZ s + f) (rankZ s + r) = true) (o2 : (ofZ (fileZ s + f) (rankZ s + r) == s + 8 * r + f) = true) (o3 : (distZ s (ofZ (fileZ s + f) (rankZ s + r)) == 1) = true) (z1 : (f == 0) = false) :
    Calls Try.prog 9 #[.int .i64 s, .int .i64 f, .int .i64 r] w fun e w' => e = .returned (.bool true) ∧ Below w.heap.size w w' := by
  go_enter Try.func9, Try.ntmps9
  go_wp2_with fail
  refine (awake_any _).mono ?_; rintro e w1 ⟨rfl, hb1⟩
  have HB1 := Lib.hid hb1; clear hb1
  go_wp2_with (first | (go_at_call 12; refine (file_any _ _).mono ?_; rintro e w' ⟨rfl, rfl⟩) | (go_at_call 14; refine (rank_any _ _).mono ?_; rintro e w' ⟨rfl, rfl⟩) | (go_at_call 10; refine (of_any _ _ _).mono ?_; rintro e w' ⟨rfl, rfl⟩))
  refine (dist_any _ _ _).mono ?_; rintro e w2 ⟨rfl, hb2⟩
  have HB2 := Lib.hid (sq_next HB1.out hb2); clear hb2
  go_wp2
  go_ret
  exact ⟨rfl, HB2.out⟩
set_option maxHeartbeats 1000000 in
theorem on_1 (s f r : Int) (w : World) (g0 : decide (s < 0) = false) (g1 : decide (63 < s) = false) (g2 : decide (f < -1) = false) (g3 : decide (1 < f) = false) (g4 : decide (r < -1) = false) (g5 : decide (1 < r) = false) (l1 : -1 ≤ f) (l2 : f ≤ 1) (l3 : -1 ≤ r) (l4 : r ≤ 1) (m1 : -1 ≤ fileZ s) (m2 : fileZ s ≤ 7) (m3 : -1 ≤ rankZ s) (m4 : rankZ s ≤ 7) (s1 : 0 ≤ s) (s2 : s ≤ 63) (o1 : ofOk (fileZ s + f) (rankZ s + r) = true) (o2 : (ofZ (fileZ s + f) (rankZ s + r) == s + 8 * r + f) = true) (o3 : (distZ s (ofZ (fileZ s + f) (rankZ s + r)) == 1) = true) (z1 : (f == 0) = true) (z2 : (r == 0) = false) :
    Calls Try.prog 9 #[.int .i64 s, .int .i64 f, .int .i64 r] w fun e w' => e = .returned (.bool true) ∧ Below w.heap.size w w' := by
  go_enter Try.func9, Try.ntmps9
  go_wp2_with fail
  refine (awake_any _).mono ?_; rintro e w1 ⟨rfl, hb1⟩
  have HB1 := Lib.hid hb1; clear hb1
  go_wp2_with (first | (go_at_call 12; refine (file_any _ _).mono ?_; rintro e w' ⟨rfl, rfl⟩) | (go_at_call 14; refine (rank_any _ _).mono ?_; rintro e w' ⟨rfl, rfl⟩) | (go_at_call 10; refine (of_any _ _ _).mono ?_; rintro e w' ⟨rfl, rfl⟩))
  refine (dist_any _ _ _).mono ?_; rintro e w2 ⟨rfl, hb2⟩
  have HB2 := Lib.hid (sq_next HB1.out hb2); clear hb2
  go_wp2
  go_ret
  exact ⟨rfl, HB2.out⟩
set_option maxHeartbeats 1000000 in
theorem on_2 (s f r : Int) (w : World) (g0 : decide (s < 0) = false) (g1 : decide (63 < s) = false) (g2 : decide (f < -1) = false) (g3 : decide (1 < f) = false) (g4 : decide (r < -1) = false) (g5 : decide (1 < r) = false) (l1 : -1 ≤ f) (l2 : f ≤ 1) (l3 : -1 ≤ r) (l4 : r ≤ 1) (m1 : -1 ≤ fileZ s) (m2 : fileZ s ≤ 7) (m3 : -1 ≤ rankZ s) (m4 : rankZ s ≤ 7) (s1 : 0 ≤ s) (s2 : s ≤ 63) (o1 : ofOk (fileZ s + f) (rankZ s + r) = true) (o2 : (ofZ (fileZ s + f) (rankZ s + r) == s + 8 * r + f) = true) (o3 : (distZ s (ofZ (fileZ s + f) (rankZ s + r)) == 0) = true) (z1 : (f == 0) = true) (z2 : (r == 0) = true) :
    Calls Try.prog 9 #[.int .i64 s, .int .i64 f, .int .i64 r] w fun e w' => e = .returned (.bool true) ∧ Below w.heap.size w w' := by
  go_enter Try.func9, Try.ntmps9
  go_wp2_with fail
  refine (awake_any _).mono ?_; rintro e w1 ⟨rfl, hb1⟩
  have HB1 := Lib.hid hb1; clear hb1
  go_wp2_with (first | (go_at_call 12; refine (file_any _ _).mono ?_; rintro e w' ⟨rfl, rfl⟩) | (go_at_call 14; refine (rank_any _ _).mono ?_; rintro e w' ⟨rfl, rfl⟩) | (go_at_call 10; refine (of_any _ _ _).mono ?_; rintro e w' ⟨rfl, rfl⟩))
  refine (dist_any _ _ _).mono ?_; rintro e w2 ⟨rfl, hb2⟩
  have HB2 := Lib.hid (sq_next HB1.out hb2); clear hb2
  go_wp2
  go_ret
  exact ⟨rfl, HB2.out⟩
theorem walk (a0 a1 a2 : Int) (w0 : (Lit.int .i64 a0).wf = true) (w1 : (Lit.int .i64 a1).wf = true) (w2 : (Lit.int .i64 a2).wf = true) (w : World) :
    Calls Try.prog 9 #[.int .i64 a0, .int .i64 a1, .int .i64 a2] w fun e w' => e = .returned (.bool true) ∧ Below w.heap.size w w' := by
  by_cases g0 : a0 < 0
  · exact out_0 a0 a1 a2 w (decide_eq_true g0)
  by_cases g1 : 63 < a0
  · exact out_1 a0 a1 a2 w (decide_eq_false g0) (decide_eq_true g1)
  by_cases g2 : a1 < -1
  · exact out_2 a0 a1 a2 w (decide_eq_false g0) (decide_eq_false g1) (decide_eq_true g2)
  by_cases g3 : 1 < a1
  · exact out_3 a0 a1 a2 w (decide_eq_false g0) (decide_eq_false g1) (decide_eq_false g2) (decide_eq_true g3)
  by_cases g4 : a2 < -1
  · exact out_4 a0 a1 a2 w (decide_eq_false g0) (decide_eq_false g1) (decide_eq_false g2) (decide_eq_false g3) (decide_eq_true g4)
  by_cases g5 : 1 < a2
  · exact out_5 a0 a1 a2 w (decide_eq_false g0) (decide_eq_false g1) (decide_eq_false g2) (decide_eq_false g3) (decide_eq_false g4) (decide_eq_true g5)
  have hs : sqB a0 = true := sqB_true.2 ⟨by omega, by omega⟩
  have m := fileZ_rng a0
  have m' := rankZ_rng a0
  cases o1 : ofOk (fileZ a0 + a1) (rankZ a0 + a2)
  · have hn : ¬ ((0 ≤ fileZ a0 + a1 ∧ fileZ a0 + a1 < 8) ∧ 0 ≤ rankZ a0 + a2 ∧ rankZ a0 + a2 < 8) := by rw [← ofOk_true, o1]; simp
    by_cases c0 : fileZ a0 + a1 < 0
    · exact off_0 a0 a1 a2 w (decide_eq_false g0) (decide_eq_false g1) (decide_eq_false g2) (decide_eq_false g3) (decide_eq_false g4) (decide_eq_false g5) (by omega) (by omega) (by omega) (by omega) m.1 m.2 m'.1 m'.2 o1 (decide_eq_true c0)
    by_cases c1 : 7 < fileZ a0 + a1
    · exact off_1 a0 a1 a2 w (decide_eq_false g0) (decide_eq_false g1) (decide_eq_false g2) (decide_eq_false g3) (decide_eq_false g4) (decide_eq_false g5) (by omega) (by omega) (by omega) (by omega) m.1 m.2 m'.1 m'.2 o1 (decide_eq_false c0) (decide_eq_true c1)
    by_cases c2 : rankZ a0 + a2 < 0
    · exact off_2 a0 a1 a2 w (decide_eq_false g0) (decide_eq_false g1) (decide_eq_false g2) (decide_eq_false g3) (decide_eq_false g4) (decide_eq_false g5) (by omega) (by omega) (by omega) (by omega) m.1 m.2 m'.1 m'.2 o1 (decide_eq_false c0) (decide_eq_false c1) (decide_eq_true c2)
    exact off_3 a0 a1 a2 w (decide_eq_false g0) (decide_eq_false g1) (decide_eq_false g2) (decide_eq_false g3) (decide_eq_false g4) (decide_eq_false g5) (by omega) (by omega) (by omega) (by omega) m.1 m.2 m'.1 m'.2 o1 (decide_eq_false c0) (decide_eq_false c1) (decide_eq_false c2) (decide_eq_true (by omega))
  · have o2 := step_to hs o1
    have o3 := step_far hs o1 (by omega) (by omega) (by omega) (by omega)
    by_cases z1 : a1 = 0
    · by_cases z2 : a2 = 0
      · rw [if_pos ⟨z1, z2⟩] at o3
        exact on_2 a0 a1 a2 w (decide_eq_false g0) (decide_eq_false g1) (decide_eq_false g2) (decide_eq_false g3) (decide_eq_false g4) (decide_eq_false g5) (by omega) (by omega) (by omega) (by omega) m.1 m.2 m'.1 m'.2 (by omega) (by omega) o1 (beq_of o2) (beq_of o3) (beq_of z1) (beq_of z2)
      · rw [if_neg (fun h => z2 h.2)] at o3
        exact on_1 a0 a1 a2 w (decide_eq_false g0) (decide_eq_false g1) (decide_eq_false g2) (decide_eq_false g3) (decide_eq_false g4) (decide_eq_false g5) (by omega) (by omega) (by omega) (by omega) m.1 m.2 m'.1 m'.2 (by omega) (by omega) o1 (beq_of o2) (beq_of o3) (beq_of z1) (beq_no z2)
    · rw [if_neg (fun h => z1 h.1)] at o3
      exact on_0 a0 a1 a2 w (decide_eq_false g0) (decide_eq_false g1) (decide_eq_false g2) (decide_eq_false g3) (decide_eq_false g4) (decide_eq_false g5) (by omega) (by omega) (by omega) (by omega) m.1 m.2 m'.1 m'.2 (by omega) (by omega) o1 (beq_of o2) (beq_of o3) (beq_no z1)
end Go.Proofs.Ytjlbnopgofimoaa.squaresSteps
