/-
  The walk of SquaresBack.
-/
import Derived.Test.YtjlbnopgofimoaaSqAwake
import Derived.Lib.Strings
import Derived.WalkKit
import Derived.OpenShut
namespace Go.Proofs.Ytjlbnopgofimoaa.squaresBack
open Go.RowKit
set_option linter.unusedVariables false
theorem text_none {s : Int} (h : sqB s = false) : (textZ s).toList.isEmpty = true := by rw [textZ_no h]; decide +kernel
theorem flip_flip {s : Int} (h : sqB s = true) : flipZ (flipZ s) = s := by
  have e := flipZ_yes h
  have h0 := sqB_true.1 h
  have h1 : sqB (flipZ s) = true := by rw [e, sqB_true]; omega
  rw [flipZ_yes h1, e]; omega
theorem beq_of {a b : Int} (h : a = b) : (a == b) = true := by rw [h]; simp
set_option maxHeartbeats 1000000 in
theorem back_in (s : Int) (w : World) (g0 : decide (s < 0) = false) (g1 : decide (63 < s) = false) (o1 : ofOk (fileZ s) (rankZ s) = true) (o2 : (ofZ (fileZ s) (rankZ s) == s) = true) (p1 : parseOk (textZ s) = true) (p2 : (parseZ (textZ s) == s) = true) (p3 : (((textZ s).size : Int) == 2) = true) (f2 : (flipZ (flipZ s) == s) = true) :
    Calls Try.prog 6 #[.int .i64 s] w fun e w' => e = .returned (.bool true) ∧ Below w.heap.size w w' := by
  go_enter Try.func6, Try.ntmps6
  go_wp2_with fail
  refine (awake_any _).mono ?_; rintro e w1 ⟨rfl, hb1⟩
  have HB1 := Lib.hid hb1; clear hb1
  go_wp2_with (first | (go_at_call 12; refine (file_any _ _).mono ?_; rintro e w' ⟨rfl, rfl⟩) | (go_at_call 14; refine (rank_any _ _).mono ?_; rintro e w' ⟨rfl, rfl⟩))
  refine (text_any _ _).mono ?_; rintro e w2 ⟨rfl, hb2⟩
  have HB2 := Lib.hid (sq_next HB1.out hb2); clear hb2
  go_wp2_with (go_at_call 10; refine (of_any _ _ _).mono ?_; rintro e w' ⟨rfl, rfl⟩)
  refine (parse_any _ _).mono ?_; rintro e w3 ⟨rfl, hb3⟩
  have HB3 := Lib.hid (sq_next HB2.out hb3); clear hb3
  go_wp2_with (go_at_call 22; refine (sflip_any _ _).mono ?_; rintro e w' ⟨rfl, rfl⟩)
  go_ret
  exact ⟨rfl, HB3.out⟩
set_option maxHeartbeats 1000000 in
theorem back_neg (s : Int) (w : World) (g0 : decide (s < 0) = true) (o1 : ofOk (-1) (-1) = false) (f1 : fileZ s = -1) (f2 : rankZ s = -1) (p1 : parseOk (textZ s) = false) (p2 : (textZ s).toList.isEmpty = true) :
    Calls Try.prog 6 #[.int .i64 s] w fun e w' => e = .returned (.bool true) ∧ Below w.heap.size w w' := by
  go_enter Try.func6, Try.ntmps6
  go_wp2_with fail
  refine (awake_any _).mono ?_; rintro e w1 ⟨rfl, hb1⟩
  have HB1 := Lib.hid hb1; clear hb1
  go_wp2_with (first | (go_at_call 12; refine (file_any _ _).mono ?_; rintro e w' ⟨rfl, rfl⟩) | (go_at_call 14; refine (rank_any _ _).mono ?_; rintro e w' ⟨rfl, rfl⟩))
  refine (text_any _ _).mono ?_; rintro e w2 ⟨rfl, hb2⟩
  have HB2 := Lib.hid (sq_next HB1.out hb2); clear hb2
  go_wp2_with (go_at_call 10; refine (of_any _ _ _).mono ?_; rintro e w' ⟨rfl, rfl⟩)
  refine (parse_any _ _).mono ?_; rintro e w3 ⟨rfl, hb3⟩
  have HB3 := Lib.hid (sq_next HB2.out hb3); clear hb3
  go_wp2
  go_ret
  exact ⟨rfl, HB3.out⟩
set_option maxHeartbeats 1000000 in
theorem back_big (s : Int) (w : World) (g0 : decide (s < 0) = false) (g1 : decide (63 < s) = true) (o1 : ofOk (-1) (-1) = false) (f1 : fileZ s = -1) (f2 : rankZ s = -1) (p1 : parseOk (textZ s) = false) (p2 : (textZ s).toList.isEmpty = true) :
    Calls Try.prog 6 #[.int .i64 s] w fun e w' => e = .returned (.bool true) ∧ Below w.heap.size w w' := by
  go_enter Try.func6, Try.ntmps6
  go_wp2_with fail
  refine (awake_any _).mono ?_; rintro e w1 ⟨rfl, hb1⟩
  have HB1 := Lib.hid hb1; clear hb1
  go_wp2_with (first | (go_at_call 12; refine (file_any _ _).mono ?_; rintro e w' ⟨rfl, rfl⟩) | (go_at_call 14; refine (rank_any _ _).mono ?_; rintro e w' ⟨rfl, rfl⟩))
  refine (text_any _ _).mono ?_; rintro e w2 ⟨rfl, hb2⟩
  have HB2 := Lib.hid (sq_next HB1.out hb2); clear hb2
  go_wp2_with (go_at_call 10; refine (of_any _ _ _).mono ?_; rintro e w' ⟨rfl, rfl⟩)
  refine (parse_any _ _).mono ?_; rintro e w3 ⟨rfl, hb3⟩
  have HB3 := Lib.hid (sq_next HB2.out hb3); clear hb3
  go_wp2
  go_ret
  exact ⟨rfl, HB3.out⟩
theorem walk (a0 : Int) (w0 : (Lit.int .i64 a0).wf = true) (w : World) :
    Calls Try.prog 6 #[.int .i64 a0] w fun e w' => e = .returned (.bool true) ∧ Below w.heap.size w w' := by
  cases h : sqB a0
  · have hp : parseOk (textZ a0) = false := by rw [textZ_no h]; exact parse_empty
    have h' := sqB_false.1 h
    by_cases n : a0 < 0
    · exact back_neg a0 w (decide_eq_true n) (by decide) (fileZ_no h) (rankZ_no h) hp (text_none h)
    · exact back_big a0 w (decide_eq_false n) (decide_eq_true (by omega)) (by decide) (fileZ_no h) (rankZ_no h) hp (text_none h)
  · have h' := sqB_true.1 h
    obtain ⟨p1, p2, p3⟩ := parse_text a0 h
    exact back_in a0 w (decide_eq_false (by omega)) (decide_eq_false (by omega)) (by rw [fileZ_yes h, rankZ_yes h]; exact ofOk_back h) (beq_of (by rw [fileZ_yes h, rankZ_yes h]; exact ofZ_back h)) p1 (beq_of p2) (by rw [p3]; rfl) (beq_of (flip_flip h))
end Go.Proofs.Ytjlbnopgofimoaa.squaresBack
