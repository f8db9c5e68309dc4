/-
  The walk of SquaresRead.
-/
import Derived.Test.YtjlbnopgofimoaaSqAwake
import Derived.WalkKit
import Derived.OpenShut
namespace Go.Proofs.Ytjlbnopgofimoaa.squaresRead
open Go.RowKit
set_option linter.unusedVariables false
set_option maxHeartbeats 1000000 in
theorem read_long (t : ByteArray) (f r : Int) (w : World) (g : decide (5000 < (t.size : Int)) = true) :
    Calls Try.prog 7 #[.string t, .int .i64 f, .int .i64 r] w fun e w' => e = .returned (.bool true) ∧ Below w.heap.size w w' := by
  go_enter Try.func7, Try.ntmps7
  go_wp2_with fail
  refine (awake_any _).mono ?_; rintro e w1 ⟨rfl, hb1⟩
  have HB1 := Lib.hid hb1; clear hb1
  go_wp2
  go_ret
  exact ⟨rfl, HB1.out⟩
set_option maxHeartbeats 1000000 in
theorem read_y_y (t : ByteArray) (f r : Int) (w : World) (g : decide (5000 < (t.size : Int)) = false) (p1 : parseOk t = true) (p2 : textZ (parseZ t) = t) (o1 : ofOk f r = true) (o2 : fileZ (ofZ f r) = f) (o3 : rankZ (ofZ f r) = r) :
    Calls Try.prog 7 #[.string t, .int .i64 f, .int .i64 r] w fun e w' => e = .returned (.bool true) ∧ Below w.heap.size w w' := by
  go_enter Try.func7, Try.ntmps7
  go_wp2_with fail
  refine (awake_any _).mono ?_; rintro e w1 ⟨rfl, hb1⟩
  have HB1 := Lib.hid hb1; clear hb1
  go_wp2_with fail
  refine (parse_any _ _).mono ?_; rintro e w2 ⟨rfl, hb2⟩
  have HB2 := Lib.hid (sq_next HB1.out hb2); clear hb2
  go_wp2_with fail
  refine (text_any _ _).mono ?_; rintro e w3 ⟨rfl, hb3⟩
  have HB3 := Lib.hid (sq_next HB2.out hb3); clear hb3
  go_wp2_with (first | (go_at_call 10; refine (of_any _ _ _).mono ?_; rintro e w' ⟨rfl, rfl⟩) | (go_at_call 12; refine (file_any _ _).mono ?_; rintro e w' ⟨rfl, rfl⟩) | (go_at_call 14; refine (rank_any _ _).mono ?_; rintro e w' ⟨rfl, rfl⟩))
  go_ret
  exact ⟨rfl, HB3.out⟩
set_option maxHeartbeats 1000000 in
theorem read_y_n0 (t : ByteArray) (f r : Int) (w : World) (g : decide (5000 < (t.size : Int)) = false) (p1 : parseOk t = true) (p2 : textZ (parseZ t) = t) (o1 : ofOk f r = false) (o2 : ofZ f r = 0) (c1 : decide (f < 0) = true) :
    Calls Try.prog 7 #[.string t, .int .i64 f, .int .i64 r] w fun e w' => e = .returned (.bool true) ∧ Below w.heap.size w w' := by
  go_enter Try.func7, Try.ntmps7
  go_wp2_with fail
  refine (awake_any _).mono ?_; rintro e w1 ⟨rfl, hb1⟩
  have HB1 := Lib.hid hb1; clear hb1
  go_wp2_with fail
  refine (parse_any _ _).mono ?_; rintro e w2 ⟨rfl, hb2⟩
  have HB2 := Lib.hid (sq_next HB1.out hb2); clear hb2
  go_wp2_with fail
  refine (text_any _ _).mono ?_; rintro e w3 ⟨rfl, hb3⟩
  have HB3 := Lib.hid (sq_next HB2.out hb3); clear hb3
  go_wp2_with (first | (go_at_call 10; refine (of_any _ _ _).mono ?_; rintro e w' ⟨rfl, rfl⟩) | (go_at_call 12; refine (file_any _ _).mono ?_; rintro e w' ⟨rfl, rfl⟩) | (go_at_call 14; refine (rank_any _ _).mono ?_; rintro e w' ⟨rfl, rfl⟩))
  go_ret
  exact ⟨rfl, HB3.out⟩
set_option maxHeartbeats 1000000 in
theorem read_y_n1 (t : ByteArray) (f r : Int) (w : World) (g : decide (5000 < (t.size : Int)) = false) (p1 : parseOk t = true) (p2 : textZ (parseZ t) = t) (o1 : ofOk f r = false) (o2 : ofZ f r = 0) (c1 : decide (f < 0) = false) (c2 : decide (7 < f) = true) :
    Calls Try.prog 7 #[.string t, .int .i64 f, .int .i64 r] w fun e w' => e = .returned (.bool true) ∧ Below w.heap.size w w' := by
  go_enter Try.func7, Try.ntmps7
  go_wp2_with fail
  refine (awake_any _).mono ?_; rintro e w1 ⟨rfl, hb1⟩
  have HB1 := Lib.hid hb1; clear hb1
  go_wp2_with fail
  refine (parse_any _ _).mono ?_; rintro e w2 ⟨rfl, hb2⟩
  have HB2 := Lib.hid (sq_next HB1.out hb2); clear hb2
  go_wp2_with fail
  refine (text_any _ _).mono ?_; rintro e w3 ⟨rfl, hb3⟩
  have HB3 := Lib.hid (sq_next HB2.out hb3); clear hb3
  go_wp2_with (first | (go_at_call 10; refine (of_any _ _ _).mono ?_; rintro e w' ⟨rfl, rfl⟩) | (go_at_call 12; refine (file_any _ _).mono ?_; rintro e w' ⟨rfl, rfl⟩) | (go_at_call 14; refine (rank_any _ _).mono ?_; rintro e w' ⟨rfl, rfl⟩))
  go_ret
  exact ⟨rfl, HB3.out⟩
set_option maxHeartbeats 1000000 in
theorem read_y_n2 (t : ByteArray) (f r : Int) (w : World) (g : decide (5000 < (t.size : Int)) = false) (p1 : parseOk t = true) (p2 : textZ (parseZ t) = t) (o1 : ofOk f r = false) (o2 : ofZ f r = 0) (c1 : decide (f < 0) = false) (c2 : decide (7 < f) = false) (c3 : decide (r < 0) = true) :
    Calls Try.prog 7 #[.string t, .int .i64 f, .int .i64 r] w fun e w' => e = .returned (.bool true) ∧ Below w.heap.size w w' := by
  go_enter Try.func7, Try.ntmps7
  go_wp2_with fail
  refine (awake_any _).mono ?_; rintro e w1 ⟨rfl, hb1⟩
  have HB1 := Lib.hid hb1; clear hb1
  go_wp2_with fail
  refine (parse_any _ _).mono ?_; rintro e w2 ⟨rfl, hb2⟩
  have HB2 := Lib.hid (sq_next HB1.out hb2); clear hb2
  go_wp2_with fail
  refine (text_any _ _).mono ?_; rintro e w3 ⟨rfl, hb3⟩
  have HB3 := Lib.hid (sq_next HB2.out hb3); clear hb3
  go_wp2_with (first | (go_at_call 10; refine (of_any _ _ _).mono ?_; rintro e w' ⟨rfl, rfl⟩) | (go_at_call 12; refine (file_any _ _).mono ?_; rintro e w' ⟨rfl, rfl⟩) | (go_at_call 14; refine (rank_any _ _).mono ?_; rintro e w' ⟨rfl, rfl⟩))
  go_ret
  exact ⟨rfl, HB3.out⟩
set_option maxHeartbeats 1000000 in
theorem read_y_n3 (t : ByteArray) (f r : Int) (w : World) (g : decide (5000 < (t.size : Int)) = false) (p1 : parseOk t = true) (p2 : textZ (parseZ t) = t) (o1 : ofOk f r = false) (o2 : ofZ f r = 0) (c1 : decide (f < 0) = false) (c2 : decide (7 < f) = false) (c3 : decide (r < 0) = false) (c4 : decide (7 < r) = true) :
    Calls Try.prog 7 #[.string t, .int .i64 f, .int .i64 r] w fun e w' => e = .returned (.bool true) ∧ Below w.heap.size w w' := by
  go_enter Try.func7, Try.ntmps7
  go_wp2_with fail
  refine (awake_any _).mono ?_; rintro e w1 ⟨rfl, hb1⟩
  have HB1 := Lib.hid hb1; clear hb1
  go_wp2_with fail
  refine (parse_any _ _).mono ?_; rintro e w2 ⟨rfl, hb2⟩
  have HB2 := Lib.hid (sq_next HB1.out hb2); clear hb2
  go_wp2_with fail
  refine (text_any _ _).mono ?_; rintro e w3 ⟨rfl, hb3⟩
  have HB3 := Lib.hid (sq_next HB2.out hb3); clear hb3
  go_wp2_with (first | (go_at_call 10; refine (of_any _ _ _).mono ?_; rintro e w' ⟨rfl, rfl⟩) | (go_at_call 12; refine (file_any _ _).mono ?_; rintro e w' ⟨rfl, rfl⟩) | (go_at_call 14; refine (rank_any _ _).mono ?_; rintro e w' ⟨rfl, rfl⟩))
  go_ret
  exact ⟨rfl, HB3.out⟩
set_option maxHeartbeats 1000000 in
theorem read_n_y (t : ByteArray) (f r : Int) (w : World) (g : decide (5000 < (t.size : Int)) = false) (p1 : parseOk t = false) (p2 : parseZ t = 0) (o1 : ofOk f r = true) (o2 : fileZ (ofZ f r) = f) (o3 : rankZ (ofZ f r) = r) :
    Calls Try.prog 7 #[.string t, .int .i64 f, .int .i64 r] w fun e w' => e = .returned (.bool true) ∧ Below w.heap.size w w' := by
  go_enter Try.func7, Try.ntmps7
  go_wp2_with fail
  refine (awake_any _).mono ?_; rintro e w1 ⟨rfl, hb1⟩
  have HB1 := Lib.hid hb1; clear hb1
  go_wp2_with fail
  refine (parse_any _ _).mono ?_; rintro e w2 ⟨rfl, hb2⟩
  have HB2 := Lib.hid (sq_next HB1.out hb2); clear hb2
  go_wp2_with (first | (go_at_call 10; refine (of_any _ _ _).mono ?_; rintro e w' ⟨rfl, rfl⟩) | (go_at_call 12; refine (file_any _ _).mono ?_; rintro e w' ⟨rfl, rfl⟩) | (go_at_call 14; refine (rank_any _ _).mono ?_; rintro e w' ⟨rfl, rfl⟩))
  go_ret
  exact ⟨rfl, HB2.out⟩
set_option maxHeartbeats 1000000 in
theorem read_n_n0 (t : ByteArray) (f r : Int) (w : World) (g : decide (5000 < (t.size : Int)) = false) (p1 : parseOk t = false) (p2 : parseZ t = 0) (o1 : ofOk f r = false) (o2 : ofZ f r = 0) (c1 : decide (f < 0) = true) :
    Calls Try.prog 7 #[.string t, .int .i64 f, .int .i64 r] w fun e w' => e = .returned (.bool true) ∧ Below w.heap.size w w' := by
  go_enter Try.func7, Try.ntmps7
  go_wp2_with fail
  refine (awake_any _).mono ?_; rintro e w1 ⟨rfl, hb1⟩
  have HB1 := Lib.hid hb1; clear hb1
  go_wp2_with fail
  refine (parse_any _ _).mono ?_; rintro e w2 ⟨rfl, hb2⟩
  have HB2 := Lib.hid (sq_next HB1.out hb2); clear hb2
  go_wp2_with (first | (go_at_call 10; refine (of_any _ _ _).mono ?_; rintro e w' ⟨rfl, rfl⟩) | (go_at_call 12; refine (file_any _ _).mono ?_; rintro e w' ⟨rfl, rfl⟩) | (go_at_call 14; refine (rank_any _ _).mono ?_; rintro e w' ⟨rfl, rfl⟩))
  go_ret
  exact ⟨rfl, HB2.out⟩
set_option maxHeartbeats 1000000 in
theorem read_n_n1 (t : ByteArray) (f r : Int) (w : World) (g : decide (5000 < (t.size : Int)) = false) (p1 : parseOk t = false) (p2 : parseZ t = 0) (o1 : ofOk f r = false) (o2 : ofZ f r = 0) (c1 : decide (f < 0) = false) (c2 : decide (7 < f) = true) :
    Calls Try.prog 7 #[.string t, .int .i64 f, .int .i64 r] w fun e w' => e = .returned (.bool true) ∧ Below w.heap.size w w' := by
  go_enter Try.func7, Try.ntmps7
  go_wp2_with fail
  refine (awake_any _).mono ?_; rintro e w1 ⟨rfl, hb1⟩
  have HB1 := Lib.hid hb1; clear hb1
  go_wp2_with fail
  refine (parse_any _ _).mono ?_; rintro e w2 ⟨rfl, hb2⟩
  have HB2 := Lib.hid (sq_next HB1.out hb2); clear hb2
  go_wp2_with (first | (go_at_call 10; refine (of_any _ _ _).mono ?_; rintro e w' ⟨rfl, rfl⟩) | (go_at_call 12; refine (file_any _ _).mono ?_; rintro e w' ⟨rfl, rfl⟩) | (go_at_call 14; refine (rank_any _ _).mono ?_; rintro e w' ⟨rfl, rfl⟩))
  go_ret
  exact ⟨rfl, HB2.out⟩
set_option maxHeartbeats 1000000 in
theorem read_n_n2 (t : ByteArray) (f r : Int) (w : World) (g : decide (5000 < (t.size : Int)) = false) (p1 : parseOk t = false) (p2 : parseZ t = 0) (o1 : ofOk f r = false) (o2 : ofZ f r = 0) (c1 : decide (f < 0) = false) (c2 : decide (7 < f) = false) (c3 : decide (r < 0) = true) :
    Calls Try.prog 7 #[.string t, .int .i64 f, .int .i64 r] w fun e w' => e = .returned (.bool true) ∧ Below w.heap.size w w' := by
  go_enter Try.func7, Try.ntmps7
  go_wp2_with fail
  refine (awake_any _).mono ?_; rintro e w1 ⟨rfl, hb1⟩
  have HB1 := Lib.hid hb1; clear hb1
  go_wp2_with fail
  refine (parse_any _ _).mono ?_; rintro e w2 ⟨rfl, hb2⟩
  have HB2 := Lib.hid (sq_next HB1.out hb2); clear hb2
  go_wp2_with (first | (go_at_call 10; refine (of_any _ _ _).mono ?_; rintro e w' ⟨rfl, rfl⟩) | (go_at_call 12; refine (file_any _ _).mono ?_; rintro e w' ⟨rfl, rfl⟩) | (go_at_call 14; refine (rank_any _ _).mono ?_; rintro e w' ⟨rfl, rfl⟩))
  go_ret
  exact ⟨rfl, HB2.out⟩
set_option maxHeartbeats 1000000 in
theorem read_n_n3 (t : ByteArray) (f r : Int) (w : World) (g : decide (5000 < (t.size : Int)) = false) (p1 : parseOk t = false) (p2 : parseZ t = 0) (o1 : ofOk f r = false) (o2 : ofZ f r = 0) (c1 : decide (f < 0) = false) (c2 : decide (7 < f) = false) (c3 : decide (r < 0) = false) (c4 : decide (7 < r) = true) :
    Calls Try.prog 7 #[.string t, .int .i64 f, .int .i64 r] w fun e w' => e = .returned (.bool true) ∧ Below w.heap.size w w' := by
  go_enter Try.func7, Try.ntmps7
  go_wp2_with fail
  refine (awake_any _).mono ?_; rintro e w1 ⟨rfl, hb1⟩
  have HB1 := Lib.hid hb1; clear hb1
  go_wp2_with fail
  refine (parse_any _ _).mono ?_; rintro e w2 ⟨rfl, hb2⟩
  have HB2 := Lib.hid (sq_next HB1.out hb2); clear hb2
  go_wp2_with (first | (go_at_call 10; refine (of_any _ _ _).mono ?_; rintro e w' ⟨rfl, rfl⟩) | (go_at_call 12; refine (file_any _ _).mono ?_; rintro e w' ⟨rfl, rfl⟩) | (go_at_call 14; refine (rank_any _ _).mono ?_; rintro e w' ⟨rfl, rfl⟩))
  go_ret
  exact ⟨rfl, HB2.out⟩
theorem walk (a0 : ByteArray) (a1 a2 : Int) (w0 : a0.size ≤ maxLen) (w1 : (Lit.int .i64 a1).wf = true) (w2 : (Lit.int .i64 a2).wf = true) (w : World) :
    Calls Try.prog 7 #[.string a0, .int .i64 a1, .int .i64 a2] w fun e w' => e = .returned (.bool true) ∧ Below w.heap.size w w' := by
  cases g : decide (5000 < (a0.size : Int))
  · cases p1 : parseOk a0
    · have p2 := parse_none p1
      cases o1 : ofOk a1 a2
      · have o2 := ofZ_no o1
        by_cases c1 : a1 < 0
        · exact read_n_n0 a0 a1 a2 w g p1 p2 o1 o2 (decide_eq_true c1)
        · by_cases c2 : 7 < a1
          · exact read_n_n1 a0 a1 a2 w g p1 p2 o1 o2 (decide_eq_false c1) (decide_eq_true c2)
          · by_cases c3 : a2 < 0
            · exact read_n_n2 a0 a1 a2 w g p1 p2 o1 o2 (decide_eq_false c1) (decide_eq_false c2) (decide_eq_true c3)
            · have c4 : 7 < a2 := by
                by_cases c4 : 7 < a2
                · exact c4
                · have := (ofOk_true (f := a1) (r := a2)).2 ⟨⟨by omega, by omega⟩, by omega, by omega⟩
                  rw [o1] at this; cases this
              exact read_n_n3 a0 a1 a2 w g p1 p2 o1 o2 (decide_eq_false c1) (decide_eq_false c2) (decide_eq_false c3) (decide_eq_true c4)
      · exact read_n_y a0 a1 a2 w g p1 p2 o1 (of_file o1) (of_rank o1)
    · have p2 := (text_parse p1).1
      cases o1 : ofOk a1 a2
      · have o2 := ofZ_no o1
        by_cases c1 : a1 < 0
        · exact read_y_n0 a0 a1 a2 w g p1 p2 o1 o2 (decide_eq_true c1)
        · by_cases c2 : 7 < a1
          · exact read_y_n1 a0 a1 a2 w g p1 p2 o1 o2 (decide_eq_false c1) (decide_eq_true c2)
          · by_cases c3 : a2 < 0
            · exact read_y_n2 a0 a1 a2 w g p1 p2 o1 o2 (decide_eq_false c1) (decide_eq_false c2) (decide_eq_true c3)
            · have c4 : 7 < a2 := by
                by_cases c4 : 7 < a2
                · exact c4
                · have := (ofOk_true (f := a1) (r := a2)).2 ⟨⟨by omega, by omega⟩, by omega, by omega⟩
                  rw [o1] at this; cases this
              exact read_y_n3 a0 a1 a2 w g p1 p2 o1 o2 (decide_eq_false c1) (decide_eq_false c2) (decide_eq_false c3) (decide_eq_true c4)
      · exact read_y_y a0 a1 a2 w g p1 p2 o1 (of_file o1) (of_rank o1)
  · exact read_long a0 a1 a2 w g
end Go.Proofs.Ytjlbnopgofimoaa.squaresRead
