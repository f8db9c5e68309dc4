/-
  The walk of BitsOne.
-/
import Derived.Test.YtpglfcjkjomcjaaDoorAwake
import Derived.Test.YtpglfcjkjomcjaaDoorMathD
import Derived.WalkKit
import Derived.OpenShut
namespace Go.Proofs.YtpglfcjkjomcjaaDoor.bitsOne
open Go.RowKit
set_option linter.unusedVariables false
theorem has_put (b : Nat) (s : Int) : hasN (putN b s) s = sq s := by
  by_cases h : sq s = true
  · have h1 := h; rw [sq_true] at h1
    have e : s = (s.toNat : Int) := by omega
    simp only [hasN, putN_testBit, h, Bool.true_and]
    rw [decide_eq_true e]; simp
  · have h' : sq s = false := by simpa using h
    rw [hasN_no h', h']
theorem has_put_other (b : Nat) (s o : Int) (h : s ≠ o) : hasN (putN b s) o = hasN b o := by
  by_cases ho : sq o = true
  · have h1 := ho; rw [sq_true] at h1
    have e : ¬ s = (o.toNat : Int) := by omega
    simp only [hasN, putN_testBit, ho, Bool.true_and]
    rw [decide_eq_false e]; simp
  · rw [hasN_no (by simpa using ho), hasN_no (by simpa using ho)]
theorem has_clear_other (b : Nat) (s o : Int) (h : s ≠ o) : hasN (clearN b s) o = hasN b o := by
  by_cases ho : sq o = true
  · have h1 := ho; rw [sq_true] at h1
    have e : ¬ s = (o.toNat : Int) := by omega
    simp only [hasN, clearN_testBit, ho, Bool.true_and]
    rw [decide_eq_false e]; simp
  · rw [hasN_no (by simpa using ho), hasN_no (by simpa using ho)]
theorem clear_put {b : Nat} {s : Int} (h : hasN b s = false) : clearN (putN b s) s = b := by
  apply Nat.eq_of_testBit_eq
  intro i
  rw [clearN_testBit, putN_testBit]
  by_cases hi : s = i
  · subst hi
    by_cases hs : sq (i : Int) = true
    · have hb : b.testBit i = false := by simpa [hasN, hs] using h
      simp [hs, hb]
    · have hs' : sq (i : Int) = false := by simpa using hs
      simp [hs']
  · simp [hi]
theorem eq_self {a b : Nat} (h : a = b) : ((a : Int) == (b : Int)) = true := by rw [h]; simp
/-- What the walk is told of the square: is it one, is it in the set. -/
def Told (b : Nat) (s : Int) (q h : Bool) : Prop :=
  hasN (putN b s) s = q ∧ hasN (clearN b s) s = false ∧ hasN b s = h ∧
  (if h then ((putN b s : Nat) : Int) = b ∧ ((putN (clearN b s) s : Nat) : Int) = b else ((clearN b s : Nat) : Int) = b ∧ ((clearN (putN b s) s : Nat) : Int) = b)
theorem told (b : Nat) (s : Int) : Told b s (sq s) (hasN b s) := by
  refine ⟨has_put b s, clear_hasN b s, rfl, ?_⟩
  cases h : hasN b s
  · exact ⟨by rw [clear_no h], by rw [clear_put h]⟩
  · exact ⟨by rw [put_has h], by rw [put_clear h]⟩
theorem beq_of {a b : Int} (h : a = b) : (a == b) = true := by rw [h]; simp
set_option maxHeartbeats 1000000 in
theorem one_neg_false_eq (b : Nat) (a1 : Int) (w : World) (hb : b < W64) (hp : putN b a1 < W64) (hc : clearN b a1 < W64) (HT : Hid (TabDb w)) (HL : Hid (TabLead w)) (g0 : a1 < 0) (g1 : decide (0 ≤ a1) = false) (e1 : hasN (putN b a1) a1 = false) (e2 : hasN (clearN b a1) a1 = false) (e3 : hasN b a1 = false) (k1 : (((clearN b a1 : Nat) : Int) == (b : Int)) = true) (k2 : (((clearN (putN b a1) a1 : Nat) : Int) == (b : Int)) = true) : Calls Tryd.prog 5 #[.int .u64 (b : Int), .int .i64 a1, .int .i64 a1] w fun e w' => e = .returned (.bool true) ∧ Below w.heap.size w w' := by
    go_enter Tryd.func5, Tryd.ntmps5
    go_wp2_with (first | (go_at_call 19; refine (awake_any _ HT.out HL.out).mono ?_; rintro e w1 ⟨rfl, hb1⟩; have HB1 := Lib.hid hb1; clear hb1) | (go_at_call 20; refine (put_any _ _ _ (by assumption)).mono ?_; rintro e w' ⟨rfl, rfl⟩) | (go_at_call 21; refine (clear_any _ _ _ (by assumption)).mono ?_; rintro e w' ⟨rfl, rfl⟩) | (go_at_call 22; refine (has_any _ _ _ (by assumption)).mono ?_; rintro e w' ⟨rfl, rfl⟩))
    go_ret
    exact ⟨rfl, HB1.out⟩
set_option maxHeartbeats 1000000 in
theorem one_neg_false_false (b : Nat) (a1 : Int) (w : World) (hb : b < W64) (hp : putN b a1 < W64) (hc : clearN b a1 < W64) (HT : Hid (TabDb w)) (HL : Hid (TabLead w)) (g0 : a1 < 0) (g1 : decide (0 ≤ a1) = false) (e1 : hasN (putN b a1) a1 = false) (e2 : hasN (clearN b a1) a1 = false) (e3 : hasN b a1 = false) (k1 : (((clearN b a1 : Nat) : Int) == (b : Int)) = true) (k2 : (((clearN (putN b a1) a1 : Nat) : Int) == (b : Int)) = true) (a2 : Int) (ne : (a1 != a2) = true) (f1 : hasN (putN b a1) a2 = false) (f2 : hasN (clearN b a1) a2 = false) (f3 : hasN b a2 = false) : Calls Tryd.prog 5 #[.int .u64 (b : Int), .int .i64 a1, .int .i64 a2] w fun e w' => e = .returned (.bool true) ∧ Below w.heap.size w w' := by
    go_enter Tryd.func5, Tryd.ntmps5
    go_wp2_with (first | (go_at_call 19; refine (awake_any _ HT.out HL.out).mono ?_; rintro e w1 ⟨rfl, hb1⟩; have HB1 := Lib.hid hb1; clear hb1) | (go_at_call 20; refine (put_any _ _ _ (by assumption)).mono ?_; rintro e w' ⟨rfl, rfl⟩) | (go_at_call 21; refine (clear_any _ _ _ (by assumption)).mono ?_; rintro e w' ⟨rfl, rfl⟩) | (go_at_call 22; refine (has_any _ _ _ (by assumption)).mono ?_; rintro e w' ⟨rfl, rfl⟩))
    go_ret
    exact ⟨rfl, HB1.out⟩
set_option maxHeartbeats 1000000 in
theorem one_neg_false_true (b : Nat) (a1 : Int) (w : World) (hb : b < W64) (hp : putN b a1 < W64) (hc : clearN b a1 < W64) (HT : Hid (TabDb w)) (HL : Hid (TabLead w)) (g0 : a1 < 0) (g1 : decide (0 ≤ a1) = false) (e1 : hasN (putN b a1) a1 = false) (e2 : hasN (clearN b a1) a1 = false) (e3 : hasN b a1 = false) (k1 : (((clearN b a1 : Nat) : Int) == (b : Int)) = true) (k2 : (((clearN (putN b a1) a1 : Nat) : Int) == (b : Int)) = true) (a2 : Int) (ne : (a1 != a2) = true) (f1 : hasN (putN b a1) a2 = true) (f2 : hasN (clearN b a1) a2 = true) (f3 : hasN b a2 = true) : Calls Tryd.prog 5 #[.int .u64 (b : Int), .int .i64 a1, .int .i64 a2] w fun e w' => e = .returned (.bool true) ∧ Below w.heap.size w w' := by
    go_enter Tryd.func5, Tryd.ntmps5
    go_wp2_with (first | (go_at_call 19; refine (awake_any _ HT.out HL.out).mono ?_; rintro e w1 ⟨rfl, hb1⟩; have HB1 := Lib.hid hb1; clear hb1) | (go_at_call 20; refine (put_any _ _ _ (by assumption)).mono ?_; rintro e w' ⟨rfl, rfl⟩) | (go_at_call 21; refine (clear_any _ _ _ (by assumption)).mono ?_; rintro e w' ⟨rfl, rfl⟩) | (go_at_call 22; refine (has_any _ _ _ (by assumption)).mono ?_; rintro e w' ⟨rfl, rfl⟩))
    go_ret
    exact ⟨rfl, HB1.out⟩
set_option maxHeartbeats 1000000 in
theorem one_big_false_eq (b : Nat) (a1 : Int) (w : World) (hb : b < W64) (hp : putN b a1 < W64) (hc : clearN b a1 < W64) (HT : Hid (TabDb w)) (HL : Hid (TabLead w)) (g0 : 64 ≤ a1) (g1 : decide (0 ≤ a1) = true) (g2 : decide (a1 < 64) = false) (e1 : hasN (putN b a1) a1 = false) (e2 : hasN (clearN b a1) a1 = false) (e3 : hasN b a1 = false) (k1 : (((clearN b a1 : Nat) : Int) == (b : Int)) = true) (k2 : (((clearN (putN b a1) a1 : Nat) : Int) == (b : Int)) = true) : Calls Tryd.prog 5 #[.int .u64 (b : Int), .int .i64 a1, .int .i64 a1] w fun e w' => e = .returned (.bool true) ∧ Below w.heap.size w w' := by
    go_enter Tryd.func5, Tryd.ntmps5
    go_wp2_with (first | (go_at_call 19; refine (awake_any _ HT.out HL.out).mono ?_; rintro e w1 ⟨rfl, hb1⟩; have HB1 := Lib.hid hb1; clear hb1) | (go_at_call 20; refine (put_any _ _ _ (by assumption)).mono ?_; rintro e w' ⟨rfl, rfl⟩) | (go_at_call 21; refine (clear_any _ _ _ (by assumption)).mono ?_; rintro e w' ⟨rfl, rfl⟩) | (go_at_call 22; refine (has_any _ _ _ (by assumption)).mono ?_; rintro e w' ⟨rfl, rfl⟩))
    go_ret
    exact ⟨rfl, HB1.out⟩
set_option maxHeartbeats 1000000 in
theorem one_big_false_false (b : Nat) (a1 : Int) (w : World) (hb : b < W64) (hp : putN b a1 < W64) (hc : clearN b a1 < W64) (HT : Hid (TabDb w)) (HL : Hid (TabLead w)) (g0 : 64 ≤ a1) (g1 : decide (0 ≤ a1) = true) (g2 : decide (a1 < 64) = false) (e1 : hasN (putN b a1) a1 = false) (e2 : hasN (clearN b a1) a1 = false) (e3 : hasN b a1 = false) (k1 : (((clearN b a1 : Nat) : Int) == (b : Int)) = true) (k2 : (((clearN (putN b a1) a1 : Nat) : Int) == (b : Int)) = true) (a2 : Int) (ne : (a1 != a2) = true) (f1 : hasN (putN b a1) a2 = false) (f2 : hasN (clearN b a1) a2 = false) (f3 : hasN b a2 = false) : Calls Tryd.prog 5 #[.int .u64 (b : Int), .int .i64 a1, .int .i64 a2] w fun e w' => e = .returned (.bool true) ∧ Below w.heap.size w w' := by
    go_enter Tryd.func5, Tryd.ntmps5
    go_wp2_with (first | (go_at_call 19; refine (awake_any _ HT.out HL.out).mono ?_; rintro e w1 ⟨rfl, hb1⟩; have HB1 := Lib.hid hb1; clear hb1) | (go_at_call 20; refine (put_any _ _ _ (by assumption)).mono ?_; rintro e w' ⟨rfl, rfl⟩) | (go_at_call 21; refine (clear_any _ _ _ (by assumption)).mono ?_; rintro e w' ⟨rfl, rfl⟩) | (go_at_call 22; refine (has_any _ _ _ (by assumption)).mono ?_; rintro e w' ⟨rfl, rfl⟩))
    go_ret
    exact ⟨rfl, HB1.out⟩
set_option maxHeartbeats 1000000 in
theorem one_big_false_true (b : Nat) (a1 : Int) (w : World) (hb : b < W64) (hp : putN b a1 < W64) (hc : clearN b a1 < W64) (HT : Hid (TabDb w)) (HL : Hid (TabLead w)) (g0 : 64 ≤ a1) (g1 : decide (0 ≤ a1) = true) (g2 : decide (a1 < 64) = false) (e1 : hasN (putN b a1) a1 = false) (e2 : hasN (clearN b a1) a1 = false) (e3 : hasN b a1 = false) (k1 : (((clearN b a1 : Nat) : Int) == (b : Int)) = true) (k2 : (((clearN (putN b a1) a1 : Nat) : Int) == (b : Int)) = true) (a2 : Int) (ne : (a1 != a2) = true) (f1 : hasN (putN b a1) a2 = true) (f2 : hasN (clearN b a1) a2 = true) (f3 : hasN b a2 = true) : Calls Tryd.prog 5 #[.int .u64 (b : Int), .int .i64 a1, .int .i64 a2] w fun e w' => e = .returned (.bool true) ∧ Below w.heap.size w w' := by
    go_enter Tryd.func5, Tryd.ntmps5
    go_wp2_with (first | (go_at_call 19; refine (awake_any _ HT.out HL.out).mono ?_; rintro e w1 ⟨rfl, hb1⟩; have HB1 := Lib.hid hb1; clear hb1) | (go_at_call 20; refine (put_any _ _ _ (by assumption)).mono ?_; rintro e w' ⟨rfl, rfl⟩) | (go_at_call 21; refine (clear_any _ _ _ (by assumption)).mono ?_; rintro e w' ⟨rfl, rfl⟩) | (go_at_call 22; refine (has_any _ _ _ (by assumption)).mono ?_; rintro e w' ⟨rfl, rfl⟩))
    go_ret
    exact ⟨rfl, HB1.out⟩
set_option maxHeartbeats 1000000 in
theorem one_in_false_eq (b : Nat) (a1 : Int) (w : World) (hb : b < W64) (hp : putN b a1 < W64) (hc : clearN b a1 < W64) (HT : Hid (TabDb w)) (HL : Hid (TabLead w)) (g0 : 0 ≤ a1) (g3 : a1 < 64) (g1 : decide (0 ≤ a1) = true) (g2 : decide (a1 < 64) = true) (e1 : hasN (putN b a1) a1 = true) (e2 : hasN (clearN b a1) a1 = false) (e3 : hasN b a1 = false) (k1 : (((clearN b a1 : Nat) : Int) == (b : Int)) = true) (k2 : (((clearN (putN b a1) a1 : Nat) : Int) == (b : Int)) = true) : Calls Tryd.prog 5 #[.int .u64 (b : Int), .int .i64 a1, .int .i64 a1] w fun e w' => e = .returned (.bool true) ∧ Below w.heap.size w w' := by
    go_enter Tryd.func5, Tryd.ntmps5
    go_wp2_with (first | (go_at_call 19; refine (awake_any _ HT.out HL.out).mono ?_; rintro e w1 ⟨rfl, hb1⟩; have HB1 := Lib.hid hb1; clear hb1) | (go_at_call 20; refine (put_any _ _ _ (by assumption)).mono ?_; rintro e w' ⟨rfl, rfl⟩) | (go_at_call 21; refine (clear_any _ _ _ (by assumption)).mono ?_; rintro e w' ⟨rfl, rfl⟩) | (go_at_call 22; refine (has_any _ _ _ (by assumption)).mono ?_; rintro e w' ⟨rfl, rfl⟩))
    go_ret
    exact ⟨rfl, HB1.out⟩
set_option maxHeartbeats 1000000 in
theorem one_in_false_false (b : Nat) (a1 : Int) (w : World) (hb : b < W64) (hp : putN b a1 < W64) (hc : clearN b a1 < W64) (HT : Hid (TabDb w)) (HL : Hid (TabLead w)) (g0 : 0 ≤ a1) (g3 : a1 < 64) (g1 : decide (0 ≤ a1) = true) (g2 : decide (a1 < 64) = true) (e1 : hasN (putN b a1) a1 = true) (e2 : hasN (clearN b a1) a1 = false) (e3 : hasN b a1 = false) (k1 : (((clearN b a1 : Nat) : Int) == (b : Int)) = true) (k2 : (((clearN (putN b a1) a1 : Nat) : Int) == (b : Int)) = true) (a2 : Int) (ne : (a1 != a2) = true) (f1 : hasN (putN b a1) a2 = false) (f2 : hasN (clearN b a1) a2 = false) (f3 : hasN b a2 = false) : Calls Tryd.prog 5 #[.int .u64 (b : Int), .int .i64 a1, .int .i64 a2] w fun e w' => e = .returned (.bool true) ∧ Below w.heap.size w w' := by
    go_enter Tryd.func5, Tryd.ntmps5
    go_wp2_with (first | (go_at_call 19; refine (awake_any _ HT.out HL.out).mono ?_; rintro e w1 ⟨rfl, hb1⟩; have HB1 := Lib.hid hb1; clear hb1) | (go_at_call 20; refine (put_any _ _ _ (by assumption)).mono ?_; rintro e w' ⟨rfl, rfl⟩) | (go_at_call 21; refine (clear_any _ _ _ (by assumption)).mono ?_; rintro e w' ⟨rfl, rfl⟩) | (go_at_call 22; refine (has_any _ _ _ (by assumption)).mono ?_; rintro e w' ⟨rfl, rfl⟩))
    go_ret
    exact ⟨rfl, HB1.out⟩
set_option maxHeartbeats 1000000 in
theorem one_in_false_true (b : Nat) (a1 : Int) (w : World) (hb : b < W64) (hp : putN b a1 < W64) (hc : clearN b a1 < W64) (HT : Hid (TabDb w)) (HL : Hid (TabLead w)) (g0 : 0 ≤ a1) (g3 : a1 < 64) (g1 : decide (0 ≤ a1) = true) (g2 : decide (a1 < 64) = true) (e1 : hasN (putN b a1) a1 = true) (e2 : hasN (clearN b a1) a1 = false) (e3 : hasN b a1 = false) (k1 : (((clearN b a1 : Nat) : Int) == (b : Int)) = true) (k2 : (((clearN (putN b a1) a1 : Nat) : Int) == (b : Int)) = true) (a2 : Int) (ne : (a1 != a2) = true) (f1 : hasN (putN b a1) a2 = true) (f2 : hasN (clearN b a1) a2 = true) (f3 : hasN b a2 = true) : Calls Tryd.prog 5 #[.int .u64 (b : Int), .int .i64 a1, .int .i64 a2] w fun e w' => e = .returned (.bool true) ∧ Below w.heap.size w w' := by
    go_enter Tryd.func5, Tryd.ntmps5
    go_wp2_with (first | (go_at_call 19; refine (awake_any _ HT.out HL.out).mono ?_; rintro e w1 ⟨rfl, hb1⟩; have HB1 := Lib.hid hb1; clear hb1) | (go_at_call 20; refine (put_any _ _ _ (by assumption)).mono ?_; rintro e w' ⟨rfl, rfl⟩) | (go_at_call 21; refine (clear_any _ _ _ (by assumption)).mono ?_; rintro e w' ⟨rfl, rfl⟩) | (go_at_call 22; refine (has_any _ _ _ (by assumption)).mono ?_; rintro e w' ⟨rfl, rfl⟩))
    go_ret
    exact ⟨rfl, HB1.out⟩
set_option maxHeartbeats 1000000 in
theorem one_in_true_eq (b : Nat) (a1 : Int) (w : World) (hb : b < W64) (hp : putN b a1 < W64) (hc : clearN b a1 < W64) (HT : Hid (TabDb w)) (HL : Hid (TabLead w)) (g0 : 0 ≤ a1) (g3 : a1 < 64) (g1 : decide (0 ≤ a1) = true) (g2 : decide (a1 < 64) = true) (e1 : hasN (putN b a1) a1 = true) (e2 : hasN (clearN b a1) a1 = false) (e3 : hasN b a1 = true) (k1 : (((putN b a1 : Nat) : Int) == (b : Int)) = true) (k2 : (((putN (clearN b a1) a1 : Nat) : Int) == (b : Int)) = true) : Calls Tryd.prog 5 #[.int .u64 (b : Int), .int .i64 a1, .int .i64 a1] w fun e w' => e = .returned (.bool true) ∧ Below w.heap.size w w' := by
    go_enter Tryd.func5, Tryd.ntmps5
    go_wp2_with (first | (go_at_call 19; refine (awake_any _ HT.out HL.out).mono ?_; rintro e w1 ⟨rfl, hb1⟩; have HB1 := Lib.hid hb1; clear hb1) | (go_at_call 20; refine (put_any _ _ _ (by assumption)).mono ?_; rintro e w' ⟨rfl, rfl⟩) | (go_at_call 21; refine (clear_any _ _ _ (by assumption)).mono ?_; rintro e w' ⟨rfl, rfl⟩) | (go_at_call 22; refine (has_any _ _ _ (by assumption)).mono ?_; rintro e w' ⟨rfl, rfl⟩))
    go_ret
    exact ⟨rfl, HB1.out⟩
set_option maxHeartbeats 1000000 in
theorem one_in_true_false (b : Nat) (a1 : Int) (w : World) (hb : b < W64) (hp : putN b a1 < W64) (hc : clearN b a1 < W64) (HT : Hid (TabDb w)) (HL : Hid (TabLead w)) (g0 : 0 ≤ a1) (g3 : a1 < 64) (g1 : decide (0 ≤ a1) = true) (g2 : decide (a1 < 64) = true) (e1 : hasN (putN b a1) a1 = true) (e2 : hasN (clearN b a1) a1 = false) (e3 : hasN b a1 = true) (k1 : (((putN b a1 : Nat) : Int) == (b : Int)) = true) (k2 : (((putN (clearN b a1) a1 : Nat) : Int) == (b : Int)) = true) (a2 : Int) (ne : (a1 != a2) = true) (f1 : hasN (putN b a1) a2 = false) (f2 : hasN (clearN b a1) a2 = false) (f3 : hasN b a2 = false) : Calls Tryd.prog 5 #[.int .u64 (b : Int), .int .i64 a1, .int .i64 a2] w fun e w' => e = .returned (.bool true) ∧ Below w.heap.size w w' := by
    go_enter Tryd.func5, Tryd.ntmps5
    go_wp2_with (first | (go_at_call 19; refine (awake_any _ HT.out HL.out).mono ?_; rintro e w1 ⟨rfl, hb1⟩; have HB1 := Lib.hid hb1; clear hb1) | (go_at_call 20; refine (put_any _ _ _ (by assumption)).mono ?_; rintro e w' ⟨rfl, rfl⟩) | (go_at_call 21; refine (clear_any _ _ _ (by assumption)).mono ?_; rintro e w' ⟨rfl, rfl⟩) | (go_at_call 22; refine (has_any _ _ _ (by assumption)).mono ?_; rintro e w' ⟨rfl, rfl⟩))
    go_ret
    exact ⟨rfl, HB1.out⟩
set_option maxHeartbeats 1000000 in
theorem one_in_true_true (b : Nat) (a1 : Int) (w : World) (hb : b < W64) (hp : putN b a1 < W64) (hc : clearN b a1 < W64) (HT : Hid (TabDb w)) (HL : Hid (TabLead w)) (g0 : 0 ≤ a1) (g3 : a1 < 64) (g1 : decide (0 ≤ a1) = true) (g2 : decide (a1 < 64) = true) (e1 : hasN (putN b a1) a1 = true) (e2 : hasN (clearN b a1) a1 = false) (e3 : hasN b a1 = true) (k1 : (((putN b a1 : Nat) : Int) == (b : Int)) = true) (k2 : (((putN (clearN b a1) a1 : Nat) : Int) == (b : Int)) = true) (a2 : Int) (ne : (a1 != a2) = true) (f1 : hasN (putN b a1) a2 = true) (f2 : hasN (clearN b a1) a2 = true) (f3 : hasN b a2 = true) : Calls Tryd.prog 5 #[.int .u64 (b : Int), .int .i64 a1, .int .i64 a2] w fun e w' => e = .returned (.bool true) ∧ Below w.heap.size w w' := by
    go_enter Tryd.func5, Tryd.ntmps5
    go_wp2_with (first | (go_at_call 19; refine (awake_any _ HT.out HL.out).mono ?_; rintro e w1 ⟨rfl, hb1⟩; have HB1 := Lib.hid hb1; clear hb1) | (go_at_call 20; refine (put_any _ _ _ (by assumption)).mono ?_; rintro e w' ⟨rfl, rfl⟩) | (go_at_call 21; refine (clear_any _ _ _ (by assumption)).mono ?_; rintro e w' ⟨rfl, rfl⟩) | (go_at_call 22; refine (has_any _ _ _ (by assumption)).mono ?_; rintro e w' ⟨rfl, rfl⟩))
    go_ret
    exact ⟨rfl, HB1.out⟩
theorem walk (a0 : Int) (a1 : Int) (a2 : Int) (w0 : (Lit.int .u64 a0).wf = true) (w1 : (Lit.int .i64 a1).wf = true) (w2 : (Lit.int .i64 a2).wf = true) (w : World) (T0 : TabDb w) (T1 : TabLead w) :
    Calls Tryd.prog 5 #[.int .u64 a0, .int .i64 a1, .int .i64 a2] w fun e w' => e = .returned (.bool true) ∧ Below w.heap.size w w' := by
  obtain ⟨b, rfl⟩ := Int.eq_ofNat_of_zero_le (a := a0) (bounds_u64 w0).1
  have hb : b < W64 := by have := (bounds_u64 w0).2; unfold W64; omega
  have hp := putN_lt hb a1
  have hc := clearN_lt hb a1
  have HT := Lib.hid T0
  have HL := Lib.hid T1
  obtain ⟨e1, e2, e3, k⟩ := told b a1
  have hne : ∀ h : a1 ≠ a2, (a1 != a2) = true ∧ hasN (putN b a1) a2 = hasN b a2 ∧ hasN (clearN b a1) a2 = hasN b a2 := fun h => ⟨by simpa using h, has_put_other b a1 a2 h, has_clear_other b a1 a2 h⟩
  by_cases q : sq a1 = true
  · rw [q] at e1
    rw [sq_true] at q
    have g1 : decide (0 ≤ a1) = true := decide_eq_true q.1
    have g2 : decide (a1 < 64) = true := decide_eq_true q.2
    cases hh : hasN b a1
    · rw [hh] at k
      by_cases eq : a1 = a2
      · subst eq
        exact one_in_false_eq b a1 w hb hp hc HT HL q.1 q.2 g1 g2 e1 e2 hh (beq_of k.1) (beq_of k.2)
      · obtain ⟨n1, n2, n3⟩ := hne eq
        cases hx : hasN b a2
        · exact one_in_false_false b a1 w hb hp hc HT HL q.1 q.2 g1 g2 e1 e2 hh (beq_of k.1) (beq_of k.2) a2 n1 (n2.trans hx) (n3.trans hx) hx
        · exact one_in_false_true b a1 w hb hp hc HT HL q.1 q.2 g1 g2 e1 e2 hh (beq_of k.1) (beq_of k.2) a2 n1 (n2.trans hx) (n3.trans hx) hx
    · rw [hh] at k
      by_cases eq : a1 = a2
      · subst eq
        exact one_in_true_eq b a1 w hb hp hc HT HL q.1 q.2 g1 g2 e1 e2 hh (beq_of k.1) (beq_of k.2)
      · obtain ⟨n1, n2, n3⟩ := hne eq
        cases hx : hasN b a2
        · exact one_in_true_false b a1 w hb hp hc HT HL q.1 q.2 g1 g2 e1 e2 hh (beq_of k.1) (beq_of k.2) a2 n1 (n2.trans hx) (n3.trans hx) hx
        · exact one_in_true_true b a1 w hb hp hc HT HL q.1 q.2 g1 g2 e1 e2 hh (beq_of k.1) (beq_of k.2) a2 n1 (n2.trans hx) (n3.trans hx) hx
  · have q' : sq a1 = false := by simpa using q
    have hh := hasN_no (b := b) q'
    rw [q'] at e1
    rw [hh] at k
    rw [sq_false] at q'
    by_cases g0 : a1 < 0
    · have g1 : decide (0 ≤ a1) = false := decide_eq_false (by omega)
      by_cases eq : a1 = a2
      · subst eq
        exact one_neg_false_eq b a1 w hb hp hc HT HL g0 g1 e1 e2 hh (beq_of k.1) (beq_of k.2)
      · obtain ⟨n1, n2, n3⟩ := hne eq
        cases hx : hasN b a2
        · exact one_neg_false_false b a1 w hb hp hc HT HL g0 g1 e1 e2 hh (beq_of k.1) (beq_of k.2) a2 n1 (n2.trans hx) (n3.trans hx) hx
        · exact one_neg_false_true b a1 w hb hp hc HT HL g0 g1 e1 e2 hh (beq_of k.1) (beq_of k.2) a2 n1 (n2.trans hx) (n3.trans hx) hx
    · have g1 : decide (0 ≤ a1) = true := decide_eq_true (by omega)
      have g2 : decide (a1 < 64) = false := decide_eq_false (by omega)
      have g3 : 64 ≤ a1 := by omega
      by_cases eq : a1 = a2
      · subst eq
        exact one_big_false_eq b a1 w hb hp hc HT HL g3 g1 g2 e1 e2 hh (beq_of k.1) (beq_of k.2)
      · obtain ⟨n1, n2, n3⟩ := hne eq
        cases hx : hasN b a2
        · exact one_big_false_false b a1 w hb hp hc HT HL g3 g1 g2 e1 e2 hh (beq_of k.1) (beq_of k.2) a2 n1 (n2.trans hx) (n3.trans hx) hx
        · exact one_big_false_true b a1 w hb hp hc HT HL g3 g1 g2 e1 e2 hh (beq_of k.1) (beq_of k.2) a2 n1 (n2.trans hx) (n3.trans hx) hx
end Go.Proofs.YtpglfcjkjomcjaaDoor.bitsOne
