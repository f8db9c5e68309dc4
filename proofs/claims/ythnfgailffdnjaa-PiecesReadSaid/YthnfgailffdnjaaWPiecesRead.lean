/-
  The walk of PiecesRead.
-/
import Derived.Test.YthnfgailffdnjaaPcAwake
import Derived.WalkKit
import Derived.OpenShut
namespace Go.Proofs.Ythnfgailffdnjaa.piecesRead
open Go.RowKit
set_option linter.unusedVariables false
set_option maxHeartbeats 1000000 in
theorem read_long (s : ByteArray) (w : World) (g : decide (5000 < (s.size : Int)) = true) :
    Calls Try.prog 9 #[.string s] w fun e w' => e = .returned (.bool true) ∧ Below w.heap.size w w' := by
  go_enter Try.func9, Try.ntmps9
  go_wp2_with (first | (go_at_call 25; refine (pawake_any _).mono ?_; rintro e w' ⟨rfl, rfl⟩))
  go_ret
  exact ⟨rfl, Below.refl _ _⟩
set_option maxHeartbeats 1000000 in
theorem read_no (s : ByteArray) (w : World) (g : decide (5000 < (s.size : Int)) = false) (q0 : 0 ≤ prsZ s) (q1 : prsZ s ≤ 255) (m1 : prsB s = false) (m2 : pcB (prsZ s) = false) (m3 : (prsZ s == 0) = true) :
    Calls Try.prog 9 #[.string s] w fun e w' => e = .returned (.bool true) ∧ Below w.heap.size w w' := by
  go_enter Try.func9, Try.ntmps9
  go_wp2_with (first | (go_at_call 25; refine (pawake_any _).mono ?_; rintro e w' ⟨rfl, rfl⟩) | (go_at_call 18; refine (prs_any _ _).mono ?_; rintro e w' ⟨rfl, rfl⟩) | (go_at_call 12; refine (is_any _ _ (by assumption) (by assumption)).mono ?_; rintro e w' ⟨rfl, rfl⟩))
  go_ret
  exact ⟨rfl, Below.refl _ _⟩
set_option maxHeartbeats 1000000 in
theorem read_yes (s : ByteArray) (w : World) (g : decide (5000 < (s.size : Int)) = false) (q0 : 0 ≤ prsZ s) (q1 : prsZ s ≤ 255) (m1 : prsB s = true) (m2 : pcB (prsZ s) = true) (m3 : letZ (prsZ s) = s) (m4 : ((s.size : Int) == 1) = true) :
    Calls Try.prog 9 #[.string s] w fun e w' => e = .returned (.bool true) ∧ Below w.heap.size w w' := by
  go_enter Try.func9, Try.ntmps9
  go_wp2_with (first | (go_at_call 25; refine (pawake_any _).mono ?_; rintro e w' ⟨rfl, rfl⟩) | (go_at_call 18; refine (prs_any _ _).mono ?_; rintro e w' ⟨rfl, rfl⟩) | (go_at_call 12; refine (is_any _ _ (by assumption) (by assumption)).mono ?_; rintro e w' ⟨rfl, rfl⟩) | (go_at_call 21; refine (let_any _ _ (by assumption) (by assumption)).mono ?_; rintro e w' ⟨rfl, rfl⟩))
  go_ret
  exact ⟨rfl, Below.refl _ _⟩
theorem walk (a0 : ByteArray) (w0 : a0.size ≤ maxLen) (w : World) :
    Calls Try.prog 9 #[.string a0] w fun e w' => e = .returned (.bool true) ∧ Below w.heap.size w w' := by
  have r := prs_rng a0
  cases g : decide (5000 < (a0.size : Int))
  · rcases prs_cases a0 with e | ⟨e1, e2⟩
    · exact read_no a0 w g r.1 (by omega) (prsB_none e) (by rw [e]; decide) (by rw [e]; rfl)
    · have hz := (prs_letter e1).2
      rw [e2] at hz
      have hr := pcB_true.1 e1
      exact read_yes a0 w g r.1 (by omega) (prsB_some (by omega)) e1 e2 (by rw [hz]; rfl)
  · exact read_long a0 w g
end Go.Proofs.Ythnfgailffdnjaa.piecesRead
