/-
  The walk of PiecesLetters.
-/
import Derived.Test.YthnfgailffdnjaaPcRefB
import Derived.WalkKit
import Derived.OpenShut
namespace Go.Proofs.Ythnfgailffdnjaa.piecesLetters
open Go.RowKit
set_option linter.unusedVariables false
/-- The row of kinds, whose first k cells were changed. -/
def kin : Nat → Array Value
  | 0 => #[.int .u8 1, .int .u8 2, .int .u8 3, .int .u8 4, .int .u8 5, .int .u8 6]
  | 1 => #[.int .u8 99, .int .u8 2, .int .u8 3, .int .u8 4, .int .u8 5, .int .u8 6]
  | 2 => #[.int .u8 99, .int .u8 99, .int .u8 3, .int .u8 4, .int .u8 5, .int .u8 6]
  | 3 => #[.int .u8 99, .int .u8 99, .int .u8 99, .int .u8 4, .int .u8 5, .int .u8 6]
  | 4 => #[.int .u8 99, .int .u8 99, .int .u8 99, .int .u8 99, .int .u8 5, .int .u8 6]
  | 5 => #[.int .u8 99, .int .u8 99, .int .u8 99, .int .u8 99, .int .u8 99, .int .u8 6]
  | _ => #[.int .u8 99, .int .u8 99, .int .u8 99, .int .u8 99, .int .u8 99, .int .u8 99]
set_option maxHeartbeats 1000000 in
theorem letters_in (p : Int) (s : ByteArray) (w : World) (hp : 0 ≤ p) (hq : p ≤ 255) (g : decide (5000 < (s.size : Int)) = false) :
    Calls Try.prog 4 #[.int .u8 p, .string s] w fun e w' => e = .returned (.bool true) ∧ Below w.heap.size w w' := by
  go_enter Try.func4, Try.ntmps4
  go_wp2_with fail
  refine (prs_any _ _).mono ?_; rintro e w' ⟨rfl, rfl⟩
  go_wp2_with fail
  refine (rprs_any _ _).mono ?_; rintro e w1 ⟨rfl, hb1⟩
  have HB1 := Lib.hid hb1; clear hb1
  go_wp2_with fail
  refine (kinds_any _).mono ?_; rintro e w' ⟨rfl, rfl⟩
  go_wp2
  go_loopw [10] (fun i wr => ∃ k : Nat, k ≤ 6 ∧ i = .int .i64 (k : Int) ∧ wr = w1.alloc (.cells (kin k) 5)) (fun i _ => 6 - (intOf i).toNat)
  case atStart => exact ⟨0, by omega, rfl, rfl⟩
  case round =>
    obtain ⟨k, hk, rfl, hw⟩ := hrel
    have hk6 : k = 0 ∨ k = 1 ∨ k = 2 ∨ k = 3 ∨ k = 4 ∨ k = 5 ∨ k = 6 := by omega
    rcases hk6 with rfl | rfl | rfl | rfl | rfl | rfl | rfl
    · rw [show kin 0 = #[.int .u8 1, .int .u8 2, .int .u8 3, .int .u8 4, .int .u8 5, .int .u8 6] from rfl] at hw
      subst hw
      go_wp2
      go_roundw
      case rel => exact ⟨1, by omega, rfl, rfl⟩
      case measure => simp [intOf]
    · rw [show kin 1 = #[.int .u8 99, .int .u8 2, .int .u8 3, .int .u8 4, .int .u8 5, .int .u8 6] from rfl] at hw
      subst hw
      go_wp2
      go_roundw
      case rel => exact ⟨2, by omega, rfl, rfl⟩
      case measure => simp [intOf]
    · rw [show kin 2 = #[.int .u8 99, .int .u8 99, .int .u8 3, .int .u8 4, .int .u8 5, .int .u8 6] from rfl] at hw
      subst hw
      go_wp2
      go_roundw
      case rel => exact ⟨3, by omega, rfl, rfl⟩
      case measure => simp [intOf]
    · rw [show kin 3 = #[.int .u8 99, .int .u8 99, .int .u8 99, .int .u8 4, .int .u8 5, .int .u8 6] from rfl] at hw
      subst hw
      go_wp2
      go_roundw
      case rel => exact ⟨4, by omega, rfl, rfl⟩
      case measure => simp [intOf]
    · rw [show kin 4 = #[.int .u8 99, .int .u8 99, .int .u8 99, .int .u8 99, .int .u8 5, .int .u8 6] from rfl] at hw
      subst hw
      go_wp2
      go_roundw
      case rel => exact ⟨5, by omega, rfl, rfl⟩
      case measure => simp [intOf]
    · rw [show kin 5 = #[.int .u8 99, .int .u8 99, .int .u8 99, .int .u8 99, .int .u8 99, .int .u8 6] from rfl] at hw
      subst hw
      go_wp2
      go_roundw
      case rel => exact ⟨6, by omega, rfl, rfl⟩
      case measure => simp [intOf]
    · rw [show kin 6 = #[.int .u8 99, .int .u8 99, .int .u8 99, .int .u8 99, .int .u8 99, .int .u8 99] from rfl] at hw
      subst hw
      have HL := Lib.hid ((HB1.out.alloc HB1.out.size (.cells #[.int .u8 99, .int .u8 99, .int .u8 99, .int .u8 99, .int .u8 99, .int .u8 99] 5)).alloc (by have := HB1.out.size; simp; omega) (.cells #[.int .u8 1, .int .u8 2, .int .u8 3, .int .u8 4, .int .u8 5, .int .u8 6] 5))
      go_wp2_with fail
      refine (kinds_any _).mono ?_; rintro e w' ⟨rfl, rfl⟩
      go_wp2_with fail
      refine (let_any _ _ hp hq).mono ?_; rintro e w' ⟨rfl, rfl⟩
      go_wp2_with fail
      refine (rlet_any _ _).mono ?_; rintro e w2 ⟨rfl, hb2⟩
      have HB2 := Lib.hid hb2; clear hb2
      go_wp2_with fail
      refine (oth_any _ _ hp hq).mono ?_; rintro e w' ⟨rfl, rfl⟩
      go_wp2_with fail
      refine (roth_any _ _).mono ?_; rintro e w3 ⟨rfl, hb3⟩
      have HB3 := Lib.hid (HB2.out.trans (hb3.mono HB2.out.size)); clear hb3
      have hcl := (pc_cell HB3.out).1 (w1.heap.size + 1) 0 (by simp)
      go_wp2
      go_ret
      exact ⟨rfl, HL.out.trans (HB3.out.mono HL.out.size)⟩
theorem letters_long (p : Int) (s : ByteArray) (w : World) (g : decide (5000 < (s.size : Int)) = true) :
    Calls Try.prog 4 #[.int .u8 p, .string s] w fun e w' => e = .returned (.bool true) ∧ Below w.heap.size w w' := by
  go_enter Try.func4, Try.ntmps4
  go_wp2
  go_ret
  exact ⟨rfl, Below.refl _ _⟩
theorem walk (a0 : Int) (a1 : ByteArray) (w0 : (Lit.int .u8 a0).wf = true) (w1 : a1.size ≤ maxLen) (w : World) :
    Calls Try.prog 4 #[.int .u8 a0, .string a1] w fun e w' => e = .returned (.bool true) ∧ Below w.heap.size w w' := by
  obtain ⟨hp, hq⟩ := u8_rng w0
  cases g : decide (5000 < (a1.size : Int))
  · exact letters_in a0 a1 w hp hq g
  · exact letters_long a0 a1 w g
end Go.Proofs.Ythnfgailffdnjaa.piecesLetters
