/-
  Contracts of the document's own layer 3, first part: square, apart, King, Knight, Pawn.
-/
import Derived.Test.YtheaknnipbbnbaaDoorRayLaw
import Derived.Test.YtheaknnipbbnbaaDoorSqRef
import Derived.Test.YtheaknnipbbnbaaDoorSquareRef
namespace Go.Proofs.YtheaknnipbbnbaaDoor
open Go.RowKit

theorem rsquare_any (s : Int) (w : World) : Calls Tryd.prog 37 #[.int .i64 s] w (B1 (sq s) w) := by
  by_cases h0 : s < 0
  · have HS := Lib.hid (sq_false.2 (.inl h0))
    have d0 : decide (0 ≤ s) = false := by simpa using h0
    clear h0
    go_enter Tryd.func37, Tryd.ntmps37
    go_wp2
    go_ret
    exact ⟨sq_bool HS.out.symm, rfl⟩
  · have d0 : decide (0 ≤ s) = true := by simpa using h0
    by_cases h1 : s < 64
    · have HS := Lib.hid (show sq s = true from sq_true.2 ⟨by omega, h1⟩)
      have d1 : decide (s < 64) = true := by simpa using h1
      clear h0 h1
      go_enter Tryd.func37, Tryd.ntmps37
      go_wp2
      go_ret
      exact ⟨sq_bool HS.out.symm, rfl⟩
    · have HS := Lib.hid (show sq s = false from sq_false.2 (.inr (by omega)))
      have d1 : decide (s < 64) = false := by simpa using h1
      clear h0 h1
      go_enter Tryd.func37, Tryd.ntmps37
      go_wp2
      go_ret
      exact ⟨sq_bool HS.out.symm, rfl⟩
theorem rgap_any (a b : Int) (w : World) (ha : -1 ≤ a ∧ a ≤ 7) (hb : -1 ≤ b ∧ b ≤ 7) : Calls Tryd.prog 38 #[.int .i64 a, .int .i64 b] w (I64 (gapZ a b) w) := by
  by_cases h : a < b
  · have HS := Lib.hid (show gapZ a b = b - a by unfold gapZ; rw [if_pos h])
    have d1 : decide (a < b) = true := by simpa using h
    go_enter Tryd.func38, Tryd.ntmps38
    go_wp2
    go_ret
    exact ⟨sq_int HS.out.symm, rfl⟩
  · have HS := Lib.hid (show gapZ a b = a - b by unfold gapZ; rw [if_neg h])
    have d1 : decide (a < b) = false := by simpa using h
    go_enter Tryd.func38, Tryd.ntmps38
    go_wp2
    go_ret
    exact ⟨sq_int HS.out.symm, rfl⟩

def U64R (n : Nat) (w : World) (e : Ending) (w' : World) : Prop := e = .returned (.int .u64 (n : Int)) ∧ w = w'
theorem rking_any (s : Int) (w : World) : Calls Tryd.prog 12 #[.int .i64 s] w (U64R (kingN s) w) := by
  have HK := Lib.hid (king_ref s)
  go_enter Tryd.func12, Tryd.ntmps12
  go_wp2
  go_loop [3, 4] (fun x i => ∃ k : Nat, k ≤ 64 ∧ i = .int .i64 (k : Int) ∧ x = .int .u64 (setTo (kingP s) k : Nat)) (fun _ i => 64 - (intOf i).toNat)
  case atStart => exact ⟨0, by omega, rfl, rfl⟩
  case round =>
    obtain ⟨k, hk, rfl, rfl⟩ := hrel
    by_cases hlt : k < 64
    · have HX := Lib.hid (setTo_lt (kingP s) k)
      cases h1 : (distZ s (k : Int) == 1)
      · have HN := Lib.hid (setTo_no (p := kingP s) (k := k) h1)
        go_wp2_with (go_at_call 34; refine (rdist_any _ _ _).mono ?_; rintro e w' ⟨rfl, rfl⟩)
        go_round
        case rel => exact ⟨k + 1, by omega, by go_num, by rw [HN.out]⟩
        case measure => simp [intOf]; omega
      · have HN := Lib.hid (setTo_yes (p := kingP s) (k := k) h1)
        go_wp2_with (first | (go_at_call 34; refine (rdist_any _ _ _).mono ?_; rintro e w' ⟨rfl, rfl⟩) | (go_at_call 35; refine (rput_any _ _ _ HX.out).mono ?_; rintro e w' ⟨rfl, rfl⟩))
        go_round
        case rel => exact ⟨k + 1, by omega, by go_num, by rw [HN.out]⟩
        case measure => simp [intOf]; omega
    · obtain rfl : k = 64 := by omega
      go_wp2
      go_ret
      exact ⟨ret_int (by rw [HK.out]), rfl⟩
end Go.Proofs.YtheaknnipbbnbaaDoor
