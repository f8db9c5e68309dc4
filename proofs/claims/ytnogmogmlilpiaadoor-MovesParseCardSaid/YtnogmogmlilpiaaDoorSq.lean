/-
  Contracts of the program's File, Rank, Of, Flip (layer 2): each answers the plain function of XSqMath.
-/
import Derived.Test.YtnogmogmlilpiaaDoorSqMath
namespace Go.Proofs.YtnogmogmlilpiaaDoor
open Go.RowKit

theorem sq_int {k : IntKind} {a b : Int} (h : a = b) : Ending.returned (.int k a) = .returned (.int k b) := by rw [h]
theorem sq_bool {a b : Bool} (h : a = b) : Ending.returned (.bool a) = .returned (.bool b) := by rw [h]
theorem sq_pair {a b : Int} {c d : Bool} (h : a = b) (g : c = d) : Ending.returned (.tuple #[.int .i64 a, .bool c]) = .returned (.tuple #[.int .i64 b, .bool d]) := by rw [h, g]
def I64 (n : Int) (w : World) (e : Ending) (w' : World) : Prop := e = .returned (.int .i64 n) ∧ w = w'
def B1 (b : Bool) (w : World) (e : Ending) (w' : World) : Prop := e = .returned (.bool b) ∧ w = w'
def I64B (n : Int) (b : Bool) (w : World) (e : Ending) (w' : World) : Prop := e = .returned (.tuple #[.int .i64 n, .bool b]) ∧ w = w'

theorem isSq_any (s : Int) (w : World) : Calls Tryd.prog 47 #[.int .i64 s] w (B1 (sqB s) w) := by
  by_cases h0 : s < 0
  · have HS := Lib.hid (sqB_false.2 (.inl h0))
    have g1 : decide (0 ≤ s) = false := decide_eq_false (by omega)
    go_enter Tryd.func47, Tryd.ntmps47
    go_wp2
    go_ret
    exact ⟨sq_bool HS.out.symm, rfl⟩
  · by_cases h1 : 64 ≤ s
    · have HS := Lib.hid (sqB_false.2 (.inr h1))
      have g1 : decide (0 ≤ s) = true := decide_eq_true (by omega)
      have g2 : decide (s < 64) = false := decide_eq_false (by omega)
      go_enter Tryd.func47, Tryd.ntmps47
      go_wp2
      go_ret
      exact ⟨sq_bool HS.out.symm, rfl⟩
    · have HS := Lib.hid ((sqB_true (s := s)).2 ⟨by omega, by omega⟩)
      have g1 : decide (0 ≤ s) = true := decide_eq_true (by omega)
      have g2 : decide (s < 64) = true := decide_eq_true (by omega)
      clear h0 h1
      go_enter Tryd.func47, Tryd.ntmps47
      go_wp2
      go_ret
      exact ⟨sq_bool HS.out.symm, rfl⟩

theorem isLn_any (s : Int) (w : World) : Calls Tryd.prog 51 #[.int .i64 s] w (B1 (lnB s) w) := by
  by_cases h0 : s < 0
  · have HS := Lib.hid (lnB_false.2 (.inl h0))
    have g1 : decide (0 ≤ s) = false := decide_eq_false (by omega)
    go_enter Tryd.func51, Tryd.ntmps51
    go_wp2
    go_ret
    exact ⟨sq_bool HS.out.symm, rfl⟩
  · by_cases h1 : 8 ≤ s
    · have HS := Lib.hid (lnB_false.2 (.inr h1))
      have g1 : decide (0 ≤ s) = true := decide_eq_true (by omega)
      have g2 : decide (s < 8) = false := decide_eq_false (by omega)
      go_enter Tryd.func51, Tryd.ntmps51
      go_wp2
      go_ret
      exact ⟨sq_bool HS.out.symm, rfl⟩
    · have HS := Lib.hid ((lnB_true (s := s)).2 ⟨by omega, by omega⟩)
      have g1 : decide (0 ≤ s) = true := decide_eq_true (by omega)
      have g2 : decide (s < 8) = true := decide_eq_true (by omega)
      clear h0 h1
      go_enter Tryd.func51, Tryd.ntmps51
      go_wp2
      go_ret
      exact ⟨sq_bool HS.out.symm, rfl⟩

theorem file_any (s : Int) (w : World) : Calls Tryd.prog 48 #[.int .i64 s] w (I64 (fileZ s) w) := by
  cases h : sqB s
  · have HS := Lib.hid (fileZ_no h)
    go_enter Tryd.func48, Tryd.ntmps48
    go_wp2_with (go_at_call 47; refine (isSq_any _ _).mono ?_; rintro e w' ⟨rfl, rfl⟩)
    go_ret
    exact ⟨sq_int HS.out.symm, rfl⟩
  · have HS := Lib.hid (fileZ_yes h)
    obtain ⟨h0, h1⟩ := sqB_true.1 h
    go_enter Tryd.func48, Tryd.ntmps48
    go_wp2_with (go_at_call 47; refine (isSq_any _ _).mono ?_; rintro e w' ⟨rfl, rfl⟩)
    go_ret
    exact ⟨sq_int (by rw [HS.out]), rfl⟩
theorem rank_any (s : Int) (w : World) : Calls Tryd.prog 49 #[.int .i64 s] w (I64 (rankZ s) w) := by
  cases h : sqB s
  · have HS := Lib.hid (rankZ_no h)
    go_enter Tryd.func49, Tryd.ntmps49
    go_wp2_with (go_at_call 47; refine (isSq_any _ _).mono ?_; rintro e w' ⟨rfl, rfl⟩)
    go_ret
    exact ⟨sq_int HS.out.symm, rfl⟩
  · have HS := Lib.hid (rankZ_yes h)
    obtain ⟨h0, h1⟩ := sqB_true.1 h
    go_enter Tryd.func49, Tryd.ntmps49
    go_wp2_with (go_at_call 47; refine (isSq_any _ _).mono ?_; rintro e w' ⟨rfl, rfl⟩)
    go_ret
    exact ⟨sq_int (by rw [HS.out]), rfl⟩
theorem sqof_any (f r : Int) (w : World) : Calls Tryd.prog 42 #[.int .i64 f, .int .i64 r] w (I64B (ofZ f r) (ofOk f r) w) := by
  cases hf : lnB f
  · have HO := Lib.hid (show ofOk f r = false by simp [ofOk, hf])
    have HS := Lib.hid (ofZ_no HO.out)
    go_enter Tryd.func42, Tryd.ntmps42
    go_wp2_with (go_at_call 51; refine (isLn_any _ _).mono ?_; rintro e w' ⟨rfl, rfl⟩)
    go_ret2
    exact ⟨sq_pair HS.out.symm HO.out.symm, rfl⟩
  · cases hr : lnB r
    · have HO := Lib.hid (show ofOk f r = false by simp [ofOk, hr])
      have HS := Lib.hid (ofZ_no HO.out)
      go_enter Tryd.func42, Tryd.ntmps42
      go_wp2_with (go_at_call 51; refine (isLn_any _ _).mono ?_; rintro e w' ⟨rfl, rfl⟩)
      go_ret2
      exact ⟨sq_pair HS.out.symm HO.out.symm, rfl⟩
    · have HO := Lib.hid (show ofOk f r = true by simp [ofOk, hf, hr])
      have HS := Lib.hid (ofZ_yes HO.out)
      obtain ⟨h0, h1⟩ := lnB_true.1 hf
      obtain ⟨h2, h3⟩ := lnB_true.1 hr
      go_enter Tryd.func42, Tryd.ntmps42
      go_wp2_with (go_at_call 51; refine (isLn_any _ _).mono ?_; rintro e w' ⟨rfl, rfl⟩)
      go_ret2
      exact ⟨sq_pair (by rw [HS.out]) HO.out.symm, rfl⟩
end Go.Proofs.YtnogmogmlilpiaaDoor
