/-
  Contracts of the program's File, Rank, Of, Flip (layer 2): each answers the plain function of XSqMath.
-/
import Derived.Test.YtomhacepoeecjaaDoorSqMath
namespace Go.Proofs.YtomhacepoeecjaaDoor
open Go.RowKit

theorem sq_int {k : IntKind} {a b : Int} (h : a = b) : Ending.returned (.int k a) = .returned (.int k b) := by rw [h]
theorem sq_bool {a b : Bool} (h : a = b) : Ending.returned (.bool a) = .returned (.bool b) := by rw [h]
theorem sq_pair {a b : Int} {c d : Bool} (h : a = b) (g : c = d) : Ending.returned (.tuple #[.int .i64 a, .bool c]) = .returned (.tuple #[.int .i64 b, .bool d]) := by rw [h, g]
def I64 (n : Int) (w : World) (e : Ending) (w' : World) : Prop := e = .returned (.int .i64 n) ∧ w = w'
def B1 (b : Bool) (w : World) (e : Ending) (w' : World) : Prop := e = .returned (.bool b) ∧ w = w'
def I64B (n : Int) (b : Bool) (w : World) (e : Ending) (w' : World) : Prop := e = .returned (.tuple #[.int .i64 n, .bool b]) ∧ w = w'

theorem isSq_any (s : Int) (w : World) : Calls Tryd.prog 47 #[.int .i64 s] w (B1 (sqB s) w) := by
  by_cases h0 : s < 0
  · have HS := Lib.hid (sqB_false.2 (.inl h0))
    have g1 : decide (0 ≤ s) = false := decide_eq_false (by omega)
    go_enter Tryd.func47, Tryd.ntmps47
    go_wp2
    go_ret
    exact ⟨sq_bool HS.out.symm, rfl⟩
  · by_cases h1 : 64 ≤ s
    · have HS := Lib.hid (sqB_false.2 (.inr h1))
      have g1 : decide (0 ≤ s) = true := decide_eq_true (by omega)
      have g2 : decide (s < 64) = false := decide_eq_false (by omega)
      go_enter Tryd.func47, Tryd.ntmps47
      go_wp2
      go_ret
      exact ⟨sq_bool HS.out.symm, rfl⟩
    · have HS := Lib.hid ((sqB_true (s := s)).2 ⟨by omega, by omega⟩)
      have g1 : decide (0 ≤ s) = true := decide_eq_true (by omega)
      have g2 : decide (s < 64) = true := decide_eq_true (by omega)
      clear h0 h1
      go_enter Tryd.func47, Tryd.ntmps47
      go_wp2
      go_ret
      exact ⟨sq_bool HS.out.symm, rfl⟩


theorem file_any (s : Int) (w : World) : Calls Tryd.prog 28 #[.int .i64 s] w (I64 (fileZ s) w) := by
  cases h : sqB s
  · have HS := Lib.hid (fileZ_no h)
    go_enter Tryd.func28, Tryd.ntmps28
    go_wp2_with (go_at_call 47; refine (isSq_any _ _).mono ?_; rintro e w' ⟨rfl, rfl⟩)
    go_ret
    exact ⟨sq_int HS.out.symm, rfl⟩
  · have HS := Lib.hid (fileZ_yes h)
    obtain ⟨h0, h1⟩ := sqB_true.1 h
    go_enter Tryd.func28, Tryd.ntmps28
    go_wp2_with (go_at_call 47; refine (isSq_any _ _).mono ?_; rintro e w' ⟨rfl, rfl⟩)
    go_ret
    exact ⟨sq_int (by rw [HS.out]), rfl⟩
theorem rank_any (s : Int) (w : World) : Calls Tryd.prog 29 #[.int .i64 s] w (I64 (rankZ s) w) := by
  cases h : sqB s
  · have HS := Lib.hid (rankZ_no h)
    go_enter Tryd.func29, Tryd.ntmps29
    go_wp2_with (go_at_call 47; refine (isSq_any _ _).mono ?_; rintro e w' ⟨rfl, rfl⟩)
    go_ret
    exact ⟨sq_int HS.out.symm, rfl⟩
  · have HS := Lib.hid (rankZ_yes h)
    obtain ⟨h0, h1⟩ := sqB_true.1 h
    go_enter Tryd.func29, Tryd.ntmps29
    go_wp2_with (go_at_call 47; refine (isSq_any _ _).mono ?_; rintro e w' ⟨rfl, rfl⟩)
    go_ret
    exact ⟨sq_int (by rw [HS.out]), rfl⟩
theorem sflip_any (s : Int) (w : World) : Calls Tryd.prog 30 #[.int .i64 s] w (I64 (flipZ s) w) := by
  cases h : sqB s
  · have HS := Lib.hid (flipZ_no h)
    go_enter Tryd.func30, Tryd.ntmps30
    go_wp2_with (go_at_call 47; refine (isSq_any _ _).mono ?_; rintro e w' ⟨rfl, rfl⟩)
    go_ret
    exact ⟨sq_int HS.out.symm, rfl⟩
  · have HS := Lib.hid (show flipZ s = 8 * (7 - rankZ s) + fileZ s by rw [flipZ_yes h, rankZ_yes h, fileZ_yes h])
    obtain ⟨h0, h1⟩ := fileZ_rng s
    obtain ⟨h2, h3⟩ := rankZ_rng s
    go_enter Tryd.func30, Tryd.ntmps30
    go_wp2_with (first | (go_at_call 47; refine (isSq_any _ _).mono ?_; rintro e w' ⟨rfl, rfl⟩) | (go_at_call 28; refine (file_any _ _).mono ?_; rintro e w' ⟨rfl, rfl⟩) | (go_at_call 29; refine (rank_any _ _).mono ?_; rintro e w' ⟨rfl, rfl⟩))
    go_ret
    exact ⟨sq_int (by rw [HS.out]), rfl⟩
end Go.Proofs.YtomhacepoeecjaaDoor
