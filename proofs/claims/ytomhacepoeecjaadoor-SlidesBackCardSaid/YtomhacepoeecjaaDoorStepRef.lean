/-
  The contract of the document's own Step.
-/
import Derived.Test.YtomhacepoeecjaaDoorListRef
import Derived.BigGuardPart
namespace Go.Proofs.YtomhacepoeecjaaDoor
open Go.RowKit

/-- The call answers this number, and changes nothing that was there. -/
def IntPost (n : Int) (w : World) (e : Ending) (w' : World) : Prop := e = .returned (.int .i64 n) ∧ Below w.heap.size w w'

theorem step_val (s d f r : Int) (hs : 0 ≤ s ∧ s < 64) (hd : 0 ≤ d ∧ d < 8) (hf : fileD d = f) (hr : rankD d = r) :
    stepN s d = if 0 ≤ s % 8 + f ∧ s % 8 + f < 8 ∧ 0 ≤ s / 8 + r ∧ s / 8 + r < 8 then 8 * (s / 8 + r) + (s % 8 + f) else -1 := by
  have h0 : (sq s && dirB d) = true := by simp [sq_true.2 hs, dirB_true.2 hd]
  subst hf hr
  by_cases h : 0 ≤ s % 8 + fileD d ∧ s % 8 + fileD d < 8 ∧ 0 ≤ s / 8 + rankD d ∧ s / 8 + rankD d < 8
  · rw [if_pos h, stepN_on h0 (onB_true.2 h)]
  · rw [if_neg h, stepN_off (by rw [← Bool.not_eq_true, onB_true]; exact h)]

theorem below_drewN {B : Nat} {a w : World} (h : Below B a w) (n : Nat) : Below B a (w.drewN n) := h.trans ⟨rfl, rfl, rfl, Nat.le_refl _, fun _ _ => rfl⟩
theorem below2 (w : World) (o o' : Obj) : Below w.heap.size w ((w.alloc o).alloc o') := ((Below.refl _ _).alloc (Nat.le_refl _) o).alloc (by simp) o'

theorem step_0 (s : Int) (w : World) (h0 : 0 ≤ s) (h1 : s ≤ 63) : Calls Tryd.prog 53 #[.int .i64 s, .int .i64 0] w (IntPost (stepN s 0) w) := by
  have HS := Lib.hid (step_val s 0 (0) (1) ⟨h0, by omega⟩ (by decide) (by decide) (by decide))
  have d1 : decide (s < 0) = false := by simpa using h0
  have d2 : decide (63 < s) = false := by simpa using h1
  go_enter Tryd.func53, Tryd.ntmps53
  go_wp2
  go_quiet (fail)
  go_wp2
  all_goals
    go_ret
    exact ⟨ret_int (by rw [HS.out]; split <;> omega), below_drewN (below2 _ _ _) _⟩
theorem step_1 (s : Int) (w : World) (h0 : 0 ≤ s) (h1 : s ≤ 63) : Calls Tryd.prog 53 #[.int .i64 s, .int .i64 1] w (IntPost (stepN s 1) w) := by
  have HS := Lib.hid (step_val s 1 (1) (1) ⟨h0, by omega⟩ (by decide) (by decide) (by decide))
  have d1 : decide (s < 0) = false := by simpa using h0
  have d2 : decide (63 < s) = false := by simpa using h1
  go_enter Tryd.func53, Tryd.ntmps53
  go_wp2
  go_quiet (fail)
  go_wp2
  all_goals
    go_ret
    exact ⟨ret_int (by rw [HS.out]; split <;> omega), below_drewN (below2 _ _ _) _⟩
theorem step_2 (s : Int) (w : World) (h0 : 0 ≤ s) (h1 : s ≤ 63) : Calls Tryd.prog 53 #[.int .i64 s, .int .i64 2] w (IntPost (stepN s 2) w) := by
  have HS := Lib.hid (step_val s 2 (1) (0) ⟨h0, by omega⟩ (by decide) (by decide) (by decide))
  have d1 : decide (s < 0) = false := by simpa using h0
  have d2 : decide (63 < s) = false := by simpa using h1
  go_enter Tryd.func53, Tryd.ntmps53
  go_wp2
  go_quiet (fail)
  go_wp2
  all_goals
    go_ret
    exact ⟨ret_int (by rw [HS.out]; split <;> omega), below_drewN (below2 _ _ _) _⟩
theorem step_3 (s : Int) (w : World) (h0 : 0 ≤ s) (h1 : s ≤ 63) : Calls Tryd.prog 53 #[.int .i64 s, .int .i64 3] w (IntPost (stepN s 3) w) := by
  have HS := Lib.hid (step_val s 3 (1) (-1) ⟨h0, by omega⟩ (by decide) (by decide) (by decide))
  have d1 : decide (s < 0) = false := by simpa using h0
  have d2 : decide (63 < s) = false := by simpa using h1
  go_enter Tryd.func53, Tryd.ntmps53
  go_wp2
  go_quiet (fail)
  go_wp2
  all_goals
    go_ret
    exact ⟨ret_int (by rw [HS.out]; split <;> omega), below_drewN (below2 _ _ _) _⟩
theorem step_4 (s : Int) (w : World) (h0 : 0 ≤ s) (h1 : s ≤ 63) : Calls Tryd.prog 53 #[.int .i64 s, .int .i64 4] w (IntPost (stepN s 4) w) := by
  have HS := Lib.hid (step_val s 4 (0) (-1) ⟨h0, by omega⟩ (by decide) (by decide) (by decide))
  have d1 : decide (s < 0) = false := by simpa using h0
  have d2 : decide (63 < s) = false := by simpa using h1
  go_enter Tryd.func53, Tryd.ntmps53
  go_wp2
  go_quiet (fail)
  go_wp2
  all_goals
    go_ret
    exact ⟨ret_int (by rw [HS.out]; split <;> omega), below_drewN (below2 _ _ _) _⟩
theorem step_5 (s : Int) (w : World) (h0 : 0 ≤ s) (h1 : s ≤ 63) : Calls Tryd.prog 53 #[.int .i64 s, .int .i64 5] w (IntPost (stepN s 5) w) := by
  have HS := Lib.hid (step_val s 5 (-1) (-1) ⟨h0, by omega⟩ (by decide) (by decide) (by decide))
  have d1 : decide (s < 0) = false := by simpa using h0
  have d2 : decide (63 < s) = false := by simpa using h1
  go_enter Tryd.func53, Tryd.ntmps53
  go_wp2
  go_quiet (fail)
  go_wp2
  all_goals
    go_ret
    exact ⟨ret_int (by rw [HS.out]; split <;> omega), below_drewN (below2 _ _ _) _⟩
theorem step_6 (s : Int) (w : World) (h0 : 0 ≤ s) (h1 : s ≤ 63) : Calls Tryd.prog 53 #[.int .i64 s, .int .i64 6] w (IntPost (stepN s 6) w) := by
  have HS := Lib.hid (step_val s 6 (-1) (0) ⟨h0, by omega⟩ (by decide) (by decide) (by decide))
  have d1 : decide (s < 0) = false := by simpa using h0
  have d2 : decide (63 < s) = false := by simpa using h1
  go_enter Tryd.func53, Tryd.ntmps53
  go_wp2
  go_quiet (fail)
  go_wp2
  all_goals
    go_ret
    exact ⟨ret_int (by rw [HS.out]; split <;> omega), below_drewN (below2 _ _ _) _⟩
theorem step_7 (s : Int) (w : World) (h0 : 0 ≤ s) (h1 : s ≤ 63) : Calls Tryd.prog 53 #[.int .i64 s, .int .i64 7] w (IntPost (stepN s 7) w) := by
  have HS := Lib.hid (step_val s 7 (-1) (1) ⟨h0, by omega⟩ (by decide) (by decide) (by decide))
  have d1 : decide (s < 0) = false := by simpa using h0
  have d2 : decide (63 < s) = false := by simpa using h1
  go_enter Tryd.func53, Tryd.ntmps53
  go_wp2
  go_quiet (fail)
  go_wp2
  all_goals
    go_ret
    exact ⟨ret_int (by rw [HS.out]; split <;> omega), below_drewN (below2 _ _ _) _⟩
theorem step_no (s d : Int) (w : World) (h : (sq s && dirB d) = false) : Calls Tryd.prog 53 #[.int .i64 s, .int .i64 d] w (IntPost (stepN s d) w) := by
  have HS := Lib.hid (stepN_out h)
  have hc : s < 0 ∨ (0 ≤ s ∧ 63 < s) ∨ (0 ≤ s ∧ s ≤ 63 ∧ d < 0) ∨ (0 ≤ s ∧ s ≤ 63 ∧ 0 ≤ d ∧ 7 < d) := by
    rw [Bool.and_eq_false_iff, sq_false, dirB_false] at h; omega
  clear h
  rcases hc with h | ⟨h1, h2⟩ | ⟨h1, h2, h3⟩ | ⟨h1, h2, h3, h4⟩
  · have d1 : decide (s < 0) = true := by simpa using h
    go_enter Tryd.func53, Tryd.ntmps53
    go_wp2
    go_ret
    exact ⟨ret_int HS.out.symm, below2 _ _ _⟩
  · have d1 : decide (s < 0) = false := by simpa using h1
    have d2 : decide (63 < s) = true := by simpa using h2
    go_enter Tryd.func53, Tryd.ntmps53
    go_wp2
    go_ret
    exact ⟨ret_int HS.out.symm, below2 _ _ _⟩
  · have d1 : decide (s < 0) = false := by simpa using h1
    have d2 : decide (63 < s) = false := by simpa using h2
    have d3 : decide (d < 0) = true := by simpa using h3
    go_enter Tryd.func53, Tryd.ntmps53
    go_wp2
    go_ret
    exact ⟨ret_int HS.out.symm, below2 _ _ _⟩
  · have d1 : decide (s < 0) = false := by simpa using h1
    have d2 : decide (63 < s) = false := by simpa using h2
    have d3 : decide (d < 0) = false := by simpa using h3
    have d4 : decide (7 < d) = true := by simpa using h4
    go_enter Tryd.func53, Tryd.ntmps53
    go_wp2
    go_ret
    exact ⟨ret_int HS.out.symm, below2 _ _ _⟩
theorem step_any (s d : Int) (w : World) : Calls Tryd.prog 53 #[.int .i64 s, .int .i64 d] w (IntPost (stepN s d) w) := by
  by_cases h : (sq s && dirB d) = true
  · rw [Bool.and_eq_true, sq_true, dirB_true] at h
    have : d = 0 ∨ d = 1 ∨ d = 2 ∨ d = 3 ∨ d = 4 ∨ d = 5 ∨ d = 6 ∨ d = 7 := by omega
    rcases this with rfl | rfl | rfl | rfl | rfl | rfl | rfl | rfl
    · exact step_0 s w h.1.1 (by omega)
    · exact step_1 s w h.1.1 (by omega)
    · exact step_2 s w h.1.1 (by omega)
    · exact step_3 s w h.1.1 (by omega)
    · exact step_4 s w h.1.1 (by omega)
    · exact step_5 s w h.1.1 (by omega)
    · exact step_6 s w h.1.1 (by omega)
    · exact step_7 s w h.1.1 (by omega)
  · exact step_no s d w (by simpa using h)
end Go.Proofs.YtomhacepoeecjaaDoor
