/-
  The contract of the document's own Step.
-/
import Derived.Test.YtboopdmgphhemaaDoorListRef
import Derived.BigGuardPart
namespace Go.Proofs.YtboopdmgphhemaaDoor
open Go.RowKit

/-- The call answers this number, and changes nothing that was there. -/
def IntPost (n : Int) (w : World) (e : Ending) (w' : World) : Prop := e = .returned (.int .i64 n) ∧ Below w.heap.size w w'

theorem step_val (s d f r : Int) (hs : 0 ≤ s ∧ s < 64) (hd : 0 ≤ d ∧ d < 8) (hf : fileD d = f) (hr : rankD d = r) :
    stepN s d = if 0 ≤ s % 8 + f ∧ s % 8 + f < 8 ∧ 0 ≤ s / 8 + r ∧ s / 8 + r < 8 then 8 * (s / 8 + r) + (s % 8 + f) else -1 := by
  have h0 : (sq s && dirB d) = true := by simp [sq_true.2 hs, dirB_true.2 hd]
  subst hf hr
  by_cases h : 0 ≤ s % 8 + fileD d ∧ s % 8 + fileD d < 8 ∧ 0 ≤ s / 8 + rankD d ∧ s / 8 + rankD d < 8
  · rw [if_pos h, stepN_on h0 (onB_true.2 h)]
  · rw [if_neg h, stepN_off (by rw [← Bool.not_eq_true, onB_true]; exact h)]

theorem below_drewN {B : Nat} {a w : World} (h : Below B a w) (n : Nat) : Below B a (w.drewN n) := h.trans ⟨rfl, rfl, rfl, Nat.le_refl _, fun _ _ => rfl⟩
theorem below2 (w : World) (o o' : Obj) : Below w.heap.size w ((w.alloc o).alloc o') := ((Below.refl _ _).alloc (Nat.le_refl _) o).alloc (by simp) o'

end Go.Proofs.YtboopdmgphhemaaDoor
