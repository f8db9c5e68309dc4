/-
  What stands on the squares of a position behind Put.
-/
import Derived.Test.YtgodoipmnenohaaDoorBoLaw
namespace Go.Proofs.YtgodoipmnenohaaDoor
open Go.RowKit
theorem put_at {p : Nat → Int} {n : Nat} {x : Int} (hn : n < 64) (hm : mayB x = true) : atZ (upd p (1 + n) x) (n : Int) = x := by
  have hs : sq (n : Int) = true := sq_true.2 ⟨by omega, by omega⟩
  cases h : pcB x
  · obtain rfl : x = 0 := by unfold mayB at hm; rw [h] at hm; simpa using hm
    exact atZ_off hs (by rw [upd_same]; exact h)
  · rw [atZ_yes hs (by rw [upd_same]; exact h), upd_same]
theorem put_else {p : Nat → Int} {n : Nat} {x o : Int} (ho : o ≠ (n : Int)) : atZ (upd p (1 + n) x) o = atZ p o := by
  unfold atZ
  cases hs : sq o
  · rfl
  · have := (sq_true.1 hs).1
    rw [upd_other _ _ _ _ (by omega)]
end Go.Proofs.YtgodoipmnenohaaDoor
