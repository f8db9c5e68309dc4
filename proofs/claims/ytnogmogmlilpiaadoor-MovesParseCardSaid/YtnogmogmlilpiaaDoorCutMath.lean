/-
  A text cut at the first of such a byte. Plain.
-/
import Derived.Test.YtnogmogmlilpiaaDoorFnMath
namespace Go.Proofs.YtnogmogmlilpiaaDoor
open Go.RowKit

/-- The text ahead of the first such byte; behind it. -/
def cutA (b : UInt8) : List UInt8 → List UInt8
  | [] => []
  | x :: l => bif b == x then [] else x :: cutA b l
def cutB (b : UInt8) : List UInt8 → List UInt8
  | [] => []
  | x :: l => bif b == x then l else cutB b l
theorem cutA_len (b : UInt8) : ∀ l, (cutA b l).length ≤ l.length
  | [] => Nat.le_refl _
  | x :: l => by unfold cutA; cases (b == x) <;> simp [cutA_len b l]
theorem cutB_len (b : UInt8) : ∀ l, (cutB b l).length ≤ l.length
  | [] => Nat.le_refl _
  | x :: l => by
    unfold cutB
    cases (b == x)
    · exact Nat.le_trans (cutB_len b l) (by simp)
    · show l.length ≤ l.length + 1; omega
end Go.Proofs.YtnogmogmlilpiaaDoor
