/-
 Plain mathematics of layer 3, second part: the chapter's own way to reckon (square by square), and what follows. Nothing of the program stands here.
-/
import Derived.Test.YtidgfadbdgheiaaGreatDoorVaBaseC
import Derived.Test.YtidgfadbdgheiaaGreatDoorVaBaseA
namespace Go.Proofs.YtidgfadbdgheiaaGreatDoor

/-- The squares below k of which that holds. -/
def setTo (p : Nat → Bool) : Nat → Nat
 | 0 => 0
 | k + 1 => bif p k then putN (setTo p k) (k : Int) else setTo p k
theorem setTo_lt (p : Nat → Bool) : ∀ k, setTo p k < W64
 | 0 => by show (0 : Nat) < W64; decide
 | k + 1 => by
  show (bif p k then putN (setTo p k) (k : Int) else setTo p k) < W64
  cases p k
  ·exact setTo_lt p k
  ·exact putN_lt (setTo_lt p k) _
theorem setTo_yes {p : Nat → Bool} {k : Nat} (h : p k = true) : setTo p (k + 1) = putN (setTo p k) (k : Int) := by simp [setTo, h]
theorem setTo_no {p : Nat → Bool} {k : Nat} (h : p k = false) : setTo p (k + 1) = setTo p k := by simp [setTo, h]
/-! Between, square by square. -/
/-! P3.4. -/
/-! P3.5. -/
/-! The eight rays. -/
/-! P3.6. -/
/-! How many, and how far. -/
end Go.Proofs.YtidgfadbdgheiaaGreatDoor
