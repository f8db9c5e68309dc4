/-
  Contracts of the program's army, a color each.
-/
import Derived.Test.YtnogmogmlilpiaaDoorRuPlace
namespace Go.Proofs.YtnogmogmlilpiaaDoor
open Go.RowKit
set_option linter.unusedVariables false

/-- Behind k files: on the rank h the pieces, on the rank a the pawns of a color. -/
def armyN (p : Nat → Int) (h a c : Nat) (r : Nat → Int) : Nat → Nat → Int
  | 0 => p
  | k + 1 => upd (upd (armyN p h a c r k) (1 + (8 * h + k)) (8 * (c : Int) + r k)) (1 + (8 * a + k)) (8 * (c : Int) + 1)
theorem armyN_zero (p : Nat → Int) (h a c : Nat) (r : Nat → Int) : ∀ k, armyN p h a c r k 0 = p 0
  | 0 => rfl
  | k + 1 => by
    show upd (upd _ _ _) _ _ 0 = _
    rw [upd_other _ _ _ _ (by omega), upd_other _ _ _ _ (by omega)]
    exact armyN_zero p h a c r k
def rookP (p : Nat → Int) (o : Nat) (a b : Int) : Nat → Int := upd (upd p o a) (o + 1) b
theorem over_two (p : Nat → Int) (o : Nat) (a b : Int) : over p o 2 (rookP zeroP o a b) = rookP p o a b := by
  funext j
  unfold over rookP
  by_cases e1 : j = o + 1
  · subst e1; rw [if_pos (by omega), upd_same, upd_same]
  · by_cases e0 : j = o
    · subst e0; rw [if_pos (by omega), upd_other _ _ _ _ e1, upd_same, upd_other _ _ _ _ e1, upd_same]
    · rw [if_neg (by omega), upd_other _ _ _ _ e1, upd_other _ _ _ _ e0]
/-- A color lined up. -/
def armyP (v : Nat) (p : Nat → Int) (c : Nat) (r : Nat → Int) : Nat → Int :=
  bif casB v then rookP (armyN p (7 * c) (1 + 5 * c) c r 8) (79 + 2 * c) (rf0 r 8) (rf1 r 8) else armyN p (7 * c) (1 + 5 * c) c r 8
theorem rook_val0 (a b : Int) : Value.agg #[.int .i8 a, .int .i8 b] = .agg (partL (rookP zeroP 79 a b) 79 2).toArray := by kernel_rfl
theorem rook_val1 (a b : Int) : Value.agg #[.int .i8 a, .int .i8 b] = .agg (partL (rookP zeroP 81 a b) 81 2).toArray := by kernel_rfl
def Kinds15 (r : Nat → Int) : Prop := ∀ i, i < 8 → ∃ n : Nat, n ≤ 7 ∧ r i = (n : Int)
theorem New.row3 {b c : Nat} {w w' : World} {p : Nat → Int} (h : New b w w') (hr : Row w c p) : Row w' c p := hr.later h.below
end Go.Proofs.YtnogmogmlilpiaaDoor
