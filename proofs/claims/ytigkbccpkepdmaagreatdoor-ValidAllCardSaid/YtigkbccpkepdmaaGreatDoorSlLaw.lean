/-
 Plain mathematics of layer 4, second part: what follows for rooks, bishops, queens. Nothing of the program stands here.
-/
import Derived.Test.YtigkbccpkepdmaaGreatDoorSlMath
namespace Go.Proofs.YtigkbccpkepdmaaGreatDoor

/-! P4.3. -/
theorem free_back (a b : Int) (occ : Nat) : freeB occ b a = freeB occ a b := by unfold freeB; rw [(turned_all a b).2.2.2.1]
theorem seen_back (a b : Int) (occ : Nat) : hasN (queenN b occ) a = hasN (queenN a occ) b := by
 rw [has_queen, has_queen, free_back, (turned_all a b).2.2.2.2]
def rookB (a b : Nat) : Bool := (raysN (a : Int) rookDs).testBit b == (raysN (b : Int) rookDs).testBit a
theorem rookB_all : ∀ a, a < 64 → ∀ b, b < 64 → rookB a b = true := by decide +kernel
theorem rook_back (a b : Int) (occ : Nat) : hasN (rookN a occ) b = hasN (rookN b occ) a := by
 rw [rookN, rookN, has_seenAll, has_seenAll, free_back]
 congr 1
 cases ha : sq a
 ·rw [raysN_no ha, hasN_no ha, has_zero]
 ·cases hb : sq b
  ·rw [raysN_no hb, hasN_no hb, has_zero]
  ·obtain ⟨m, hm, rfl⟩ := nat_of_sq ha
   obtain ⟨n, hn, rfl⟩ := nat_of_sq hb
   have := rookB_all m hm n hn
   rw [rookB, beq_iff_eq] at this
   rw [hasN_nat _ _ hn, hasN_nat _ _ hm, this]

/-! P4.4. -/
/-! P4.2. -/
/-! P4.5. -/
/-! The end of what is seen. -/
end Go.Proofs.YtigkbccpkepdmaaGreatDoor
