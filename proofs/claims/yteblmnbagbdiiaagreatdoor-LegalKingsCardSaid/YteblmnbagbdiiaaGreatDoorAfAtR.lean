/-
 Several texts in one: AtRefB, AtRefF, AtRefC, AtAwake.
-/
import Derived.Test.YteblmnbagbdiiaaGreatDoorAtHits
import Derived.Test.YteblmnbagbdiiaaGreatDoorAtCheck
import Derived.Test.YteblmnbagbdiiaaGreatDoorAfBaseK
import Derived.Test.YteblmnbagbdiiaaGreatDoorAfAtQ
import Derived.Test.YteblmnbagbdiiaaGreatDoorVaBaseA
import Derived.Test.YteblmnbagbdiiaaGreatDoorVaBaseB
/-
 Contracts of the document's own layer 8, second part: From, By, Find, King, Check, Checkers.
-/
set_option maxRecDepth 100000
set_option maxHeartbeats 1000000
namespace Go.Proofs.YteblmnbagbdiiaaGreatDoor
open Go.RowKit
set_option linter.unusedVariables false
set_option linter.unusedSimpArgs false

end Go.Proofs.YteblmnbagbdiiaaGreatDoor
/-
 Contract of the document's own Find, of kings.
-/
namespace Go.Proofs.YteblmnbagbdiiaaGreatDoor
open Go.RowKit
set_option linter.unusedVariables false
set_option linter.unusedSimpArgs false

theorem first_none {n : Nat} (hn : n < W64) (h : ∀ i, i < 64 → n.testBit i = false) : firstN n = -1 := by
 have : n = 0 := eq_of_bits hn (by decide) fun i hi => by rw [h i hi, Nat.zero_testBit]
 rw [this]; exact firstN_zero
end Go.Proofs.YteblmnbagbdiiaaGreatDoor
/-
 Contracts of the document's own layer 8, third part: Find, King, Check, Checkers.
-/
namespace Go.Proofs.YteblmnbagbdiiaaGreatDoor
open Go.RowKit
set_option linter.unusedVariables false
set_option linter.unusedSimpArgs false

end Go.Proofs.YteblmnbagbdiiaaGreatDoor
/-
 Layer 8's none, awake, lawful; contracts at known answers.
-/
namespace Go.Proofs.YteblmnbagbdiiaaGreatDoor
open Go.RowKit
set_option linter.unusedVariables false
set_option linter.unusedSimpArgs false
theorem AtR.of {p : Nat → Int} (h : WfP p) : AtR p := by
 have hu : ∀ j, j < 88 → kAt j = .u8 → 0 ≤ p j ∧ p j ≤ 255 := fun j hj hk => by
  have := h j hj; rw [hk] at this
  exact u8_rng this
 exact ⟨fun i hi => hu _ (by omega) (kAt_board (by omega) hi), hu 0 (by omega) rfl, hu 78 (by omega) rfl⟩
theorem AtR.put {p : Nat → Int} (h : AtR p) (i : Nat) (x : Int) (hx : 0 ≤ x ∧ x ≤ 255) : AtR (upd p i x) := by
 have key : ∀ j, (0 ≤ p j ∧ p j ≤ 255) → 0 ≤ upd p i x j ∧ upd p i x j ≤ 255 := fun j hj => by unfold upd; split; { exact hx }; { exact hj }
 exact ⟨fun j hj => key _ (h.bd j hj), key _ h.var, key _ h.turn⟩
end Go.Proofs.YteblmnbagbdiiaaGreatDoor
