/-
 Layer 8's none, awake, lawful; contracts at known answers.
-/
import Derived.Test.YtidgfadbdgheiaaGreatDoorVaBaseA
import Derived.Test.YtidgfadbdgheiaaGreatDoorAtRefC
import Derived.Test.YtidgfadbdgheiaaGreatDoorVaBaseB
namespace Go.Proofs.YtidgfadbdgheiaaGreatDoor
open Go.RowKit
set_option linter.unusedVariables false
set_option linter.unusedSimpArgs false
theorem AtR.of {p : Nat → Int} (h : WfP p) : AtR p := by
 have hu : ∀ j, j < 88 → kAt j = .u8 → 0 ≤ p j ∧ p j ≤ 255 := fun j hj hk => by
  have := h j hj; rw [hk] at this
  exact u8_rng this
 exact ⟨fun i hi => hu _ (by omega) (kAt_board (by omega) hi), hu 0 (by omega) rfl, hu 78 (by omega) rfl⟩
theorem AtR.put {p : Nat → Int} (h : AtR p) (i : Nat) (x : Int) (hx : 0 ≤ x ∧ x ≤ 255) : AtR (upd p i x) := by
 have key : ∀ j, (0 ≤ p j ∧ p j ≤ 255) → 0 ≤ upd p i x j ∧ upd p i x j ≤ 255 := fun j hj => by unfold upd; split; { exact hx }; { exact hj }
 exact ⟨fun j hj => key _ (h.bd j hj), key _ h.var, key _ h.turn⟩
end Go.Proofs.YtidgfadbdgheiaaGreatDoor
