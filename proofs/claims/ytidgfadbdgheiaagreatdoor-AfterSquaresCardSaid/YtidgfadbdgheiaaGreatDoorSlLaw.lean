/-
 Plain mathematics of layer 4, second part: what follows for rooks, bishops, queens. Nothing of the program stands here.
-/
import Derived.Test.YtidgfadbdgheiaaGreatDoorSlMath
namespace Go.Proofs.YtidgfadbdgheiaaGreatDoor

/-! P4.3. -/
/-! P4.4. -/
/-! P4.2. -/
/-! P4.5. -/
/-! The end of what is seen. -/
end Go.Proofs.YtidgfadbdgheiaaGreatDoor
