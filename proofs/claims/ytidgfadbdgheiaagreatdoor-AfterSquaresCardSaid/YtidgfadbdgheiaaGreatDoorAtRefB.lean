/-
 Contracts of the document's own layer 8, second part: From, By, Find, King, Check, Checkers.
-/
import Derived.Test.YtidgfadbdgheiaaGreatDoorAtHits
import Derived.Test.YtidgfadbdgheiaaGreatDoorAtCheck
import Derived.Test.YtidgfadbdgheiaaGreatDoorAfBaseK
namespace Go.Proofs.YtidgfadbdgheiaaGreatDoor
open Go.RowKit
set_option linter.unusedVariables false
set_option linter.unusedSimpArgs false

theorem or_one {out k : Nat} (ho : out < W64) (hk : k < 64) : bits .or .u64 (out : Int) (IntKind.u64.wrap (2 ^ k)) = ((putN out (k : Int) : Nat) : Int) := by
 rw [wrap_pow k hk, or_nat ho (by rw [W64_eq]; exact Nat.pow_lt_pow_right (by decide) hk), ← only_nat hk]; rfl
end Go.Proofs.YtidgfadbdgheiaaGreatDoor
