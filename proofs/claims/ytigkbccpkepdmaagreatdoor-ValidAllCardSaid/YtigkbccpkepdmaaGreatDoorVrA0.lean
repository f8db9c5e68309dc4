/-
 The document's own Is.
-/
import Derived.Test.YtigkbccpkepdmaaGreatDoorVrM
import Derived.Test.YtigkbccpkepdmaaGreatDoorAtRef
import Derived.Test.YtigkbccpkepdmaaGreatDoorRuProm
namespace Go.Proofs.YtigkbccpkepdmaaGreatDoor
open Go.RowKit
set_option linter.unusedVariables false
set_option linter.unusedSimpArgs false
theorem isK {p : Nat → Int} {n : Nat} {c k : Int} {x : Bool} (h : isB p n c k = x) (hn : n < 64) (w : World) (hp : ∀ i, i < 64 → 0 ≤ p (1 + i) ∧ p (1 + i) ≤ 255) : Calls Tryz.prog 34 #[.agg (posA p), .int .i64 (n : Int), .int .u8 c, .int .u8 k] w (BoL x w) := h ▸ ris_any p n c k w hp hn
end Go.Proofs.YtigkbccpkepdmaaGreatDoor
