/-
  The walk of PseudoLess.
-/
import Derived.Test.YtfdheeogpndklaaDoorPsR
import Derived.WalkKit
import Derived.OpenShut
namespace Go.Proofs.YtfdheeogpndklaaDoor.pseudoLess
open Go.RowKit
set_option linter.unusedVariables false
set_option linter.unusedSimpArgs false
theorem walk (p : Nat → Int) (a1 : Int) (hp : WfP p) (h1 : (Lit.int .i64 a1).wf = true) (w : World) (hD : TabDb w) (hL : TabLead w) (hT : TabVar w) (hK : TabKn w) : Calls Tryd.prog 6 #[.agg (posA p), .int .i64 a1] w fun e w' => e = .returned (.bool true) ∧ Below w.heap.size w w' := by
  refine (psLess_any p a1 w (PsR.of hp) ⟨hT, hD, hL⟩ hK).mono ?_
  rintro e w' ⟨rfl, hb⟩
  exact ⟨rfl, hb⟩
end Go.Proofs.YtfdheeogpndklaaDoor.pseudoLess
