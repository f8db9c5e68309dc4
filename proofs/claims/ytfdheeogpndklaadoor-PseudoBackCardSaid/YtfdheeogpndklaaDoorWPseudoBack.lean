/-
  The walk of PseudoBack.
-/
import Derived.Test.YtfdheeogpndklaaDoorPsQ
import Derived.WalkKit
import Derived.OpenShut
namespace Go.Proofs.YtfdheeogpndklaaDoor.pseudoBack
open Go.RowKit
set_option linter.unusedVariables false
set_option linter.unusedSimpArgs false
theorem walk (p : Nat → Int) (hp : WfP p) (w : World) (hD : TabDb w) (hL : TabLead w) (hT : TabVar w) (hK : TabKn w) : Calls Tryd.prog 4 #[.agg (posA p)] w fun e w' => e = .returned (.bool true) ∧ Below w.heap.size w w' := by
  refine (psBack_any p w (PsR.of hp) ⟨hT, hD, hL⟩ hK).mono ?_
  rintro e w' ⟨rfl, hb⟩
  exact ⟨rfl, hb⟩
end Go.Proofs.YtfdheeogpndklaaDoor.pseudoBack
