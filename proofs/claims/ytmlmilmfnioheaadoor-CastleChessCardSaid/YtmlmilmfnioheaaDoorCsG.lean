/-
  What castle tells of the five positions that layer 14's law looks at: by the kernel.
-/
import Derived.Test.YtmlmilmfnioheaaDoorCsF
namespace Go.Proofs.YtmlmilmfnioheaaDoor
open Go.RowKit
set_option linter.unusedVariables false

set_option maxRecDepth 100000 in
theorem cs_k1 : bothV (camL fpC) true true = true := by decide +kernel
set_option maxRecDepth 100000 in
theorem cs_k2 : bothV (camL (upd fpC (1 + 37) 12)) true false = true := by decide +kernel
set_option maxRecDepth 100000 in
theorem cs_k3 : bothV (camL (upd fpC (1 + 33) 12)) true true = true := by decide +kernel
set_option maxRecDepth 100000 in
theorem cs_k4 : bothV (camL (upd fpC (1 + 36) 12)) false false = true := by decide +kernel
set_option maxRecDepth 100000 in
theorem cs_k5 : bothV (camL (upd fpC (1 + 1) 2)) false true = true := by decide +kernel
theorem CsR.put {p : Nat → Int} (h : CsR p) {i : Nat} (hi : i < 64) {x : Int} (hx : 0 ≤ x ∧ x ≤ 255) : CsR (upd p (1 + i) x) :=
  ⟨h.at_.put _ _ hx, fun j hj => by rw [upd_other _ _ _ _ (by omega)]; exact h.rk j hj⟩
theorem fp0_fit : CsR fp0 := by
  refine ⟨⟨fun i hi => ?_, by decide, by decide⟩, fun i hi => ?_⟩
  · unfold fp0
    rw [upd_other _ _ _ _ (by omega), upd_other _ _ _ _ (by omega), upd_other _ _ _ _ (by omega), upd_other _ _ _ _ (by omega), upd_other _ _ _ _ (by omega)]
    show (0 : Int) ≤ 0 ∧ (0 : Int) ≤ 255; omega
  · rcases (by omega : i = 0 ∨ i = 1 ∨ i = 2 ∨ i = 3) with rfl | rfl | rfl | rfl <;> decide
theorem fpC_fit : CsR fpC := (((fp0_fit.put (by decide) ⟨by decide, by decide⟩).put (by decide) ⟨by decide, by decide⟩).put (by decide) ⟨by decide, by decide⟩).put (by decide) ⟨by decide, by decide⟩
end Go.Proofs.YtmlmilmfnioheaaDoor
