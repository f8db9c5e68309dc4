/-
 The chapter's rows of layer 12: seven positions, and what is wrong with them.
-/
import Derived.Test.YtigkbccpkepdmaaGreatDoorVaG
import Derived.Test.YtigkbccpkepdmaaGreatDoorVaBaseE
namespace Go.Proofs.YtigkbccpkepdmaaGreatDoor
open Go.RowKit
set_option linter.unusedVariables false
set_option linter.unusedSimpArgs false

def vaE0 : Nat → Int := upd (upd (upd (upd (upd (upd (upd zeroP 78 1) 79 (-1)) 80 (-1)) 81 (-1)) 82 (-1)) 83 (-1)) 87 1
def vaE : Nat → Int := upd (upd (upd vaE0 5 6) 61 12) 57 14
def vaEF : Nat → Int := upd vaE 78 0
theorem hq_1 : hdZ (wrL (startP 0)) = 0 := by decide +kernel
theorem hq_2 : hdZ (wrL (upd (startP 0) 61 0)) = 120 := by decide +kernel
theorem hq_3 : hdZ (wrL (upd (startP 0) 57 1)) = 121 := by decide +kernel
theorem hq_4 : hdZ (wrL (upd (startP 0) 8 0)) = 123 := by decide +kernel
theorem hq_5 : hdZ (wrL (upd (startP 0) 83 20)) = 124 := by decide +kernel
theorem hq_6 : hdZ (wrL vaE) = 126 := by decide +kernel
theorem hq_7 : hdZ (wrL vaEF) = 0 := by decide +kernel
theorem wfp_put {p : Nat → Int} (h : WfP p) (i : Nat) (x : Int) (hx : i < 88 → (Lit.int (kAt i) x).wf = true) : WfP (upd p i x) := fun j hj => by
 by_cases e : j = i
 ·subst e; rw [upd_same]; exact hx hj
 ·rw [upd_other _ _ _ _ e]; exact h j hj
theorem vaE_wf : WfP vaE := by
 have : ∀ i, i < 88 → (Lit.int (kAt i) (vaE i)).wf = true := by decide +kernel
 exact this
theorem wf_st0 : WfP (startP 0) := by
 have : ∀ i, i < 88 → (Lit.int (kAt i) (startP 0 i)).wf = true := by decide +kernel
 exact this
theorem hf_1 : FitP (startP 0) := FitP.of (wf_st0)
theorem hf_2 : FitP (upd (startP 0) 61 0) := FitP.of (wfp_put (wf_st0) 61 0 (by decide))
theorem hf_3 : FitP (upd (startP 0) 57 1) := FitP.of (wfp_put (wf_st0) 57 1 (by decide))
theorem hf_4 : FitP (upd (startP 0) 8 0) := FitP.of (wfp_put (wf_st0) 8 0 (by decide))
theorem hf_5 : FitP (upd (startP 0) 83 20) := FitP.of (wfp_put (wf_st0) 83 20 (by decide))
theorem hf_6 : FitP vaE := FitP.of vaE_wf
theorem hf_7 : FitP vaEF := FitP.of (wfp_put vaE_wf 78 0 (by decide))
theorem built_E : Tryz.prog.built 31 [(4, .int .u8 1), (6, .int .i8 (-1)), (9, .int .i64 1), (5, .agg #[.int .i8 (-1), .int .i8 (-1), .int .i8 (-1), .int .i8 (-1)])] = some (posA vaE0) := by kernel_rfl
end Go.Proofs.YtigkbccpkepdmaaGreatDoor
