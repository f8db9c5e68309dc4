/-
  The walk of RaysLines.
-/
import Derived.Test.YtheaknnipbbnbaaDoorRayAwake
import Derived.Test.YtheaknnipbbnbaaDoorRayRefB
import Derived.Test.YtheaknnipbbnbaaDoorRayRefD
import Derived.WalkKit
import Derived.OpenShut
namespace Go.Proofs.YtheaknnipbbnbaaDoor.raysLines
open Go.RowKit
set_option linter.unusedVariables false
set_option maxRecDepth 100000 in
set_option maxHeartbeats 4000000 in
theorem walk (a0 : Int) (a1 : Int) (w0 : (Lit.int .i64 a0).wf = true) (w1 : (Lit.int .i64 a1).wf = true) (w : World) (hT : TabLead w) :
    Calls Tryd.prog 5 #[.int .i64 a0, .int .i64 a1] w fun e w' => e = .returned (.bool true) ∧ Below w.heap.size w w' := by
  have HT0 := Lib.hid hT
  have HB0 := Lib.hid (Below.refl w.heap.size w)
  clear hT
  clear w0 w1
  go_enter Tryd.func5, Tryd.ntmps5
  go_wp2_with fail
  refine (between_any _ _ _ HT0.out).mono ?_; rintro e w1 ⟨rfl, hb1⟩
  have HB1 := Lib.hid (below_on HB0.out hb1); have HT1 := Lib.hid (HT0.out.next hb1); clear hb1
  go_wp2_with fail
  refine (rbetween_any _ _ _).mono ?_; rintro e w2 ⟨rfl, hb2⟩
  have HB2 := Lib.hid (below_on HB1.out hb2); have HT2 := Lib.hid (HT1.out.next hb2); clear hb2
  go_wp2_with fail
  refine (line_any _ _ _ HT2.out).mono ?_; rintro e w3 ⟨rfl, hb3⟩
  have HB3 := Lib.hid (below_on HB2.out hb3); have HT3 := Lib.hid (HT2.out.next hb3); clear hb3
  go_wp2_with fail
  refine (rline_any _ _ _).mono ?_; rintro e w4 ⟨rfl, hb4⟩
  have HB4 := Lib.hid (below_on HB3.out hb4); have HT4 := Lib.hid (HT3.out.next hb4); clear hb4
  go_wp2_with fail
  go_ret
  exact ⟨rfl, HB4.out⟩
end Go.Proofs.YtheaknnipbbnbaaDoor.raysLines
