/-
  The walk of BitsSteps.
-/
import Derived.Test.YtpglfcjkjomcjaaDoorShiftRef
import Derived.Test.YtpglfcjkjomcjaaDoorLibBits
import Derived.WalkKit
import Derived.OpenShut
namespace Go.Proofs.YtpglfcjkjomcjaaDoor.bitsSteps
open Go.RowKit
set_option linter.unusedVariables false
theorem walk (a0 : Int) (a1 : Int) (w0 : (Lit.int .u64 a0).wf = true) (w1 : (Lit.int .i64 a1).wf = true) (w : World) (T0 : TabLead w) :
    Calls Tryd.prog 4 #[.int .u64 a0, .int .i64 a1] w fun e w' => e = .returned (.bool true) ∧ Below w.heap.size w w' := by
  obtain ⟨b, rfl⟩ := Int.eq_ofNat_of_zero_le (a := a0) (bounds_u64 w0).1
  have hb : b < W64 := by have := (bounds_u64 w0).2; unfold W64; omega
  have HB := Lib.hid hb
  have HT := Lib.hid T0
  clear hb w0 w1 T0
  go_enter Tryd.func4, Tryd.ntmps4
  go_wp2_with (first | (go_at_call 15; refine (shift_any _ _ _ HB.out HT.out).mono ?_; rintro e w' ⟨rfl, rfl⟩) | (go_at_call 16; refine (rshift_any _ _ _ HB.out).mono ?_; rintro e w1 ⟨rfl, hb1⟩; have HB1 := Lib.hid hb1; clear hb1) | (go_at_call 17; refine (flip_any _ _ HB.out).mono ?_; rintro e w' ⟨rfl, rfl⟩) | (go_at_call 18; refine (rflip_any _ _ HB.out).mono ?_; rintro e w2 ⟨rfl, hb2⟩; have HB2 := Lib.hid hb2; clear hb2))
  go_ret
  exact ⟨rfl, HB1.out.trans (HB2.out.mono HB1.out.size)⟩
end Go.Proofs.YtpglfcjkjomcjaaDoor.bitsSteps
