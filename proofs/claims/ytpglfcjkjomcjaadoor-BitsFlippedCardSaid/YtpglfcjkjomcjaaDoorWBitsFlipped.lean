/-
  The walk of BitsFlipped.
-/
import Derived.Test.YtpglfcjkjomcjaaDoorAwake
import Derived.Test.YtpglfcjkjomcjaaDoorMathD
import Derived.WalkKit
import Derived.OpenShut
namespace Go.Proofs.YtpglfcjkjomcjaaDoor.bitsFlipped
open Go.RowKit
set_option linter.unusedVariables false
theorem eq_self {a b : Nat} (h : a = b) : ((a : Int) == (b : Int)) = true := by rw [h]; simp
set_option maxHeartbeats 1000000 in
theorem walk (a0 : Int) (a1 : Int) (w0 : (Lit.int .u64 a0).wf = true) (w1 : (Lit.int .i64 a1).wf = true) (w : World) (T0 : TabDb w) (T1 : TabLead w) :
    Calls Tryd.prog 9 #[.int .u64 a0, .int .i64 a1] w fun e w' => e = .returned (.bool true) ∧ Below w.heap.size w w' := by
  obtain ⟨b, rfl⟩ := Int.eq_ofNat_of_zero_le (a := a0) (bounds_u64 w0).1
  have hb : b < W64 := by have := (bounds_u64 w0).2; unfold W64; omega
  obtain ⟨d, hd8, hd⟩ := dir8 a1
  have ht := turn8 d hd8
  have h1 := eq_self (flip_flip hb)
  have h2 := eq_self (flip_shift b d hd8)
  generalize (12 - d) % 8 = t at ht h2
  have h3 := eq_self (count_flip b)
  have HB := Lib.hid hb
  have HT := Lib.hid T0
  have HL := Lib.hid T1
  clear hb w0 w1 T0 T1
  go_enter Tryd.func9, Tryd.ntmps9
  go_wp2_with fail
  refine (awake_any _ HT.out HL.out).mono ?_; rintro e w1 ⟨rfl, hb1⟩
  have HL1 := Lib.hid (HL.out.later HL.out.lt hb1)
  have HB1 := Lib.hid hb1
  clear hb1
  go_wp2_with fail
  refine (flip_any b _ HB.out).mono ?_; rintro e w' ⟨rfl, rfl⟩
  go_wp2_with fail
  refine (flip_any _ _ (flipN_lt b)).mono ?_; rintro e w' ⟨rfl, rfl⟩
  go_wp2_with fail
  refine (shift_any b _ _ HB.out HL1.out).mono ?_; rintro e w' ⟨rfl, rfl⟩
  go_wp2_with fail
  refine (flip_any _ _ (shiftN_lt _ _)).mono ?_; rintro e w' ⟨rfl, rfl⟩
  go_wp2_with fail
  refine (flip_any b _ HB.out).mono ?_; rintro e w' ⟨rfl, rfl⟩
  go_wp2_with fail
  refine (shift_any _ _ _ (flipN_lt b) HL1.out).mono ?_; rintro e w' ⟨rfl, rfl⟩
  go_wp2_with fail
  refine (flip_any b _ HB.out).mono ?_; rintro e w' ⟨rfl, rfl⟩
  go_wp2_with fail
  refine (count_any _ _ (flipN_lt b)).mono ?_; rintro e w' ⟨rfl, rfl⟩
  go_wp2_with fail
  refine (count_any b _ HB.out).mono ?_; rintro e w' ⟨rfl, rfl⟩
  go_wp2_with fail
  go_ret
  exact ⟨rfl, HB1.out⟩
end Go.Proofs.YtpglfcjkjomcjaaDoor.bitsFlipped
