/-
  The walk of BitsBoth.
-/
import Derived.Test.YtpglfcjkjomcjaaDoorAwake
import Derived.Test.YtpglfcjkjomcjaaDoorMathD
import Derived.WalkKit
import Derived.OpenShut
namespace Go.Proofs.YtpglfcjkjomcjaaDoor.bitsBoth
open Go.RowKit
set_option linter.unusedVariables false
theorem eq_or {a b : Nat} {x : Int} (ha : a < W64) (hb : b < W64) (h : x = ((a ||| b : Nat) : Int)) : (x == bits .or .u64 (a : Int) (b : Int)) = true := by
  rw [or_nat ha hb, h]; simp
theorem eq_and {a b : Nat} {x : Int} (ha : a < W64) (hb : b < W64) (h : x = ((a &&& b : Nat) : Int)) : (x == bits .and .u64 (a : Int) (b : Int)) = true := by
  rw [and_nat ha hb, h]; simp
set_option maxHeartbeats 1000000 in
theorem walk (a0 : Int) (a1 : Int) (a2 : Int) (w0 : (Lit.int .u64 a0).wf = true) (w1 : (Lit.int .u64 a1).wf = true) (w2 : (Lit.int .i64 a2).wf = true) (w : World) (T0 : TabDb w) (T1 : TabLead w) :
    Calls Tryd.prog 8 #[.int .u64 a0, .int .u64 a1, .int .i64 a2] w fun e w' => e = .returned (.bool true) ∧ Below w.heap.size w w' := by
  obtain ⟨a, rfl⟩ := Int.eq_ofNat_of_zero_le (a := a0) (bounds_u64 w0).1
  have ha : a < W64 := by have := (bounds_u64 w0).2; unfold W64; omega
  obtain ⟨b, rfl⟩ := Int.eq_ofNat_of_zero_le (a := a1) (bounds_u64 w1).1
  have hb : b < W64 := by have := (bounds_u64 w1).2; unfold W64; omega
  have h1 : (((shiftN (a ||| b) a2 : Nat) : Int) == bits .or .u64 ((shiftN a a2 : Nat) : Int) ((shiftN b a2 : Nat) : Int)) = true := eq_or (shiftN_lt a a2) (shiftN_lt b a2) (by rw [shift_or])
  have h2 : (((shiftN (a &&& b) a2 : Nat) : Int) == bits .and .u64 ((shiftN a a2 : Nat) : Int) ((shiftN b a2 : Nat) : Int)) = true := eq_and (shiftN_lt a a2) (shiftN_lt b a2) (by rw [shift_and])
  have h3 : (((flipN (a ||| b) : Nat) : Int) == bits .or .u64 ((flipN a : Nat) : Int) ((flipN b : Nat) : Int)) = true := eq_or (flipN_lt a) (flipN_lt b) (by rw [flip_or])
  have HA := Lib.hid ha
  have HB := Lib.hid hb
  have HT := Lib.hid T0
  have HL := Lib.hid T1
  clear ha hb w0 w1 w2 T0 T1
  go_enter Tryd.func8, Tryd.ntmps8
  go_wp2_with fail
  refine (awake_any _ HT.out HL.out).mono ?_; rintro e w1 ⟨rfl, hb1⟩
  have HL1 := Lib.hid (HL.out.later HL.out.lt hb1)
  have HB1 := Lib.hid hb1
  clear hb1
  go_wp2_with fail
  refine (shift_i (a ||| b) (or_nat HA.out HB.out).symm (or_lt HA.out HB.out) rfl _ HL1.out).mono ?_; rintro e w' ⟨rfl, rfl⟩
  go_wp2_with fail
  refine (shift_any a _ _ HA.out HL1.out).mono ?_; rintro e w' ⟨rfl, rfl⟩
  go_wp2_with fail
  refine (shift_any b _ _ HB.out HL1.out).mono ?_; rintro e w' ⟨rfl, rfl⟩
  go_wp2_with fail
  refine (shift_i (a &&& b) (and_nat HA.out HB.out).symm (and_lt HB.out) rfl _ HL1.out).mono ?_; rintro e w' ⟨rfl, rfl⟩
  go_wp2_with fail
  refine (shift_any a _ _ HA.out HL1.out).mono ?_; rintro e w' ⟨rfl, rfl⟩
  go_wp2_with fail
  refine (shift_any b _ _ HB.out HL1.out).mono ?_; rintro e w' ⟨rfl, rfl⟩
  go_wp2_with fail
  refine (flip_i (a ||| b) (or_nat HA.out HB.out).symm (or_lt HA.out HB.out) rfl _).mono ?_; rintro e w' ⟨rfl, rfl⟩
  go_wp2_with fail
  refine (flip_any a _ HA.out).mono ?_; rintro e w' ⟨rfl, rfl⟩
  go_wp2_with fail
  refine (flip_any b _ HB.out).mono ?_; rintro e w' ⟨rfl, rfl⟩
  go_wp2_with fail
  go_ret
  exact ⟨rfl, HB1.out⟩
end Go.Proofs.YtpglfcjkjomcjaaDoor.bitsBoth
