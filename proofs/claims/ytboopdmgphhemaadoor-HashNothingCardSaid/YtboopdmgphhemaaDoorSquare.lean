/-
  Contracts of the program's Has, Put, Clear, only, and of the document's own Has, One, Put, Clear: each answers the plain function of XMath.
-/
import Derived.Test.YtboopdmgphhemaaDoorChecked
import Derived.Test.YtboopdmgphhemaaDoorMath
import Derived.WalkKit
import Derived.Lib.Hide
import Derived.Deep.QuietTactic
import Derived.BigQuiet
namespace Go.Proofs.YtboopdmgphhemaaDoor
open Go.RowKit

theorem ret_int {k : IntKind} {a b : Int} (h : a = b) : Ending.returned (.int k a) = .returned (.int k b) := by rw [h]
theorem ret_bool {a b : Bool} (h : a = b) : Ending.returned (.bool a) = .returned (.bool b) := by rw [h]

theorem wrap_nat (n : Nat) (h : n < W64) : IntKind.u64.wrap (n : Int) = (n : Int) := by
  rw [IntKind.wrap_u64]; unfold W64 at h; omega
theorem wrap_pow (n : Nat) (h : n < 64) : IntKind.u64.wrap (2 ^ n) = ((2 ^ n : Nat) : Int) := by
  have e : ((2 : Int) ^ n) = ((2 ^ n : Nat) : Int) := by simp
  rw [e]; exact wrap_nat _ (Nat.pow_lt_pow_right (by decide) h)
theorem and_nat {a b : Nat} (ha : a < W64) (hb : b < W64) : bits .and .u64 (a : Int) (b : Int) = ((a &&& b : Nat) : Int) := bits_and_u64_nat a b ha hb
theorem or_nat {a b : Nat} (ha : a < W64) (hb : b < W64) : bits .or .u64 (a : Int) (b : Int) = ((a ||| b : Nat) : Int) := bits_or_u64_nat a b ha hb
theorem andNot_nat {a b : Nat} (ha : a < W64) (hb : b < W64) : bits .andNot .u64 (a : Int) (b : Int) = ((a ^^^ (a &&& b) : Nat) : Int) := by
  have h1 : (BitVec.ofInt 64 (a : Int)).toNat = a := by
    rw [BitVec.ofInt_natCast, BitVec.toNat_ofNat]; exact Nat.mod_eq_of_lt (by unfold W64 at ha; omega)
  have h2 : (BitVec.ofInt 64 (b : Int)).toNat = b := by
    rw [BitVec.ofInt_natCast, BitVec.toNat_ofNat]; exact Nat.mod_eq_of_lt (by unfold W64 at hb; omega)
  have e : (BitVec.ofInt 64 (a : Int) &&& ~~~BitVec.ofInt 64 (b : Int)) = BitVec.ofInt 64 (a : Int) ^^^ (BitVec.ofInt 64 (a : Int) &&& BitVec.ofInt 64 (b : Int)) := by
    apply BitVec.eq_of_getLsbD_eq
    intro i hi
    simp only [BitVec.getLsbD_and, BitVec.getLsbD_not, BitVec.getLsbD_xor, hi, decide_true, Bool.true_and]
    cases (BitVec.ofInt 64 (a : Int)).getLsbD i <;> cases (BitVec.ofInt 64 (b : Int)).getLsbD i <;> rfl
  show IntKind.u64.wrap ((BitVec.ofInt 64 (a : Int) &&& ~~~BitVec.ofInt 64 (b : Int)).toNat : Int) = _
  rw [e, BitVec.toNat_xor, BitVec.toNat_and, h1, h2]
  exact wrap_nat _ (Nat.xor_lt_two_pow (n := 64) ha (Nat.and_lt_two_pow (n := 64) _ hb))

theorem onlyN_no {s : Int} (h : s < 0 ∨ 64 ≤ s) : onlyN s = 0 := by simp [onlyN, sq_false.2 h]
theorem onlyN_yes {s : Int} (h : 0 ≤ s ∧ s < 64) : onlyN s = 2 ^ s.toNat := by simp [onlyN, sq_true.2 h]

theorem hasB (b : Nat) (s : Int) (hb : b < W64) : ((bits .and .u64 (b : Int) (onlyN s : Nat)) != 0) = hasN b s := by
  rw [and_nat hb (onlyN_lt s)]
  rw [Bool.eq_iff_iff]
  simp only [bne_iff_ne, ne_eq]
  constructor
  · intro h
    by_cases hh : hasN b s = true
    · exact hh
    · exfalso; apply h
      have e := clear_no (b := b) (s := s) (by simpa using hh)
      have : b &&& onlyN s = 0 := by
        apply Nat.eq_of_testBit_eq
        intro i
        have e2 := congrArg (fun n => n.testBit i) e
        simp only [clearN, Nat.testBit_xor] at e2
        rw [Nat.zero_testBit]
        cases h1 : b.testBit i <;> cases h2 : (b &&& onlyN s).testBit i <;> simp_all
      rw [this]; rfl
  · intro h e
    have e' : b &&& onlyN s = 0 := by exact_mod_cast e
    have e2 := congrArg (fun n => n.testBit s.toNat) e'
    simp only [hasN, Bool.and_eq_true] at h
    have h1 := h.1; rw [sq_true] at h1
    simp only [Nat.testBit_and, onlyN_testBit, h.1, h.2, Nat.zero_testBit, Bool.true_and] at e2
    have : s = (s.toNat : Int) := by omega
    rw [decide_eq_true this] at e2
    cases e2

end Go.Proofs.YtboopdmgphhemaaDoor
