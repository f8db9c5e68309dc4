/-
 Plain mathematics of layer 3, second part: the chapter's own way to reckon (square by square), and what follows. Nothing of the program stands here.
-/
import Derived.Test.YtigkbccpkepdmaaGreatDoorVaBaseC
import Derived.Test.YtigkbccpkepdmaaGreatDoorVaBaseA
namespace Go.Proofs.YtigkbccpkepdmaaGreatDoor

/-- The squares below k of which that holds. -/
def setTo (p : Nat → Bool) : Nat → Nat
 | 0 => 0
 | k + 1 => bif p k then putN (setTo p k) (k : Int) else setTo p k
theorem setTo_lt (p : Nat → Bool) : ∀ k, setTo p k < W64
 | 0 => by show (0 : Nat) < W64; decide
 | k + 1 => by
  show (bif p k then putN (setTo p k) (k : Int) else setTo p k) < W64
  cases p k
  ·exact setTo_lt p k
  ·exact putN_lt (setTo_lt p k) _
theorem setTo_yes {p : Nat → Bool} {k : Nat} (h : p k = true) : setTo p (k + 1) = putN (setTo p k) (k : Int) := by simp [setTo, h]
theorem setTo_no {p : Nat → Bool} {k : Nat} (h : p k = false) : setTo p (k + 1) = setTo p k := by simp [setTo, h]
/-! Between, square by square. -/
/-! P3.4. -/
def turnB (a b : Nat) : Bool :=
 (kingT a).testBit b == (kingT b).testBit a && (knightT a).testBit b == (knightT b).testBit a && (pawnT 0 a).testBit b == (pawnT 1 b).testBit a && betweenT a b == betweenT b a && lineT a b == lineT b a
theorem turnB_all : ∀ a, a < 64 → ∀ b, b < 64 → turnB a b = true := by decide +kernel
theorem has_zero (s : Int) : hasN 0 s = false := by simp [hasN]
theorem turned_all (a b : Int) : hasN (kingN a) b = hasN (kingN b) a ∧ hasN (knightN a) b = hasN (knightN b) a ∧ hasN (pawnN 0 a) b = hasN (pawnN 1 b) a ∧ betweenN a b = betweenN b a ∧ lineN a b = lineN b a := by
 by_cases ha : sq a = true
 ·by_cases hb : sq b = true
  ·obtain ⟨m, hm, rfl⟩ := nat_of_sq ha
   obtain ⟨n, hn, rfl⟩ := nat_of_sq hb
   have := turnB_all m hm n hn
   simp only [turnB, Bool.and_eq_true, beq_iff_eq] at this
   have p0 : pawnN 0 (m : Int) = pawnT 0 m := pawnN_nat (c := 0) hm (by decide)
   have p1 : pawnN 1 (n : Int) = pawnT 1 n := pawnN_nat (c := 1) hn (by decide)
   rw [kingN_nat hm, kingN_nat hn, knightN_nat hm, knightN_nat hn, p0, p1, betweenN_nat hm hn, betweenN_nat hn hm, lineN_nat hm hn, lineN_nat hn hm]
   simp only [hasN_nat _ _ hm, hasN_nat _ _ hn]
   exact ⟨this.1.1.1.1, this.1.1.1.2, this.1.1.2, this.1.2, this.2⟩
  ·have hb' : sq b = false := by simpa using hb
   simp [hasN_no hb', kingN_no hb', knightN_no hb', pawnN_no hb', has_zero, betweenN, lineN, hb']
 ·have ha' : sq a = false := by simpa using ha
  simp [hasN_no ha', kingN_no ha', knightN_no ha', pawnN_no ha', has_zero, betweenN, lineN, ha']

/-! P3.5. -/
/-! The eight rays. -/
def allN (s : Int) : Nat → Nat
 | 0 => 0
 | k + 1 => allN s k ||| rayN s (k : Int)
def fstN (s : Int) : Nat → Nat
 | 0 => 0
 | k + 1 => fstN s k ||| shiftN (putN 0 s) (k : Int)
theorem put_zero (s : Int) : putN 0 s = onlyN s := by simp [putN]
def partB (s : Nat) : Bool :=
 ((List.range 8).all fun k => (allN (s : Int) k &&& rayN (s : Int) (k : Int)) == 0 && rayN (s : Int) (k : Int) == (shiftN (rayN (s : Int) (k : Int)) (k : Int) ||| shiftN (putN 0 (s : Int)) (k : Int))) &&
 fstN (s : Int) 8 == kingT s && (allN (s : Int) 8 &&& knightT s) == 0 && (List.range 64).all fun o => (allN (s : Int) 8).testBit o == (lineT s o != 0)
theorem partB_all : ∀ s, s < 64 → partB s = true := by decide +kernel
theorem all_no {s : Int} (h : sq s = false) : ∀ k, allN s k = 0
 | 0 => rfl
 | k + 1 => by rw [allN, all_no h k, rayN_no (by simp [h])]; rfl
theorem fst_no {s : Int} (h : sq s = false) : ∀ k, fstN s k = 0
 | 0 => rfl
 | k + 1 => by rw [fstN, fst_no h k, put_zero, only_no h, shift_zero]; rfl
theorem part_end (s o : Int) : fstN s 8 = kingN s ∧ allN s 8 &&& knightN s = 0 ∧ hasN (allN s 8) o = decide (lineN s o ≠ 0) := by
 by_cases h : sq s = true
 ·obtain ⟨n, hn, rfl⟩ := nat_of_sq h
  have := partB_all n hn
  simp only [partB, Bool.and_eq_true, beq_iff_eq] at this
  refine ⟨by rw [this.1.1.2, kingN_nat hn], by rw [knightN_nat hn]; exact this.1.2, ?_⟩
  by_cases ho : sq o = true
  ·obtain ⟨m, hm, rfl⟩ := nat_of_sq ho
   have := List.all_eq_true.1 this.2 m (List.mem_range.2 hm)
   simp only [beq_iff_eq] at this
   rw [hasN_nat _ _ hm, this, lineN_nat hn hm, Bool.eq_iff_iff]; simp
  ·have ho' : sq o = false := by simpa using ho
   rw [hasN_no ho', lineN_no (by simp [ho'])]; simp
 ·have h' : sq s = false := by simpa using h
  rw [fst_no h', kingN_no h', all_no h', has_zero, lineN_no (by simp [h'])]; simp

/-! P3.6. -/
/-! How many, and how far. -/
end Go.Proofs.YtigkbccpkepdmaaGreatDoor
