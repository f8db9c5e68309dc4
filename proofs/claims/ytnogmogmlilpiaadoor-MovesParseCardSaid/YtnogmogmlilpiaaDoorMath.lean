/-
  Plain mathematics of sets of squares: a set is a natural number below 2^64, its squares are its bits. Nothing of the program stands here.
-/
namespace Go.Proofs.YtnogmogmlilpiaaDoor

/-- 2^64, behind a name: no walk shall meet the numeral. -/
def W64 : Nat := 18446744073709551616
theorem W64_eq : W64 = 2 ^ 64 := rfl

theorem testBit_high {b i : Nat} (hb : b < W64) (h : 64 ≤ i) : b.testBit i = false := by
  apply Nat.testBit_lt_two_pow
  exact Nat.lt_of_lt_of_le hb (by rw [W64_eq]; exact Nat.pow_le_pow_right (by decide) h)

theorem lt_W64_of_testBit {b : Nat} (h : ∀ i, 64 ≤ i → b.testBit i = false) : b < W64 := by
  rw [W64_eq]; exact Nat.lt_pow_two_of_testBit b h

theorem eq_of_bits {a b : Nat} (ha : a < W64) (hb : b < W64) (h : ∀ i, i < 64 → a.testBit i = b.testBit i) : a = b := by
  apply Nat.eq_of_testBit_eq
  intro i
  by_cases hi : i < 64
  · exact h i hi
  · rw [testBit_high ha (by omega), testBit_high hb (by omega)]

/-- The number is a square. -/
def sq (s : Int) : Bool := decide (0 ≤ s) && decide (s < 64)
theorem sq_true {s : Int} : sq s = true ↔ 0 ≤ s ∧ s < 64 := by simp [sq]
theorem sq_false {s : Int} : sq s = false ↔ s < 0 ∨ 64 ≤ s := by
  rw [← Bool.not_eq_true, sq_true]; omega

def hasN (b : Nat) (s : Int) : Bool := sq s && b.testBit s.toNat
def onlyN (s : Int) : Nat := if sq s then 2 ^ s.toNat else 0
def putN (b : Nat) (s : Int) : Nat := b ||| onlyN s
def clearN (b : Nat) (s : Int) : Nat := b ^^^ (b &&& onlyN s)

theorem onlyN_lt (s : Int) : onlyN s < W64 := by
  unfold onlyN
  split
  · rename_i h; rw [sq_true] at h; rw [W64_eq]; exact Nat.pow_lt_pow_right (by decide) (by omega)
  · decide
theorem putN_lt {b : Nat} (hb : b < W64) (s : Int) : putN b s < W64 := Nat.or_lt_two_pow (n := 64) hb (onlyN_lt s)
theorem clearN_lt {b : Nat} (hb : b < W64) (s : Int) : clearN b s < W64 := Nat.xor_lt_two_pow (n := 64) hb (Nat.and_lt_two_pow (n := 64) _ (onlyN_lt s))

theorem onlyN_testBit (s : Int) (i : Nat) : (onlyN s).testBit i = (sq s && decide (s = i)) := by
  unfold onlyN
  by_cases h : sq s
  · simp only [h, if_true, Bool.true_and, Nat.testBit_two_pow]
    rw [sq_true] at h
    rw [decide_eq_decide]; omega
  · simp [h]
theorem putN_testBit (b : Nat) (s : Int) (i : Nat) : (putN b s).testBit i = (b.testBit i || (sq s && decide (s = i))) := by
  rw [putN, Nat.testBit_or, onlyN_testBit]
theorem clearN_testBit (b : Nat) (s : Int) (i : Nat) : (clearN b s).testBit i = (b.testBit i && !(sq s && decide (s = i))) := by
  rw [clearN, Nat.testBit_xor, Nat.testBit_and, onlyN_testBit]
  cases b.testBit i <;> cases sq s <;> cases decide (s = i) <;> rfl

theorem hasN_nat (b i : Nat) (hi : i < 64) : hasN b (i : Int) = b.testBit i := by
  have : sq (i : Int) = true := by rw [sq_true]; omega
  simp [hasN, this]
theorem hasN_no {b : Nat} {s : Int} (h : sq s = false) : hasN b s = false := by simp [hasN, h]

theorem add_eq_or {a b : Nat} (h : a &&& b = 0) : a + b = a ||| b := by
  have ha : a < 2 ^ (a + b) := Nat.lt_of_lt_of_le Nat.lt_two_pow_self (Nat.pow_le_pow_right (by decide) (by omega))
  have hb : b < 2 ^ (a + b) := Nat.lt_of_lt_of_le Nat.lt_two_pow_self (Nat.pow_le_pow_right (by decide) (by omega))
  have hp : 2 ^ (a + b + 1) = 2 ^ (a + b) + 2 ^ (a + b) := by rw [Nat.pow_succ]; omega
  have e := BitVec.add_eq_or_of_and_eq_zero (BitVec.ofNat (a + b + 1) a) (BitVec.ofNat (a + b + 1) b) (by
    apply BitVec.eq_of_toNat_eq
    rw [BitVec.toNat_and, BitVec.toNat_ofNat, BitVec.toNat_ofNat, Nat.mod_eq_of_lt (by omega), Nat.mod_eq_of_lt (by omega), h]
    simp)
  have e2 := congrArg BitVec.toNat e
  rw [BitVec.toNat_add, BitVec.toNat_or, BitVec.toNat_ofNat, BitVec.toNat_ofNat, Nat.mod_eq_of_lt (a := a) (by omega), Nat.mod_eq_of_lt (a := b) (by omega), Nat.mod_eq_of_lt (by omega)] at e2
  exact e2

/-- A square that is not in the set is put into it by a sum; one that is, is taken out by a difference. -/
theorem put_add {b : Nat} {s : Int} (h : hasN b s = false) : b + onlyN s = putN b s := by
  by_cases hs : sq s
  · have hb : b.testBit s.toNat = false := by simpa [hasN, hs] using h
    have e : b &&& onlyN s = 0 := by
      apply Nat.eq_of_testBit_eq
      intro i
      rw [Nat.testBit_and, onlyN_testBit, Nat.zero_testBit]
      by_cases hi : s = i
      · subst hi; simp at hb; simp [hb]
      · simp [hi]
    rw [putN]
    exact add_eq_or e
  · simp [putN, onlyN, hs]
theorem put_has {b : Nat} {s : Int} (h : hasN b s = true) : putN b s = b := by
  apply Nat.eq_of_testBit_eq
  intro i
  rw [putN_testBit]
  simp only [hasN, Bool.and_eq_true] at h
  by_cases hi : s = i
  · subst hi; simp at h; simp [h.2]
  · simp [hi]
theorem clear_no {b : Nat} {s : Int} (h : hasN b s = false) : clearN b s = b := by
  apply Nat.eq_of_testBit_eq
  intro i
  rw [clearN_testBit]
  by_cases hi : s = i
  · subst hi
    by_cases hs : sq (i : Int)
    · have hb : b.testBit i = false := by simpa [hasN, hs] using h
      simp [hb]
    · simp [hs]
  · simp [hi]
theorem clear_hasN (b : Nat) (s : Int) : hasN (clearN b s) s = false := by
  by_cases hs : sq s
  · have := hs; rw [sq_true] at this
    simp only [hasN, clearN_testBit, hs, Bool.true_and]
    have e : s = (s.toNat : Int) := by omega
    rw [decide_eq_true e]; simp
  · simp [hasN, hs]
theorem put_clear {b : Nat} {s : Int} (h : hasN b s = true) : putN (clearN b s) s = b := by
  apply Nat.eq_of_testBit_eq
  intro i
  rw [putN_testBit, clearN_testBit]
  simp only [hasN, Bool.and_eq_true] at h
  by_cases hi : s = i
  · subst hi; simp at h; simp [h.1, h.2]
  · simp [hi]
theorem clear_sub {b : Nat} {s : Int} (h : hasN b s = true) : b - onlyN s = clearN b s := by
  have e := put_add (clear_hasN b s)
  rw [put_clear h] at e
  omega

end Go.Proofs.YtnogmogmlilpiaaDoor
