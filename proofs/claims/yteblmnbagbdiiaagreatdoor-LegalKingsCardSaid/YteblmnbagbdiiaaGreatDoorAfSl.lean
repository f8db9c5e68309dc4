/-
 Several texts in one: RayLaw, SlMath, SlLaw.
-/
import Derived.Test.YteblmnbagbdiiaaGreatDoorVaBaseC
import Derived.Test.YteblmnbagbdiiaaGreatDoorVaBaseA
/-
 Plain mathematics of layer 3, second part: the chapter's own way to reckon (square by square), and what follows. Nothing of the program stands here.
-/
namespace Go.Proofs.YteblmnbagbdiiaaGreatDoor

def setTo (p : Nat → Bool) : Nat → Nat
 | 0 => 0
 | k + 1 => bif p k then putN (setTo p k) (k : Int) else setTo p k
theorem setTo_lt (p : Nat → Bool) : ∀ k, setTo p k < W64
 | 0 => by show (0 : Nat) < W64; decide
 | k + 1 => by
  show (bif p k then putN (setTo p k) (k : Int) else setTo p k) < W64
  cases p k
  ·exact setTo_lt p k
  ·exact putN_lt (setTo_lt p k) _
theorem setTo_yes {p : Nat → Bool} {k : Nat} (h : p k = true) : setTo p (k + 1) = putN (setTo p k) (k : Int) := by simp [setTo, h]
theorem setTo_no {p : Nat → Bool} {k : Nat} (h : p k = false) : setTo p (k + 1) = setTo p k := by simp [setTo, h]
/-! Between, square by square. -/
/-! P3.4. -/
/-! P3.5. -/
/-! The eight rays. -/
/-! P3.6. -/
/-! How many, and how far. -/
end Go.Proofs.YteblmnbagbdiiaaGreatDoor
/-
 Plain mathematics of layer 4: what is seen along a ray, by what lies between; step by step; where a ray ends; what rooks, bishops, queens see. Nothing of the program stands here.
-/
namespace Go.Proofs.YteblmnbagbdiiaaGreatDoor

theorem setTo_testBit (p : Nat → Bool) : ∀ k i, k ≤ 64 → (setTo p k).testBit i = (decide (i < k) && p i)
 | 0, i, _ => by simp [setTo]
 | k + 1, i, h => by
  have ih := setTo_testBit p k i (by omega)
  by_cases e : i = k
  ·subst e
   cases hp : p i
   ·rw [setTo_no hp, ih, hp]; simp
   ·rw [setTo_yes hp, putN_testBit, sq_nat (by omega)]; simp
  ·have e1 : decide (i < k + 1) = decide (i < k) := by rw [decide_eq_decide]; omega
   rw [e1, ← ih]
   cases hp : p k
   ·rw [setTo_no hp]
   ·have e2 : decide ((k : Int) = (i : Int)) = false := by rw [decide_eq_false_iff_not]; omega
    rw [setTo_yes hp, putN_testBit, e2]; simp

def freeB (occ : Nat) (a b : Int) : Bool := (betweenN a b &&& occ) == 0
def seenN (s d : Int) (occ : Nat) : Nat := setTo (fun i => (rayN s d).testBit i && freeB occ s (i : Int)) 64
theorem seenN_lt (s d : Int) (occ : Nat) : seenN s d occ < W64 := setTo_lt _ _
theorem seenN_testBit (s d : Int) (occ i : Nat) : (seenN s d occ).testBit i = ((rayN s d).testBit i && freeB occ s (i : Int)) := by
 unfold seenN
 rw [setTo_testBit _ _ _ (Nat.le_refl _)]
 by_cases h : i < 64
 ·simp [h]
 ·rw [testBit_high (rayN_lt s d) (by omega)]; simp
theorem free_iff {occ : Nat} {a b : Int} : freeB occ a b = true ↔ ∀ t, (betweenN a b).testBit t = true → occ.testBit t = false := by
 unfold freeB
 rw [beq_iff_eq]
 constructor
 ·intro h t ht
  have := congrArg (Nat.testBit · t) h
  simp only [Nat.testBit_and, ht, Bool.true_and, Nat.zero_testBit] at this
  exact this
 ·intro h
  apply Nat.eq_of_testBit_eq
  intro t
  rw [Nat.testBit_and, Nat.zero_testBit]
  cases e : (betweenN a b).testBit t
  ·rfl
  ·rw [h t e]; rfl
/-! Step by step. -/
theorem least (p : Nat → Bool) (n : Nat) (h : p n = true) : ∃ k, k ≤ n ∧ p k = true ∧ ∀ j, j < k → p j = false := by
 induction n using Nat.strongRecOn with
 | ind n ih =>
  by_cases g : ∃ j, j < n ∧ p j = true
  ·obtain ⟨j, hj, pj⟩ := g
   obtain ⟨k, h1, h2, h3⟩ := ih j hj pj
   exact ⟨k, by omega, h2, h3⟩
  ·refine ⟨n, Nat.le_refl _, h, fun j hj => ?_⟩
   cases e : p j
   ·rfl
   ·exact absurd ⟨j, hj, e⟩ g
/-! Where a ray ends. -/
def lastN (b : Nat) : Int := if b = 0 then -1 else (b.log2 : Int)
def upB (d : Int) : Bool := d == 7 || d == 0 || d == 1 || d == 2
def endN (d : Int) (b : Nat) : Int := if upB d then firstN b else lastN b
def beforeB (d : Int) (t i : Nat) : Bool := if upB d then decide (t < i) else decide (i < t)
def orderB (s d : Nat) : Bool :=
 (listN (rayT s d)).all fun i => ((betweenT s i ^^^ (betweenT s i &&& rayT s d)) == 0) && (listN (rayT s d)).all fun t => ((betweenT s i).testBit t == beforeB (d : Int) t i) && ((rayT t d).testBit i == beforeB (d : Int) t i)
theorem orderB_all : ∀ s, s < 64 → ∀ d, d < 8 → orderB s d = true := by decide +kernel
theorem andNot_testBit (a b i : Nat) : (a ^^^ (a &&& b)).testBit i = (a.testBit i && !b.testBit i) := by
 rw [Nat.testBit_xor, Nat.testBit_and]; cases a.testBit i <;> cases b.testBit i <;> rfl
theorem andNot_zero {a b : Nat} : a ^^^ (a &&& b) = 0 ↔ ∀ i, a.testBit i = true → b.testBit i = true := by
 constructor
 ·intro h i hi
  have := congrArg (Nat.testBit · i) h
  simp only [andNot_testBit, hi, Bool.true_and, Nat.zero_testBit, Bool.not_eq_false'] at this
  exact this
 ·intro h
  apply Nat.eq_of_testBit_eq
  intro i
  rw [andNot_testBit, Nat.zero_testBit]
  cases e : a.testBit i
  ·rfl
  ·rw [h i e]; rfl
theorem order_of {s d i : Nat} (hs : s < 64) (hd : d < 8) (hi : (rayT s d).testBit i = true) :
  (∀ t, (betweenT s i).testBit t = true → (rayT s d).testBit t = true) ∧ ∀ t, (rayT s d).testBit t = true → (betweenT s i).testBit t = beforeB (d : Int) t i ∧ (rayT t d).testBit i = beforeB (d : Int) t i := by
 have low : ∀ t, (rayT s d).testBit t = true → t ∈ listN (rayT s d) := by
  intro t ht
  rw [mem_listN]
  refine ⟨?_, ht⟩
  by_cases g : t < 64
  ·exact g
  ·rw [testBit_high (b := rayT s d) (entry_lt _ _) (by omega)] at ht; cases ht
 have := List.all_eq_true.1 (orderB_all s hs d hd) i (low i hi)
 rw [Bool.and_eq_true, beq_iff_eq, andNot_zero] at this
 refine ⟨this.1, fun t ht => ?_⟩
 have := List.all_eq_true.1 this.2 t (low t ht)
 rw [Bool.and_eq_true, beq_iff_eq, beq_iff_eq] at this
 exact this
theorem first_spec {b : Nat} (h0 : b ≠ 0) (hb : b < W64) : ∃ e : Nat, e < 64 ∧ firstN b = (e : Int) ∧ b.testBit e = true ∧ ∀ t, b.testBit t = true → e ≤ t := by
 have hl := listN_rest b hb h0
 have hm : Lib.ctz 64 b ∈ listN b := by rw [hl]; simp
 rw [mem_listN] at hm
 refine ⟨Lib.ctz 64 b, hm.1, firstN_ctz b hb h0, hm.2, fun t ht => ?_⟩
 have ht' : t ∈ listN b := by
  rw [mem_listN]
  refine ⟨?_, ht⟩
  by_cases g : t < 64
  ·exact g
  ·rw [testBit_high hb (by omega)] at ht; cases ht
 have hs := listN_sorted b
 rw [hl, List.pairwise_cons] at hs
 rw [hl, List.mem_cons] at ht'
 rcases ht' with e | e
 ·omega
 ·exact Nat.le_of_lt (hs.1 t e)
theorem last_spec {b : Nat} (h0 : b ≠ 0) (hb : b < W64) : ∃ e : Nat, e < 64 ∧ lastN b = (e : Int) ∧ b.testBit e = true ∧ ∀ t, b.testBit t = true → t ≤ e := by
 have h1 : b < 2 ^ (b.log2 + 1) := Nat.lt_log2_self
 have h2 : 2 ^ b.log2 ≤ b := Nat.log2_self_le h0
 have h3 : b.testBit b.log2 = true := by
  rw [Nat.testBit_eq_decide_div_mod_eq, decide_eq_true_eq]
  have e1 : b / 2 ^ b.log2 < 2 := by rw [Nat.div_lt_iff_lt_mul (Nat.two_pow_pos _)]; rw [Nat.pow_succ] at h1; omega
  have e2 : 0 < b / 2 ^ b.log2 := Nat.div_pos h2 (Nat.two_pow_pos _)
  omega
 have h4 : b.log2 < 64 := by
  by_cases g : b.log2 < 64
  ·exact g
  ·rw [testBit_high hb (by omega)] at h3; cases h3
 refine ⟨b.log2, h4, by simp [lastN, h0], h3, fun t ht => ?_⟩
 by_cases g : t ≤ b.log2
 ·exact g
 ·rw [Nat.testBit_lt_two_pow (Nat.lt_of_lt_of_le h1 (Nat.pow_le_pow_right (by decide) (by omega)))] at ht; cases ht
theorem end_spec (d : Int) {b : Nat} (h0 : b ≠ 0) (hb : b < W64) : ∃ e : Nat, e < 64 ∧ endN d b = (e : Int) ∧ b.testBit e = true ∧ ∀ t, b.testBit t = true → beforeB d t e = false := by
 unfold endN beforeB
 cases upB d
 ·obtain ⟨e, h1, h2, h3, h4⟩ := last_spec h0 hb
  exact ⟨e, h1, h2, h3, fun t ht => by have := h4 t ht; simp; omega⟩
 ·obtain ⟨e, h1, h2, h3, h4⟩ := first_spec h0 hb
  exact ⟨e, h1, h2, h3, fun t ht => by have := h4 t ht; simp; omega⟩
theorem end_zero (d : Int) : endN d 0 = -1 := by
 unfold endN; cases upB d
 ·simp [lastN]
 ·simpa using firstN_zero
theorem before_trans {d : Int} {e t i : Nat} (h1 : beforeB d e i = false) (h2 : beforeB d t e = false) : beforeB d t i = false := by
 unfold beforeB at *
 revert h1 h2
 cases upB d
 ·simp only [Bool.false_eq_true, if_false, decide_eq_false_iff_not]; omega
 ·simp only [if_true, decide_eq_false_iff_not]; omega
theorem dir_end (s d : Int) (occ : Nat) : rayN s d ^^^ (rayN s d &&& rayN (endN d (rayN s d &&& occ)) d) = seenN s d occ := by
 apply Nat.eq_of_testBit_eq
 intro i
 rw [andNot_testBit, seenN_testBit]
 cases hr : (rayN s d).testBit i
 ·rfl
 ·rw [Bool.true_and, Bool.true_and]
  have hsd : (sq s && dirB d) = true := by
   cases e : sq s && dirB d
   ·rw [rayN_no e, Nat.zero_testBit] at hr; cases hr
   ·rfl
  rw [Bool.and_eq_true] at hsd
  obtain ⟨n, hn, rfl⟩ := nat_of_sq hsd.1
  obtain ⟨m, hm, rfl⟩ := nat_of_dir hsd.2
  have hi : i < 64 := by
   by_cases g : i < 64
   ·exact g
   ·rw [testBit_high (rayN_lt _ _) (by omega)] at hr; cases hr
  rw [rayN_nat hn hm] at hr
  obtain ⟨o1, o2⟩ := order_of hn hm hr
  rw [rayN_nat hn hm]
  have hmet : ∀ t, (rayT n m &&& occ).testBit t = ((rayT n m).testBit t && occ.testBit t) := fun t => Nat.testBit_and _ _ _
  have hlt : rayT n m &&& occ < W64 := by rw [Nat.and_comm]; exact and_lt (entry_lt _ _)
  by_cases h0 : rayT n m &&& occ = 0
  ·rw [h0, end_zero, rayN_no (by rfl), Nat.zero_testBit, Bool.not_false, eq_comm, free_iff, betweenN_nat hn hi]
   intro t ht
   have h1 := hmet t
   rw [h0, Nat.zero_testBit, o1 t ht, Bool.true_and] at h1
   exact h1.symm
  ·obtain ⟨e, he, e1, e2, e3⟩ := end_spec (m : Int) h0 hlt
   rw [hmet, Bool.and_eq_true] at e2
   rw [e1, rayN_nat he hm, (o2 e e2.1).2, Bool.eq_iff_iff, free_iff, betweenN_nat hn hi, Bool.not_eq_true']
   constructor
   ·intro hb t ht
    cases ho : occ.testBit t
    ·rfl
    ·have ht2 := o1 t ht
     have := before_trans hb (e3 t (by rw [hmet, ht2, ho]; rfl))
     rw [← (o2 t ht2).1, ht] at this
     exact this
   ·intro hf
    rw [← (o2 e e2.1).1]
    cases hb : (betweenT n i).testBit e
    ·rfl
    ·have := hf e hb
     rw [e2.2] at this; cases this

/-! Several directions. -/
def seenAll (s : Int) (occ : Nat) (l : List Int) : Nat := l.foldl (fun a d => a ||| seenN s d occ) 0
theorem foldl_seen_lt (s : Int) (occ : Nat) : ∀ (l : List Int) (a : Nat), a < W64 → l.foldl (fun a d => a ||| seenN s d occ) a < W64
 | [], _, h => h
 | d :: l, _, h => foldl_seen_lt s occ l _ (or_lt h (seenN_lt s d occ))
theorem seenAll_lt (s : Int) (occ : Nat) (l : List Int) : seenAll s occ l < W64 := foldl_seen_lt s occ l 0 (by decide)
theorem seenAll_take (s : Int) (occ : Nat) (l : List Int) (k : Nat) (d : Int) (h : l[k]? = some d) : seenAll s occ (l.take k) ||| seenN s d occ = seenAll s occ (l.take (k + 1)) := by
 rw [List.take_add_one, h]; simp [seenAll, List.foldl_append]
def rookDs : List Int := [0, 2, 4, 6]
def bishDs : List Int := [1, 3, 5, 7]
def queenDs : List Int := [0, 1, 2, 3, 4, 5, 6, 7]
def rookN (s : Int) (occ : Nat) : Nat := seenAll s occ rookDs
def bishN (s : Int) (occ : Nat) : Nat := seenAll s occ bishDs
def queenN (s : Int) (occ : Nat) : Nat := seenAll s occ queenDs
theorem rookN_lt (s : Int) (occ : Nat) : rookN s occ < W64 := seenAll_lt _ _ _
theorem bishN_lt (s : Int) (occ : Nat) : bishN s occ < W64 := seenAll_lt _ _ _
theorem queenN_lt (s : Int) (occ : Nat) : queenN s occ < W64 := seenAll_lt _ _ _
end Go.Proofs.YteblmnbagbdiiaaGreatDoor
/-
 Plain mathematics of layer 4, second part: what follows for rooks, bishops, queens. Nothing of the program stands here.
-/
namespace Go.Proofs.YteblmnbagbdiiaaGreatDoor

/-! P4.3. -/
/-! P4.4. -/
/-! P4.2. -/
/-! P4.5. -/
/-! The end of what is seen. -/
end Go.Proofs.YteblmnbagbdiiaaGreatDoor
