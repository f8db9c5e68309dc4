/-
  Plain mathematics of layer 3, second part: the chapter's own way to reckon (square by square), and what follows. Nothing of the program stands here.
-/
import Derived.Test.YtigkbccpkepdmaaGreatDoorVaBaseC
import Derived.Test.YtigkbccpkepdmaaGreatDoorVaBaseA
namespace Go.Proofs.YtigkbccpkepdmaaGreatDoor

theorem sq_eq (s : Int) : sqB s = sq s := rfl
/-- The squares below k of which that holds. -/
def setTo (p : Nat → Bool) : Nat → Nat
  | 0 => 0
  | k + 1 => bif p k then putN (setTo p k) (k : Int) else setTo p k
theorem setTo_lt (p : Nat → Bool) : ∀ k, setTo p k < W64
  | 0 => by show (0 : Nat) < W64; decide
  | k + 1 => by
    show (bif p k then putN (setTo p k) (k : Int) else setTo p k) < W64
    cases p k
    · exact setTo_lt p k
    · exact putN_lt (setTo_lt p k) _
theorem setTo_yes {p : Nat → Bool} {k : Nat} (h : p k = true) : setTo p (k + 1) = putN (setTo p k) (k : Int) := by simp [setTo, h]
theorem setTo_no {p : Nat → Bool} {k : Nat} (h : p k = false) : setTo p (k + 1) = setTo p k := by simp [setTo, h]
theorem setTo_none {p : Nat → Bool} : ∀ k, (∀ j, j < k → p j = false) → setTo p k = 0
  | 0, _ => rfl
  | k + 1, h => by rw [setTo_no (h k (by omega)), setTo_none k (fun j hj => h j (by omega))]

def kingP (s : Int) (t : Nat) : Bool := distZ s (t : Int) == 1
def knightP (s : Int) (t : Nat) : Bool :=
  (gapZ (fileZ s) (fileZ (t : Int)) == 2 && gapZ (rankZ s) (rankZ (t : Int)) == 1) || (gapZ (fileZ s) (fileZ (t : Int)) == 1 && gapZ (rankZ s) (rankZ (t : Int)) == 2)
def pawnP (up s : Int) (t : Nat) : Bool := gapZ (fileZ s) (fileZ (t : Int)) == 1 && rankZ (t : Int) == rankZ s + up
def refB (n : Nat) : Bool :=
  setTo (kingP (n : Int)) 64 == kingT n && setTo (knightP (n : Int)) 64 == knightT n && setTo (pawnP 1 (n : Int)) 64 == pawnT 0 n && setTo (pawnP (-1) (n : Int)) 64 == pawnT 1 n
theorem refB_all : ∀ n, n < 64 → refB n = true := by decide +kernel
theorem king_ref (s : Int) : setTo (kingP s) 64 = kingN s := by
  by_cases h : sq s = true
  · obtain ⟨n, hn, rfl⟩ := nat_of_sq h
    have := refB_all n hn
    simp only [refB, Bool.and_eq_true, beq_iff_eq] at this
    rw [this.1.1.1, kingN_nat hn]
  · have h' : sq s = false := by simpa using h
    rw [kingN_no h']
    apply setTo_none
    intro j _
    rw [kingP, distZ_no (by rw [sq_eq, h']; rfl)]; rfl
theorem knight_ref {s : Int} (h : sq s = true) : setTo (knightP s) 64 = knightN s := by
  obtain ⟨n, hn, rfl⟩ := nat_of_sq h
  have := refB_all n hn
  simp only [refB, Bool.and_eq_true, beq_iff_eq] at this
  rw [this.1.1.2, knightN_nat hn]
theorem pawn_ref0 {s : Int} (h : sq s = true) : setTo (pawnP 1 s) 64 = pawnN 0 s := by
  obtain ⟨n, hn, rfl⟩ := nat_of_sq h
  have := refB_all n hn
  simp only [refB, Bool.and_eq_true, beq_iff_eq] at this
  rw [this.1.2]; exact (pawnN_nat (c := 0) hn (by decide)).symm
theorem pawn_ref1 {s : Int} (h : sq s = true) : setTo (pawnP (-1) s) 64 = pawnN 1 s := by
  obtain ⟨n, hn, rfl⟩ := nat_of_sq h
  have := refB_all n hn
  simp only [refB, Bool.and_eq_true, beq_iff_eq] at this
  rw [this.2]; exact (pawnN_nat (c := 1) hn (by decide)).symm

/-! Between, square by square. -/
def betwB (a d i : Nat) : Bool := !sq (goN (a : Int) (d : Int) (i + 1)) || betweenT a (goN (a : Int) (d : Int) (i + 1)).toNat == passN (a : Int) (d : Int) i
theorem betwB_all : ∀ a, a < 64 → ∀ d, d < 8 → ∀ i, i < 7 → betwB a d i = true := by decide +kernel
theorem go_in {s d : Int} {k : Nat} (h : sq (goN s d (k + 1)) = true) : sq s = true ∧ dirB d = true := by
  cases e : sq s && dirB d
  · have := (pass_off (s := s) (d := d) (k := 0) (by rw [go_out e]; rfl) k).2
    rw [show 0 + k + 1 = k + 1 by omega, h] at this; cases this
  · simpa using e
theorem between_walk {a d : Int} {i : Nat} (h : sq (goN a d (i + 1)) = true) : betweenN a (goN a d (i + 1)) = passN a d i := by
  have hi := go_lt h
  obtain ⟨ha, hd⟩ := go_in h
  obtain ⟨m, hm, rfl⟩ := nat_of_sq ha
  obtain ⟨n, hn, rfl⟩ := nat_of_dir hd
  have := betwB_all m hm n hn i hi
  simp only [betwB, h, Bool.not_true, Bool.false_or, beq_iff_eq] at this
  rw [← this, betweenN, h, ha]
  simp
def lineB (a b : Nat) : Bool := headT a b == 8 || putN (((rayT a (headT a b) ||| rayT a ((headT a b + 4) % 8)) ||| rayT b (headT a b)) ||| rayT b ((headT a b + 4) % 8)) (a : Int) == lineT a b
theorem lineB_all : ∀ a, a < 64 → ∀ b, b < 64 → lineB a b = true := by decide +kernel
theorem line_ref {a b : Int} {d : Nat} (hd : d < 8) (h : hasN (rayN a (d : Int)) b = true) (hno : ∀ j : Nat, j < d → hasN (rayN a (j : Int)) b = false) :
    putN (((rayN a (d : Int) ||| rayN a (((d + 4) % 8 : Nat) : Int)) ||| rayN b (d : Int)) ||| rayN b (((d + 4) % 8 : Nat) : Int)) a = lineN a b := by
  have hb : sq b = true := by
    cases e : sq b
    · rw [hasN_no e] at h; cases h
    · rfl
  have ha : sq a = true := by
    cases e : sq a
    · rw [rayN_no (by simp [e]), hasN, Nat.zero_testBit, Bool.and_false] at h; cases h
    · rfl
  obtain ⟨m, hm, rfl⟩ := nat_of_sq ha
  obtain ⟨n, hn, rfl⟩ := nat_of_sq hb
  have hd4 : (d + 4) % 8 < 8 := Nat.mod_lt _ (by decide)
  have e : headT m n = d := head_hit hd (by rw [← has_rayT hm hn hd]; exact h) (fun j hj => by rw [← has_rayT hm hn (by omega)]; exact hno j hj)
  have e8 : (d == 8) = false := by simp; omega
  have := lineB_all m hm n hn
  simp only [lineB, e, e8, Bool.false_or, beq_iff_eq] at this
  rw [lineN_nat hm hn, ← this, rayN_nat hm hd, rayN_nat hm hd4, rayN_nat hn hd, rayN_nat hn hd4]

/-! P3.4. -/
def turnB (a b : Nat) : Bool :=
  (kingT a).testBit b == (kingT b).testBit a && (knightT a).testBit b == (knightT b).testBit a && (pawnT 0 a).testBit b == (pawnT 1 b).testBit a && betweenT a b == betweenT b a && lineT a b == lineT b a
theorem turnB_all : ∀ a, a < 64 → ∀ b, b < 64 → turnB a b = true := by decide +kernel
theorem has_zero (s : Int) : hasN 0 s = false := by simp [hasN]
theorem turned_all (a b : Int) : hasN (kingN a) b = hasN (kingN b) a ∧ hasN (knightN a) b = hasN (knightN b) a ∧ hasN (pawnN 0 a) b = hasN (pawnN 1 b) a ∧ betweenN a b = betweenN b a ∧ lineN a b = lineN b a := by
  by_cases ha : sq a = true
  · by_cases hb : sq b = true
    · obtain ⟨m, hm, rfl⟩ := nat_of_sq ha
      obtain ⟨n, hn, rfl⟩ := nat_of_sq hb
      have := turnB_all m hm n hn
      simp only [turnB, Bool.and_eq_true, beq_iff_eq] at this
      have p0 : pawnN 0 (m : Int) = pawnT 0 m := pawnN_nat (c := 0) hm (by decide)
      have p1 : pawnN 1 (n : Int) = pawnT 1 n := pawnN_nat (c := 1) hn (by decide)
      rw [kingN_nat hm, kingN_nat hn, knightN_nat hm, knightN_nat hn, p0, p1, betweenN_nat hm hn, betweenN_nat hn hm, lineN_nat hm hn, lineN_nat hn hm]
      simp only [hasN_nat _ _ hm, hasN_nat _ _ hn]
      exact ⟨this.1.1.1.1, this.1.1.1.2, this.1.1.2, this.1.2, this.2⟩
    · have hb' : sq b = false := by simpa using hb
      simp [hasN_no hb', kingN_no hb', knightN_no hb', pawnN_no hb', has_zero, betweenN, lineN, hb']
  · have ha' : sq a = false := by simpa using ha
    simp [hasN_no ha', kingN_no ha', knightN_no ha', pawnN_no ha', has_zero, betweenN, lineN, ha']

/-! P3.5. -/
def oneB (a b : Nat) : Bool :=
  (lineT a b == 0 && betweenT a b == 0) ||
  ((lineT a b).testBit a && (lineT a b).testBit b && (betweenT a b ^^^ (betweenT a b &&& lineT a b)) == 0 && !(betweenT a b).testBit a && !(betweenT a b).testBit b && (((listN (betweenT a b)).length : Int) == distZ (a : Int) (b : Int) - 1) &&
    (List.range 64).all fun c => !(lineT a b).testBit c || c == a || (lineT a c == lineT a b && (!(betweenT a b).testBit c || (betweenT a c ||| betweenT c b) == clearN (betweenT a b) (c : Int))))
theorem oneB_all : ∀ a, a < 64 → ∀ b, b < 64 → oneB a b = true := by decide +kernel
theorem one_none {a b : Int} (h : lineN a b = 0) : betweenN a b = 0 := by
  by_cases hs : (sq a && sq b) = true
  · rw [Bool.and_eq_true] at hs
    obtain ⟨m, hm, rfl⟩ := nat_of_sq hs.1
    obtain ⟨n, hn, rfl⟩ := nat_of_sq hs.2
    have := oneB_all m hm n hn
    rw [lineN_nat hm hn] at h
    rw [betweenN_nat hm hn]
    simp only [oneB, h, Nat.zero_testBit, Bool.false_and, Bool.or_false, Bool.and_eq_true, beq_iff_eq] at this
    exact this.2
  · exact betweenN_no (by simpa using hs)
theorem one_some {a b : Int} (h : lineN a b ≠ 0) :
    hasN (lineN a b) a = true ∧ hasN (lineN a b) b = true ∧ betweenN a b ^^^ (betweenN a b &&& lineN a b) = 0 ∧ hasN (betweenN a b) a = false ∧ hasN (betweenN a b) b = false ∧
      ((listN (betweenN a b)).length : Int) = distZ a b - 1 ∧ ∀ c : Int, hasN (lineN a b) c = true → c ≠ a → lineN a c = lineN a b ∧ (hasN (betweenN a b) c = true → betweenN a c ||| betweenN c b = clearN (betweenN a b) c) := by
  have hs : (sq a && sq b) = true := by
    cases e : sq a && sq b
    · exact absurd (lineN_no e) h
    · rfl
  rw [Bool.and_eq_true] at hs
  obtain ⟨m, hm, rfl⟩ := nat_of_sq hs.1
  obtain ⟨n, hn, rfl⟩ := nat_of_sq hs.2
  have := oneB_all m hm n hn
  rw [lineN_nat hm hn] at h
  have h0 : (lineT m n == 0) = false := by simpa using h
  simp only [oneB, h0, Bool.false_and, Bool.false_or, Bool.and_eq_true, beq_iff_eq, Bool.not_eq_true'] at this
  obtain ⟨⟨⟨⟨⟨⟨h1, h2⟩, h3⟩, h4⟩, h5⟩, h6⟩, h7⟩ := this
  rw [lineN_nat hm hn, betweenN_nat hm hn]
  refine ⟨by rw [hasN_nat _ _ hm]; exact h1, by rw [hasN_nat _ _ hn]; exact h2, h3, by rw [hasN_nat _ _ hm]; exact h4, by rw [hasN_nat _ _ hn]; exact h5, h6, ?_⟩
  intro c hc hca
  have hcs : sq c = true := by
    cases e : sq c
    · rw [hasN_no e] at hc; cases hc
    · rfl
  obtain ⟨k, hk, rfl⟩ := nat_of_sq hcs
  rw [hasN_nat _ _ hk] at hc
  have hka : (k == m) = false := by
    rw [beq_eq_false_iff_ne]; rintro rfl; exact hca rfl
  have := List.all_eq_true.1 h7 k (List.mem_range.2 hk)
  simp only [hc, hka, Bool.not_true, Bool.false_or, Bool.and_eq_true, beq_iff_eq, Bool.or_eq_true, Bool.not_eq_true'] at this
  rw [lineN_nat hm hk, hasN_nat _ _ hk, betweenN_nat hm hk, betweenN_nat hk hn]
  refine ⟨this.1, fun hb => ?_⟩
  rcases this.2 with e | e
  · rw [hb] at e; cases e
  · exact e

/-! The eight rays. -/
def allN (s : Int) : Nat → Nat
  | 0 => 0
  | k + 1 => allN s k ||| rayN s (k : Int)
def fstN (s : Int) : Nat → Nat
  | 0 => 0
  | k + 1 => fstN s k ||| shiftN (putN 0 s) (k : Int)
theorem allN_lt (s : Int) : ∀ k, allN s k < W64
  | 0 => by show (0 : Nat) < W64; decide
  | k + 1 => or_lt (allN_lt s k) (rayN_lt _ _)
theorem fstN_lt (s : Int) : ∀ k, fstN s k < W64
  | 0 => by show (0 : Nat) < W64; decide
  | k + 1 => or_lt (fstN_lt s k) (shiftN_lt _ _)
theorem put_zero (s : Int) : putN 0 s = onlyN s := by simp [putN]
def partB (s : Nat) : Bool :=
  ((List.range 8).all fun k => (allN (s : Int) k &&& rayN (s : Int) (k : Int)) == 0 && rayN (s : Int) (k : Int) == (shiftN (rayN (s : Int) (k : Int)) (k : Int) ||| shiftN (putN 0 (s : Int)) (k : Int))) &&
  fstN (s : Int) 8 == kingT s && (allN (s : Int) 8 &&& knightT s) == 0 && (List.range 64).all fun o => (allN (s : Int) 8).testBit o == (lineT s o != 0)
theorem partB_all : ∀ s, s < 64 → partB s = true := by decide +kernel
theorem all_no {s : Int} (h : sq s = false) : ∀ k, allN s k = 0
  | 0 => rfl
  | k + 1 => by rw [allN, all_no h k, rayN_no (by simp [h])]; rfl
theorem fst_no {s : Int} (h : sq s = false) : ∀ k, fstN s k = 0
  | 0 => rfl
  | k + 1 => by rw [fstN, fst_no h k, put_zero, only_no h, shift_zero]; rfl
theorem part_ray (s : Int) (k : Nat) (hk : k < 8) : allN s k &&& rayN s (k : Int) = 0 ∧ rayN s (k : Int) = shiftN (rayN s (k : Int)) (k : Int) ||| shiftN (putN 0 s) (k : Int) := by
  by_cases h : sq s = true
  · obtain ⟨n, hn, rfl⟩ := nat_of_sq h
    have := partB_all n hn
    simp only [partB, Bool.and_eq_true] at this
    have := List.all_eq_true.1 this.1.1.1 k (List.mem_range.2 hk)
    simp only [Bool.and_eq_true, beq_iff_eq] at this
    exact this
  · have h' : sq s = false := by simpa using h
    rw [rayN_no (d := (k : Int)) (by simp [h']), shift_zero, put_zero, only_no h', shift_zero]; simp
theorem part_end (s o : Int) : fstN s 8 = kingN s ∧ allN s 8 &&& knightN s = 0 ∧ hasN (allN s 8) o = decide (lineN s o ≠ 0) := by
  by_cases h : sq s = true
  · obtain ⟨n, hn, rfl⟩ := nat_of_sq h
    have := partB_all n hn
    simp only [partB, Bool.and_eq_true, beq_iff_eq] at this
    refine ⟨by rw [this.1.1.2, kingN_nat hn], by rw [knightN_nat hn]; exact this.1.2, ?_⟩
    by_cases ho : sq o = true
    · obtain ⟨m, hm, rfl⟩ := nat_of_sq ho
      have := List.all_eq_true.1 this.2 m (List.mem_range.2 hm)
      simp only [beq_iff_eq] at this
      rw [hasN_nat _ _ hm, this, lineN_nat hn hm, Bool.eq_iff_iff]; simp
    · have ho' : sq o = false := by simpa using ho
      rw [hasN_no ho', lineN_no (by simp [ho'])]; simp
  · have h' : sq s = false := by simpa using h
    rw [fst_no h', kingN_no h', all_no h', has_zero, lineN_no (by simp [h'])]; simp

/-! P3.6. -/
def flipF (x : Nat) : Nat := swap32 (swapB (swapB x 71777214294589695 8) 281470681808895 16)
theorem flipF_eq (x : Nat) : flipF x = flipN x := flip_lib x
def flT (s : Nat) : Nat := 8 * (7 - s / 8) + s % 8
def flip1B (a : Nat) : Bool := flipF (kingT a) == kingT (flT a) && flipF (knightT a) == knightT (flT a) && flipF (pawnT 0 a) == pawnT 1 (flT a) && (List.range 8).all fun d => flipF (rayT a d) == rayT (flT a) ((12 - d) % 8)
def flip2B (a b : Nat) : Bool := flipF (betweenT a b) == betweenT (flT a) (flT b) && flipF (lineT a b) == lineT (flT a) (flT b)
theorem flip1B_all : ∀ a, a < 64 → flip1B a = true := by decide +kernel
theorem flip2B_all : ∀ a, a < 64 → ∀ b, b < 64 → flip2B a b = true := by decide +kernel
theorem flT_lt {s : Nat} (_ : s < 64) : flT s < 64 := by unfold flT; omega
theorem flipZ_nat {s : Nat} (h : s < 64) : flipZ (s : Int) = (flT s : Int) := by
  rw [flipZ_yes (by rw [sq_eq]; exact sq_nat h)]; unfold flT; omega
theorem flip_zero : flipN 0 = 0 := by decide +kernel
theorem flipZ_off {s : Int} (h : sq s = false) : sq (flipZ s) = false := by rw [flipZ_no (by rw [sq_eq]; exact h)]; rfl
theorem flipped1 (a : Int) (d : Nat) (hd : d < 8) : flipN (kingN a) = kingN (flipZ a) ∧ flipN (knightN a) = knightN (flipZ a) ∧ flipN (pawnN 0 a) = pawnN 1 (flipZ a) ∧ flipN (rayN a (d : Int)) = rayN (flipZ a) (((12 - d) % 8 : Nat) : Int) := by
  by_cases h : sq a = true
  · obtain ⟨n, hn, rfl⟩ := nat_of_sq h
    have hf := flT_lt hn
    have := flip1B_all n hn
    simp only [flip1B, Bool.and_eq_true, beq_iff_eq, flipF_eq] at this
    have hr := List.all_eq_true.1 this.2 d (List.mem_range.2 hd)
    simp only [beq_iff_eq] at hr
    have p0 : pawnN 0 (n : Int) = pawnT 0 n := pawnN_nat (c := 0) hn (by decide)
    have p1 : pawnN 1 (flT n : Int) = pawnT 1 (flT n) := pawnN_nat (c := 1) hf (by decide)
    rw [flipZ_nat hn, kingN_nat hn, kingN_nat hf, knightN_nat hn, knightN_nat hf, p0, p1, rayN_nat hn hd, rayN_nat hf (Nat.mod_lt _ (by decide))]
    exact ⟨this.1.1.1, this.1.1.2, this.1.2, hr⟩
  · have h' : sq a = false := by simpa using h
    have hf := flipZ_off h'
    rw [kingN_no h', kingN_no hf, knightN_no h', knightN_no hf, pawnN_no h', pawnN_no hf, rayN_no (by simp [h']), rayN_no (by simp [hf]), flip_zero]
    simp
theorem flipped2 (a b : Int) : flipN (betweenN a b) = betweenN (flipZ a) (flipZ b) ∧ flipN (lineN a b) = lineN (flipZ a) (flipZ b) := by
  by_cases h : sq a = true
  · by_cases g : sq b = true
    · obtain ⟨n, hn, rfl⟩ := nat_of_sq h
      obtain ⟨m, hm, rfl⟩ := nat_of_sq g
      have := flip2B_all n hn m hm
      simp only [flip2B, Bool.and_eq_true, beq_iff_eq, flipF_eq] at this
      rw [flipZ_nat hn, flipZ_nat hm, betweenN_nat hn hm, lineN_nat hn hm, betweenN_nat (flT_lt hn) (flT_lt hm), lineN_nat (flT_lt hn) (flT_lt hm)]
      exact this
    · have g' : sq b = false := by simpa using g
      have gf := flipZ_off g'
      rw [betweenN_no (by simp [g']), lineN_no (by simp [g']), betweenN_no (by simp [gf]), lineN_no (by simp [gf]), flip_zero]; simp
  · have h' : sq a = false := by simpa using h
    have hf := flipZ_off h'
    rw [betweenN_no (by simp [h']), lineN_no (by simp [h']), betweenN_no (by simp [hf]), lineN_no (by simp [hf]), flip_zero]; simp

/-! How many, and how far. -/
def noneB (s : Nat) : Bool :=
  decide (3 ≤ (listN (kingT s)).length) && decide ((listN (kingT s)).length ≤ 8) && decide (2 ≤ (listN (knightT s)).length) && decide ((listN (knightT s)).length ≤ 8) &&
  (List.range 64).all fun o => (kingT s).testBit o == (distZ (s : Int) (o : Int) == 1) && (!(knightT s).testBit o || distZ (s : Int) (o : Int) == 2)
theorem noneB_all : ∀ s, s < 64 → noneB s = true := by decide +kernel
theorem none_sq {s : Int} (h : sq s = true) (o : Int) : 3 ≤ (listN (kingN s)).length ∧ (listN (kingN s)).length ≤ 8 ∧ 2 ≤ (listN (knightN s)).length ∧ (listN (knightN s)).length ≤ 8 ∧
    hasN (kingN s) o = (distZ s o == 1) ∧ (hasN (knightN s) o = true → distZ s o = 2) := by
  obtain ⟨n, hn, rfl⟩ := nat_of_sq h
  have := noneB_all n hn
  simp only [noneB, Bool.and_eq_true, decide_eq_true_eq] at this
  obtain ⟨⟨⟨⟨h1, h2⟩, h3⟩, h4⟩, h5⟩ := this
  rw [kingN_nat hn, knightN_nat hn]
  refine ⟨h1, h2, h3, h4, ?_⟩
  by_cases ho : sq o = true
  · obtain ⟨m, hm, rfl⟩ := nat_of_sq ho
    have := List.all_eq_true.1 h5 m (List.mem_range.2 hm)
    simp only [Bool.and_eq_true, beq_iff_eq, Bool.or_eq_true, Bool.not_eq_true'] at this
    rw [hasN_nat _ _ hm, hasN_nat _ _ hm]
    refine ⟨this.1, fun hk => ?_⟩
    rcases this.2 with e | e
    · rw [hk] at e; cases e
    · exact e
  · have ho' : sq o = false := by simpa using ho
    rw [hasN_no ho', hasN_no ho', distZ_no (by rw [sq_eq o, ho', Bool.and_false])]
    exact ⟨rfl, fun h => by cases h⟩
end Go.Proofs.YtigkbccpkepdmaaGreatDoor
