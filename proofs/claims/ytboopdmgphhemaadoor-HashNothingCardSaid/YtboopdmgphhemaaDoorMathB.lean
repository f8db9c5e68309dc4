/-
  Plain mathematics of sets of squares, second part: lists of squares, steps, flips, counts. Nothing of the program stands here.
-/
import Derived.Test.YtboopdmgphhemaaDoorMath
namespace Go.Proofs.YtboopdmgphhemaaDoor

/-! Lists of squares. -/
def listTo (b k : Nat) : List Nat := (List.range k).filter (b.testBit ·)
def listN (b : Nat) : List Nat := listTo b 64
theorem listTo_yes {b k : Nat} (h : b.testBit k = true) : listTo b (k + 1) = listTo b k ++ [k] := by
  simp [listTo, List.range_succ, List.filter_append, h]
theorem listTo_no {b k : Nat} (h : b.testBit k = false) : listTo b (k + 1) = listTo b k := by
  simp [listTo, List.range_succ, List.filter_append, h]
theorem listTo_len (b k : Nat) : (listTo b k).length ≤ k := by
  have := List.length_filter_le (b.testBit ·) (List.range k)
  simpa [listTo] using this
theorem listN_len (b : Nat) : (listN b).length ≤ 64 := listTo_len b 64
theorem mem_listTo {b k i : Nat} : i ∈ listTo b k ↔ i < k ∧ b.testBit i = true := by simp [listTo]
theorem mem_listN {b i : Nat} : i ∈ listN b ↔ i < 64 ∧ b.testBit i = true := mem_listTo
theorem listN_lt {b k : Nat} (h : k < (listN b).length) : (listN b)[k] < 64 := (mem_listN.1 (List.getElem_mem h)).1
theorem listN_sorted (b : Nat) : (listN b).Pairwise (· < ·) := by
  unfold listN listTo
  exact List.Pairwise.filter _ List.pairwise_lt_range

/-- The set of some squares. -/
def ofList (l : List Int) : Nat := l.foldl putN 0
theorem foldl_testBit (l : List Int) : ∀ (b i : Nat), (l.foldl putN b).testBit i = (b.testBit i || decide (i < 64 ∧ (i : Int) ∈ l)) := by
  induction l with
  | nil => intro b i; simp
  | cons s l ih =>
    intro b i
    rw [List.foldl_cons, ih, putN_testBit]
    rw [Bool.eq_iff_iff]
    simp only [Bool.or_eq_true, Bool.and_eq_true, decide_eq_true_eq, List.mem_cons, sq_true]
    constructor
    · rintro ((h | ⟨h, rfl⟩) | h)
      · exact .inl h
      · exact .inr ⟨by omega, .inl rfl⟩
      · exact .inr ⟨h.1, .inr h.2⟩
    · rintro (h | ⟨h, rfl | h2⟩)
      · exact .inl (.inl h)
      · exact .inl (.inr ⟨by omega, rfl⟩)
      · exact .inr ⟨h, h2⟩
theorem ofList_testBit (l : List Int) (i : Nat) : (ofList l).testBit i = decide (i < 64 ∧ (i : Int) ∈ l) := by
  rw [ofList, foldl_testBit, Nat.zero_testBit, Bool.false_or]
theorem ofList_lt (l : List Int) : ofList l < W64 := by
  apply lt_W64_of_testBit
  intro i hi
  rw [ofList_testBit, decide_eq_false_iff_not]
  omega
theorem ofList_snoc (l : List Int) (s : Int) : ofList (l ++ [s]) = putN (ofList l) s := by simp [ofList, List.foldl_append]

/-! Steps. -/
def fileD (d : Int) : Int := if d = 0 ∨ d = 4 then 0 else if d ≤ 3 then 1 else -1
def rankD (d : Int) : Int := if d ≤ 1 ∨ d = 7 then 1 else if d = 2 ∨ d = 6 then 0 else -1
def dirB (d : Int) : Bool := decide (0 ≤ d) && decide (d < 8)
theorem dirB_true {d : Int} : dirB d = true ↔ 0 ≤ d ∧ d < 8 := by simp [dirB]
theorem dirB_false {d : Int} : dirB d = false ↔ d < 0 ∨ 8 ≤ d := by rw [← Bool.not_eq_true, dirB_true]; omega
def onB (f r : Int) : Bool := decide (0 ≤ f) && decide (f < 8) && decide (0 ≤ r) && decide (r < 8)
theorem onB_true {f r : Int} : onB f r = true ↔ 0 ≤ f ∧ f < 8 ∧ 0 ≤ r ∧ r < 8 := by simp [onB, and_assoc]
theorem onB_false {f r : Int} : onB f r = false ↔ f < 0 ∨ 8 ≤ f ∨ r < 0 ∨ 8 ≤ r := by rw [← Bool.not_eq_true, onB_true]; omega
def stepN (s d : Int) : Int :=
  if sq s && dirB d then (if onB (s % 8 + fileD d) (s / 8 + rankD d) then 8 * (s / 8 + rankD d) + (s % 8 + fileD d) else -1) else -1
theorem stepN_out {s d : Int} (h : (sq s && dirB d) = false) : stepN s d = -1 := by simp [stepN, h]
theorem stepN_off {s d : Int} (h : onB (s % 8 + fileD d) (s / 8 + rankD d) = false) : stepN s d = -1 := by simp [stepN, h]
theorem stepN_on {s d : Int} (h0 : (sq s && dirB d) = true) (h : onB (s % 8 + fileD d) (s / 8 + rankD d) = true) : stepN s d = 8 * (s / 8 + rankD d) + (s % 8 + fileD d) := by simp [stepN, h0, h]

def shiftN (b : Nat) (d : Int) : Nat := ofList ((listN b).map fun i : Nat => stepN (i : Int) d)
def flipS (s : Int) : Int := 8 * (7 - s / 8) + s % 8
def flipN (b : Nat) : Nat := ofList ((listN b).map fun i : Nat => flipS (i : Int))
theorem shiftN_lt (b : Nat) (d : Int) : shiftN b d < W64 := ofList_lt _
theorem flipN_lt (b : Nat) : flipN b < W64 := ofList_lt _

theorem shiftN_out (b : Nat) {d : Int} (h : dirB d = false) : shiftN b d = 0 := by
  apply Nat.eq_of_testBit_eq
  intro i
  rw [shiftN, ofList_testBit, Nat.zero_testBit, decide_eq_false_iff_not]
  rintro ⟨_, h2⟩
  obtain ⟨j, _, hj⟩ := List.mem_map.1 h2
  rw [stepN_out (by simp [h])] at hj
  omega

theorem fileD_cases (d : Int) : fileD d = 0 ∨ fileD d = 1 ∨ fileD d = -1 := by
  unfold fileD; split
  · simp
  · split <;> simp
theorem rankD_cases (d : Int) : rankD d = 0 ∨ rankD d = 1 ∨ rankD d = -1 := by
  unfold rankD; split
  · simp
  · split <;> simp
/-- How a direction changes a square's number. -/
def leadD (d : Int) : Int := 8 * rankD d + fileD d
theorem step_iff {s d t : Int} (hs : 0 ≤ s ∧ s < 64) (hd : 0 ≤ d ∧ d < 8) (ht : 0 ≤ t) :
    stepN s d = t ↔ s = t - leadD d ∧ onB (s % 8 + fileD d) (s / 8 + rankD d) = true := by
  have h0 : (sq s && dirB d) = true := by simp [sq_true.2 hs, dirB_true.2 hd]
  by_cases h : onB (s % 8 + fileD d) (s / 8 + rankD d) = true
  · rw [stepN_on h0 h]; unfold leadD; simp only [h, and_true]; omega
  · rw [stepN_off (by simpa using h)]; simp only [h]; simp; omega

theorem shiftN_testBit (b : Nat) (d : Int) (hd : 0 ≤ d ∧ d < 8) (i : Nat) (hi : i < 64) :
    (shiftN b d).testBit i = (onB ((i : Int) % 8 - fileD d) ((i : Int) / 8 - rankD d) && b.testBit ((i : Int) - leadD d).toNat) := by
  have hf : fileD d = 0 ∨ fileD d = 1 ∨ fileD d = -1 := fileD_cases d
  have hr : rankD d = 0 ∨ rankD d = 1 ∨ rankD d = -1 := rankD_cases d
  rw [shiftN, ofList_testBit, Bool.eq_iff_iff]
  simp only [decide_eq_true_eq, Bool.and_eq_true, List.mem_map, mem_listN]
  constructor
  · rintro ⟨_, j, ⟨hj, hb⟩, e⟩
    rw [step_iff ⟨by omega, by omega⟩ hd (by omega)] at e
    obtain ⟨e1, e2⟩ := e
    rw [onB_true] at e2
    have : ((i : Int) - leadD d).toNat = j := by omega
    rw [this]
    refine ⟨?_, hb⟩
    rw [onB_true]
    unfold leadD at e1
    generalize fileD d = f at *
    generalize rankD d = r at *
    omega
  · rintro ⟨h1, h2⟩
    rw [onB_true] at h1
    have hl : leadD d = 8 * rankD d + fileD d := rfl
    refine ⟨hi, ((i : Int) - leadD d).toNat, ⟨by omega, h2⟩, ?_⟩
    rw [step_iff ⟨by omega, by omega⟩ hd (by omega)]
    refine ⟨by omega, ?_⟩
    rw [onB_true]
    omega

theorem flip_mem {s : Int} {t : Int} (_ : 0 ≤ s ∧ s < 64) (_ : 0 ≤ t ∧ t < 64) : flipS s = t ↔ s = flipS t := by unfold flipS; omega
theorem flipN_testBit (b i : Nat) (hi : i < 64) : (flipN b).testBit i = b.testBit (flipS (i : Int)).toNat := by
  rw [flipN, ofList_testBit, Bool.eq_iff_iff]
  simp only [decide_eq_true_eq, List.mem_map, mem_listN]
  constructor
  · rintro ⟨_, j, ⟨hj, hb⟩, e⟩
    rw [flip_mem ⟨by omega, by omega⟩ ⟨by omega, by omega⟩] at e
    rw [← e]; simpa using hb
  · intro h
    refine ⟨hi, (flipS (i : Int)).toNat, ⟨?_, h⟩, ?_⟩
    · unfold flipS; omega
    · have e : (((flipS (i : Int)).toNat : Nat) : Int) = flipS i := by unfold flipS; omega
      rw [e]; unfold flipS; omega

/-! The program's own formula for a step. -/
def edgeN (d : Int) : Nat := if d = 1 ∨ d = 2 ∨ d = 3 then 9259542123273814144 else if d = 5 ∨ d = 6 ∨ d = 7 then 72340172838076673 else 0
theorem edgeN_lt (d : Int) : edgeN d < W64 := by
  unfold edgeN; split
  · decide
  · split <;> decide
theorem fileH_bits : ∀ i, i < 64 → (9259542123273814144 : Nat).testBit i = decide (i % 8 = 7) := by decide
theorem fileA_bits : ∀ i, i < 64 → (72340172838076673 : Nat).testBit i = decide (i % 8 = 0) := by decide
theorem edgeN_testBit (d : Int) (hd : 0 ≤ d ∧ d < 8) (i : Nat) (hi : i < 64) : (edgeN d).testBit i = !(decide (0 ≤ (i : Int) % 8 + fileD d) && decide ((i : Int) % 8 + fileD d < 8)) := by
  unfold edgeN fileD
  by_cases h1 : d = 1 ∨ d = 2 ∨ d = 3
  · rw [if_pos h1, fileH_bits i hi, if_neg (by omega), if_pos (by omega), Bool.eq_iff_iff]; simp; omega
  · rw [if_neg h1]
    by_cases h2 : d = 5 ∨ d = 6 ∨ d = 7
    · rw [if_pos h2, fileA_bits i hi, if_neg (by omega), if_neg (by omega), Bool.eq_iff_iff]; simp; omega
    · rw [if_neg h2, if_pos (by omega), Nat.zero_testBit, eq_comm, Bool.not_eq_false']; simp; omega
/-- The set without the file from which the step would go round. -/
def keptN (b : Nat) (d : Int) : Nat := b ^^^ (b &&& edgeN d)
theorem keptN_lt {b : Nat} (hb : b < W64) (d : Int) : keptN b d < W64 := Nat.xor_lt_two_pow (n := 64) hb (Nat.and_lt_two_pow (n := 64) _ (edgeN_lt d))
theorem keptN_testBit (b : Nat) (d : Int) (i : Nat) : (keptN b d).testBit i = (b.testBit i && !(edgeN d).testBit i) := by
  rw [keptN, Nat.testBit_xor, Nat.testBit_and]
  cases b.testBit i <;> cases (edgeN d).testBit i <;> rfl
theorem leadD_cases (d : Int) (hd : 0 ≤ d ∧ d < 8) : (d = 0 ∧ leadD d = 8) ∨ (d = 1 ∧ leadD d = 9) ∨ (d = 2 ∧ leadD d = 1) ∨ (d = 3 ∧ leadD d = -7) ∨ (d = 4 ∧ leadD d = -8) ∨ (d = 5 ∧ leadD d = -9) ∨ (d = 6 ∧ leadD d = -1) ∨ (d = 7 ∧ leadD d = 7) := by
  have : d = 0 ∨ d = 1 ∨ d = 2 ∨ d = 3 ∨ d = 4 ∨ d = 5 ∨ d = 6 ∨ d = 7 := by omega
  rcases this with rfl | rfl | rfl | rfl | rfl | rfl | rfl | rfl <;> decide
theorem shift_up (b : Nat) (d : Int) (hd : 0 ≤ d ∧ d < 8) (h : 0 ≤ leadD d) : keptN b d * 2 ^ (leadD d).toNat % W64 = shiftN b d := by
  apply eq_of_bits (Nat.mod_lt _ (by decide)) (shiftN_lt b d)
  intro i hi
  rw [W64_eq, Nat.testBit_mod_two_pow, ← Nat.shiftLeft_eq, Nat.testBit_shiftLeft, shiftN_testBit b d hd i hi, decide_eq_true hi, Bool.true_and]
  have hl : leadD d = 8 * rankD d + fileD d := rfl
  have hr := rankD_cases d
  have hf := fileD_cases d
  by_cases hle : (leadD d).toNat ≤ i
  · have e : ((i : Int) - leadD d).toNat = i - (leadD d).toNat := by omega
    rw [decide_eq_true hle, Bool.true_and, keptN_testBit, edgeN_testBit d hd _ (by omega), e, Bool.not_not, Bool.and_comm]
    congr 1
    rw [Bool.eq_iff_iff, onB_true]
    simp only [Bool.and_eq_true, decide_eq_true_eq]
    omega
  · rw [decide_eq_false hle, Bool.false_and]
    rw [eq_comm, Bool.and_eq_false_iff, onB_false]
    omega
theorem shift_down {b : Nat} (hb : b < W64) (d : Int) (hd : 0 ≤ d ∧ d < 8) (h : leadD d < 0) : keptN b d / 2 ^ (-leadD d).toNat = shiftN b d := by
  apply eq_of_bits (Nat.lt_of_le_of_lt (Nat.div_le_self _ _) (keptN_lt hb d)) (shiftN_lt b d)
  intro i hi
  rw [← Nat.shiftRight_eq_div_pow, Nat.testBit_shiftRight, shiftN_testBit b d hd i hi]
  have hl : leadD d = 8 * rankD d + fileD d := rfl
  have hr := rankD_cases d
  have hf := fileD_cases d
  have e : ((i : Int) - leadD d).toNat = (-leadD d).toNat + i := by omega
  rw [e]
  by_cases hle : (-leadD d).toNat + i < 64
  · rw [keptN_testBit, edgeN_testBit d hd _ hle, Bool.not_not, Bool.and_comm]
    congr 1
    rw [Bool.eq_iff_iff, onB_true]
    simp only [Bool.and_eq_true, decide_eq_true_eq]
    omega
  · rw [testBit_high (keptN_lt hb d) (by omega), testBit_high hb (by omega), Bool.and_false]

end Go.Proofs.YtboopdmgphhemaaDoor
