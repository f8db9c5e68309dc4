/-
  Plain mathematics of sets of squares, fourth part: what follows from the definitions.
-/
import Derived.Test.YtlhepfighelijaaDoorAtBase
namespace Go.Proofs.YtlhepfighelijaaDoor

/-! Two sets together. -/
theorem or_lt {a b : Nat} (ha : a < W64) (hb : b < W64) : a ||| b < W64 := Nat.or_lt_two_pow (n := 64) ha hb
theorem and_lt {a b : Nat} (hb : b < W64) : a &&& b < W64 := Nat.and_lt_two_pow (n := 64) _ hb
theorem shift_or (a b : Nat) (d : Int) : shiftN (a ||| b) d = shiftN a d ||| shiftN b d := by
  by_cases hd : 0 ≤ d ∧ d < 8
  · apply eq_of_bits (shiftN_lt _ _) (or_lt (shiftN_lt _ _) (shiftN_lt _ _))
    intro i hi
    rw [Nat.testBit_or, shiftN_testBit _ d hd i hi, shiftN_testBit _ d hd i hi, shiftN_testBit _ d hd i hi, Nat.testBit_or]
    cases onB ((i : Int) % 8 - fileD d) ((i : Int) / 8 - rankD d) <;> simp
  · have h : dirB d = false := dirB_false.2 (by omega)
    rw [shiftN_out _ h, shiftN_out _ h, shiftN_out _ h]; rfl
theorem shift_and (a b : Nat) (d : Int) : shiftN (a &&& b) d = shiftN a d &&& shiftN b d := by
  by_cases hd : 0 ≤ d ∧ d < 8
  · apply eq_of_bits (shiftN_lt _ _) (and_lt (shiftN_lt _ _))
    intro i hi
    rw [Nat.testBit_and, shiftN_testBit _ d hd i hi, shiftN_testBit _ d hd i hi, shiftN_testBit _ d hd i hi, Nat.testBit_and]
    cases onB ((i : Int) % 8 - fileD d) ((i : Int) / 8 - rankD d) <;> simp
  · have h : dirB d = false := dirB_false.2 (by omega)
    rw [shiftN_out _ h, shiftN_out _ h, shiftN_out _ h]; rfl
theorem flip_or (a b : Nat) : flipN (a ||| b) = flipN a ||| flipN b := by
  apply eq_of_bits (flipN_lt _) (or_lt (flipN_lt _) (flipN_lt _))
  intro i hi
  rw [Nat.testBit_or, flipN_testBit _ i hi, flipN_testBit _ i hi, flipN_testBit _ i hi, Nat.testBit_or]

/-! Flipped. -/
theorem flipS_lt {i : Nat} (hi : i < 64) : (flipS (i : Int)).toNat < 64 := by unfold flipS; omega
theorem flip_flip {b : Nat} (hb : b < W64) : flipN (flipN b) = b := by
  apply eq_of_bits (flipN_lt _) hb
  intro i hi
  rw [flipN_testBit _ i hi, flipN_testBit _ _ (flipS_lt hi)]
  congr 1
  unfold flipS; omega
theorem turned_dir : ∀ d, d < 8 → fileD (((12 - d) % 8 : Nat) : Int) = fileD (d : Int) ∧ rankD (((12 - d) % 8 : Nat) : Int) = -rankD (d : Int) := by decide
theorem flip_shift (b : Nat) (d : Nat) (hd : d < 8) : flipN (shiftN b (d : Int)) = shiftN (flipN b) (((12 - d) % 8 : Nat) : Int) := by
  have ht := turned_dir d hd
  have ht8 : (12 - d) % 8 < 8 := Nat.mod_lt _ (by decide)
  generalize (12 - d) % 8 = t at *
  apply eq_of_bits (flipN_lt _) (shiftN_lt _ _)
  intro i hi
  have hr := rankD_cases (d : Int)
  have hf := fileD_cases (d : Int)
  rw [flipN_testBit _ i hi, shiftN_testBit _ _ ⟨by omega, by omega⟩ _ (flipS_lt hi), shiftN_testBit _ _ ⟨by omega, by omega⟩ i hi]
  have e1 : onB ((((flipS (i : Int)).toNat : Nat) : Int) % 8 - fileD (d : Int)) ((((flipS (i : Int)).toNat : Nat) : Int) / 8 - rankD (d : Int)) = onB ((i : Int) % 8 - fileD (t : Int)) ((i : Int) / 8 - rankD (t : Int)) := by
    rw [ht.1, ht.2, Bool.eq_iff_iff, onB_true, onB_true]; unfold flipS; omega
  rw [e1]
  by_cases h : onB ((i : Int) % 8 - fileD (t : Int)) ((i : Int) / 8 - rankD (t : Int)) = true
  · rw [h, Bool.true_and, Bool.true_and]
    rw [onB_true, ht.1, ht.2] at h
    have hl : leadD (d : Int) = 8 * rankD (d : Int) + fileD (d : Int) := rfl
    have hl2 : leadD (t : Int) = 8 * rankD (t : Int) + fileD (t : Int) := rfl
    rw [ht.1, ht.2] at hl2
    rw [flipN_testBit _ _ (by omega)]
    congr 1
    unfold flipS; omega
  · have h' : onB ((i : Int) % 8 - fileD (t : Int)) ((i : Int) / 8 - rankD (t : Int)) = false := by simpa using h
    rw [h', Bool.false_and, Bool.false_and]
theorem range_flip : ((List.range 64).map fun i : Nat => (flipS (i : Int)).toNat).Perm (List.range 64) := by decide +kernel
theorem listN_count (b : Nat) : (listN b).length = (List.range 64).countP (b.testBit ·) := by
  unfold listN listTo; exact (List.countP_eq_length_filter).symm
theorem count_flip (b : Nat) : (listN (flipN b)).length = (listN b).length := by
  rw [listN_count, listN_count, ← range_flip.countP_eq, List.countP_map]
  apply List.countP_congr
  intro i hi
  have hi' : i < 64 := by simpa using hi
  simp only [Function.comp]
  rw [flipN_testBit b _ (flipS_lt hi')]
  have e : (flipS (((flipS (i : Int)).toNat : Nat) : Int)).toNat = i := by unfold flipS; omega
  rw [e]

/-! There and back. -/
theorem sorted_ext : ∀ l1 l2 : List Nat, l1.Pairwise (· < ·) → l2.Pairwise (· < ·) → (∀ x, x ∈ l1 ↔ x ∈ l2) → l1 = l2
  | [], [], _, _, _ => rfl
  | [], b :: _, _, _, h => by have := (h b).2 (by simp); cases this
  | a :: _, [], _, _, h => by have := (h a).1 (by simp); cases this
  | a :: l1, b :: l2, h1, h2, h => by
    rw [List.pairwise_cons] at h1 h2
    have ab : a = b := by
      rcases List.mem_cons.1 ((h a).1 (by simp)) with e | e
      · exact e
      · rcases List.mem_cons.1 ((h b).2 (by simp)) with e' | e'
        · exact e'.symm
        · have := h1.1 b e'; have := h2.1 a e; omega
    subst ab
    congr 1
    apply sorted_ext l1 l2 h1.2 h2.2
    intro x
    have hx := h x
    simp only [List.mem_cons] at hx
    constructor
    · intro hm
      have := h1.1 x hm
      rcases hx.1 (.inr hm) with e | e
      · omega
      · exact e
    · intro hm
      have := h2.1 x hm
      rcases hx.2 (.inr hm) with e | e
      · omega
      · exact e
def backN (b : Nat) (d : Nat) : Nat := shiftN (shiftN b (d : Int)) (((d + 4) % 8 : Nat) : Int)
theorem opp_dir : ∀ d, d < 8 → fileD (((d + 4) % 8 : Nat) : Int) = -fileD (d : Int) ∧ rankD (((d + 4) % 8 : Nat) : Int) = -rankD (d : Int) := by decide
theorem back_testBit (b d : Nat) (hd : d < 8) (i : Nat) (hi : i < 64) : (backN b d).testBit i = (b.testBit i && onB ((i : Int) % 8 + fileD (d : Int)) ((i : Int) / 8 + rankD (d : Int))) := by
  have ho := opp_dir d hd
  have ho8 : (d + 4) % 8 < 8 := Nat.mod_lt _ (by decide)
  unfold backN
  generalize (d + 4) % 8 = t at *
  have hr := rankD_cases (d : Int)
  have hf := fileD_cases (d : Int)
  have hl : leadD (d : Int) = 8 * rankD (d : Int) + fileD (d : Int) := rfl
  have hl2 : leadD (t : Int) = 8 * rankD (t : Int) + fileD (t : Int) := rfl
  rw [ho.1, ho.2] at hl2
  rw [shiftN_testBit _ _ ⟨by omega, by omega⟩ i hi, ho.1, ho.2]
  have e0 : ((i : Int) % 8 - -fileD (d : Int)) = (i : Int) % 8 + fileD (d : Int) := by omega
  have e1 : ((i : Int) / 8 - -rankD (d : Int)) = (i : Int) / 8 + rankD (d : Int) := by omega
  rw [e0, e1]
  by_cases h : onB ((i : Int) % 8 + fileD (d : Int)) ((i : Int) / 8 + rankD (d : Int)) = true
  · rw [h, Bool.true_and, Bool.and_true]
    rw [onB_true] at h
    rw [shiftN_testBit _ _ ⟨by omega, by omega⟩ _ (by omega)]
    have e2 : onB ((((i : Int) - leadD (t : Int)).toNat : Nat) % 8 - fileD (d : Int)) ((((i : Int) - leadD (t : Int)).toNat : Nat) / 8 - rankD (d : Int)) = true := by
      rw [onB_true]; omega
    rw [e2, Bool.true_and]
    congr 1
    omega
  · have h' : onB ((i : Int) % 8 + fileD (d : Int)) ((i : Int) / 8 + rankD (d : Int)) = false := by simpa using h
    rw [h', Bool.false_and, Bool.and_false]
theorem count_back (b d : Nat) (hd : d < 8) : (listN (backN b d)).length = (listN (shiftN b (d : Int))).length := by
  have hr := rankD_cases (d : Int)
  have hf := fileD_cases (d : Int)
  have hl : leadD (d : Int) = 8 * rankD (d : Int) + fileD (d : Int) := rfl
  have hon : ∀ i, i ∈ listN (backN b d) → i < 64 ∧ b.testBit i = true ∧ 0 ≤ (i : Int) % 8 + fileD (d : Int) ∧ (i : Int) % 8 + fileD (d : Int) < 8 ∧ 0 ≤ (i : Int) / 8 + rankD (d : Int) ∧ (i : Int) / 8 + rankD (d : Int) < 8 := by
    intro i hi
    rw [mem_listN] at hi
    have h2 := hi.2
    rw [back_testBit b d hd i hi.1, Bool.and_eq_true, onB_true] at h2
    exact ⟨hi.1, h2⟩
  have key : (listN (backN b d)).map (fun i : Nat => ((i : Int) + leadD (d : Int)).toNat) = listN (shiftN b (d : Int)) := by
    apply sorted_ext
    · rw [List.pairwise_map]
      refine List.Pairwise.imp_of_mem ?_ (listN_sorted (backN b d))
      intro x y hx hy hxy
      have := hon x hx; have := hon y hy
      omega
    · exact listN_sorted _
    · intro x
      rw [List.mem_map, mem_listN]
      constructor
      · rintro ⟨i, hi, rfl⟩
        have h := hon i hi
        have hx : ((i : Int) + leadD (d : Int)).toNat < 64 := by omega
        refine ⟨hx, ?_⟩
        rw [shiftN_testBit _ _ ⟨by omega, by omega⟩ _ hx, Bool.and_eq_true, onB_true]
        have e : ((((i : Int) + leadD (d : Int)).toNat : Nat) - leadD (d : Int)).toNat = i := by omega
        rw [e]
        exact ⟨by omega, h.2.1⟩
      · rintro ⟨hx, hb⟩
        rw [shiftN_testBit _ _ ⟨by omega, by omega⟩ _ hx, Bool.and_eq_true, onB_true] at hb
        refine ⟨((x : Int) - leadD (d : Int)).toNat, ?_, by omega⟩
        rw [mem_listN, back_testBit b d hd _ (by omega), Bool.and_eq_true, onB_true]
        exact ⟨by omega, hb.2, by omega⟩
  rw [← key, List.length_map]

end Go.Proofs.YtlhepfighelijaaDoor
