/-
  Plain mathematics of layer 4, second part: what follows for rooks, bishops, queens. Nothing of the program stands here.
-/
import Derived.Test.YtigkbccpkepdmaaGreatDoorSlMath
namespace Go.Proofs.YtigkbccpkepdmaaGreatDoor

theorem free_congr {o o' : Nat} {a b : Int} (h : ∀ t, (betweenN a b).testBit t = true → o.testBit t = o'.testBit t) : freeB o a b = freeB o' a b := by
  rw [Bool.eq_iff_iff, free_iff, free_iff]
  constructor
  · intro g t ht; rw [← h t ht]; exact g t ht
  · intro g t ht; rw [h t ht]; exact g t ht
theorem free_zero (a b : Int) : freeB 0 a b = true := by rw [free_iff]; intro t _; exact Nat.zero_testBit t
theorem between_own {a b : Int} (h : lineN a b ≠ 0) {t : Nat} (ht : (betweenN a b).testBit t = true) : a ≠ (t : Int) ∧ b ≠ (t : Int) := by
  obtain ⟨_, _, _, h4, h5, _, _⟩ := one_some h
  have hlt := bit_lt (betweenN_lt a b) ht
  constructor
  · rintro rfl; rw [hasN_nat _ _ hlt, ht] at h4; cases h4
  · rintro rfl; rw [hasN_nat _ _ hlt, ht] at h5; cases h5

/-! P4.3. -/
theorem seen_put (a b : Int) (occ : Nat) : hasN (queenN a (putN occ b)) b = hasN (queenN a occ) b := by
  rw [has_queen, has_queen]
  by_cases h : lineN a b = 0
  · simp [h]
  · rw [free_congr]
    intro t ht
    rw [putN_testBit, decide_eq_false (between_own h ht).2]; simp
theorem seen_clear (a b : Int) (occ : Nat) : hasN (queenN a (clearN occ a)) b = hasN (queenN a occ) b := by
  rw [has_queen, has_queen]
  by_cases h : lineN a b = 0
  · simp [h]
  · rw [free_congr]
    intro t ht
    rw [clearN_testBit, decide_eq_false (between_own h ht).1]; simp
theorem free_back (a b : Int) (occ : Nat) : freeB occ b a = freeB occ a b := by unfold freeB; rw [(turned_all a b).2.2.2.1]
theorem seen_back (a b : Int) (occ : Nat) : hasN (queenN b occ) a = hasN (queenN a occ) b := by
  rw [has_queen, has_queen, free_back, (turned_all a b).2.2.2.2]
def rookB (a b : Nat) : Bool := (raysN (a : Int) rookDs).testBit b == (raysN (b : Int) rookDs).testBit a
theorem rookB_all : ∀ a, a < 64 → ∀ b, b < 64 → rookB a b = true := by decide +kernel
theorem rook_back (a b : Int) (occ : Nat) : hasN (rookN a occ) b = hasN (rookN b occ) a := by
  rw [rookN, rookN, has_seenAll, has_seenAll, free_back]
  congr 1
  cases ha : sq a
  · rw [raysN_no ha, hasN_no ha, has_zero]
  · cases hb : sq b
    · rw [raysN_no hb, hasN_no hb, has_zero]
    · obtain ⟨m, hm, rfl⟩ := nat_of_sq ha
      obtain ⟨n, hn, rfl⟩ := nat_of_sq hb
      have := rookB_all m hm n hn
      rw [rookB, beq_iff_eq] at this
      rw [hasN_nat _ _ hn, hasN_nat _ _ hm, this]

/-! P4.4. -/
theorem less_now (s m : Int) (occ : Nat) : queenN s (putN occ m) ^^^ (queenN s (putN occ m) &&& queenN s occ) = 0 := by
  rw [andNot_zero]
  intro i hi
  have hlt := bit_lt (queenN_lt _ _) hi
  rw [queen_testBit _ _ _ hlt, Bool.and_eq_true, free_iff] at hi
  rw [queen_testBit _ _ _ hlt, Bool.and_eq_true, free_iff]
  refine ⟨hi.1, fun t ht => ?_⟩
  have := hi.2 t ht
  rw [putN_testBit, Bool.or_eq_false_iff] at this
  exact this.1
theorem less_was (s : Int) (occ : Nat) : queenN s occ ^^^ (queenN s occ &&& queenN s 0) = 0 := by
  rw [andNot_zero]
  intro i hi
  have hlt := bit_lt (queenN_lt _ _) hi
  rw [queen_testBit _ _ _ hlt, Bool.and_eq_true] at hi
  rw [queen_testBit _ _ _ hlt, free_zero, hi.1]; rfl
theorem less_behind {s m : Int} {occ t : Nat} (h : (queenN s occ ^^^ (queenN s occ &&& queenN s (putN occ m))).testBit t = true) : hasN (betweenN s (t : Int)) m = true := by
  rw [andNot_testBit, Bool.and_eq_true, Bool.not_eq_true'] at h
  have hlt := bit_lt (queenN_lt _ _) h.1
  rw [queen_testBit _ _ _ hlt, queen_testBit _ _ _ hlt, Bool.and_eq_true, free_iff] at h
  obtain ⟨⟨h1, h2⟩, h3⟩ := h
  rw [h1, Bool.true_and] at h3
  cases hb : hasN (betweenN s (t : Int)) m
  · exfalso
    have : freeB (putN occ m) s (t : Int) = true := by
      rw [free_iff]
      intro u hu
      rw [putN_testBit, h2 u hu, Bool.false_or]
      cases hs : sq m
      · rfl
      · cases hd : decide (m = (u : Int))
        · rfl
        · have e := of_decide_eq_true hd
          rw [e, hasN_nat _ _ (bit_lt (betweenN_lt _ _) hu), hu] at hb
          cases hb
    rw [this] at h3; cases h3
  · rfl
theorem less_lt (s m : Int) (occ : Nat) : queenN s occ ^^^ (queenN s occ &&& queenN s (putN occ m)) < W64 := Nat.xor_lt_two_pow (n := 64) (queenN_lt _ _) (and_lt (queenN_lt _ _))

theorem seen_none (s d : Int) : seenN s d 0 = rayN s d := by
  apply Nat.eq_of_testBit_eq
  intro i
  rw [seenN_testBit, free_zero, Bool.and_true]
theorem seen_part (s d : Int) (occ : Nat) : seenN s d occ ^^^ (seenN s d occ &&& rayN s d) = 0 := by
  rw [andNot_zero]
  intro i hi
  rw [seenN_testBit, Bool.and_eq_true] at hi
  exact hi.1
def kingB (s i : Nat) : Bool :=
  ((kingT s).testBit i == (lineT s i != 0 && betweenT s i == 0)) && (lineT s i == 0 || (kingT s).testBit i || (betweenT s i &&& kingT s) != 0)
theorem kingB_all : ∀ s, s < 64 → ∀ i, i < 64 → kingB s i = true := by decide +kernel
/-- Whatever is occupied, if the squares next to it are. -/
theorem queen_king (s : Int) (occ : Nat) (h : ∀ t, (kingN s).testBit t = true → occ.testBit t = true) : queenN s occ = kingN s := by
  apply eq_of_bits (queenN_lt _ _) (kingN_lt _)
  intro i hi
  rw [queen_testBit _ _ _ hi]
  cases hs : sq s
  · rw [lineN_no (by rw [hs]; rfl), kingN_no hs, Nat.zero_testBit]; rfl
  · obtain ⟨n, hn, rfl⟩ := nat_of_sq hs
    have hk := kingB_all n hn i hi
    rw [kingB, Bool.and_eq_true, beq_iff_eq] at hk
    obtain ⟨k1, k2⟩ := hk
    rw [kingN_nat hn] at h ⊢
    rw [lineN_nat hn hi, freeB, betweenN_nat hn hi]
    by_cases hl : lineT n i = 0
    · rw [k1, hl]; rfl
    · cases hb : (kingT n).testBit i
      · rw [hb] at k2
        have hl' : (lineT n i == 0) = false := by simpa using hl
        rw [hl', Bool.false_or, Bool.false_or, bne_iff_ne] at k2
        have : (betweenT n i &&& occ == 0) = false := by
          rw [beq_eq_false_iff_ne]
          intro e
          apply k2
          apply Nat.eq_of_testBit_eq
          intro t
          rw [Nat.testBit_and, Nat.zero_testBit]
          cases hk : (kingT n).testBit t
          · rw [Bool.and_false]
          · have e2 := congrArg (Nat.testBit · t) e
            simp only [Nat.testBit_and, h t hk, Bool.and_true, Nat.zero_testBit] at e2
            rw [e2]; rfl
        rw [this, Bool.and_false]
      · rw [hb] at k1
        have k3 := k1.symm
        rw [Bool.and_eq_true, beq_iff_eq] at k3
        rw [k3.2, Nat.zero_and]
        simp [hl]
theorem full_bits : ∀ i, i < 64 → (18446744073709551615 : Nat).testBit i = true := by decide
theorem queen_next (s : Int) (occ : Nat) : queenN s (occ ||| kingN s) = kingN s := queen_king s _ fun t ht => by rw [Nat.testBit_or, ht, Bool.or_true]
theorem queen_full (s : Int) : queenN s 18446744073709551615 = kingN s := queen_king s _ fun t ht => full_bits t (bit_lt (kingN_lt s) ht)

/-! P4.2. -/
def partsB (s : Nat) : Bool :=
  ((raysN (s : Int) rookDs &&& raysN (s : Int) bishDs) == 0) && !(raysN (s : Int) queenDs).testBit s &&
  (List.range 64).all fun t => (!(raysN (s : Int) rookDs).testBit t || (fileZ (t : Int) == fileZ (s : Int) || rankZ (t : Int) == rankZ (s : Int))) &&
    (!(raysN (s : Int) bishDs).testBit t || ((((fileZ (t : Int) + rankZ (t : Int)) + fileZ (s : Int)) + rankZ (s : Int)) % 2 == 0))
theorem partsB_all : ∀ s, s < 64 → partsB s = true := by decide +kernel
theorem parts_none (s : Int) (occ : Nat) : rookN s occ &&& bishN s occ = 0 := by
  apply Nat.eq_of_testBit_eq
  intro i
  rw [Nat.testBit_and, rookN, bishN, seenAll_testBit, seenAll_testBit, Nat.zero_testBit]
  cases hs : sq s
  · rw [raysN_no hs, raysN_no hs, Nat.zero_testBit]; rfl
  · obtain ⟨n, hn, rfl⟩ := nat_of_sq hs
    have := partsB_all n hn
    simp only [partsB, Bool.and_eq_true, beq_iff_eq] at this
    have e := congrArg (Nat.testBit · i) this.1.1
    simp only [Nat.testBit_and, Nat.zero_testBit] at e
    cases h1 : (raysN (n : Int) rookDs).testBit i
    · rfl
    · rw [h1, Bool.true_and] at e; rw [e]; simp
theorem parts_own (s : Int) (occ : Nat) : hasN (queenN s occ) s = false := by
  cases hs : sq s
  · exact hasN_no hs
  · obtain ⟨n, hn, rfl⟩ := nat_of_sq hs
    have := partsB_all n hn
    simp only [partsB, Bool.and_eq_true, Bool.not_eq_true'] at this
    rw [queenN, has_seenAll, hasN_nat _ _ hn, this.1.2]; rfl
theorem parts_rook {s : Int} {occ t : Nat} (h : (rookN s occ).testBit t = true) : fileZ (t : Int) = fileZ s ∨ rankZ (t : Int) = rankZ s := by
  have hlt := bit_lt (rookN_lt _ _) h
  rw [rookN, seenAll_testBit, Bool.and_eq_true] at h
  cases hs : sq s
  · rw [raysN_no hs, Nat.zero_testBit] at h; cases h.1
  · obtain ⟨n, hn, rfl⟩ := nat_of_sq hs
    have := partsB_all n hn
    simp only [partsB, Bool.and_eq_true] at this
    have := List.all_eq_true.1 this.2 t (List.mem_range.2 hlt)
    simp only [h.1, Bool.not_true, Bool.false_or, Bool.and_eq_true, Bool.or_eq_true, beq_iff_eq] at this
    exact this.1
theorem parts_bish {s : Int} {occ t : Nat} (h : (bishN s occ).testBit t = true) : (((fileZ (t : Int) + rankZ (t : Int)) + fileZ s) + rankZ s) % 2 = 0 := by
  have hlt := bit_lt (bishN_lt _ _) h
  rw [bishN, seenAll_testBit, Bool.and_eq_true] at h
  cases hs : sq s
  · rw [raysN_no hs, Nat.zero_testBit] at h; cases h.1
  · obtain ⟨n, hn, rfl⟩ := nat_of_sq hs
    have := partsB_all n hn
    simp only [partsB, Bool.and_eq_true] at this
    have := List.all_eq_true.1 this.2 t (List.mem_range.2 hlt)
    simp only [h.1, Bool.not_true, Bool.false_or, Bool.and_eq_true, beq_iff_eq] at this
    exact this.2

/-! P4.5. -/
theorem flip_and (a b : Nat) : flipN (a &&& b) = flipN a &&& flipN b := by
  apply eq_of_bits (flipN_lt _) (and_lt (flipN_lt _))
  intro i hi
  rw [Nat.testBit_and, flipN_testBit _ i hi, flipN_testBit _ i hi, flipN_testBit _ i hi, Nat.testBit_and]
theorem flip_eq_zero {a : Nat} (ha : a < W64) : (flipN a == 0) = (a == 0) := by
  rw [Bool.eq_iff_iff, beq_iff_eq, beq_iff_eq]
  constructor
  · intro h; rw [← flip_flip ha, h, flip_zero]
  · rintro rfl; exact flip_zero
theorem free_flip (a b : Int) (occ : Nat) : freeB (flipN occ) (flipZ a) (flipZ b) = freeB occ a b := by
  unfold freeB
  rw [← (flipped2 a b).1, ← flip_and, flip_eq_zero]
  rw [Nat.and_comm]; exact and_lt (betweenN_lt a b)
def flipRB (s : Nat) : Bool := flipF (raysN (s : Int) rookDs) == raysN (flT s : Int) rookDs && flipF (raysN (s : Int) bishDs) == raysN (flT s : Int) bishDs
theorem flipRB_all : ∀ s, s < 64 → flipRB s = true := by decide +kernel
theorem flip_rays (s : Int) : flipN (raysN s rookDs) = raysN (flipZ s) rookDs ∧ flipN (raysN s bishDs) = raysN (flipZ s) bishDs := by
  cases hs : sq s
  · rw [raysN_no hs, raysN_no hs, raysN_no (flipZ_off hs), raysN_no (flipZ_off hs), flip_zero]; exact ⟨rfl, rfl⟩
  · obtain ⟨n, hn, rfl⟩ := nat_of_sq hs
    have := flipRB_all n hn
    simp only [flipRB, Bool.and_eq_true, beq_iff_eq, flipF_eq] at this
    rw [flipZ_nat hn]; exact this
theorem flip_all (s : Int) (occ : Nat) (l : List Int) (h : flipN (raysN s l) = raysN (flipZ s) l) : flipN (seenAll s occ l) = seenAll (flipZ s) (flipN occ) l := by
  apply eq_of_bits (flipN_lt _) (seenAll_lt _ _ _)
  intro i hi
  have hf := flT_lt hi
  have e : (flipS (i : Int)).toNat = flT i := by unfold flipS flT; omega
  have e2 : ((i : Nat) : Int) = flipZ (flT i : Int) := by rw [flipZ_nat hf]; unfold flT; omega
  rw [flipN_testBit _ i hi, e, seenAll_testBit, seenAll_testBit, ← h, flipN_testBit _ i hi, e, e2, free_flip]
theorem flip_rook (s : Int) (occ : Nat) : flipN (rookN s occ) = rookN (flipZ s) (flipN occ) := flip_all s occ _ (flip_rays s).1
theorem flip_bish (s : Int) (occ : Nat) : flipN (bishN s occ) = bishN (flipZ s) (flipN occ) := flip_all s occ _ (flip_rays s).2

/-! The end of what is seen. -/
def nextB (s d k : Nat) : Bool :=
  (shiftN (passN (s : Int) (d : Int) k) (d : Int) ^^^ (shiftN (passN (s : Int) (d : Int) k) (d : Int) &&& passN (s : Int) (d : Int) k)) == (if k = 0 then 0 else onlyN (goN (s : Int) (d : Int) (k + 1)))
theorem nextB_all : ∀ s, s < 64 → ∀ d, d < 8 → ∀ k, k < 9 → nextB s d k = true := by decide +kernel
theorem pass_out {s d : Int} (h : (sq s && dirB d) = false) (k : Nat) : passN s d k = 0 := by
  have := (pass_off (s := s) (d := d) (k := 0) (by rw [go_out h]; rfl) k).1
  rwa [show 0 + k = k by omega] at this
theorem next_pass (s : Int) (d : Nat) (hd : d < 8) (k : Nat) (hk : k < 9) (hon : sq (goN s (d : Int) 1) = true ∨ k = 0) :
    shiftN (passN s (d : Int) k) (d : Int) ^^^ (shiftN (passN s (d : Int) k) (d : Int) &&& passN s (d : Int) k) = if k = 0 then 0 else onlyN (goN s (d : Int) (k + 1)) := by
  cases hs : sq s
  · rw [pass_out (by rw [hs]; rfl), shift_zero]
    rcases hon with h | h
    · have := (go_in (k := 0) h).1; rw [hs] at this; cases this
    · rw [if_pos h]; rfl
  · obtain ⟨n, hn, rfl⟩ := nat_of_sq hs
    have := nextB_all n hn d hd k hk
    rwa [nextB, beq_iff_eq] at this
theorem pass_clear {s d : Int} {occ k : Nat} (h : ∀ j, j < k → hasN occ (goN s d (j + 1)) = false) : passN s d k &&& occ = 0 := by
  apply Nat.eq_of_testBit_eq
  intro i
  rw [Nat.testBit_and, Nat.zero_testBit]
  cases hp : (passN s d k).testBit i
  · rfl
  · rw [pass_testBit, decide_eq_true_eq] at hp
    obtain ⟨j, hj, h1, h2⟩ := hp
    have := h j hj
    rw [has_nat_of h1, h2] at this
    simpa using this
theorem only_has {occ : Nat} {t : Int} (h : hasN occ t = true) : onlyN t &&& occ = onlyN t := by
  apply Nat.eq_of_testBit_eq
  intro i
  rw [Nat.testBit_and, onlyN_testBit]
  cases hd : decide (t = (i : Int))
  · simp
  · have e := of_decide_eq_true hd
    have hs : sq t = true := by
      cases hs : sq t
      · rw [hasN_no hs] at h; cases h
      · rfl
    rw [has_nat_of hs, e] at h
    have h' : occ.testBit i = true := by simpa using h
    rw [h', Bool.and_true]
theorem seen_end (s : Int) (d : Nat) (hd : d < 8) (occ : Nat) :
    ((seenN s (d : Int) occ &&& occ = 0) ∧ shiftN (seenN s (d : Int) occ) (d : Int) ^^^ (shiftN (seenN s (d : Int) occ) (d : Int) &&& seenN s (d : Int) occ) = 0) ∨
    ((seenN s (d : Int) occ &&& occ ≠ 0) ∧ (listN (seenN s (d : Int) occ &&& occ)).length = 1 ∧
      shiftN (seenN s (d : Int) occ) (d : Int) ^^^ (shiftN (seenN s (d : Int) occ) (d : Int) &&& seenN s (d : Int) occ) = shiftN (seenN s (d : Int) occ &&& occ) (d : Int)) := by
  obtain ⟨k, hk, hc, h | h⟩ := seen_stop s (d : Int) occ
  · refine .inl ?_
    rw [h.2]
    refine ⟨pass_clear fun j hj => (hc j hj).2, ?_⟩
    by_cases k0 : k = 0
    · rw [next_pass s d hd k (by omega) (.inr k0), if_pos k0]
    · rw [next_pass s d hd k (by omega) (.inl (hc 0 (by omega)).1), if_neg k0, only_no h.1]
  · refine .inr ?_
    rw [h.2.2]
    have e : passN s (d : Int) (k + 1) &&& occ = onlyN (goN s (d : Int) (k + 1)) := by
      show (passN s (d : Int) k ||| onlyN (goN s (d : Int) (k + 1))) &&& occ = _
      rw [Nat.and_or_distrib_right, pass_clear fun j hj => (hc j hj).2, Nat.zero_or, only_has h.2.1]
    have h0 : sq (goN s (d : Int) 1) = true := by
      by_cases k0 : k = 0
      · subst k0; exact h.1
      · exact (hc 0 (by omega)).1
    rw [e, next_pass s d hd (k + 1) (by omega) (.inl h0), if_neg (by omega), shift_only]
    refine ⟨fun z => ?_, ?_, rfl⟩
    · rw [onlyN_zero, h.1] at z; cases z
    · obtain ⟨n, hn, en⟩ := nat_of_sq h.1
      rw [en, only_nat hn, list_one n hn]; rfl
end Go.Proofs.YtigkbccpkepdmaaGreatDoor
