/-
  What follows in layer 8, as plain mathematics: bits asked for by shifts; nothing attacks its own square; both ways; with a piece more less is seen.
-/
import Derived.Test.YtlhepfighelijaaDoorAtAwake
import Derived.IntWalk
namespace Go.Proofs.YtlhepfighelijaaDoor
open Go.RowKit
set_option linter.unusedVariables false
set_option linter.unusedSimpArgs false

theorem sq64 (a : Int) : ∃ n : Nat, n < 64 ∧ wrap64 ((IntKind.u64.wrap a).tmod 64) = (n : Int) := by
  have h0 : 0 ≤ IntKind.u64.wrap a := by rw [IntKind.wrap_u64]; omega
  refine ⟨(IntKind.u64.wrap a % 64).toNat, by omega, ?_⟩
  rw [Int.tmod_eq_emod_of_nonneg h0, IntWalk.wrap64_in _ ⟨by omega, by omega⟩]
  omega
theorem pow_lt64 {k : Nat} (h : k < 64) : 2 ^ k < W64 := by rw [W64_eq]; exact Nat.pow_lt_pow_right (by decide) h
theorem and_pow (n k : Nat) : (n &&& 2 ^ k != 0) = n.testBit k := by
  cases h : n.testBit k
  · have : n &&& 2 ^ k = 0 := by
      apply Nat.eq_of_testBit_eq; intro i
      rw [Nat.testBit_and, Nat.testBit_two_pow, Nat.zero_testBit]
      by_cases e : k = i
      · subst e; rw [h]; rfl
      · simp [e]
    rw [this]; rfl
  · rw [bne_iff_ne]; intro e
    have := congrArg (Nat.testBit · k) e
    simp only [Nat.testBit_and, Nat.testBit_two_pow, Nat.zero_testBit, h] at this
    simp at this
theorem bit_and {n k : Nat} (hn : n < W64) (hk : k < 64) : (bits .and .u64 (n : Int) (IntKind.u64.wrap (2 ^ k)) != 0) = n.testBit k := by
  rw [wrap_pow k hk, and_nat hn (pow_lt64 hk), bne_nat, and_pow]
theorem bit_none {n k : Nat} (hn : n < W64) (hk : k < 64) (h : n.testBit k = false) : bits .and .u64 (n : Int) (IntKind.u64.wrap (2 ^ k)) = 0 := by
  have := bit_and hn hk
  rw [h] at this
  simpa using this
theorem from_own (p : Nat → Int) {a : Nat} (ha : a < 64) : (fromN p (a : Int)).testBit a = false := by
  rw [from_geo p ha ha]
  have e1 : upZ a a = 0 := by unfold upZ; omega
  have e2 : offZ a a = 0 := by unfold offZ; omega
  simp only [e1, e2, strB, acrB, besB, absZ]
  repeat' split
  all_goals simp_all
theorem from_pc (p : Nat → Int) {a b : Nat} (ha : a < 64) (h : (fromN p (a : Int)).testBit b = true) : pcB (p (1 + a)) = true := by
  cases hp : pcB (p (1 + a))
  · unfold fromN at h
    rw [kind_at p ha, kndZ_no hp] at h
    simp [atkN] at h
  · rfl
/-- Of what is nothing, or a piece. -/
theorem law_of {x c : Int} (h : x = 0 ∨ pcB x = true) : ofB c 0 x = ((x / 8 == c) && (x != 0)) := by
  rw [ofB_all]
  rcases h with rfl | h
  · simp [pcB]
  · have : (x != 0) = true := by rw [bne_iff_ne]; rw [pcB_true] at h; omega
    rw [colZ_yes h, h, this, Bool.and_true]; rfl
/-! A piece more. -/
theorem atk_less (c : Int) (k : Nat) (a : Int) {o o' : Nat} (h : ∀ t, o.testBit t = true → o'.testBit t = true) (i : Nat) (hi : (atkN c k a o').testBit i = true) : (atkN c k a o).testBit i = true := by
  have hf : ∀ l, (seenAll a o' l).testBit i = true → (seenAll a o l).testBit i = true := fun l hl => by
    rw [seenAll_testBit, Bool.and_eq_true] at hl ⊢
    refine ⟨hl.1, free_iff.2 fun t ht => ?_⟩
    have := free_iff.1 hl.2 t ht
    cases e : o.testBit t
    · rfl
    · rw [h t e] at this; cases this
  unfold atkN at hi ⊢
  split at hi; { simp_all }
  split at hi; { simp_all }
  split at hi; { rename_i h1 h2 h3; rw [if_neg h1, if_neg h2, if_pos h3]; exact hf _ hi }
  split at hi; { rename_i h1 h2 h3 h4; rw [if_neg h1, if_neg h2, if_neg h3, if_pos h4]; exact hf _ hi }
  split at hi; { rename_i h1 h2 h3 h4 h5; rw [if_neg h1, if_neg h2, if_neg h3, if_neg h4, if_pos h5]; exact hf _ hi }
  split at hi; { simp_all }
  simp at hi
theorem from_less (p : Nat → Int) {s a : Nat} (hs : s < 64) (ha : a < 64) (hne : a ≠ s) (h0 : p (1 + s) = 0) (y : Int) : fromN (upd p (1 + s) y) (a : Int) ^^^ (fromN (upd p (1 + s) y) (a : Int) &&& fromN p (a : Int)) = 0 := by
  rw [andNot_zero]
  intro i hi
  have e : atZ (upd p (1 + s) y) (a : Int) = atZ p (a : Int) := by rw [atZ_nat _ ha, atZ_nat _ ha, upd_other _ _ _ _ (by omega)]
  unfold fromN at hi ⊢
  rw [e] at hi
  refine atk_less _ _ _ ?_ i hi
  intro t ht
  by_cases h64 : t < 64
  · rw [occN_testBit _ _ h64] at ht ⊢
    by_cases e : t = s
    · subst e; rw [h0] at ht; cases ht
    · rw [upd_other _ _ _ _ (by omega)]; exact ht
  · rw [testBit_high (occN_lt p) (by omega)] at ht; cases ht
theorem chk_some (p : Nat → Int) : chkB p (p 78) = (chksN p != 0) := by
  unfold chksN
  cases h : chkB p (p 78)
  · rfl
  · rw [if_pos rfl]
    unfold chkB at h
    simp only [Bool.and_eq_true] at h
    exact h.2.2.symm
theorem chk_nat (p : Nat → Int) (t : Int) (ht : p 78 = t) : chkB p t = (((chksN p : Nat) : Int) != 0) := by rw [bne_nat, ← chk_some, ht]
theorem chks_lt (p : Nat → Int) : chksN p < W64 := by unfold chksN; split; { exact byN_lt _ _ _ }; { decide }
/-- Who is told stands there, and is of the other color. -/
theorem chks_at {p : Nat → Int} {t : Int} (ht : p 78 = t) (h0 : 0 ≤ t) (h1 : t ≤ 1) {a : Nat} (ha : a < 64) (h : (chksN p).testBit a = true) : p (1 + a) ≠ 0 ∧ p (1 + a) / 8 ≠ t := by
  unfold chksN at h
  split at h
  · rw [byN_testBit _ _ _ _ ha, Bool.and_eq_true, ofB_all, Bool.and_eq_true, beq_iff_eq, ht, oth_01 (by omega)] at h
    obtain ⟨⟨hp, hc⟩, _⟩ := h
    rw [colZ_yes hp] at hc
    rw [pcB_true] at hp
    omega
  · rw [Nat.zero_testBit] at h; cases h
theorem shr_bit {n a : Nat} (hn : n < W64) : (bits .and .u64 ((n : Int) / 2 ^ a) 1 == 1) = n.testBit a := by
  rw [cast_div_pow, show (1 : Int) = ((1 : Nat) : Int) from rfl, and_nat (Nat.lt_of_le_of_lt (Nat.div_le_self _ _) hn) (by decide)]
  rw [Nat.and_one_is_mod, Nat.testBit_eq_decide_div_mod_eq]
  rw [Bool.eq_iff_iff, beq_iff_eq, decide_eq_true_eq]; omega
theorem chk_anti (p : Nat → Int) (c : Int) : chkB (upd p 0 4) c = false := by
  unfold chkB
  rw [upd_same]
  have : ryB (4 : Int).toNat c.toNat = false := by
    show (Nat.blt 4 9 && Nat.blt c.toNat 2 && !Nat.beq 4 4 && _) = false
    simp
  rw [this]; rfl
theorem chks_anti (p : Nat → Int) : chksN (upd p 0 4) = 0 := by unfold chksN; rw [chk_anti]; rfl
def atoP : Nat → Int := upd (upd (upd (upd noneP 0 3) 28 6) 29 14) 4 13
theorem atoP_at : AtR atoP := (((none_atR.put 0 3 (by decide)).put 28 6 (by decide)).put 29 14 (by decide)).put 4 13 (by decide)
theorem ato_0 : chkB atoP 0 = false := by decide +kernel
theorem ato_1 : chkB atoP 1 = false := by decide +kernel
end Go.Proofs.YtlhepfighelijaaDoor
