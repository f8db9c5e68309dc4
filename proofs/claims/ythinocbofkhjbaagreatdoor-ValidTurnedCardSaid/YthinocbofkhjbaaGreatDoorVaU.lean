/-
  A position turned about step by step, as ValidTurned's loops do it. Plain mathematics of layer 12.
-/
import Derived.Test.YthinocbofkhjbaaGreatDoorVaT
namespace Go.Proofs.YthinocbofkhjbaaGreatDoor
open Go.RowKit
set_option linter.unusedVariables false
set_option linter.unusedSimpArgs false

theorem vrow_eq {w : World} {b : Nat} {p q : Nat → Int} (h : Row w b p) (e : posA p = posA q) : Row w b q := by unfold Row at *; rw [h, e]
/-- Squares a below k have come to their place. -/
def txP (p : Nat → Int) (k : Nat) : Nat → Int := fun j => if 1 ≤ j ∧ j ≤ 64 ∧ flT (j - 1) < k then txX (p (1 + flT (j - 1))) else p j
theorem txP_at (p : Nat → Int) (k : Nat) {i : Nat} (hi : i < 64) : txP p k (1 + i) = if flT i < k then txX (p (1 + flT i)) else p (1 + i) := by
  unfold txP
  rw [show 1 + i - 1 = i by omega]
  by_cases h : flT i < k
  · rw [if_pos ⟨by omega, by omega, h⟩, if_pos h]
  · rw [if_neg (fun g => h g.2.2), if_neg h]
theorem txP_off (p : Nat → Int) (k : Nat) {j : Nat} (hj : j = 0 ∨ 64 < j) : txP p k j = p j := by unfold txP; rw [if_neg (by omega)]
theorem txP_zero (p : Nat → Int) : posA p = posA (txP p 0) := posA_ext fun j hj => by unfold txP; rw [if_neg (by omega)]
theorem txP_succ (p : Nat → Int) {k : Nat} (hk : k < 64) {x : Int} (hx : txX (p (1 + k)) = x) : posA (upd (txP p k) (1 + flT k) x) = posA (txP p (k + 1)) := posA_ext fun j hj => by
  subst hx
  by_cases e : j = 1 + flT k
  · subst e; rw [upd_same, txP_at _ _ (flT_lt hk), fl_fl k hk, if_pos (by omega)]
  · rw [upd_other _ _ _ _ e]
    by_cases h : 1 ≤ j ∧ j ≤ 64
    · obtain ⟨i, rfl⟩ : ∃ i, j = 1 + i := ⟨j - 1, by omega⟩
      rw [txP_at _ _ (by omega), txP_at _ _ (by omega)]
      have hne : flT i ≠ k := fun g => e (by rw [← g, fl_fl i (by omega)])
      by_cases g : flT i < k
      · rw [if_pos g, if_pos (by omega)]
      · rw [if_neg g, if_neg (by omega)]
    · rw [txP_off _ _ (by omega), txP_off _ _ (by omega)]
/-- What has been turned about is that of S. -/
def doneP (S : Nat → Bool) (p : Nat → Int) : Nat → Int := fun j => if S j = true then vtP p j else p j
def dn0 (j : Nat) : Bool := decide (1 ≤ j) && decide (j ≤ 64)
theorem done_bd (p : Nat → Int) : posA (txP p 64) = posA (doneP dn0 p) := posA_ext fun j hj => by
  unfold doneP dn0
  by_cases h : 1 ≤ j ∧ j ≤ 64
  · rw [if_pos (by simp [h.1, h.2])]
    obtain ⟨i, rfl⟩ : ∃ i, j = 1 + i := ⟨j - 1, by omega⟩
    rw [txP_at _ _ (by omega), if_pos (flT_lt (by omega)), vt_bd p (by omega)]
  · rw [if_neg (by simp; omega), txP_off _ _ (by omega)]
theorem done_upd (S : Nat → Bool) (p : Nat → Int) (i : Nat) {x : Int} (hx : vtP p i = x) : posA (upd (doneP S p) i x) = posA (doneP (fun j => S j || j == i) p) := posA_ext fun j hj => by
  subst hx
  by_cases e : j = i
  · subst e; rw [upd_same]; unfold doneP; rw [if_pos (by simp)]
  · rw [upd_other _ _ _ _ e]; unfold doneP
    have : (j == i) = false := by simpa using e
    simp only [this, Bool.or_false]
theorem done_over (S : Nat → Bool) (p : Nat → Int) (o n : Nat) : posA (over (doneP S p) o n (vtP p)) = posA (doneP (fun j => S j || (decide (o ≤ j) && decide (j < o + n))) p) := posA_ext fun j hj => by
  unfold over
  by_cases e : o ≤ j ∧ j < o + n
  · rw [if_pos e]; unfold doneP; rw [if_pos (by simp [e.1, e.2])]
  · rw [if_neg e]; unfold doneP
    have : (decide (o ≤ j) && decide (j < o + n)) = false := by rw [← Bool.decide_and]; exact decide_eq_false e
    simp only [this, Bool.or_false]
def dn1 (j : Nat) : Bool := ((((dn0 j || j == 78) || (decide (79 ≤ j) && decide (j < 79 + 4))) || (decide (84 ≤ j) && decide (j < 84 + 2))) || (decide (66 ≤ j) && decide (j < 66 + 12)))
/-- All but the marks. -/
def midP (p : Nat → Int) : Nat → Int := fun j => if j = 65 then p 65 else vtP p j
theorem mid_yes (p : Nat → Int) {x : Int} (hx : vtP p 83 = x) : posA (upd (doneP dn1 p) 83 x) = posA (midP p) := by
  rw [done_upd dn1 p 83 hx]
  refine posA_ext fun j hj => ?_
  unfold doneP midP dn1 dn0
  by_cases h : j = 0 ∨ j = 65 ∨ j = 86 ∨ j = 87
  · rcases h with rfl | rfl | rfl | rfl <;> rfl
  · rw [if_neg (show ¬ j = 65 by omega), if_pos (by simp; omega)]
theorem mid_no (p : Nat → Int) (hx : vtP p 83 = p 83) : posA (doneP dn1 p) = posA (midP p) := by
  refine posA_ext fun j hj => ?_
  unfold doneP midP dn1 dn0
  by_cases h : j = 0 ∨ j = 65 ∨ j = 86 ∨ j = 87
  · rcases h with rfl | rfl | rfl | rfl <;> rfl
  · by_cases g : j = 83
    · subst g; exact hx.symm
    · rw [if_neg (show ¬ j = 65 by omega), if_pos (by simp; omega)]
/-- The marks of r ranks have come. -/
def prR (n r : Nat) : Nat := flipN (n % 2 ^ (8 * r))
theorem prR_lt (n r : Nat) : prR n r < W64 := flipN_lt _
theorem prR_zero (n : Nat) : prR n 0 = 0 := by
  unfold prR
  rw [show 2 ^ (8 * 0) = 1 from rfl, Nat.mod_one, flip_zero]
theorem prR_full {n : Nat} (hn : n < W64) : prR n 8 = flipN n := by
  unfold prR
  rw [show 2 ^ (8 * 8) = W64 from rfl, Nat.mod_eq_of_lt hn]
theorem and_255 {a i : Nat} : (a &&& 255).testBit i = (a.testBit i && decide (i < 8)) := by
  rw [Nat.testBit_and, show 255 = 2 ^ 8 - 1 from rfl, Nat.testBit_two_pow_sub_one]
theorem vpr_one_lt {n r : Nat} (hr : r < 8) : (n / 2 ^ (8 * r) &&& 255) * 2 ^ (56 - 8 * r) < W64 := by
  have h1 : n / 2 ^ (8 * r) &&& 255 < 256 := Nat.lt_of_le_of_lt Nat.and_le_right (by decide)
  have h2 : (2 : Nat) ^ (56 - 8 * r) ≤ 2 ^ 56 := Nat.pow_le_pow_right (by decide) (by omega)
  have : (n / 2 ^ (8 * r) &&& 255) * 2 ^ (56 - 8 * r) < 256 * 2 ^ 56 := Nat.lt_of_lt_of_le (Nat.mul_lt_mul_of_pos_right h1 (Nat.pow_pos (by decide))) (Nat.mul_le_mul_left _ h2)
  rw [W64_eq]; exact Nat.lt_of_lt_of_le this (by decide)
theorem prR_succ {n r : Nat} (hr : r < 8) : prR n r ||| ((n / 2 ^ (8 * r) &&& 255) * 2 ^ (56 - 8 * r)) = prR n (r + 1) := by
  apply eq_of_bits (or_lt (prR_lt _ _) (vpr_one_lt hr)) (prR_lt _ _)
  intro i hi
  unfold prR
  have e : (n / 2 ^ (8 * r) &&& 255) * 2 ^ (56 - 8 * r) = (n / 2 ^ (8 * r) &&& 255) <<< (56 - 8 * r) := by rw [Nat.shiftLeft_eq]
  rw [Nat.testBit_or, flip_bit _ hi, flip_bit _ hi, Nat.testBit_mod_two_pow, Nat.testBit_mod_two_pow, e, Nat.testBit_shiftLeft, and_255, Nat.testBit_div_two_pow]
  by_cases h : i / 8 = 7 - r
  · have h1 : flT i = 8 * r + (i - (56 - 8 * r)) := by unfold flT; omega
    have h2 : ¬ flT i < 8 * r := by omega
    have h3 : flT i < 8 * (r + 1) := by unfold flT; omega
    have h4 : i ≥ 56 - 8 * r := by omega
    have h5 : i - (56 - 8 * r) < 8 := by omega
    rw [decide_eq_false h2, decide_eq_true h3, decide_eq_true h4, decide_eq_true h5, Bool.false_and, Bool.false_or, Bool.true_and, Bool.true_and, Bool.and_true, h1, Nat.add_comm (8 * r)]
  · by_cases g : flT i < 8 * r
    · have h3 : flT i < 8 * (r + 1) := by omega
      have h5 : ¬ i - (56 - 8 * r) < 8 := by unfold flT at g; omega
      rw [decide_eq_true g, decide_eq_true h3, decide_eq_false h5, Bool.true_and, Bool.and_false, Bool.and_false, Bool.or_false]
    · have h3 : ¬ flT i < 8 * (r + 1) := by unfold flT at g ⊢; omega
      have h4 : ¬ i ≥ 56 - 8 * r := by unfold flT at g; omega
      rw [decide_eq_false g, decide_eq_false h3, decide_eq_false h4]; simp
theorem vpr_done (p : Nat → Int) {n : Nat} (hn : n < W64) (h : p 65 = (n : Int)) : posA (upd (midP p) 65 ((prR n 8 : Nat) : Int)) = posA (vtP p) := posA_ext fun j hj => by
  by_cases e : j = 65
  · subst e; rw [upd_same, vt_65, h, Int.toNat_natCast, prR_full hn]
  · rw [upd_other _ _ _ _ e]; unfold midP; rw [if_neg e]
theorem vpr_begin (p : Nat → Int) (n : Nat) : posA (upd (midP p) 65 0) = posA (upd (midP p) 65 ((prR n 0 : Nat) : Int)) := by rw [prR_zero]; rfl
theorem vpr_begin_no (p : Nat → Int) (n : Nat) (hx : vtP p 83 = p 83) : posA (upd (doneP dn1 p) 65 0) = posA (upd (midP p) 65 ((prR n 0 : Nat) : Int)) := by
  rw [prR_zero]
  refine posA_ext fun j hj => ?_
  by_cases e : j = 65
  · subst e; rw [upd_same, upd_same]; rfl
  · rw [upd_other _ _ _ _ e, upd_other _ _ _ _ e]
    unfold doneP midP dn1 dn0
    by_cases h : j = 0 ∨ j = 86 ∨ j = 87
    · rcases h with rfl | rfl | rfl <;> rfl
    · by_cases g : j = 83
      · subst g; exact hx.symm
      · rw [if_neg (show ¬ j = 65 by omega), if_pos (by simp; omega)]
theorem vpr_next (p : Nat → Int) (x y : Int) : posA (upd (upd (midP p) 65 x) 65 y) = posA (upd (midP p) 65 y) := posA_ext fun j hj => by
  by_cases e : j = 65
  · subst e; rw [upd_same, upd_same]
  · rw [upd_other _ _ _ _ e, upd_other _ _ _ _ e, upd_other _ _ _ _ e]
theorem wrap_u64_nat {n : Nat} (h : n < W64) : IntKind.u64.wrap (n : Int) = (n : Int) := by rw [IntKind.wrap_u64]; unfold W64 at h; omega
theorem bx8_all : ∀ a : Nat, a < 64 → bits .xor .i8 (a : Int) 56 = ((flT a : Nat) : Int) := by decide +kernel
theorem u8_all : ∀ r : Nat, r < 8 → IntKind.u64.wrap (8 * (r : Int)) = ((8 * r : Nat) : Int) ∧ IntKind.u64.wrap (56 - ((8 * r : Nat) : Int)) = ((56 - 8 * r : Nat) : Int) := by decide +kernel
theorem vt_pass_no {p : Nat → Int} (h : ¬(0 ≤ p 83 ∧ p 83 < 64)) : vtP p 83 = p 83 := by rw [vt_83, tp_off h]
theorem vt_pass_yes {p : Nat → Int} {s : Nat} (hs : p 83 = (s : Int)) (h : s < 64) : vtP p 83 = bits .xor .i8 (s : Int) 56 := by rw [vt_83, hs, tp_nat h, bx8_all s h]
end Go.Proofs.YthinocbofkhjbaaGreatDoor
