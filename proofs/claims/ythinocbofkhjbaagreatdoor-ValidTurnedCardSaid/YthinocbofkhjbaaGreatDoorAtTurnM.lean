/-
  A position with colors and ranks turned about: what is attacked, who is in check. Plain mathematics.
-/
import Derived.Test.YthinocbofkhjbaaGreatDoorAtCheck
import Derived.Test.YthinocbofkhjbaaGreatDoorVaBaseA
import Derived.Test.YthinocbofkhjbaaGreatDoorSlLaw
namespace Go.Proofs.YthinocbofkhjbaaGreatDoor
open Go.RowKit
set_option linter.unusedVariables false
set_option linter.unusedSimpArgs false

theorem xor_fl : ∀ a, a < 64 → a ^^^ 56 = flT a := by decide
theorem fl_fl : ∀ a, a < 64 → flT (flT a) = a := by decide
theorem bx_fl : ∀ a : Nat, a < 64 → bits .xor .i64 (a : Int) 56 = ((flT a : Nat) : Int) := by decide +kernel
theorem flS {i : Nat} (hi : i < 64) : (flipS (i : Int)).toNat = flT i := by unfold flipS flT; omega
theorem flip_bit (b : Nat) {i : Nat} (hi : i < 64) : (flipN b).testBit i = b.testBit (flT i) := by rw [flipN_testBit _ i hi, flS hi]
theorem flip_bit' (b : Nat) {i : Nat} (hi : i < 64) : (flipN b).testBit (flT i) = b.testBit i := by rw [flip_bit b (flT_lt hi), fl_fl i hi]
/-- What stands there, of the other color. -/
def trnX (x : Int) : Int := if x = 0 then 0 else (x + 8) % 16
theorem trn_pc {x : Int} (h : x = 0 ∨ pcB x = true) : (trnX x = 0 ∨ pcB (trnX x) = true) ∧ pcB (trnX x) = pcB x ∧ kndZ (trnX x) = kndZ x ∧ (pcB x = true → colZ (trnX x) = 1 - colZ x) ∧ 0 ≤ trnX x ∧ trnX x ≤ 255 := by
  have key : ∀ k : Nat, k < 12 → (trnX (atP k) = 0 ∨ pcB (trnX (atP k)) = true) ∧ pcB (trnX (atP k)) = pcB (atP k) ∧ kndZ (trnX (atP k)) = kndZ (atP k) ∧ (pcB (atP k) = true → colZ (trnX (atP k)) = 1 - colZ (atP k)) ∧ 0 ≤ trnX (atP k) ∧ trnX (atP k) ≤ 255 := by decide
  rcases h with rfl | h
  · decide
  · obtain ⟨k, hk, rfl⟩ := pc_at h; exact key k hk
theorem trn_of {x c : Int} (h : x = 0 ∨ pcB x = true) (hc : 0 ≤ c) (hc1 : c ≤ 1) (k : Int) : ofB (1 - c) k (trnX x) = ofB c k x := by
  obtain ⟨_, h2, h3, h4, _⟩ := trn_pc h
  unfold ofB
  rw [h2, h3]
  cases hp : pcB x
  · rfl
  · rw [h4 hp]
    have hr := col_rng x
    have : ((1 - colZ x == 1 - c) : Bool) = (colZ x == c) := by rw [Bool.eq_iff_iff, beq_iff_eq, beq_iff_eq]; omega
    rw [this]
/-- Squares a below k have come to their place. -/
def turnP (p : Nat → Int) (k : Nat) : Nat → Int := fun j => if 1 ≤ j ∧ j ≤ 64 ∧ flT (j - 1) < k then trnX (p (1 + flT (j - 1))) else p j
theorem turn_at (p : Nat → Int) (k : Nat) {i : Nat} (hi : i < 64) : turnP p k (1 + i) = if flT i < k then trnX (p (1 + flT i)) else p (1 + i) := by
  unfold turnP
  rw [show 1 + i - 1 = i by omega]
  by_cases h : flT i < k
  · rw [if_pos ⟨by omega, by omega, h⟩, if_pos h]
  · rw [if_neg (fun g => h g.2.2), if_neg h]
theorem turn_off (p : Nat → Int) (k : Nat) {j : Nat} (hj : j = 0 ∨ 64 < j) : turnP p k j = p j := by unfold turnP; rw [if_neg (by omega)]
theorem turn_zero (p : Nat → Int) : posA (turnP p 0) = posA p := posA_ext fun j hj => by unfold turnP; rw [if_neg (by omega)]
theorem turn_succ (p : Nat → Int) {k : Nat} (hk : k < 64) : posA (upd (turnP p k) (1 + flT k) (trnX (p (1 + k)))) = posA (turnP p (k + 1)) := posA_ext fun j hj => by
  by_cases e : j = 1 + flT k
  · subst e; rw [upd_same, turn_at _ _ (flT_lt hk), fl_fl k hk, if_pos (by omega)]
  · rw [upd_other _ _ _ _ e]
    by_cases h : 1 ≤ j ∧ j ≤ 64
    · obtain ⟨i, rfl⟩ : ∃ i, j = 1 + i := ⟨j - 1, by omega⟩
      rw [turn_at _ _ (by omega), turn_at _ _ (by omega)]
      have hne : flT i ≠ k := fun g => e (by rw [← g, fl_fl i (by omega)])
      by_cases g : flT i < k
      · rw [if_pos g, if_pos (by omega)]
      · rw [if_neg g, if_neg (by omega)]
    · rw [turn_off _ _ (by omega), turn_off _ _ (by omega)]
/-- All turned about. -/
def allT (p : Nat → Int) : Nat → Int := upd (turnP p 64) 78 (1 - p 78)
theorem turned_at (p : Nat → Int) {i : Nat} (hi : i < 64) : allT p (1 + i) = trnX (p (1 + flT i)) := by
  unfold allT
  rw [upd_other _ _ _ _ (by omega), turn_at _ _ hi, if_pos (flT_lt hi)]
theorem all_var (p : Nat → Int) : allT p 0 = p 0 := by unfold allT; rw [upd_other _ _ _ _ (by omega), turn_off _ _ (by omega)]
theorem allT_at {p : Nat → Int} (hp : AtR p) (hl : lawB p 64 = true) (ht : p 78 ≤ 1) : AtR (allT p) := by
  refine ⟨fun i hi => ?_, by rw [all_var]; exact hp.var, ?_⟩
  · rw [turned_at p hi]; exact (trn_pc (lawB_at hl _ (flT_lt hi))).2.2.2.2
  · unfold allT; rw [upd_same]; have := hp.turn; omega
theorem all_of {p : Nat → Int} (hl : lawB p 64 = true) {c : Int} (hc : 0 ≤ c) (hc1 : c ≤ 1) (k : Int) : ofN (allT p) (1 - c) k = flipN (ofN p c k) := by
  apply eq_of_bits (ofN_lt _ _ _) (flipN_lt _)
  intro i hi
  rw [ofN_testBit _ _ _ _ hi, flip_bit _ hi, ofN_testBit _ _ _ _ (flT_lt hi), turned_at p hi, trn_of (lawB_at hl _ (flT_lt hi)) hc hc1]
theorem all_occ {p : Nat → Int} (hl : lawB p 64 = true) : occN (allT p) = flipN (occN p) := by
  apply eq_of_bits (occN_lt _) (flipN_lt _)
  intro i hi
  rw [occN_testBit _ _ hi, flip_bit _ hi, occN_testBit _ _ (flT_lt hi), turned_at p hi, (trn_pc (lawB_at hl _ (flT_lt hi))).2.1]
theorem flip_pawn (s : Int) : flipN (pawnN 1 s) = pawnN 0 (flipZ s) := by
  cases hs : sq s
  · rw [pawnN_no hs, pawnN_no (flipZ_off hs), flip_zero]
  · obtain ⟨n, hn, rfl⟩ := nat_of_sq hs
    have h := (flipped1 ((flT n : Nat) : Int) 0 (by decide)).2.2.1
    rw [flipZ_nat (flT_lt hn), fl_fl n hn] at h
    rw [← h, flipZ_nat hn, flip_flip (pawnN_lt _ _)]
theorem flip_queen (s : Int) (occ : Nat) : flipN (queenN s occ) = queenN (flipZ s) (flipN occ) := by
  rw [← queen_ref, ← queen_ref, ← flip_rook, ← flip_bish]
  apply eq_of_bits (flipN_lt _) (or_lt (flipN_lt _) (flipN_lt _))
  intro i hi
  rw [flip_bit _ hi, Nat.testBit_or, Nat.testBit_or, flip_bit _ hi, flip_bit _ hi]
theorem atk_flip {c : Int} (hc : 0 ≤ c) (hc1 : c ≤ 1) (k : Nat) (s : Int) (occ : Nat) : atkN (1 - c) k (flipZ s) (flipN occ) = flipN (atkN c k s occ) := by
  have f := flipped1 s 0 (by decide)
  unfold atkN
  split
  · have : c = 0 ∨ c = 1 := by omega
    rcases this with rfl | rfl
    · exact f.2.2.1.symm
    · exact (flip_pawn s).symm
  split; · exact f.2.1.symm
  split; · exact (flip_bish s occ).symm
  split; · exact (flip_rook s occ).symm
  split; · exact (flip_queen s occ).symm
  split; · exact f.1.symm
  exact flip_zero.symm
theorem from_turn {p : Nat → Int} (hl : lawB p 64 = true) {s : Nat} (hs : s < 64) : fromN (allT p) ((flT s : Nat) : Int) = flipN (fromN p (s : Int)) := by
  obtain ⟨_, _, h3, h4, _⟩ := trn_pc (lawB_at hl s hs)
  unfold fromN
  rw [kind_at _ (flT_lt hs), col_at _ (flT_lt hs), kind_at _ hs, col_at _ hs, turned_at p (flT_lt hs), fl_fl s hs, h3, all_occ hl, ← flipZ_nat hs]
  cases hp : pcB (p (1 + s))
  · rw [kndZ_no hp]; exact flip_zero.symm
  · have hc := colZ_yes hp
    rw [h4 hp]
    rw [pcB_true] at hp
    exact atk_flip (by omega) (by omega) _ _ _
theorem by_turn {p : Nat → Int} (hl : lawB p 64 = true) {k : Int} {c : Int} (hc : 0 ≤ c) (hc1 : c ≤ 1) : byN (allT p) (flipZ k) c = flipN (byN p k (1 - c)) := by
  apply eq_of_bits (byN_lt _ _ _) (flipN_lt _)
  intro i hi
  have hf := flT_lt hi
  have hx := lawB_at hl _ hf
  have e : oth (1 - c) = c := by rw [oth_01 (by omega)]; omega
  rw [byN_testBit _ _ _ _ hi, flip_bit _ hi, byN_testBit _ _ _ _ hf, turned_at p hi, all_occ hl, e, oth_01 (by omega)]
  have h1 : ofB c 0 (trnX (p (1 + flT i))) = ofB (1 - c) 0 (p (1 + flT i)) := by
    have := trn_of (c := 1 - c) hx (by omega) (by omega) 0
    rwa [show 1 - (1 - c) = c by omega] at this
  have h2 : kdN (allT p) i = kdN p (flT i) := by unfold kdN; rw [turned_at p hi, (trn_pc hx).2.2.1]
  rw [h1, h2, atk_flip hc hc1, flip_bit _ hi]
/-- How many of the first k squares are in the set. -/
def numN (b k : Nat) : Nat := (listTo b k).length
theorem num_yes {b k : Nat} (h : b.testBit k = true) : numN b (k + 1) = numN b k + 1 := by unfold numN; rw [listTo_yes h]; simp
theorem num_no {b k : Nat} (h : b.testBit k = false) : numN b (k + 1) = numN b k := by unfold numN; rw [listTo_no h]
theorem firstAtT {n j : Nat} (hn : n < W64) (hj : n.testBit j = true) (h : ∀ i, i < j → n.testBit i = false) : firstN n = (j : Int) := by
  have h0 : n ≠ 0 := by rintro rfl; rw [Nat.zero_testBit] at hj; cases hj
  obtain ⟨e, _, he, h1, h2⟩ := first_spec h0 hn
  have := h2 j hj
  have : ¬ e < j := fun g => by have := h e g; rw [h1] at this; cases this
  rw [he]; omega
theorem first_flip {b : Nat} (hb : b < W64) (h : numN b 64 ≤ 1) : firstN (flipN b) = flipZ (firstN b) := by
  by_cases h0 : b = 0
  · subst h0; rw [flip_zero, firstN_zero]; rfl
  · obtain ⟨e, he, h1, h2, h3⟩ := first_spec h0 hb
    rw [h1, flipZ_nat he]
    refine firstAtT (flipN_lt _) (by rw [flip_bit' _ he]; exact h2) fun i hi => ?_
    have hi64 : i < 64 := by have := flT_lt he; omega
    rw [flip_bit _ hi64]
    cases g : b.testBit (flT i)
    · rfl
    · exfalso
      have m1 : e ∈ listN b := mem_listN.2 ⟨he, h2⟩
      have m2 : flT i ∈ listN b := mem_listN.2 ⟨flT_lt hi64, g⟩
      have hne : e ≠ flT i := fun g => by rw [g, fl_fl i hi64] at hi; omega
      have hl : (listN b).length ≤ 1 := h
      cases hq : listN b with
      | nil => rw [hq] at m1; cases m1
      | cons x t =>
        rw [hq] at m1 m2 hl
        have : t = [] := by cases t; { rfl }; { simp at hl }
        subst this
        simp at m1 m2; omega
theorem ry_turn (v : Nat) (h : v ≠ 7) : ryB v 0 = ryB v 1 := by
  unfold ryB
  have : Nat.beq v 7 = false := by cases e : Nat.beq v 7; { rfl }; { exact absurd (Nat.eq_of_beq_eq_true e) h }
  rw [this, show Nat.blt 0 2 = true from rfl, show Nat.blt 1 2 = true from rfl]; simp
theorem chk_turn {p : Nat → Int} (hl : lawB p 64 = true) (hv : (p 0).toNat ≠ 7) {c : Int} (hc : c = 0 ∨ c = 1) (hn : numN (ofN p c 6) 64 ≤ 1) : chkB (allT p) (1 - c) = chkB p c := by
  have h0 : 0 ≤ c := by omega
  have h1 : c ≤ 1 := by omega
  have hk : kingZ (allT p) (1 - c) = flipZ (kingZ p c) := by unfold kingZ; rw [all_of hl h0 h1, first_flip (ofN_lt _ _ _) hn]
  have e1 : oth (1 - c) = c := by rw [oth_01 (by omega)]; omega
  have e2 : oth c = 1 - c := oth_01 hc
  have hf : flipN (kingN (kingZ p c)) = kingN (flipZ (kingZ p c)) := (flipped1 (kingZ p c) 0 (by decide)).1
  have hof : ofN (allT p) c 6 = flipN (ofN p (1 - c) 6) := by
    have := all_of (c := 1 - c) hl (by omega) (by omega) 6
    rwa [show 1 - (1 - c) = c by omega] at this
  have hz : ∀ n : Nat, n < W64 → (flipN n != 0) = (n != 0) := fun n hn => by
    have := flip_eq_zero hn
    simp only [bne, this]
  have hs : shelB (allT p) (kingZ (allT p) (1 - c)) (1 - c) = shelB p (kingZ p c) c := by
    unfold shelB
    rw [hk, e1, e2, all_var, ← hf, hof, ← flip_and, hz _ (and_lt (ofN_lt _ _ _))]
  have ha : anyB (allT p) (kingZ (allT p) (1 - c)) (oth (1 - c)) = anyB p (kingZ p c) (oth c) := by
    unfold anyB
    rw [hk, e1, e2, by_turn hl h0 h1, hz _ (byN_lt _ _ _)]
  have hr : ryB (allT p 0).toNat (1 - c).toNat = ryB (p 0).toNat c.toNat := by
    rw [all_var]
    rcases hc with rfl | rfl
    · exact (ry_turn _ hv).symm
    · exact ry_turn _ hv
  unfold chkB
  rw [hs, ha, hr]
theorem of_six {x : Int} (c : Int) (hc : c = 0 ∨ c = 1) (h : x = 0 ∨ pcB x = true) : ofB c 6 x = (x == 8 * c + 6) := by
  rcases h with rfl | h
  · rcases hc with rfl | rfl <;> rfl
  · obtain ⟨k, hk, rfl⟩ := pc_at h
    have key : ∀ k : Nat, k < 12 → ofB 0 6 (atP k) = (atP k == 8 * 0 + 6) ∧ ofB 1 6 (atP k) = (atP k == 8 * 1 + 6) := by decide
    rcases hc with rfl | rfl
    · exact (key k hk).1
    · exact (key k hk).2
theorem shr_one {n a : Nat} (hn : n < W64) : bits .and .u64 ((n : Int) / 2 ^ a) 1 = ((if n.testBit a = true then 1 else 0 : Nat) : Int) := by
  rw [cast_div_pow, show (1 : Int) = ((1 : Nat) : Int) from rfl, and_nat (Nat.lt_of_le_of_lt (Nat.div_le_self _ _) hn) (by decide)]
  rw [Nat.and_one_is_mod, Nat.testBit_eq_decide_div_mod_eq]
  by_cases h : n / 2 ^ a % 2 = 1
  · rw [if_pos (by simpa using h), h]
  · rw [if_neg (by simpa using h)]; omega
end Go.Proofs.YthinocbofkhjbaaGreatDoor
