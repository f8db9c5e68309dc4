/-
 Layer 12: the document's own questions, and the program's: plain mathematics.
-/
import Derived.Test.YtigkbccpkepdmaaGreatDoorVaMath
namespace Go.Proofs.YtigkbccpkepdmaaGreatDoor
open Go.RowKit
set_option linter.unusedVariables false
set_option linter.unusedSimpArgs false

/-- Does a piece of that color and kind stand on the square? -/
def isB (p : Nat → Int) (s : Nat) (c k : Int) : Bool := kndZ (p (1 + s)) == k && (p (1 + s)) / 8 == c
theorem vis_of (p : Nat → Int) (s : Nat) (c : Int) {k : Int} (hk : k ≠ 0) : isB p s c k = ofB c k (p (1 + s)) := by
 unfold isB ofB
 rw [beq_eq_false_iff_ne.2 hk, Bool.false_or]
 cases g : pcB (p (1 + s))
 ·unfold kndZ; rw [g, cond_false, beq_eq_false_iff_ne.2 (Ne.symm hk)]; rfl
 ·unfold colZ; rw [g, cond_true, Bool.true_and, Bool.and_comm]
/-- How many of the first n squares. -/
def cnR (p : Nat → Int) (c k : Int) (n : Nat) : Nat := ((List.range n).filter fun s => isB p s c k).length
theorem cnR_succ (p : Nat → Int) (c k : Int) (n : Nat) : cnR p c k (n + 1) = cnR p c k n + (bif isB p n c k then 1 else 0) := by
 unfold cnR; rw [List.range_succ, List.filter_append, List.length_append]
 cases g : isB p n c k <;> simp [g]
theorem cnR_le (p : Nat → Int) (c k : Int) (n : Nat) : cnR p c k n ≤ n := by
 unfold cnR
 have := List.length_filter_le (fun s => isB p s c k) (List.range n)
 rwa [List.length_range] at this
theorem cnR_cnt (p : Nat → Int) (c : Int) {k : Int} (hk : k ≠ 0) : cntN (ofN p c k) = (cnR p c k 64 : Nat) := by
 unfold cntN cnR listN listTo
 congr 2
 apply List.filter_congr
 intro i hi
 rw [ofN_testBit _ _ _ _ (List.mem_range.1 hi), vis_of p i c hk]
/-- The document's question on kings, one color. -/
def kgR (p : Nat → Int) (c : Int) : Bool :=
 bif p 0 == 4 then true
 else bif (p 0 == 7) && (c == 0) then !decide (0 < cnR p c 6 64)
 else bif (cnR p c 6 64 == 0) && ((p 0 == 3) && (c == p 78)) then true
 else cnR p c 6 64 == 1
theorem kgR_is (p : Nat → Int) (c : Int) : kgR p c = kmB p c := by
 unfold kgR kmB kgsZ
 rw [cnR_cnt p c (by decide : (6 : Int) ≠ 0)]
 generalize cnR p c 6 64 = n
 cases p 0 == 4
 ·rw [cond_false, cond_false]
  cases (p 0 == 7) && (c == 0)
  ·rw [cond_false, cond_false]
   cases (p 0 == 3) && (c == p 78)
   ·rw [Bool.and_false, cond_false, cond_false, Bool.eq_iff_iff]; simp only [beq_iff_eq]; omega
   ·rw [Bool.and_true, cond_true]
    cases g : n == 0
    ·rw [cond_false, Bool.eq_iff_iff]; simp only [beq_iff_eq, decide_eq_true_eq]; have := beq_eq_false_iff_ne.1 g; omega
    ·rw [cond_true]; have := beq_iff_eq.1 g; rw [decide_eq_true (by omega)]
  ·rw [cond_true, cond_true, Bool.eq_iff_iff]; simp
 ·rfl
/-- The document's question on pawns, one square. -/
def pwR (p : Nat → Int) (s : Nat) : Bool :=
 bif kndZ (p (1 + s)) == 1 then bif (p 0 == 8) || decide (55 < s) then false else bif decide (s < 8) && (!(p 0 == 7) || !(p (1 + s) == 1)) then false else true
 else true
theorem pawn_num {x : Int} (h : kndZ x = 1) : x = 1 ∨ x = 9 := by
 unfold kndZ at h
 cases g : pcB x
 ·rw [g, cond_false] at h; omega
 ·rw [g, cond_true] at h; have := pcB_true.1 g; omega
theorem pwR_is (p : Nat → Int) {s : Nat} (hs : s < 64) (h0 : 0 ≤ p 0) (h9 : p 0 < 9) : pwR p s = (!(kndZ (p (1 + s)) == 1) || pmB p (colZ (p (1 + s))) ((s / 8 : Nat) : Int)) := by
 unfold pwR
 cases g : kndZ (p (1 + s)) == 1
 ·rfl
 ·rw [cond_true, Bool.not_true, Bool.false_or]
  have hp := pawn_num (beq_iff_eq.1 g)
  have hc : (colZ (p (1 + s)) == 0) = (p (1 + s) == 1) := by
   rcases hp with e | e <;> (rw [e]; decide)
  unfold pmB
  rw [hc]
  have hw : pawB (p 0).toNat = !(p 0 == 8) := by
   obtain ⟨n, hn⟩ : ∃ n : Nat, p 0 = (n : Int) := ⟨(p 0).toNat, by omega⟩
   rw [hn, Int.toNat_natCast]
   have hn9 : n < 9 := by omega
   have : ∀ n : Nat, n < 9 → pawB n = !((n : Int) == 8) := by decide
   exact this n hn9
  rw [hw]
  have e0 : (((s / 8 : Nat) : Int) == 0) = decide (s < 8) := by rw [Bool.eq_iff_iff]; simp only [beq_iff_eq, decide_eq_true_eq]; omega
  have e7 : (((s / 8 : Nat) : Int) == 7) = decide (55 < s) := by rw [Bool.eq_iff_iff]; simp only [beq_iff_eq, decide_eq_true_eq]; omega
  rw [e0, e7]
  cases g8 : p 0 == 8
  ·rw [Bool.false_or]
   cases g5 : decide (55 < s)
   ·rw [cond_false, cond_false]
    cases gs : decide (s < 8)
    ·rfl
    ·rw [Bool.true_and, cond_true]
     cases p 0 == 7 <;> cases p (1 + s) == 1 <;> rfl
   ·have : decide (s < 8) = false := decide_eq_false (by have := of_decide_eq_true g5; omega)
    rw [this]; rfl
  ·have : (p 0 == 7) = false := beq_eq_false_iff_ne.2 (by have := beq_iff_eq.1 g8; omega)
   rw [this, Bool.true_or]
   cases decide (s < 8) <;> cases decide (55 < s) <;> rfl
/-- The document's question on a right to castle. -/
def rtR (p : Nat → Int) (c : Nat) (s : Nat) : Bool :=
 bif roA p c s == -1 then true
 else bif !casB (p 0).toNat then false
 else bif decide (kingZ p (c : Int) < 0) || (!(kingZ p (c : Int) / 8 == 7 * (c : Int)) || !isB p (56 * c + (roA p c s).toNat) (c : Int) 4) then false
 else bif !(p 0 == 1) && (!(kingZ p (c : Int) % 8 == 4) || (((s == 0) && !(roA p c s == 7)) || ((s == 1) && !(roA p c s == 0)))) then false
 else bif s == 0 then decide (kingZ p (c : Int) % 8 < roA p c s) else decide (roA p c s < kingZ p (c : Int) % 8)
theorem king_is {p : Nat → Int} {c : Int} {n : Nat} (hn : n < 64) (h : kingZ p c = (n : Int)) : isB p n c 6 = true := by
 have h0 : ofN p c 6 ≠ 0 := fun e => by unfold kingZ at h; rw [e, firstN_zero] at h; omega
 obtain ⟨e, he, h1, h2⟩ := first_spec h0 (ofN_lt p c 6)
 unfold kingZ at h
 have : e = n := by rw [h1] at h; omega
 subst this
 rw [vis_of p e c (by decide), ← ofN_testBit p c 6 e he]
 exact h2.1
theorem mk_is {c : Nat} (hc : c ≤ 1) {x : Int} : (kndZ x == 4 && x / 8 == (c : Int)) = (x == mkZ (c : Int) 4) := by
 have hm : mkZ (c : Int) 4 = 8 * (c : Int) + 4 := by
  unfold mkZ mkB
  rw [decide_eq_true (by omega : (c : Int) ≤ 1)]; rfl
 rw [hm, Bool.eq_iff_iff, Bool.and_eq_true]
 simp only [beq_iff_eq]
 unfold kndZ
 cases g : pcB x
 ·have := pcB_false.1 g
  rw [cond_false]; omega
 ·have := pcB_true.1 g
  rw [cond_true]; omega
theorem rtR_is {p : Nat → Int} {c s : Nat} (hc : c ≤ 1) (hs : s ≤ 1) (hr : -1 ≤ roA p c s ∧ roA p c s < 8) : rtR p c s = rkB p c s := by
 unfold rtR rkB
 cases g1 : roA p c s == -1
 ·rw [cond_false, Bool.false_or]
  cases casB (p 0).toNat
  ·rfl
  ·rw [Bool.not_true, cond_false, Bool.true_and]
   have hr0 : 0 ≤ roA p c s := by have := beq_eq_false_iff_ne.1 g1; omega
   obtain ⟨r, hr1⟩ : ∃ r : Nat, roA p c s = (r : Int) := ⟨(roA p c s).toNat, by omega⟩
   rw [hr1]
   have hr8 : r < 8 := by omega
   rw [Int.toNat_natCast]
   by_cases hk : kingZ p (c : Int) < 0
   ·rw [decide_eq_true hk, Bool.true_or, cond_true, decide_eq_false (by unfold kfZ; omega)]; rfl
   ·obtain ⟨n, hn, hkn⟩ := vking_sq (p := p) (c := (c : Int)) (by omega)
    have hki := king_is hn hkn
    have hf : kfZ p c = (n : Int) - 56 * (c : Int) := by unfold kfZ; rw [hkn]
    rw [decide_eq_false hk, Bool.false_or, hkn, hf]
    by_cases hrow : (n : Int) / 8 = 7 * (c : Int)
    ·rw [beq_iff_eq.2 hrow, Bool.not_true, Bool.false_or, decide_eq_true (show 0 ≤ (n : Int) - 56 * (c : Int) by omega), decide_eq_true (show (n : Int) - 56 * (c : Int) < 8 by omega), Bool.true_and, Bool.true_and]
     rw [show isB p (56 * c + r) (c : Int) 4 = (p (1 + (56 * c + r)) == mkZ (c : Int) 4) from mk_is hc]
     cases gi : p (1 + (56 * c + r)) == mkZ (c : Int) 4
     ·rfl
     ·rw [Bool.not_true, cond_false, Bool.true_and]
      have hne : (n : Int) - 56 * (c : Int) ≠ (r : Int) := fun e => by
       have e2 : n = 56 * c + r := by omega
       have h4 : isB p (56 * c + r) (c : Int) 4 = true := (mk_is hc).trans gi
       rw [e2] at hki
       unfold isB at hki h4
       rw [Bool.and_eq_true] at hki h4
       have a := beq_iff_eq.1 hki.1
       have b := beq_iff_eq.1 h4.1
       omega
      have hm : (n : Int) % 8 = (n : Int) - 56 * (c : Int) := by omega
      rw [hm]
      generalize (n : Int) - 56 * (c : Int) = f at *
      rcases (by omega : s = 0 ∨ s = 1) with rfl | rfl
      ·show (bif !(p 0 == 1) && (!(f == 4) || (!((r : Int) == 7) || false)) then false else decide (f < (r : Int))) = ((decide (f < (r : Int)) == true) && ((p 0 == 1) || ((f == 4) && ((r : Int) == 7))))
       cases decide (f < (r : Int)) <;> cases p 0 == 1 <;> cases f == 4 <;> cases (r : Int) == 7 <;> rfl
      ·show (bif !(p 0 == 1) && (!(f == 4) || (false || !((r : Int) == 0))) then false else decide ((r : Int) < f)) = ((decide (f < (r : Int)) == false) && ((p 0 == 1) || ((f == 4) && ((r : Int) == 0))))
       rw [show decide ((r : Int) < f) = !decide (f < (r : Int)) by rw [Bool.eq_iff_iff]; simp only [Bool.not_eq_true', decide_eq_true_eq, decide_eq_false_iff_not]; omega]
       cases decide (f < (r : Int)) <;> cases p 0 == 1 <;> cases f == 4 <;> cases (r : Int) == 0 <;> rfl
    ·rw [beq_eq_false_iff_ne.2 hrow, Bool.not_false, Bool.true_or, cond_true]
     by_cases h0 : 0 ≤ (n : Int) - 56 * (c : Int)
     ·rw [decide_eq_false (by omega : ¬ (n : Int) - 56 * (c : Int) < 8)]; simp
     ·rw [decide_eq_false h0]; rfl
 ·rfl
/-- The document's question on check. -/
def ckR (p : Nat → Int) : Bool :=
 bif p 0 == 8 then !chkB p 0 && !chkB p 1 else ((p 0 == 3) && (cnR p (p 78) 6 64 == 0)) || !chkB p (1 - p 78)
theorem ckR_is {p : Nat → Int} (h0 : 0 ≤ p 78) (h1 : p 78 ≤ 1) : ckR p = chB p := by
 unfold ckR chB icB
 have e : (kgsZ p (p 78) == 0) = (cnR p (p 78) 6 64 == 0) := by
  unfold kgsZ; rw [cnR_cnt p _ (by decide : (6 : Int) ≠ 0), Bool.eq_iff_iff]; simp only [beq_iff_eq]; omega
 rw [e]
 cases g : p 0 == 8
 ·rw [cond_false, Bool.false_and, Bool.not_false, Bool.and_true]
  cases (p 0 == 3) && (cnR p (p 78) 6 64 == 0) <;> rfl
 ·have g3 : (p 0 == 3) = false := beq_eq_false_iff_ne.2 (by have := beq_iff_eq.1 g; omega)
  rw [g3, Bool.false_and, cond_true, cond_false, cond_false, Bool.true_and]
  rcases (by omega : p 78 = 0 ∨ p 78 = 1) with e | e
  ·rw [e]; exact Bool.and_comm _ _
  ·rw [e]; rfl
theorem mk_isK {c k : Int} (h0 : 0 ≤ c) (h1 : c ≤ 1) (k1 : 1 ≤ k) (k6 : k ≤ 6) {x : Int} : (kndZ x == k && x / 8 == c) = (x == mkZ c k) := by
 have hm : mkZ c k = 8 * c + k := by
  unfold mkZ mkB
  rw [decide_eq_true h1, decide_eq_true k1, decide_eq_true k6]; rfl
 rw [hm, Bool.eq_iff_iff, Bool.and_eq_true]
 simp only [beq_iff_eq]
 unfold kndZ
 cases g : pcB x
 ·have := pcB_false.1 g
  rw [cond_false]; omega
 ·have := pcB_true.1 g
  rw [cond_true]; omega
/-- Does a pawn of who is to move, on one of the first n squares, hit the square? -/
def exR (p : Nat → Int) (s n : Nat) : Bool := (List.range n).any fun a => isB p a (p 78) 1 && (fromN p (a : Int)).testBit s
theorem exR_succ (p : Nat → Int) (s n : Nat) : exR p s (n + 1) = (exR p s n || (isB p n (p 78) 1 && (fromN p (n : Int)).testBit s)) := by
 unfold exR; rw [List.range_succ, List.any_append]; simp
theorem exR_yes {p : Nat → Int} {s a n : Nat} (ha : a < n) (h : (isB p a (p 78) 1 && (fromN p (a : Int)).testBit s) = true) : exR p s n = true := by
 unfold exR; exact List.any_eq_true.2 ⟨a, List.mem_range.2 ha, h⟩
/-- The document's question on the passing square. -/
def psR (p : Nat → Int) : Bool :=
 bif p 83 == -1 then true
 else bif !((((p 83).toNat / 8 : Nat) : Int) == prkZ p) || (!(p (1 + (p 83).toNat) == 0) || (!(p (1 + (p 83 - pupZ p).toNat) == 0) || !isB p (p 83 + pupZ p).toNat (1 - p 78) 1)) then false
 else exR p (p 83).toNat 64
theorem ofB_more {c k x : Int} (h : ofB c k x = true) : ofB c 0 x = true := by
 unfold ofB at h ⊢
 rw [Bool.and_eq_true, Bool.and_eq_true] at h
 rw [h.1, h.2.1]; rfl
theorem exR_by {p : Nat → Int} {s : Nat} (hs : s < 64) (h0 : 0 ≤ p 78) (h1 : p 78 ≤ 1) : (byN p (s : Int) (p 78) &&& ofN p (p 78) 1 != 0) = exR p s 64 := by
 rw [Bool.eq_iff_iff]
 constructor
 ·intro h
  have hne : byN p (s : Int) (p 78) &&& ofN p (p 78) 1 ≠ 0 := by simpa using h
  obtain ⟨a, ha, hb⟩ : ∃ a, a < 64 ∧ (byN p (s : Int) (p 78) &&& ofN p (p 78) 1).testBit a = true := by
   apply Classical.byContradiction
   intro hno
   apply hne
   apply eq_of_bits (Nat.and_lt_two_pow (n := 64) _ (ofN_lt _ _ _)) (by decide)
   intro i hi
   rw [Nat.zero_testBit]
   cases g : (byN p (s : Int) (p 78) &&& ofN p (p 78) 1).testBit i
   ·rfl
   ·exact absurd ⟨i, hi, g⟩ hno
  rw [Nat.testBit_and, by_from p a s ha hs _ h0 h1, ofN_testBit _ _ _ _ ha, Bool.and_eq_true, Bool.and_eq_true] at hb
  exact exR_yes ha (by rw [vis_of p a _ (by decide), hb.2, hb.1.2]; rfl)
 ·intro h
  unfold exR at h
  obtain ⟨a, ha, hb⟩ := List.any_eq_true.1 h
  have ha := List.mem_range.1 ha
  rw [vis_of p a _ (by decide), Bool.and_eq_true] at hb
  have hbit : (byN p (s : Int) (p 78) &&& ofN p (p 78) 1).testBit a = true := by
   rw [Nat.testBit_and, by_from p a s ha hs _ h0 h1, ofN_testBit _ _ _ _ ha, hb.1, hb.2, ofB_more hb.1]; rfl
  have hne : byN p (s : Int) (p 78) &&& ofN p (p 78) 1 ≠ 0 := fun e => by rw [e, Nat.zero_testBit] at hbit; cases hbit
  simpa using hne
theorem psR_is {p : Nat → Int} (h0 : 0 ≤ p 78) (h1 : p 78 ≤ 1) (h2 : -1 ≤ p 83) (h3 : p 83 < 64) : psR p = pasB p := by
 unfold psR pasB
 cases g : p 83 == -1
 ·rw [cond_false, Bool.false_or]
  obtain ⟨s, hs⟩ : ∃ s : Nat, p 83 = (s : Int) := ⟨(p 83).toNat, by have := beq_eq_false_iff_ne.1 g; omega⟩
  rw [hs, Int.toNat_natCast]
  have hs64 : s < 64 := by omega
  rw [show Int.tdiv (s : Int) 8 = ((s / 8 : Nat) : Int) from rfl, exR_by hs64 h0 h1]
  rw [show isB p ((s : Int) + pupZ p).toNat (1 - p 78) 1 = (p (1 + ((s : Int) + pupZ p).toNat) == mkZ (1 - p 78) 1) from mk_isK (by omega) (by omega) (by decide) (by decide)]
  cases ((s / 8 : Nat) : Int) == prkZ p <;> cases p (1 + s) == 0 <;> cases p (1 + ((s : Int) - pupZ p).toNat) == 0 <;> cases p (1 + ((s : Int) + pupZ p).toNat) == mkZ (1 - p 78) 1 <;> rfl
 ·rfl
/-- What the document's Held counts of the first k kinds. -/
def heZ (p : Nat → Int) (c : Nat) : Nat → Int
 | 0 => 0
 | k + 1 => heZ p c k + p (66 + c * 6 + (k + 1))
theorem he_hld (p : Nat → Int) (c : Nat) : hldZ p c 6 = p (66 + c * 6) + heZ p c 5 := by
 rw [hldZ_succ, hldZ_succ, hldZ_succ, hldZ_succ, hldZ_succ, hldZ_succ]
 show 0 + p (66 + c * 6 + 0) + p (66 + c * 6 + 1) + p (66 + c * 6 + 2) + p (66 + c * 6 + 3) + p (66 + c * 6 + 4) + p (66 + c * 6 + 5) = p (66 + c * 6) + (0 + p (66 + c * 6 + 1) + p (66 + c * 6 + 2) + p (66 + c * 6 + 3) + p (66 + c * 6 + 4) + p (66 + c * 6 + 5))
 rw [Nat.add_zero]
 omega
/-- How many pieces stand on the first n squares. -/
def ocR (p : Nat → Int) (n : Nat) : Nat := ((List.range n).filter fun s => !(kndZ (p (1 + s)) == 0)).length
theorem ocR_succ (p : Nat → Int) (n : Nat) : ocR p (n + 1) = ocR p n + (bif kndZ (p (1 + n)) == 0 then 0 else 1) := by
 unfold ocR; rw [List.range_succ, List.filter_append, List.length_append]
 cases g : kndZ (p (1 + n)) == 0 <;> simp [g]
theorem ocR_le (p : Nat → Int) (n : Nat) : ocR p n ≤ n := by
 unfold ocR
 have := List.length_filter_le (fun s => !(kndZ (p (1 + s)) == 0)) (List.range n)
 rwa [List.length_range] at this
def oc1 (p : Nat → Int) (c : Int) (n : Nat) : Nat := ((List.range n).filter fun s => ofB c 0 (p (1 + s))).length
theorem oc1_succ (p : Nat → Int) (c : Int) (n : Nat) : oc1 p c (n + 1) = oc1 p c n + (bif ofB c 0 (p (1 + n)) then 1 else 0) := by
 unfold oc1; rw [List.range_succ, List.filter_append, List.length_append]
 cases g : ofB c 0 (p (1 + n)) <;> simp [g]
theorem oc1_cnt (p : Nat → Int) (c : Int) : cntN (ofN p c 0) = (oc1 p c 64 : Nat) := by
 unfold cntN oc1 listN listTo
 congr 2
 apply List.filter_congr
 intro i hi
 rw [ofN_testBit _ _ _ _ (List.mem_range.1 hi)]
theorem knd_zero (x : Int) : (kndZ x == 0) = !pcB x := by
 unfold kndZ
 cases g : pcB x
 ·rfl
 ·have := pcB_true.1 g
  rw [cond_true, Bool.not_true, beq_eq_false_iff_ne]; omega
theorem oc_both (p : Nat → Int) : ∀ n, ocR p n = oc1 p 0 n + oc1 p 1 n
 | 0 => rfl
 | n + 1 => by
  rw [ocR_succ, oc1_succ, oc1_succ, oc_both p n, knd_zero, ofB_all, ofB_all]
  cases g : pcB (p (1 + n))
  ·rfl
  ·have hp := pcB_true.1 g
   have hc : colZ (p (1 + n)) = p (1 + n) / 8 := by unfold colZ; rw [g, cond_true]
   rw [hc]
   rcases (by omega : p (1 + n) / 8 = 0 ∨ p (1 + n) / 8 = 1) with e | e
   ·rw [e]; show oc1 p 0 n + oc1 p 1 n + 1 = oc1 p 0 n + 1 + (oc1 p 1 n + 0); omega
   ·rw [e]; show oc1 p 0 n + oc1 p 1 n + 1 = oc1 p 0 n + 0 + (oc1 p 1 n + 1); omega
/-- The document's Men. -/
def mnR (p : Nat → Int) : Int := heZ p 0 5 + heZ p 1 5 + (ocR p 64 : Nat)
theorem mn_is {p : Nat → Int} (h0 : p 66 = 0) (h1 : p 72 = 0) : menZ p = mnR p := by
 show 0 + cntN (ofN p ((0 : Nat) : Int) 0) + hldZ p 0 6 + cntN (ofN p ((1 : Nat) : Int) 0) + hldZ p 1 6 = _
 rw [he_hld, he_hld, oc1_cnt, oc1_cnt]
 unfold mnR
 rw [oc_both]
 show 0 + (oc1 p 0 64 : Int) + (p 66 + heZ p 0 5) + (oc1 p 1 64 : Int) + (p 72 + heZ p 1 5) = _
 rw [h0, h1]
 omega
theorem vknd_rng (x : Int) : 0 ≤ kndZ x ∧ kndZ x ≤ 6 := by
 unfold kndZ
 cases g : pcB x
 ·rw [cond_false]; omega
 ·have := pcB_true.1 g
  rw [cond_true]; omega
theorem vpoc_int (v : Nat) : pocB v = ((v : Int) == 2) := by
 unfold pocB; rw [Bool.eq_iff_iff]; simp; omega
/-- The document's question on pockets and marks. -/
def pkR (p : Nat → Int) : Bool :=
 bif !(p 0 == 2) then pkz p && (p 65 == 0)
 else prmB p 64 && ((p 66 == 0) && ((p 72 == 0) && decide (mnR p ≤ 32)))
theorem pkR_is {p : Nat → Int} (h0 : 0 ≤ p 0) : pkR p = pkB p := by
 unfold pkR pkB
 have e : pocB (p 0).toNat = (p 0 == 2) := by rw [vpoc_int]; congr 1; omega
 rw [e]
 cases p 0 == 2
 ·rfl
 ·rw [Bool.not_true, cond_false, cond_true]
  cases g0 : p 66 == 0
  ·rw [Bool.false_and, Bool.false_and, Bool.and_false]
  ·cases g1 : p 72 == 0
   ·rw [Bool.false_and, Bool.and_false, Bool.and_false]; simp
   ·rw [mn_is (beq_iff_eq.1 g0) (beq_iff_eq.1 g1)]
    cases prmB p 64 <;> cases decide (mnR p ≤ 32) <;> rfl
/-- The document's question on each color's numbers. -/
def clR (p : Nat → Int) (c : Nat) : Bool :=
 (((decide (-1 ≤ p (79 + 2 * c)) && decide (p (79 + 2 * c) < 8)) && (decide (-1 ≤ p (79 + 2 * c + 1)) && decide (p (79 + 2 * c + 1) < 8)))) && (!decide (3 < p (84 + c)) && ((p 0 == 5) || (p (84 + c) == 0)))
def plR (p : Nat → Int) : Bool := (!decide (8 < p 0) && (!decide (1 < p 78) && (!decide (p 83 < -1) && !decide (63 < p 83)))) && (lawB p 64 && (clR p 0 && clR p 1))
theorem plR_is {p : Nat → Int} (h0 : 0 ≤ p 84) (h1 : 0 ≤ p 85) : plR p = argB p := by
 unfold plR argB clR
 rw [show filB p 4 = ((((true && (decide (-1 ≤ p (79 + 0)) && decide (p (79 + 0) < 8))) && (decide (-1 ≤ p (79 + 1)) && decide (p (79 + 1) < 8))) && (decide (-1 ≤ p (79 + 2)) && decide (p (79 + 2) < 8))) && (decide (-1 ≤ p (79 + 3)) && decide (p (79 + 3) < 8))) by rw [filB_succ, filB_succ, filB_succ, filB_succ]; rfl]
 unfold ckB mckZ
 rw [show ∀ m : Int, decide (max (p 84) (p 85) ≤ m) = (decide (p 84 ≤ m) && decide (p 85 ≤ m)) from fun m => by rw [Bool.eq_iff_iff]; simp only [decide_eq_true_eq, Bool.and_eq_true]; omega]
 generalize lawB p 64 = l
 cases l
 ·simp
 ·show _ = _
  cases g : p 0 == 5
  ·have := beq_eq_false_iff_ne.1 g
   rw [Bool.eq_iff_iff]
   simp only [Bool.and_eq_true, Bool.or_eq_true, Bool.not_eq_true', decide_eq_true_eq, decide_eq_false_iff_not, beq_iff_eq, cond_false, Bool.true_and, Bool.false_or, Nat.reduceMul, Nat.reduceAdd, Nat.mul_zero, Nat.add_zero]
   omega
  ·have := beq_iff_eq.1 g
   rw [Bool.eq_iff_iff]
   simp only [Bool.and_eq_true, Bool.or_eq_true, Bool.not_eq_true', decide_eq_true_eq, decide_eq_false_iff_not, beq_iff_eq, cond_true, Bool.true_and, Bool.true_or, true_or, and_true, Nat.reduceMul, Nat.reduceAdd, Nat.mul_zero, Nat.add_zero]
   omega
end Go.Proofs.YtigkbccpkepdmaaGreatDoor
