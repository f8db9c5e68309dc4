/-
 Several texts in one: PrA, PrC.
-/
import Derived.Test.YtidgfadbdgheiaaGreatDoorAfTiny
import Derived.Test.YtidgfadbdgheiaaGreatDoorAfBaseK
/-
 Layer 13: the document's own rule, each square to each square, and the program's list: plain mathematics.
-/
namespace Go.Proofs.YtidgfadbdgheiaaGreatDoor
open Go.RowKit
set_option linter.unusedVariables false
set_option linter.unusedSimpArgs false

def emB (p : Nat → Int) (s : Nat) : Bool := kndZ (p (1 + s)) == 0
def owB (p : Nat → Int) (s : Nat) (c : Int) : Bool := !emB p s && (p (1 + s) / 8 == c)
def hiB (p : Nat → Int) (a b : Nat) : Bool := (fromN p (a : Int)).testBit b
def upC (c : Int) : Int := bif c == 0 then 8 else -8
def rnkC (c : Int) (s : Nat) : Int := bif c == 0 then ((s / 8 : Nat) : Int) else 7 - ((s / 8 : Nat) : Int)
def frB (p : Nat → Int) (a : Nat) : Bool := (rnkC (p 78) a == 1) || ((rnkC (p 78) a == 0) && ((p 0 == 7) && (p 78 == 0)))
def emZ (p : Nat → Int) (s : Int) : Bool := kndZ (p (1 + s.toNat)) == 0
def paB (p : Nat → Int) (a b : Nat) : Bool :=
 bif hiB p a b then owB p b (oth (p 78)) || (p 83 == (b : Int))
 else bif (b : Int) == (a : Int) + upC (p 78) then emB p b
 else ((b : Int) == (a : Int) + 2 * upC (p 78)) && (frB p a && (emZ p ((a : Int) + upC (p 78)) && emB p b))
def maB (p : Nat → Int) (a b : Nat) : Bool :=
 !(a == b) && (owB p a (p 78) && (!owB p b (p 78) &&
  (bif kndZ (p (1 + a)) == 1 then paB p a b else bif kndZ (p (1 + a)) == 6 then hiB p a b && (!(p 0 == 3) || emB p b) else hiB p a b)))
theorem em_pc (p : Nat → Int) (s : Nat) : emB p s = !pcB (p (1 + s)) := by
 unfold emB kndZ
 cases g : pcB (p (1 + s))
 ·rfl
 ·have := pcB_true.1 g
  rw [cond_true, Bool.not_true, beq_eq_false_iff_ne]; omega
theorem ow_of (p : Nat → Int) (s : Nat) (c : Int) : owB p s c = ofB c 0 (p (1 + s)) := by
 unfold owB
 rw [em_pc, ofB_all]
 cases g : pcB (p (1 + s))
 ·rfl
 ·unfold colZ; rw [g]; rfl
theorem own_ow {p : Nat → Int} (hv : p 0 < 9) {s : Nat} (hs : s < 64) : (ownN p).testBit s = owB p s (p 78) := by rw [ow_of, ownN_testBit hv hs, ofB_all]
theorem the_ow {p : Nat → Int} (hv : p 0 < 9) {s : Nat} (hs : s < 64) : (theN p).testBit s = owB p s (oth (p 78)) := by rw [ow_of, theN_testBit hv hs, ofB_all]
theorem occ_both {p : Nat → Int} (hv : p 0 < 9) (h0 : 0 ≤ p 78) (h1 : p 78 < 2) : ownN p ||| theN p = occN p := by
 apply eq_of_bits (Nat.or_lt_two_pow (n := 64) (ownN_lt p) (theN_lt p)) (setN_lt _ _)
 intro i hi
 rw [Nat.testBit_or, ownN_testBit hv hi, theN_testBit hv hi]
 rw [setN_testBit _ _ i hi]
 cases g : pcB (p (1 + i))
 ·rfl
 ·have := pcB_true.1 g
  rw [Bool.true_and, Bool.true_and, Bool.or_eq_true]
  unfold colZ
  rw [g, cond_true]
  simp only [beq_iff_eq]
  unfold oth
  omega
theorem shN : ∀ a, a < 64 → ∀ i, i < 64 → ((shiftN (putN 0 ((a : Nat) : Int)) 0).testBit i == decide (i = a + 8)) = true := by decide +kernel
theorem shS : ∀ a, a < 64 → ∀ i, i < 64 → ((shiftN (putN 0 ((a : Nat) : Int)) 4).testBit i == decide (i + 8 = a)) = true := by decide +kernel
theorem sh_up {p : Nat → Int} (h0 : 0 ≤ p 78) (h1 : p 78 < 2) {a i : Nat} (ha : a < 64) (hi : i < 64) : (shiftN (putN 0 (a : Int)) (dirZ p)).testBit i = ((i : Int) == (a : Int) + upC (p 78)) := by
 rcases (by omega : p 78 = 0 ∨ p 78 = 1) with e | e
 ·have := beq_iff_eq.1 (shN a ha i hi)
  unfold dirZ upC
  rw [e]
  show (shiftN (putN 0 (a : Int)) 0).testBit i = ((i : Int) == (a : Int) + 8)
  rw [this, Bool.eq_iff_iff]; simp; omega
 ·have := beq_iff_eq.1 (shS a ha i hi)
  unfold dirZ upC
  rw [e]
  show (shiftN (putN 0 (a : Int)) 4).testBit i = ((i : Int) == (a : Int) + -8)
  rw [this, Bool.eq_iff_iff]; simp; omega
theorem once_bit {p : Nat → Int} (hv : p 0 < 9) (h0 : 0 ≤ p 78) (h1 : p 78 < 2) {a i : Nat} (ha : a < 64) (hi : i < 64) : (onceN p (ownN p) (theN p) a).testBit i = (((i : Int) == (a : Int) + upC (p 78)) && emB p i) := by
 unfold onceN stpN
 rw [offN_testBit, occ_both hv h0 h1, sh_up h0 h1 ha hi, em_pc]
 rw [show (occN p).testBit i = pcB (p (1 + i)) from setN_testBit _ _ i hi]
theorem once_is {p : Nat → Int} (hv : p 0 < 9) (h0 : 0 ≤ p 78) (h1 : p 78 < 2) {a m : Nat} (ha : a < 64) (hm : m < 64) (e : (m : Int) = (a : Int) + upC (p 78)) : onceN p (ownN p) (theN p) a = bif emB p m then putN 0 (m : Int) else 0 := by
 have hl : onceN p (ownN p) (theN p) a < W64 := by unfold onceN; exact stpN_lt _ _ _ _
 have hr : (bif emB p m then putN 0 (m : Int) else 0) < W64 := by
  cases emB p m
  ·exact show (0 : Nat) < W64 by decide
  ·exact putN_lt (show (0 : Nat) < W64 by decide) _
 apply eq_of_bits hl hr
 intro i hi
 rw [once_bit hv h0 h1 ha hi, ← e]
 cases g : emB p m
 ·rw [cond_false, Nat.zero_testBit]
  by_cases h : i = m
  ·subst h; rw [g, Bool.and_false]
  ·rw [beq_eq_false_iff_ne.2 (by omega)]; rfl
 ·rw [cond_true, putN_testBit, Nat.zero_testBit, Bool.false_or, sq_true.2 ⟨by omega, by omega⟩, Bool.true_and]
  by_cases h : i = m
  ·subst h; rw [g]; simp
  ·rw [beq_eq_false_iff_ne.2 (by omega), decide_eq_false (by omega)]; rfl
theorem once_none {p : Nat → Int} (hv : p 0 < 9) (h0 : 0 ≤ p 78) (h1 : p 78 < 2) {a : Nat} (ha : a < 64) (e : ∀ m : Nat, m < 64 → (m : Int) ≠ (a : Int) + upC (p 78)) : onceN p (ownN p) (theN p) a = 0 := by
 apply eq_of_bits (by unfold onceN; exact stpN_lt _ _ _ _) (show (0 : Nat) < W64 by decide)
 intro i hi
 rw [once_bit hv h0 h1 ha hi, beq_eq_false_iff_ne.2 (e i hi), Nat.zero_testBit]; rfl
theorem up_cases (c : Int) : upC c = 8 ∨ upC c = -8 := by unfold upC; cases c == 0; { exact .inr rfl }; { exact .inl rfl }
theorem twice_bit {p : Nat → Int} (hv : p 0 < 9) (h0 : 0 ≤ p 78) (h1 : p 78 < 2) {a i : Nat} (ha : a < 64) (hi : i < 64) : (stpN p (ownN p) (theN p) (onceN p (ownN p) (theN p) a)).testBit i = (((i : Int) == (a : Int) + 2 * upC (p 78)) && (emZ p ((a : Int) + upC (p 78)) && emB p i)) := by
 have hu := up_cases (p 78)
 by_cases hm : 0 ≤ (a : Int) + upC (p 78) ∧ (a : Int) + upC (p 78) < 64
 ·obtain ⟨m, hm1⟩ : ∃ m : Nat, (m : Int) = (a : Int) + upC (p 78) := ⟨((a : Int) + upC (p 78)).toNat, by omega⟩
  have hm64 : m < 64 := by omega
  rw [once_is hv h0 h1 ha hm64 hm1]
  have hz : emZ p ((a : Int) + upC (p 78)) = emB p m := by unfold emZ emB; rw [← hm1, Int.toNat_natCast]
  rw [hz]
  cases g : emB p m
  ·rw [cond_false, Bool.false_and, Bool.and_false]
   unfold stpN
   rw [offN_testBit, shift_zero, Nat.zero_testBit]; rfl
  ·rw [cond_true, Bool.true_and]
   have := once_bit hv h0 h1 (a := m) hm64 hi
   unfold onceN at this
   rw [this]
   rw [show ((i : Int) == (m : Int) + upC (p 78)) = ((i : Int) == (a : Int) + 2 * upC (p 78)) by rw [Bool.eq_iff_iff]; simp only [beq_iff_eq]; omega]
 ·rw [once_none hv h0 h1 ha (fun m hm2 e => hm (by omega))]
  unfold stpN
  rw [offN_testBit, shift_zero, Nat.zero_testBit, beq_eq_false_iff_ne.2 (by omega)]; rfl
theorem may_fr {p : Nat → Int} (h0 : 0 ≤ p 78) (h1 : p 78 < 2) (a : Nat) (ha : a < 64) : mayB p a = frB p a := by
 unfold mayB frB rnkC homZ ahdZ
 rcases (by omega : p 78 = 0 ∨ p 78 = 1) with e | e
 ·rw [e]
  simp only [beq_self_eq_true, cond_true, Bool.and_true]
  rcases (by omega : ((a / 8 : Nat) : Int) = 0 ∨ ((a / 8 : Nat) : Int) = 1 ∨ 2 ≤ ((a / 8 : Nat) : Int)) with h | h | h
  ·rw [h]; rfl
  ·rw [h]; rfl
  ·rw [beq_eq_false_iff_ne.2 (show ((a / 8 : Nat) : Int) ≠ 0 by omega), beq_eq_false_iff_ne.2 (show ((a / 8 : Nat) : Int) ≠ 1 by omega)]; rfl
 ·rw [e]
  rcases (by omega : ((a / 8 : Nat) : Int) = 7 ∨ ((a / 8 : Nat) : Int) = 6 ∨ ((a / 8 : Nat) : Int) ≤ 5) with h | h | h
  ·rw [h]; simp
  ·rw [h]; simp
  ·show (bif ((a / 8 : Nat) : Int) == 7 then _ else ((a / 8 : Nat) : Int) == 6) = ((7 - ((a / 8 : Nat) : Int) == 1) || ((7 - ((a / 8 : Nat) : Int) == 0) && _))
   rw [beq_eq_false_iff_ne.2 (show ((a / 8 : Nat) : Int) ≠ 7 by omega), beq_eq_false_iff_ne.2 (show ((a / 8 : Nat) : Int) ≠ 6 by omega), beq_eq_false_iff_ne.2 (show 7 - ((a / 8 : Nat) : Int) ≠ 1 by omega), beq_eq_false_iff_ne.2 (show 7 - ((a / 8 : Nat) : Int) ≠ 0 by omega)]; rfl
def pawnOff (a b : Nat) : Bool := (!(pawnN 0 ((a : Nat) : Int)).testBit b || (!decide (b = a + 8) && !decide (b = a + 16))) && (!(pawnN 1 ((a : Nat) : Int)).testBit b || (!decide (b + 8 = a) && !decide (b + 16 = a)))
theorem pawnOff_all : ∀ a, a < 64 → ∀ b, b < 64 → pawnOff a b = true := by decide +kernel
theorem pawn_off {p : Nat → Int} (h0 : 0 ≤ p 78) (h1 : p 78 < 2) {a b : Nat} (ha : a < 64) (hb : b < 64) (h : (pawnN (p 78) (a : Int)).testBit b = true) : (b : Int) ≠ (a : Int) + upC (p 78) ∧ (b : Int) ≠ (a : Int) + 2 * upC (p 78) := by
 have := pawnOff_all a ha b hb
 unfold pawnOff at this
 simp only [Bool.and_eq_true, Bool.or_eq_true, Bool.not_eq_true', decide_eq_false_iff_not] at this
 rcases (by omega : p 78 = 0 ∨ p 78 = 1) with e | e
 ·rw [e] at h ⊢
  show (b : Int) ≠ (a : Int) + 8 ∧ (b : Int) ≠ (a : Int) + 2 * 8
  rcases this.1 with g | g
  ·rw [g] at h; cases h
  ·omega
 ·rw [e] at h ⊢
  show (b : Int) ≠ (a : Int) + -8 ∧ (b : Int) ≠ (a : Int) + 2 * -8
  rcases this.2 with g | g
  ·rw [g] at h; cases h
  ·omega
theorem pawn_rch {p : Nat → Int} (hp : PsR p) (hv : p 0 < 9) (h1 : p 78 < 2) {a b : Nat} (ha : a < 64) (hb : b < 64) (hh : hiB p a b = (pawnN (p 78) (a : Int)).testBit b) : (ahN p (ownN p) (theN p) a ||| asN p (theN p) a).testBit b = paB p a b := by
 have h0 := hp.turn.1
 have ho := once_bit hv h0 h1 ha hb
 have ht := twice_bit hv h0 h1 ha hb
 have hah : (ahN p (ownN p) (theN p) a).testBit b = (((b : Int) == (a : Int) + upC (p 78)) && emB p b || (frB p a && (((b : Int) == (a : Int) + 2 * upC (p 78)) && (emZ p ((a : Int) + upC (p 78)) && emB p b)))) := by
  unfold ahN
  rw [may_fr h0 h1 a ha]
  cases frB p a
  ·rw [cond_false, ho]; simp
  ·rw [cond_true, Nat.testBit_or, ho, ht]; simp
 have has : (asN p (theN p) a).testBit b = ((pawnN (p 78) (a : Int)).testBit b && (owB p b (oth (p 78)) || (p 83 == (b : Int)))) := by
  unfold asN
  rw [Nat.testBit_and, putN_testBit, the_ow hv hb]
  congr 2
  by_cases e : p 83 = (b : Int)
  ·rw [e, sq_true.2 ⟨by omega, by omega⟩]; simp
  ·rw [decide_eq_false e, beq_eq_false_iff_ne.2 e, Bool.and_false]
 rw [Nat.testBit_or, hah, has]
 unfold paB
 rw [hh]
 cases g : (pawnN (p 78) (a : Int)).testBit b
 ·rw [Bool.false_and, Bool.or_false, cond_false]
  by_cases e : (b : Int) = (a : Int) + upC (p 78)
  ·rw [beq_iff_eq.2 e, cond_true, beq_eq_false_iff_ne.2 (show (b : Int) ≠ (a : Int) + 2 * upC (p 78) by have := up_cases (p 78); omega)]
   simp
  ·rw [beq_eq_false_iff_ne.2 e, cond_false, Bool.false_and, Bool.false_or]
   cases frB p a <;> cases (b : Int) == (a : Int) + 2 * upC (p 78) <;> rfl
 ·obtain ⟨e1, e2⟩ := pawn_off h0 h1 ha hb g
  rw [beq_eq_false_iff_ne.2 e1, beq_eq_false_iff_ne.2 e2, cond_true]
  cases frB p a <;> simp
theorem from_kind {p : Nat → Int} {a : Nat} (ha : a < 64) {k : Int} (hk : kndZ (p (1 + a)) = k) (b : Nat) : hiB p a b = (atkN (colZ (p (1 + a))) k.toNat (a : Int) (occN p)).testBit b := by
 unfold hiB fromN
 rw [kind_at p ha, col_at p ha, hk]
theorem ma_gol {p : Nat → Int} (hp : PsR p) (hv : p 0 < 9) (h1 : p 78 < 2) {a b : Nat} (ha : a < 64) (hb : b < 64) : (golN p (ownN p) (theN p) (a : Int)).testBit b = maB p a b := by
 have h0 := hp.turn.1
 unfold golN
 rw [hasN_nat _ _ ha, own_ow hv ha]
 cases g1 : owB p a (p 78)
 ·rw [cond_false, Nat.zero_testBit]; unfold maB; rw [g1]; simp
 ·rw [cond_true, Int.toNat_natCast, offN_testBit, own_ow hv hb]
  cases g2 : owB p b (p 78)
  ·rw [Bool.not_false, Bool.and_true]
   have hab : (a == b) = false := by
    rw [beq_eq_false_iff_ne]; rintro rfl; rw [g1] at g2; cases g2
   unfold maB
   rw [hab, g1, g2]
   show _ = (bif kndZ (p (1 + a)) == 1 then paB p a b else bif kndZ (p (1 + a)) == 6 then hiB p a b && (!(p 0 == 3) || emB p b) else hiB p a b)
   have hpc : pcB (p (1 + a)) = true ∧ p (1 + a) / 8 = p 78 := by
    unfold owB at g1; rw [em_pc, Bool.not_not, Bool.and_eq_true, beq_iff_eq] at g1; exact g1
   have hcol : colZ (p (1 + a)) = p 78 := by rw [col_of hpc.1]; exact hpc.2
   have hkr := pcB_true.1 hpc.1
   have hkn := knd_of hpc.1
   have hocc := occ_both hv h0 h1
   unfold rchN
   rw [knP_nat _ ha, hocc]
   rcases (by omega : kndZ (p (1 + a)) = 1 ∨ kndZ (p (1 + a)) = 2 ∨ kndZ (p (1 + a)) = 3 ∨ kndZ (p (1 + a)) = 4 ∨ kndZ (p (1 + a)) = 5 ∨ kndZ (p (1 + a)) = 6) with k | k | k | k | k | k
   ·have hh := from_kind (p := p) ha k b
    rw [hcol] at hh
    rw [k]
    exact pawn_rch hp hv h1 ha hb hh
   ·rw [from_kind ha k b, k]; rfl
   ·rw [from_kind ha k b, k]; rfl
   ·rw [from_kind ha k b, k]; rfl
   ·rw [from_kind ha k b, k]; rfl
   ·rw [from_kind ha k b, k]
    show (kgN p (theN p) a).testBit b = ((kingN (a : Int)).testBit b && (!(p 0 == 3) || emB p b))
    unfold kgN
    cases g3 : (p 0 == 3)
    ·simp
    ·rw [cond_true, offN_testBit, the_ow hv hb]
     have : emB p b = !owB p b (oth (p 78)) := by
      rw [em_pc]
      have hb2 := g2
      unfold owB at hb2 ⊢
      rw [em_pc, Bool.not_not] at hb2 ⊢
      cases g4 : pcB (p (1 + b))
      ·rfl
      ·have := pcB_true.1 g4
       rw [g4, Bool.true_and, beq_eq_false_iff_ne] at hb2
       rw [Bool.true_and, beq_iff_eq.2 (show p (1 + b) / 8 = oth (p 78) by unfold oth; omega)]
     rw [this]; simp
  ·rw [Bool.not_true, Bool.and_false]; unfold maB; rw [g2]; simp
end Go.Proofs.YtidgfadbdgheiaaGreatDoor
/-
 Layer 13: the program's list is the document's, each square to each square.
-/
namespace Go.Proofs.YtidgfadbdgheiaaGreatDoor
open Go.RowKit
set_option linter.unusedVariables false
set_option linter.unusedSimpArgs false

def toL (p : Nat → Int) (a n : Nat) : List Pm := (List.range n).flatMap fun b => bif maB p a b then mvO p (a : Int) b else []
def frL (p : Nat → Int) (n : Nat) : List Pm := (List.range n).flatMap fun a => toL p a 64
theorem to_next (p : Nat → Int) (a n : Nat) : toL p a (n + 1) = toL p a n ++ (bif maB p a n then mvO p (a : Int) n else []) := by
 unfold toL; rw [List.range_succ, List.flatMap_append]; simp
theorem fr_next (p : Nat → Int) (n : Nat) : frL p (n + 1) = frL p n ++ toL p n 64 := by
 unfold frL; rw [List.range_succ, List.flatMap_append]; simp
theorem flat_filter {α β : Type} (f : α → List β) (g : α → Bool) : ∀ l : List α, (l.filter g).flatMap f = l.flatMap fun x => bif g x then f x else []
 | [] => rfl
 | x :: l => by
  rw [List.flatMap_cons, ← flat_filter f g l]
  cases h : g x
  ·rw [List.filter_cons_of_neg (by rw [h]; decide)]; rfl
  ·rw [List.filter_cons_of_pos h, List.flatMap_cons]; rfl
theorem list_filter (b : Nat) : listN b = (List.range 64).filter fun i => b.testBit i := rfl
theorem flat_same {α β : Type} {f g : α → List β} {l : List α} (h : ∀ x ∈ l, f x = g x) : l.flatMap f = l.flatMap g := by
 induction l with
 | nil => rfl
 | cons x l ih => rw [List.flatMap_cons, List.flatMap_cons, h x (by simp), ih fun y hy => h y (by simp [hy])]
theorem mvs_to {p : Nat → Int} (hp : PsR p) (hv : p 0 < 9) (h1 : p 78 < 2) {a : Nat} (ha : a < 64) : mvsL p (ownN p) (theN p) (a : Int) = toL p a 64 := by
 unfold mvsL toL
 rw [list_filter, flat_filter]
 refine flat_same fun b hb => ?_
 rw [ma_gol hp hv h1 ha (List.mem_range.1 hb)]
theorem all_fr {p : Nat → Int} (hp : PsR p) (hv : p 0 < 9) (h1 : p 78 < 2) : allL p = frL p 64 := by
 unfold allL frL
 rw [list_filter, flat_filter]
 refine flat_same fun a ha => ?_
 have ha := List.mem_range.1 ha
 rw [mvs_to hp hv h1 ha]
 cases g : (ownN p).testBit a
 ·have : toL p a 64 = [] := by
   rw [← mvs_to hp hv h1 ha]
   unfold mvsL golN
   rw [hasN_nat _ _ ha, g, cond_false, listN_zero]; rfl
  rw [this]; rfl
 ·rfl
theorem all_none {p : Nat → Int} (hp : PsR p) (h : ¬ (p 0 < 9 ∧ p 78 < 2)) : allL p = [] := by
 have : ownN p = 0 := by
  apply eq_of_bits (ownN_lt p) (show (0 : Nat) < W64 by decide)
  intro i hi
  rw [Nat.zero_testBit]
  by_cases hv : p 0 < 9
  ·rw [ownN_testBit hv hi]
   cases g : pcB (p (1 + i))
   ·rfl
   ·have := pcB_true.1 g
    rw [Bool.true_and, beq_eq_false_iff_ne]
    unfold colZ
    rw [g, cond_true]
    have := hp.turn.1
    omega
  ·unfold ownN vrB; rw [decide_eq_false hv]; exact Nat.zero_testBit i
 unfold allL; rw [this]; rfl
theorem bec_ref {p : Nat → Int} (h0 : 0 ≤ p 78) (h1 : p 78 < 2) {a b : Nat} (ha : a < 64) (hb : b < 64) : becL p (a : Int) b = bif (kndZ (p (1 + a)) == 1) && (rnkC (p 78) b == 7) then prL (p 0).toNat else [0] := by
 unfold becL
 rw [knP_nat _ ha]
 have e : (((b / 8 : Nat) : Int) == homZ (oth (p 78))) = (rnkC (p 78) b == 7) := by
  unfold homZ oth rnkC
  rcases (by omega : p 78 = 0 ∨ p 78 = 1) with h | h
  ·rw [h]; rfl
  ·rw [h]
   show (((b / 8 : Nat) : Int) == 0) = (7 - ((b / 8 : Nat) : Int) == 7)
   rw [Bool.eq_iff_iff]; simp only [beq_iff_eq]; omega
 rw [e]
end Go.Proofs.YtidgfadbdgheiaaGreatDoor
