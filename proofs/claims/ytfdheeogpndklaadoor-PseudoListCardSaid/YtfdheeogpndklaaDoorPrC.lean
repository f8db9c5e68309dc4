/-
  Layer 13: the program's list is the document's, each square to each square.
-/
import Derived.Test.YtfdheeogpndklaaDoorPrA
import Derived.Test.YtfdheeogpndklaaDoorCsL
namespace Go.Proofs.YtfdheeogpndklaaDoor
open Go.RowKit
set_option linter.unusedVariables false
set_option linter.unusedSimpArgs false

/-- What the document tells of the piece on a, to the squares below n. -/
def toL (p : Nat → Int) (a n : Nat) : List Pm := (List.range n).flatMap fun b => bif maB p a b then mvO p (a : Int) b else []
def frL (p : Nat → Int) (n : Nat) : List Pm := (List.range n).flatMap fun a => toL p a 64
theorem to_next (p : Nat → Int) (a n : Nat) : toL p a (n + 1) = toL p a n ++ (bif maB p a n then mvO p (a : Int) n else []) := by
  unfold toL; rw [List.range_succ, List.flatMap_append]; simp
theorem fr_next (p : Nat → Int) (n : Nat) : frL p (n + 1) = frL p n ++ toL p n 64 := by
  unfold frL; rw [List.range_succ, List.flatMap_append]; simp
theorem flat_filter {α β : Type} (f : α → List β) (g : α → Bool) : ∀ l : List α, (l.filter g).flatMap f = l.flatMap fun x => bif g x then f x else []
  | [] => rfl
  | x :: l => by
    rw [List.flatMap_cons, ← flat_filter f g l]
    cases h : g x
    · rw [List.filter_cons_of_neg (by rw [h]; decide)]; rfl
    · rw [List.filter_cons_of_pos h, List.flatMap_cons]; rfl
theorem list_filter (b : Nat) : listN b = (List.range 64).filter fun i => b.testBit i := rfl
theorem flat_same {α β : Type} {f g : α → List β} {l : List α} (h : ∀ x ∈ l, f x = g x) : l.flatMap f = l.flatMap g := by
  induction l with
  | nil => rfl
  | cons x l ih => rw [List.flatMap_cons, List.flatMap_cons, h x (by simp), ih fun y hy => h y (by simp [hy])]
theorem mvs_to {p : Nat → Int} (hp : PsR p) (hv : p 0 < 9) (h1 : p 78 < 2) {a : Nat} (ha : a < 64) : mvsL p (ownN p) (theN p) (a : Int) = toL p a 64 := by
  unfold mvsL toL
  rw [list_filter, flat_filter]
  refine flat_same fun b hb => ?_
  rw [ma_gol hp hv h1 ha (List.mem_range.1 hb)]
theorem all_fr {p : Nat → Int} (hp : PsR p) (hv : p 0 < 9) (h1 : p 78 < 2) : allL p = frL p 64 := by
  unfold allL frL
  rw [list_filter, flat_filter]
  refine flat_same fun a ha => ?_
  have ha := List.mem_range.1 ha
  rw [mvs_to hp hv h1 ha]
  cases g : (ownN p).testBit a
  · have : toL p a 64 = [] := by
      rw [← mvs_to hp hv h1 ha]
      unfold mvsL golN
      rw [hasN_nat _ _ ha, g, cond_false, listN_zero]; rfl
    rw [this]; rfl
  · rfl
theorem all_none {p : Nat → Int} (hp : PsR p) (h : ¬ (p 0 < 9 ∧ p 78 < 2)) : allL p = [] := by
  have : ownN p = 0 := by
    apply eq_of_bits (ownN_lt p) (show (0 : Nat) < W64 by decide)
    intro i hi
    rw [Nat.zero_testBit]
    by_cases hv : p 0 < 9
    · rw [ownN_testBit hv hi]
      cases g : pcB (p (1 + i))
      · rfl
      · have := pcB_true.1 g
        rw [Bool.true_and, beq_eq_false_iff_ne]
        unfold colZ
        rw [g, cond_true]
        have := hp.turn.1
        omega
    · unfold ownN vrB; rw [decide_eq_false hv]; exact Nat.zero_testBit i
  unfold allL; rw [this]; rfl
theorem bec_ref {p : Nat → Int} (h0 : 0 ≤ p 78) (h1 : p 78 < 2) {a b : Nat} (ha : a < 64) (hb : b < 64) : becL p (a : Int) b = bif (kndZ (p (1 + a)) == 1) && (rnkC (p 78) b == 7) then prL (p 0).toNat else [0] := by
  unfold becL
  rw [knP_nat _ ha]
  have e : (((b / 8 : Nat) : Int) == homZ (oth (p 78))) = (rnkC (p 78) b == 7) := by
    unfold homZ oth rnkC
    rcases (by omega : p 78 = 0 ∨ p 78 = 1) with h | h
    · rw [h]; rfl
    · rw [h]
      show (((b / 8 : Nat) : Int) == 0) = (7 - ((b / 8 : Nat) : Int) == 7)
      rw [Bool.eq_iff_iff]; simp only [beq_iff_eq]; omega
  rw [e]
end Go.Proofs.YtfdheeogpndklaaDoor
