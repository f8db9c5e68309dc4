/-
  Contract of the document's own Writable (layer 10).
-/
import Derived.Test.YtjbfjohgfbipgaaGreatDoorFnBaseC
namespace Go.Proofs.YtjbfjohgfbipgaaGreatDoor
open Go.RowKit
set_option linter.unusedVariables false
set_option linter.unusedSimpArgs false

def allB (f : Nat → Bool) : Nat → Bool
  | 0 => true
  | n + 1 => allB f n && f n
theorem allB_succ {f : Nat → Bool} {n : Nat} (h : allB f n = true) (g : f n = true) : allB f (n + 1) = true := by rw [allB, h, g]; rfl
theorem allB_no {f : Nat → Bool} {k : Nat} (h : f k = false) : ∀ {n : Nat}, k < n → allB f n = false
  | 0, hk => by omega
  | n + 1, hk => by
    rw [allB]
    by_cases e : k = n
    · subst e; rw [h, Bool.and_false]
    · rw [allB_no h (n := n) (by omega), Bool.false_and]
theorem allB_true {f : Nat → Bool} : ∀ {n : Nat}, allB f n = true ↔ ∀ k, k < n → f k = true
  | 0 => ⟨fun _ k hk => by omega, fun _ => rfl⟩
  | n + 1 => by
    rw [allB, Bool.and_eq_true, allB_true]
    constructor
    · rintro ⟨h1, h2⟩ k hk
      by_cases e : k = n
      · subst e; exact h2
      · exact h1 k (by omega)
    · exact fun h => ⟨fun k hk => h k (by omega), h n (by omega)⟩
def wrH (p : Nat → Int) : Bool := !(decide (8 < p 0) || decide (1 < p 78) || decide (p 83 < -1) || decide (63 < p 83) || decide (p 86 < 0) || decide (p 87 < 0) || decide (10000 < p 86) || decide (10000 < p 87))
def wrS (p : Nat → Int) (s : Nat) : Bool := !((p (1 + s) != 0) && !pcB (p (1 + s))) && !(hasN (p 65).toNat (s : Int) && ((p (1 + s) == 0) || (p 0 != 2)))
def wrK (p : Nat → Int) (c k : Nat) : Bool := !(decide (0 < p (66 + c * 6 + k)) && ((p 0 != 2) || ((k : Int) == 0)))
def wrG (p : Nat → Int) (c : Nat) : Bool := !(decide (3 < p (84 + c)) || (decide (0 < p (84 + c)) && (p 0 != 5)))
def wrR (p : Nat → Int) (c d : Nat) : Bool := !((p (79 + c * 2 + d) != -1) && !rightB p (c : Int) (d : Int) (p (79 + c * 2 + d)))
def wrC (p : Nat → Int) (c : Nat) : Bool := allB (wrK p c) 6 && wrG p c && allB (wrR p c) 2
/-- A position that can be written, but for how long its text is. -/
def wrB (p : Nat → Int) : Bool := wrH p && allB (wrS p) 64 && allB (wrC p) 2
theorem wr_noS {p : Nat → Int} {s : Nat} (hs : s < 64) (h : wrS p s = false) : wrB p = false := by unfold wrB; rw [allB_no h hs, Bool.and_false, Bool.false_and]
theorem wr_noC {p : Nat → Int} {c : Nat} (hc : c < 2) (h : wrC p c = false) : wrB p = false := by unfold wrB; rw [allB_no h hc, Bool.and_false]
theorem wr_noK {p : Nat → Int} {c k : Nat} (hc : c < 2) (hk : k < 6) (h : wrK p c k = false) : wrB p = false := wr_noC hc (by unfold wrC; rw [allB_no h hk, Bool.false_and, Bool.false_and])
theorem wr_noG {p : Nat → Int} {c : Nat} (hc : c < 2) (h : wrG p c = false) : wrB p = false := wr_noC hc (by unfold wrC; rw [h, Bool.and_false, Bool.false_and])
theorem wr_noR {p : Nat → Int} {c d : Nat} (hc : c < 2) (hd : d < 2) (h : wrR p c d = false) : wrB p = false := wr_noC hc (by unfold wrC; rw [allB_no h hd, Bool.and_false])
/-- The numbers of a position fit their kinds (layer 10's). -/
structure FitF (p : Nat → Int) : Prop where
  var : 0 ≤ p 0 ∧ p 0 ≤ 255
  bd : BdR p
  prom : 0 ≤ p 65 ∧ (p 65).toNat < W64
  pock : ∀ i, 66 ≤ i → i < 78 → 0 ≤ p i ∧ p i ≤ 255
  turn : 0 ≤ p 78 ∧ p 78 ≤ 255
  rook : ∀ i, 79 ≤ i → i < 83 → -128 ≤ p i ∧ p i ≤ 127
  pass : -128 ≤ p 83 ∧ p 83 ≤ 127
  chk : ∀ i, 84 ≤ i → i < 86 → 0 ≤ p i ∧ p i ≤ 255
theorem kf_u8 {o : Nat} (k : o < 65 ∨ 66 ≤ o ∧ o < 79 ∨ o = 84 ∨ o = 85) : kAt o = .u8 := by unfold kAt; rw [if_neg (by omega), if_neg (by omega), if_neg (by omega)]
theorem kf_i8 {o : Nat} (h : 79 ≤ o) (k : o ≤ 83) : kAt o = .i8 := by unfold kAt; rw [if_neg (by omega), if_pos ⟨h, k⟩]
end Go.Proofs.YtjbfjohgfbipgaaGreatDoor
