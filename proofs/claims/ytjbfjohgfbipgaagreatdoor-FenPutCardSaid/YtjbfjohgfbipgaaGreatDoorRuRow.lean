/-
  The document's row of each number of chess960, as bytes, against the program's: told over all 960 numbers by the kernel.
-/
import Derived.Test.YtjbfjohgfbipgaaGreatDoorFnBaseC
namespace Go.Proofs.YtjbfjohgfbipgaaGreatDoor
set_option linter.unusedVariables false
/-! The document's row of a number, as bytes. -/
/-- The letters of all pieces, by their numbers. -/
def ltL : List Nat := [46, 80, 78, 66, 82, 81, 75, 46, 46, 112, 110, 98, 114, 113, 107]
def letN (c : Nat) : Nat := bif Nat.beq c 46 then 0 else (fun k => bif Nat.blt k 15 then k else 0) (ltL.findIdx fun x => Nat.beq x c)
theorem let_hit {c k : Nat} (h1 : 1 ≤ k) (hk : k < 15) (hc : c ≠ 46) (h : ltL.getD k 0 = c) : letN c = k := by
  subst h
  have key : ∀ k : Fin 15, 1 ≤ k.val → ltL.getD k.val 0 ≠ 46 → letN (ltL.getD k.val 0) = k.val := by decide +kernel
  exact key ⟨k, hk⟩ h1 hc
theorem let_miss {c : Nat} (hc : c < 256) (h : c ≠ 46 → ∀ k, 1 ≤ k → k < 15 → ltL.getD k 0 ≠ c) : letN c = 0 := by
  have key : ∀ c : Fin 256, (c.val ≠ 46 → ∀ k : Fin 15, 1 ≤ k.val → ltL.getD k.val 0 ≠ c.val) → letN c.val = 0 := by decide +kernel
  exact key ⟨c, hc⟩ fun h46 k h1 => h h46 k.val h1 k.isLt
def refA (n : Nat) : List Nat := ([0, 0, 0, 0, 0, 0, 0, 0].set (1 + 2 * (n % 4)) 66).set (2 * (n / 4 % 4)) 66
def refRwB (n : Nat) : List Nat := (refA n).set ((emL (refA n)).getD (n / 16 % 6) 0) 81
def refC (n : Nat) : List Nat := ((refRwB n).set ((emL (refRwB n)).getD (knA (n / 96)) 0) 78).set ((emL (refRwB n)).getD (knB (n / 96)) 0) 78
def refE (n : Nat) : List Nat := emL (refC n)
def refD (n : Nat) : List Nat := (((refC n).set ((refE n).getD 0 0) 82).set ((refE n).getD 1 0) 75).set ((refE n).getD 2 0) 82
/-- The last rook below a place, and the first one. -/
def rf0 (r : Nat → Int) : Nat → Int
  | 0 => -1
  | k + 1 => bif r k == 4 then (k : Int) else rf0 r k
def rf1 (r : Nat → Int) : Nat → Int
  | 0 => -1
  | k + 1 => bif (r k == 4) && (rf1 r k == -1) then (k : Int) else rf1 r k
theorem rf0_ext {r s : Nat → Int} : ∀ k, (∀ i, i < k → r i = s i) → rf0 r k = rf0 s k
  | 0, _ => rfl
  | k + 1, h => by unfold rf0; rw [h k (by omega), rf0_ext k fun i hi => h i (by omega)]
theorem rf1_ext {r s : Nat → Int} : ∀ k, (∀ i, i < k → r i = s i) → rf1 r k = rf1 s k
  | 0, _ => rfl
  | k + 1, h => by unfold rf1; rw [h k (by omega), rf1_ext k fun i hi => h i (by omega)]
def ofL (l : List Nat) : Nat → Int := fun i => ((l.getD i 0 : Nat) : Int)
theorem Rep.of {r : Nat → Int} {l : List Nat} (h : Rep r l) (i : Nat) (hi : i < 8) : r i = ofL l i := h.at_ i hi
set_option maxRecDepth 100000 in
theorem ref_lens : ∀ n : Fin 960, (emL (refA n.val)).length = 6 ∧ (emL (refRwB n.val)).length = 5 ∧ (refE n.val).length = 3 := by decide +kernel
set_option maxRecDepth 100000 in
theorem ref_row : ∀ n : Fin 960, (refD n.val).map letN = rowL n.val ∧ (refD n.val).map (fun b => letN (b + 32)) = (rowL n.val).map (8 + ·) := by decide +kernel
set_option maxRecDepth 100000 in
theorem ref_rooks : ∀ n : Fin 960, rf0 (ofL (rowL n.val)) 8 = (((refE n.val).getD 2 0 : Nat) : Int) ∧ rf1 (ofL (rowL n.val)) 8 = (((refE n.val).getD 0 0 : Nat) : Int) := by decide +kernel
theorem em_lt {l : List Nat} {i : Nat} (h : i ∈ emL l) : i < 8 := by
  unfold emL at h
  simpa using (List.mem_filter.1 h).1
end Go.Proofs.YtjbfjohgfbipgaaGreatDoor
