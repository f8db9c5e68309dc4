/-
  Rows of eight places: the first positions of chess960, as the program and as the document lay them, told over all 960 numbers by the kernel.
-/
import Derived.Test.YtdjnniohoicppaaDoorAtBase
namespace Go.Proofs.YtdjnniohoicppaaDoor
set_option linter.unusedVariables false

/-- The place of the empty place number c, from place k on, when n places are left. -/
def seekR (r : Nat → Int) : Nat → Nat → Nat → Nat
  | 0, k, _ => k
  | n + 1, k, c => bif r k == 0 then (match c with | 0 => k | d + 1 => seekR r n (k + 1) d) else seekR r n (k + 1) c
def placeR (r : Nat → Int) (c : Nat) (x : Int) : Nat → Int := upd r (seekR r 8 0 c) x
/-- The empty places below k, rising. -/
def emR (r : Nat → Int) : Nat → List Nat
  | 0 => []
  | k + 1 => bif r k == 0 then emR r k ++ [k] else emR r k
/-- The row is told by a list. -/
structure Rep (r : Nat → Int) (l : List Nat) : Prop where
  len : l.length = 8
  at_ : ∀ i, i < 8 → r i = ((l.getD i 0 : Nat) : Int)
def seekL : List Nat → Nat → Nat
  | [], _ => 0
  | a :: l, c => bif Nat.beq a 0 then (match c with | 0 => 0 | d + 1 => seekL l d + 1) else seekL l c + 1
def emL (l : List Nat) : List Nat := (List.range 8).filter fun i => Nat.beq (l.getD i 0) 0
theorem seek_eq (r : Nat → Int) : ∀ (l : List Nat) (k c : Nat), (∀ i, i < l.length → r (k + i) = ((l.getD i 0 : Nat) : Int)) → seekR r l.length k c = k + seekL l c
  | [], k, c, _ => by simp [seekR, seekL]
  | a :: l, k, c, h => by
    have h0 := h 0 (by simp)
    simp only [Nat.add_zero, List.getD_cons_zero] at h0
    have hr : ∀ d, seekR r l.length (k + 1) d = k + 1 + seekL l d := fun d => seek_eq r l (k + 1) d fun i hi => by
      have := h (i + 1) (by simp; omega)
      rw [show k + (i + 1) = k + 1 + i by omega] at this
      simpa using this
    have hb : (r k == 0) = Nat.beq a 0 := by
      rw [h0, Bool.eq_iff_iff]; simp
    show (bif r k == 0 then _ else _) = _
    rw [hb]
    unfold seekL
    cases hz : Nat.beq a 0
    · simp only [cond_false]; rw [hr]; omega
    · simp only [cond_true]
      cases c with
      | zero => simp
      | succ d => simp only; rw [hr]; omega
theorem Rep.zero : Rep (fun _ => 0) [0, 0, 0, 0, 0, 0, 0, 0] := ⟨rfl, fun i hi => by
  match i, hi with
  | 0, _ => rfl
  | 1, _ => rfl
  | 2, _ => rfl
  | 3, _ => rfl
  | 4, _ => rfl
  | 5, _ => rfl
  | 6, _ => rfl
  | 7, _ => rfl⟩
theorem Rep.set {r : Nat → Int} {l : List Nat} (h : Rep r l) (i x : Nat) : Rep (upd r i (x : Int)) (l.set i x) := ⟨by rw [List.length_set]; exact h.len, fun j hj => by
  by_cases e : j = i
  · subst e
    rw [upd_same, List.getD_eq_getElem?_getD, List.getElem?_set_self (by rw [h.len]; exact hj)]; rfl
  · rw [upd_other _ _ _ _ e, h.at_ j hj, List.getD_eq_getElem?_getD, List.getD_eq_getElem?_getD, List.getElem?_set_ne (Ne.symm e)]⟩
theorem Rep.seek {r : Nat → Int} {l : List Nat} (h : Rep r l) (c : Nat) : seekR r 8 0 c = seekL l c := by
  have := seek_eq r l 0 c fun i hi => by rw [Nat.zero_add]; exact h.at_ i (by rw [← h.len]; exact hi)
  rw [h.len] at this
  omega
theorem Rep.place {r : Nat → Int} {l : List Nat} (h : Rep r l) (c x : Nat) : Rep (placeR r c (x : Int)) (l.set (seekL l c) x) := by
  unfold placeR; rw [h.seek]; exact h.set _ _
theorem emR_eq {r : Nat → Int} {l : List Nat} (h : Rep r l) : ∀ k, k ≤ 8 → emR r k = (List.range k).filter fun i => Nat.beq (l.getD i 0) 0
  | 0, _ => rfl
  | k + 1, hk => by
    unfold emR
    rw [emR_eq h k (by omega), List.range_succ, List.filter_append]
    have hb : (r k == 0) = Nat.beq (l.getD k 0) 0 := by rw [h.at_ k (by omega), Bool.eq_iff_iff]; simp
    rw [hb]
    cases hz : Nat.beq (l.getD k 0) 0
    · simp only [cond_false, List.filter_cons, List.filter_nil, hz, Bool.false_eq_true, if_false, List.append_nil]
    · simp only [cond_true, List.filter_cons, List.filter_nil, hz, if_true]
theorem Rep.em {r : Nat → Int} {l : List Nat} (h : Rep r l) : emR r 8 = emL l := emR_eq h 8 (Nat.le_refl _)
theorem Rep.ext {r s : Nat → Int} {l : List Nat} (h : Rep r l) (k : Rep s l) (i : Nat) (hi : i < 8) : r i = s i := (h.at_ i hi).trans (k.at_ i hi).symm

/-! The row of a number, by lists. -/
/-- The nearer and the farther knight's place among the five empty ones. -/
def knA (k : Nat) : Nat := bif Nat.blt k 4 then 0 else bif Nat.blt k 7 then 1 else bif Nat.blt k 9 then 2 else 3
def knB (k : Nat) : Nat := bif Nat.blt k 4 then k + 1 else bif Nat.blt k 7 then k - 2 else bif Nat.blt k 9 then k - 4 else 4
def rowL (n : Nat) : List Nat :=
  let a := ([0, 0, 0, 0, 0, 0, 0, 0].set (2 * (n % 4) + 1) 3).set (2 * (n / 4 % 4)) 3
  let b := a.set (seekL a (n / 4 / 4 % 6)) 5
  let c := b.set (seekL b (knB (n / 4 / 4 / 6))) 2
  let d := c.set (seekL c (knA (n / 4 / 4 / 6))) 2
  let e := d.set (seekL d 0) 4
  let f := e.set (seekL e 0) 6
  f.set (seekL f 0) 4
/-- The same, as the program lays it. -/
def rowZ (n : Nat) : Nat → Int :=
  placeR (placeR (placeR (placeR (placeR (placeR (upd (upd (fun _ => 0) (2 * (n % 4) + 1) 3) (2 * (n / 4 % 4)) 3) (n / 4 / 4 % 6) 5) (knB (n / 4 / 4 / 6)) 2) (knA (n / 4 / 4 / 6)) 2) 0 4) 0 6) 0 4
theorem rowZ_rep (n : Nat) : Rep (rowZ n) (rowL n) :=
  (((((((Rep.zero.set _ 3).set _ 3).place _ 5).place _ 2).place _ 2).place 0 4).place 0 6).place 0 4
end Go.Proofs.YtdjnniohoicppaaDoor
