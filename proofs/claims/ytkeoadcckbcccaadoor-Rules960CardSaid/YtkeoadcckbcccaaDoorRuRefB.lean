/-
  Contract of the document's Start960.
-/
import Derived.Test.YtkeoadcckbcccaaDoorRuOf
import Derived.Test.YtkeoadcckbcccaaDoorRuLater
import Derived.Great.BuildSlice
import Derived.Laws.BytesArg
namespace Go.Proofs.YtkeoadcckbcccaaDoor
open Go.RowKit
set_option linter.unusedVariables false
set_option linter.unusedSimpArgs false
def rfA (n : Nat) : Nat → Int := upd (upd zeroP (1 + 2 * (n % 4)) 66) (2 * (n / 4 % 4)) 66
def rfB (n : Nat) : Nat → Int := upd (rfA n) ((emL (refA n)).getD (n / 16 % 6) 0) 81
def rfC (n : Nat) : Nat → Int := upd (upd (rfB n) ((emL (refB n)).getD (knA (n / 96)) 0) 78) ((emL (refB n)).getD (knB (n / 96)) 0) 78
def rfD (n : Nat) : Nat → Int := upd (upd (upd (rfC n) ((refE n).getD 0 0) 82) ((refE n).getD 1 0) 75) ((refE n).getD 2 0) 82
theorem rfA_rep (n : Nat) : Rep (rfA n) (refA n) := (Rep.zero.set _ 66).set _ 66
theorem rfB_rep (n : Nat) : Rep (rfB n) (refB n) := (rfA_rep n).set _ 81
theorem rfC_rep (n : Nat) : Rep (rfC n) (refC n) := ((rfB_rep n).set _ 78).set _ 78
theorem rfD_rep (n : Nat) : Rep (rfD n) (refD n) := (((rfC_rep n).set _ 82).set _ 75).set _ 82
theorem Lies.zero {K : IntKind} {e : TypeId} {B g cap : Nat} {cur : Array Value} {l : List Nat} {v : Value} {w : World} (h : Lies K e B l v g cap cur w) : Lies K e 0 l v g cap cur w := { h with base := Nat.zero_le _ }
theorem rfD_rng (n : Nat) (hn : n < 960) : ∀ i, i < 8 → 0 ≤ rfD n i ∧ rfD n i ≤ 90 := fun i hi => by
  have key : ∀ n : Fin 960, ((refD n.val).all fun x => Nat.ble x 90) = true := by decide +kernel
  have hl : i < (refD n).length := by rw [(rfD_rep n).len]; exact hi
  have h2 := List.all_eq_true.1 (key ⟨n, hn⟩) ((refD n)[i]) (List.getElem_mem hl)
  rw [(rfD_rep n).at_ i hi, List.getD_eq_getElem?_getD, List.getElem?_eq_getElem hl]
  have h3 : (refD n)[i] ≤ 90 := by simpa using h2
  show 0 ≤ (((refD n)[i] : Nat) : Int) ∧ (((refD n)[i] : Nat) : Int) ≤ 90
  omega
theorem lies_at {K : IntKind} {e : TypeId} {B g cap : Nat} {cur : Array Value} {l : List Nat} {v : Value} {w : World} (h : Lies K e B l v g cap cur w) (i x : Nat) (hi : i < l.length) (hx : l.getD i 0 = x) : w.cell? ⟨g, i, none⟩ = some (.int K (x : Int)) := by
  rw [h.cell i hi, ← hx, List.getD_eq_getElem?_getD, List.getElem?_eq_getElem hi]; rfl
theorem getD_lt {l : List Nat} {i m : Nat} (hi : i < l.length) (h : ∀ x ∈ l, x < m) : l.getD i 0 < m := by
  rw [List.getD_eq_getElem?_getD, List.getElem?_eq_getElem hi]
  exact h _ (List.getElem_mem hi)
def cA (a : Nat) : Nat := [0, 4, 7, 9, 10, 10].getD a 0
def prN (a b : Nat) : Nat := cA a + (b - (a + 1))
theorem pr_first (a : Nat) : prN a (a + 1) = cA a := by unfold prN; omega
theorem pr_next {a b : Nat} (h : a < b) : prN a (b + 1) = prN a b + 1 := by unfold prN; omega
theorem pr_last {a : Nat} (h : a < 5) : prN a 5 = cA (a + 1) := by
  have key : ∀ a : Fin 5, prN a.val 5 = cA (a.val + 1) := by decide +kernel
  exact key ⟨a, h⟩
theorem pr_hit {a b : Nat} (ha : a < 5) (hb : b < 5) (h : a < b) : knA (prN a b) = a ∧ knB (prN a b) = b := by
  have key : ∀ a b : Fin 5, a.val < b.val → knA (prN a.val b.val) = a.val ∧ knB (prN a.val b.val) = b.val := by decide +kernel
  exact key ⟨a, ha⟩ ⟨b, hb⟩ h
theorem pr_le {a b : Nat} (ha : a < 5) (hb : b ≤ 5) : prN a b ≤ 20 := by
  have key : ∀ a : Fin 5, ∀ b : Fin 6, prN a.val b.val ≤ 20 := by decide +kernel
  exact key ⟨a, ha⟩ ⟨b, by omega⟩
def rcN (p q : Nat → Int) (k m : Nat) : Nat → Int := if k < m then q else p
theorem rc_same {p q : Nat → Int} {k m : Nat} (h : m ≠ k) : rcN p q k (m + 1) = rcN p q k m := by
  unfold rcN
  by_cases h1 : k < m
  · rw [if_pos h1, if_pos (by omega)]
  · rw [if_neg h1, if_neg (by omega)]
theorem rc_at (p q : Nat → Int) (k : Nat) : rcN p q k k = p := if_neg (by omega)
theorem rc_past (p q : Nat → Int) (k : Nat) : rcN p q k (k + 1) = q := if_pos (by omega)
def loN (r : Nat → Int) : Nat → Nat → Int
  | 0 => zeroP
  | k + 1 => upd (loN r k) k (r k + 32)
theorem loN_at (r : Nat → Int) : ∀ k i, i < k → loN r k i = r i + 32
  | 0, i, h => by omega
  | k + 1, i, h => by
    show upd _ _ _ i = _
    by_cases e : i = k
    · subst e; rw [upd_same]
    · rw [upd_other _ _ _ _ e]; exact loN_at r k i (by omega)
/-- A row's text. -/
def stR (r : Nat → Int) : ByteArray := strOfNums ((List.range 8).map r)
theorem stR_size (r : Nat → Int) : (stR r).size = 8 := by unfold stR; rw [strOfNums_size]; simp
theorem run_text {o : Oper} {a : Act} {w : World} (x : Operand) (ho : o.op = .convert 26 9 x) (b : Nat) (hx : a.eval x = .slice (some ⟨b, 0, none⟩) 8 8) (r : Nat → Int) (hr : Blk w b 58 (arrA 8 .u8 r)) :
    (execOp a.eval o).run Tryd.prog w = .ok (.value (.string (stR r))) w := by
  have hl := run_convert_bytes_arg (P := Tryd.prog) w 26 5 Tryd.underlying26 Tryd.underlying5 b 0 8 8 ((List.range 8).map r) (by simp) (fun i hi => by
    rw [Nat.zero_add, hr.at i hi]
    simp [hi]) 9 Tryd.underlying9
  unfold execOp
  simp only [ho, hx, Sem.run_bind, hl, Result.andThen_ok]
  rfl
theorem run_built {o : Oper} {a : Act} {w : World} (T : TypeId) (parts : Array (Nat × Operand)) (ho : o.op = .build T parts) (cs : Array Value) (hb : Tryd.prog.built T (parts.map fun (i, x) => (i, a.eval x)).toList = some cs) : (execOp a.eval o).run Tryd.prog w = .ok (.value (.agg cs)) w := by
  unfold execOp
  simp only [ho, Sem.run_bind, run_build w T _ cs hb, Result.andThen_ok]
  rfl
def pawns : ByteArray := ⟨#[112, 112, 112, 112, 112, 112, 112, 112]⟩
def pawnW : ByteArray := ⟨#[80, 80, 80, 80, 80, 80, 80, 80]⟩
def rowsL (lo up : ByteArray) : List ByteArray := [lo, pawns, ⟨#[]⟩, ⟨#[]⟩, ⟨#[]⟩, ⟨#[]⟩, pawnW, up]
theorem rowsL_size (lo up : ByteArray) (h0 : lo.size ≤ 8) (h1 : up.size ≤ 8) (i : Nat) (hi : i < 8) : ((rowsL lo up).getD i ⟨#[]⟩).size ≤ 8 := by
  match i, hi with
  | 0, _ => exact h0
  | 1, _ => show pawns.size ≤ 8; decide
  | 2, _ => show (⟨#[]⟩ : ByteArray).size ≤ 8; decide
  | 3, _ => show (⟨#[]⟩ : ByteArray).size ≤ 8; decide
  | 4, _ => show (⟨#[]⟩ : ByteArray).size ≤ 8; decide
  | 5, _ => show (⟨#[]⟩ : ByteArray).size ≤ 8; decide
  | 6, _ => show pawnW.size ≤ 8; decide
  | 7, _ => exact h1
theorem info9 : (Tryd.prog.info? 9).map (fun i => (i.zero, i.size)) = some (some (.string ⟨#[]⟩), 1) := by kernel_rfl
theorem fill_rows (lo up : ByteArray) : Instr.fill (fun i => some (i * 1, 1)) ((Array.range (8 * 1)).map ((Value.string ⟨#[]⟩).cells[· % (Value.string ⟨#[]⟩).cells.size]!))
    [(0, .string lo), (1, .string pawns), (2, .string ⟨#[]⟩), (3, .string ⟨#[]⟩), (4, .string ⟨#[]⟩), (5, .string ⟨#[]⟩), (6, .string pawnW), (7, .string up)] = some (strA (rowsL lo up)) := by kernel_rfl
theorem late_rows {o : Oper} {a : Act} {w : World} {K : Act → World → Prop} {Q : Exit → Act → World → Prop} (parts : Array (Nat × Operand)) (ho : o.op = .buildSlice 51 8 parts) (lo up : ByteArray)
    (hp : (parts.map fun (i, x) => (i, a.eval x)).toList = [(0, .string lo), (1, .string pawns), (2, .string ⟨#[]⟩), (3, .string ⟨#[]⟩), (4, .string ⟨#[]⟩), (5, .string ⟨#[]⟩), (6, .string pawnW), (7, .string up)])
    (h : ∀ b w', New b w w' → Blk w' b 9 (strA (rowsL lo up)) → K (a.put o.dst (.slice (some ⟨b, 0, none⟩) 8 8)) w') : Wp Tryd.prog o a w K Q := ⟨by
  have hk := h _ _ (New.alloc w _) (heap_alloc_new w (.cells (strA (rowsL lo up)) 9))
  cases hq : Tryd.prog.info? 9 with
  | none => have := info9; simp [hq] at this
  | some i =>
    have hi := info9
    simp only [hq, Option.map_some, Option.some.injEq, Prod.mk.injEq] at hi
    refine wp_buildSlice 51 9 8 parts ho (strA (rowsL lo up)) i (.string ⟨#[]⟩) Tryd.underlying51 hq hi.1 (by rw [hi.2]; decide) (by rw [hi.2]; decide) ?_ hk
    rw [hp, hi.2]
    exact fill_rows lo up⟩
end Go.Proofs.YtkeoadcckbcccaaDoor
