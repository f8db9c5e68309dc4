/-
  Several texts in one: RuRefA, RuOf, RuRefB, RuRef960, RuNm, RuProm, RuRefStart, RuEq.
-/
import Derived.Test.YtfdheeogpndklaaDoorVaBaseB
import Derived.Test.YtfdheeogpndklaaDoorVaBaseE
import Derived.IntWalk
import Derived.Great.BuildSlice
import Derived.Laws.BytesArg
import Derived.Deep.QuietTactic
import Derived.BigQuiet
/-
  Contracts of the document's Letter and empties.
-/
namespace Go.Proofs.YtfdheeogpndklaaDoor
open Go.RowKit
set_option linter.unusedVariables false
set_option linter.unusedSimpArgs false
section laws
variable {ops : Array Oper} {rest : List Oper} {op : Oper} {a : Act} {w : World} {Q : Exit → Act → World → Prop}
theorem step_char (hw : Region.wanted op (yielded ops a.tmps) = true) (x y : Operand) (ho : op.op = .index 9 x y) (s : ByteArray) (hx : a.eval x = .string s) (k : Nat) (hy : a.eval y = .int .i64 (k : Int)) (b : UInt8) (hb : s[k]? = some b) (v : Nat) (hv : b.toNat = v)
    (h : wpList Tryd.prog ops Q rest (a.put op.dst (.int .u8 (v : Int))) w) : wpList Tryd.prog ops Q (op :: rest) a w :=
  wpList_want hw fun K' hK' => by
    subst hv
    have hk' := hK' _ _ h
    have h0 : (0 : Int) ≤ (k : Int) := by omega
    unfold Oper.wp execOp
    simp only [ho, hx, hy, Instr.index, asIntOf, Sem.run_bind, Sem.run_pure, Result.andThen_ok, run_underlying Tryd.underlying9, h0, if_true, Int.toNat_natCast, hb]
    exact hk'
end laws
theorem lt_at (k : Nat) (h : k < 15) : (⟨#[46, 80, 78, 66, 82, 81, 75, 46, 46, 112, 110, 98, 114, 113, 107]⟩ : ByteArray)[k]? = some (UInt8.ofNat (ltL.getD k 0)) := by
  match k, h with
  | 0, _ => rfl
  | 1, _ => rfl
  | 2, _ => rfl
  | 3, _ => rfl
  | 4, _ => rfl
  | 5, _ => rfl
  | 6, _ => rfl
  | 7, _ => rfl
  | 8, _ => rfl
  | 9, _ => rfl
  | 10, _ => rfl
  | 11, _ => rfl
  | 12, _ => rfl
  | 13, _ => rfl
  | 14, _ => rfl
theorem lt_byte (k : Nat) (h : k < 15) : (UInt8.ofNat (ltL.getD k 0)).toNat = ltL.getD k 0 := by
  have key : ∀ k : Fin 15, (UInt8.ofNat (ltL.getD k.val 0)).toNat = ltL.getD k.val 0 := by decide +kernel
  exact key ⟨k, h⟩
theorem em_yes {r : Nat → Int} {k : Nat} (h : (r k == 0) = true) : emR r (k + 1) = emR r k ++ [k] := by rw [emR, h]; rfl
theorem em_no {r : Nat → Int} {k : Nat} (h : (r k == 0) = false) : emR r (k + 1) = emR r k := by rw [emR, h]; rfl
theorem em_len (r : Nat → Int) : ∀ k, (emR r k).length ≤ k
  | 0 => Nat.le_refl _
  | k + 1 => by
    have := em_len r k
    unfold emR
    cases (r k == 0)
    · simp only [cond_false]; omega
    · simp only [cond_true, List.length_append, List.length_singleton]; omega
end Go.Proofs.YtfdheeogpndklaaDoor
/-
  Contract of the document's Of: a position of eight rows of letters.
-/
namespace Go.Proofs.YtfdheeogpndklaaDoor
open Go.RowKit
set_option linter.unusedVariables false
set_option linter.unusedSimpArgs false
def strA (L : List ByteArray) : Array Value := (L.map fun s => Value.string s).toArray
theorem strA_get (L : List ByteArray) (i : Nat) (h : i < L.length) : (strA L)[i]? = some (.string (L.getD i ⟨#[]⟩)) := by
  unfold strA
  rw [List.getElem?_toArray, List.getElem?_map, List.getD_eq_getElem?_getD, List.getElem?_eq_getElem h]; rfl
def byRu (s : ByteArray) (j : Nat) : Nat := (s.data.toList.getD j 0).toNat
theorem byRu_lt (s : ByteArray) (j : Nat) : byRu s j < 256 := (s.data.toList.getD j 0).toNat_lt
theorem char_at (s : ByteArray) (j : Nat) (h : j < s.size) : s[j]? = some (s.data.toList.getD j 0) := by
  obtain ⟨⟨l⟩⟩ := s
  have h' : j < l.length := h
  show (if h : j < (ByteArray.mk ⟨l⟩).size then some ((ByteArray.mk ⟨l⟩)[j]) else none) = _
  rw [dif_pos h]
  show some (l[j]) = _
  rw [List.getD_eq_getElem?_getD, List.getElem?_eq_getElem h']; rfl
/-- Behind j letters of a row. -/
def ofJ (p : Nat → Int) (s : ByteArray) (i : Nat) : Nat → Nat → Int
  | 0 => p
  | j + 1 => upd (ofJ p s i j) (1 + (8 * (7 - i) + j)) ((letN (byRu s j) : Nat) : Int)
/-- Behind i rows. -/
def ofI (p : Nat → Int) (L : List ByteArray) : Nat → Nat → Int
  | 0 => p
  | i + 1 => ofJ (ofI p L i) (L.getD i ⟨#[]⟩) i (L.getD i ⟨#[]⟩).size
/-- The position of a variant and rows of letters, the last rank first. -/
def ofP (v : Int) (L : List ByteArray) : Nat → Int := ofI (bareP v) L 8
def of0 (v : Int) : Nat → Int := fun i => if i = 0 then v else if i = 83 then -1 else if i = 87 then 1 else 0
theorem of0_rooks (v : Int) : over (of0 v) 79 4 (bareP v) = bareP v := by
  funext j
  unfold over of0 bareP
  by_cases h : 79 ≤ j ∧ j < 79 + 4
  · rw [if_pos h]
  · rw [if_neg h]
    have e : (79 ≤ j ∧ j ≤ 83) ↔ j = 83 := by omega
    simp only [e]
theorem size36 : (Tryd.prog.info? 28).map (·.size) = some 4 := by kernel_rfl
theorem no_rooks (v : Int) : Value.agg #[.int .i8 (-1), .int .i8 (-1), .int .i8 (-1), .int .i8 (-1)] = .agg (partL (bareP v) 79 4).toArray := by kernel_rfl
end Go.Proofs.YtfdheeogpndklaaDoor
/-
  Contract of the document's Start960.
-/
namespace Go.Proofs.YtfdheeogpndklaaDoor
open Go.RowKit
set_option linter.unusedVariables false
set_option linter.unusedSimpArgs false
def rfA (n : Nat) : Nat → Int := upd (upd zeroP (1 + 2 * (n % 4)) 66) (2 * (n / 4 % 4)) 66
def rfB (n : Nat) : Nat → Int := upd (rfA n) ((emL (refA n)).getD (n / 16 % 6) 0) 81
def rfC (n : Nat) : Nat → Int := upd (upd (rfB n) ((emL (refRwB n)).getD (knA (n / 96)) 0) 78) ((emL (refRwB n)).getD (knB (n / 96)) 0) 78
def rfD (n : Nat) : Nat → Int := upd (upd (upd (rfC n) ((refE n).getD 0 0) 82) ((refE n).getD 1 0) 75) ((refE n).getD 2 0) 82
theorem rfA_rep (n : Nat) : Rep (rfA n) (refA n) := (Rep.zero.set _ 66).set _ 66
theorem rfB_rep (n : Nat) : Rep (rfB n) (refRwB n) := (rfA_rep n).set _ 81
theorem rfC_rep (n : Nat) : Rep (rfC n) (refC n) := ((rfB_rep n).set _ 78).set _ 78
theorem rfD_rep (n : Nat) : Rep (rfD n) (refD n) := (((rfC_rep n).set _ 82).set _ 75).set _ 82
theorem Lies.zero {K : IntKind} {e : TypeId} {B g cap : Nat} {cur : Array Value} {l : List Nat} {v : Value} {w : World} (h : Lies K e B l v g cap cur w) : Lies K e 0 l v g cap cur w := { h with base := Nat.zero_le _ }
theorem rfD_rng (n : Nat) (hn : n < 960) : ∀ i, i < 8 → 0 ≤ rfD n i ∧ rfD n i ≤ 90 := fun i hi => by
  have key : ∀ n : Fin 960, ((refD n.val).all fun x => Nat.ble x 90) = true := by decide +kernel
  have hl : i < (refD n).length := by rw [(rfD_rep n).len]; exact hi
  have h2 := List.all_eq_true.1 (key ⟨n, hn⟩) ((refD n)[i]) (List.getElem_mem hl)
  rw [(rfD_rep n).at_ i hi, List.getD_eq_getElem?_getD, List.getElem?_eq_getElem hl]
  have h3 : (refD n)[i] ≤ 90 := by simpa using h2
  show 0 ≤ (((refD n)[i] : Nat) : Int) ∧ (((refD n)[i] : Nat) : Int) ≤ 90
  omega
theorem lies_at {K : IntKind} {e : TypeId} {B g cap : Nat} {cur : Array Value} {l : List Nat} {v : Value} {w : World} (h : Lies K e B l v g cap cur w) (i x : Nat) (hi : i < l.length) (hx : l.getD i 0 = x) : w.cell? ⟨g, i, none⟩ = some (.int K (x : Int)) := by
  rw [h.cell i hi, ← hx, List.getD_eq_getElem?_getD, List.getElem?_eq_getElem hi]; rfl
theorem getD_lt {l : List Nat} {i m : Nat} (hi : i < l.length) (h : ∀ x ∈ l, x < m) : l.getD i 0 < m := by
  rw [List.getD_eq_getElem?_getD, List.getElem?_eq_getElem hi]
  exact h _ (List.getElem_mem hi)
def cA (a : Nat) : Nat := [0, 4, 7, 9, 10, 10].getD a 0
def prN (a b : Nat) : Nat := cA a + (b - (a + 1))
theorem pr_first (a : Nat) : prN a (a + 1) = cA a := by unfold prN; omega
theorem pr_next {a b : Nat} (h : a < b) : prN a (b + 1) = prN a b + 1 := by unfold prN; omega
theorem pr_last {a : Nat} (h : a < 5) : prN a 5 = cA (a + 1) := by
  have key : ∀ a : Fin 5, prN a.val 5 = cA (a.val + 1) := by decide +kernel
  exact key ⟨a, h⟩
theorem pr_hit {a b : Nat} (ha : a < 5) (hb : b < 5) (h : a < b) : knA (prN a b) = a ∧ knB (prN a b) = b := by
  have key : ∀ a b : Fin 5, a.val < b.val → knA (prN a.val b.val) = a.val ∧ knB (prN a.val b.val) = b.val := by decide +kernel
  exact key ⟨a, ha⟩ ⟨b, hb⟩ h
theorem pr_le {a b : Nat} (ha : a < 5) (hb : b ≤ 5) : prN a b ≤ 20 := by
  have key : ∀ a : Fin 5, ∀ b : Fin 6, prN a.val b.val ≤ 20 := by decide +kernel
  exact key ⟨a, ha⟩ ⟨b, by omega⟩
def rcN (p q : Nat → Int) (k m : Nat) : Nat → Int := if k < m then q else p
theorem rc_same {p q : Nat → Int} {k m : Nat} (h : m ≠ k) : rcN p q k (m + 1) = rcN p q k m := by
  unfold rcN
  by_cases h1 : k < m
  · rw [if_pos h1, if_pos (by omega)]
  · rw [if_neg h1, if_neg (by omega)]
theorem rc_at (p q : Nat → Int) (k : Nat) : rcN p q k k = p := if_neg (by omega)
theorem rc_past (p q : Nat → Int) (k : Nat) : rcN p q k (k + 1) = q := if_pos (by omega)
def loN (r : Nat → Int) : Nat → Nat → Int
  | 0 => zeroP
  | k + 1 => upd (loN r k) k (r k + 32)
theorem loN_at (r : Nat → Int) : ∀ k i, i < k → loN r k i = r i + 32
  | 0, i, h => by omega
  | k + 1, i, h => by
    show upd _ _ _ i = _
    by_cases e : i = k
    · subst e; rw [upd_same]
    · rw [upd_other _ _ _ _ e]; exact loN_at r k i (by omega)
/-- A row's text. -/
def stR (r : Nat → Int) : ByteArray := strOfNums ((List.range 8).map r)
theorem stR_size (r : Nat → Int) : (stR r).size = 8 := by unfold stR; rw [strOfNums_size]; simp
theorem run_text {o : Oper} {a : Act} {w : World} (x : Operand) (ho : o.op = .convert 47 9 x) (b : Nat) (hx : a.eval x = .slice (some ⟨b, 0, none⟩) 8 8) (r : Nat → Int) (hr : Blk w b 65 (arrA 8 .u8 r)) :
    (execOp a.eval o).run Tryd.prog w = .ok (.value (.string (stR r))) w := by
  have hl := run_convert_bytes_arg (P := Tryd.prog) w 47 5 Tryd.underlying47 Tryd.underlying5 b 0 8 8 ((List.range 8).map r) (by simp) (fun i hi => by
    rw [Nat.zero_add, hr.at i hi]
    simp [hi]) 9 Tryd.underlying9
  unfold execOp
  simp only [ho, hx, Sem.run_bind, hl, Result.andThen_ok]
  rfl
theorem run_built {o : Oper} {a : Act} {w : World} (T : TypeId) (parts : Array (Nat × Operand)) (ho : o.op = .build T parts) (cs : Array Value) (hb : Tryd.prog.built T (parts.map fun (i, x) => (i, a.eval x)).toList = some cs) : (execOp a.eval o).run Tryd.prog w = .ok (.value (.agg cs)) w := by
  unfold execOp
  simp only [ho, Sem.run_bind, run_build w T _ cs hb, Result.andThen_ok]
  rfl
def pawns : ByteArray := ⟨#[112, 112, 112, 112, 112, 112, 112, 112]⟩
def pawnW : ByteArray := ⟨#[80, 80, 80, 80, 80, 80, 80, 80]⟩
def rowsL (lo up : ByteArray) : List ByteArray := [lo, pawns, ⟨#[]⟩, ⟨#[]⟩, ⟨#[]⟩, ⟨#[]⟩, pawnW, up]
theorem rowsL_size (lo up : ByteArray) (h0 : lo.size ≤ 8) (h1 : up.size ≤ 8) (i : Nat) (hi : i < 8) : ((rowsL lo up).getD i ⟨#[]⟩).size ≤ 8 := by
  match i, hi with
  | 0, _ => exact h0
  | 1, _ => show pawns.size ≤ 8; decide
  | 2, _ => show (⟨#[]⟩ : ByteArray).size ≤ 8; decide
  | 3, _ => show (⟨#[]⟩ : ByteArray).size ≤ 8; decide
  | 4, _ => show (⟨#[]⟩ : ByteArray).size ≤ 8; decide
  | 5, _ => show (⟨#[]⟩ : ByteArray).size ≤ 8; decide
  | 6, _ => show pawnW.size ≤ 8; decide
  | 7, _ => exact h1
theorem info9 : (Tryd.prog.info? 9).map (fun i => (i.zero, i.size)) = some (some (.string ⟨#[]⟩), 1) := by kernel_rfl
theorem fill_rows (lo up : ByteArray) : Instr.fill (fun i => some (i * 1, 1)) ((Array.range (8 * 1)).map ((Value.string ⟨#[]⟩).cells[· % (Value.string ⟨#[]⟩).cells.size]!))
    [(0, .string lo), (1, .string pawns), (2, .string ⟨#[]⟩), (3, .string ⟨#[]⟩), (4, .string ⟨#[]⟩), (5, .string ⟨#[]⟩), (6, .string pawnW), (7, .string up)] = some (strA (rowsL lo up)) := by kernel_rfl
end Go.Proofs.YtfdheeogpndklaaDoor
/-
  The walk of the document's Start960.
-/
namespace Go.Proofs.YtfdheeogpndklaaDoor
open Go.RowKit
set_option linter.unusedVariables false
set_option linter.unusedSimpArgs false
/-- The document's first position of a number of chess960. -/
def rposN (n : Nat) : Nat → Int := rookP (rookP (ofP 1 (rowsL (stR (loN (rfD n) 8)) (stR (rfD n)))) 79 (((refE n).getD 2 0 : Nat) : Int) (((refE n).getD 0 0 : Nat) : Int)) 81 (((refE n).getD 2 0 : Nat) : Int) (((refE n).getD 0 0 : Nat) : Int)
theorem rook4 (x y : Int) : Value.agg #[.int .i8 x, .int .i8 y, .int .i8 x, .int .i8 y] = .agg (partL (rookP (rookP zeroP 79 x y) 81 x y) 79 4).toArray := by kernel_rfl
theorem over_four (p : Nat → Int) (x y : Int) : over p 79 4 (rookP (rookP zeroP 79 x y) 81 x y) = rookP (rookP p 79 x y) 81 x y := by
  funext j
  unfold over rookP
  by_cases e3 : j = 82
  · subst e3; rfl
  · by_cases e2 : j = 81
    · subst e2; rfl
    · by_cases e1 : j = 80
      · subst e1; rfl
      · by_cases e0 : j = 79
        · subst e0; rfl
        · rw [if_neg (by omega), upd_other _ _ _ _ (by omega), upd_other _ _ _ _ (by omega), upd_other _ _ _ _ (by omega), upd_other _ _ _ _ (by omega)]
theorem late_part {o : Oper} {a : Act} {w : World} {K : Act → World → Prop} {Q : Exit → Act → World → Prop} (x y : Operand) (ho : o.op = .store 28 x y) (b : Nat) (hx : a.eval x = .pointer (some ⟨b, 79, none⟩)) (p q : Nat → Int) (hy : a.eval y = .agg (partL q 79 4).toArray) (hr : Row w b p)
    (h : ∀ w', Upd b w w' → Row w' b (over p 79 4 q) → K (a.put o.dst undef) w') : Wp Tryd.prog o a w K Q :=
  ⟨wp_store_mid 28 x y ho b 79 (partL q 79 4).toArray hx hy (by rw [List.size_toArray, partL_len]; exact hr.there 79 4 (by omega)) (by rw [List.size_toArray, partL_len]; exact size36) (partL_one q 79 4) (h _ (Upd.setCells _ _ _ _) (Row.sets 4 79 w p q hr (by omega)))⟩
end Go.Proofs.YtfdheeogpndklaaDoor
/-
  Names of variants: the number of a name, told as the program does and as the law does; contracts of ByName and of the document's Name.
-/
namespace Go.Proofs.YtfdheeogpndklaaDoor
open Go.RowKit
set_option linter.unusedVariables false

/-- The first of the first k variants that has this name. -/
def byK (s : ByteArray) : Nat → Option Nat
  | 0 => none
  | k + 1 => match byK s k with
    | some j => some j
    | none => if nmZ k = s then some k else none
/-- The last one. -/
def lastK (s : ByteArray) : Nat → Option Nat
  | 0 => none
  | k + 1 => if nmZ k = s then some k else lastK s k
theorem last_no {s : ByteArray} {k : Nat} (h : nmZ k ≠ s) : lastK s (k + 1) = lastK s k := if_neg h
theorem last_yes {s : ByteArray} {k : Nat} (h : nmZ k = s) : lastK s (k + 1) = some k := if_pos h
def oN (o : Option Nat) : Int := (o.getD 0 : Nat)
def oB (o : Option Nat) : Bool := o.isSome
theorem byK_miss {s : ByteArray} : ∀ {k : Nat}, (∀ j, j < k → nmZ j ≠ s) → byK s k = none
  | 0, _ => rfl
  | k + 1, h => by
    unfold byK
    rw [byK_miss fun j hj => h j (by omega)]
    simp only
    rw [if_neg (h k (by omega))]
theorem byK_more {s : ByteArray} {k j : Nat} (h : byK s k = some j) : ∀ d, byK s (k + d) = some j
  | 0 => h
  | d + 1 => by
    show byK s (k + d + 1) = _
    unfold byK
    rw [byK_more h d]
theorem byK_hit {s : ByteArray} {k : Nat} (hk : k < 9) (hm : ∀ j, j < k → nmZ j ≠ s) (h : nmZ k = s) : byK s 9 = some k := by
  have h1 : byK s (k + 1) = some k := by
    unfold byK
    rw [byK_miss hm]
    simp only
    rw [if_pos h]
  have := byK_more h1 (9 - (k + 1))
  rwa [show k + 1 + (9 - (k + 1)) = 9 by omega] at this
theorem byK_is {s : ByteArray} : ∀ {k j : Nat}, byK s k = some j → j < k ∧ nmZ j = s
  | 0, j, h => by cases h
  | k + 1, j, h => by
    unfold byK at h
    cases hb : byK s k with
    | some i =>
      rw [hb] at h
      simp only [Option.some.injEq] at h
      subst h
      have := byK_is hb
      exact ⟨by omega, this.2⟩
    | none =>
      rw [hb] at h
      simp only at h
      by_cases e : nmZ k = s
      · rw [if_pos e] at h
        simp only [Option.some.injEq] at h
        subst h
        exact ⟨by omega, e⟩
      · rw [if_neg e] at h; cases h
theorem nm_inj {i j : Nat} (hi : i < 9) (hj : j < 9) (h : nmZ i = nmZ j) : i = j := by
  have key : ∀ i j : Fin 9, nmL i.val = nmL j.val → i.val = j.val := by decide +kernel
  refine key ⟨i, hi⟩ ⟨j, hj⟩ ?_
  have := congrArg (fun s : ByteArray => s.data.toList) h
  simpa [nmZ] using this
theorem nm_none {v : Nat} (h : 9 ≤ v) : nmZ v = ⟨#[]⟩ := by
  match v, h with
  | n + 9, _ => rfl
theorem nm_some {v : Nat} (h : v < 9) : nmZ v ≠ ⟨#[]⟩ := by
  have key : ∀ i : Fin 9, nmL i.val ≠ [] := by decide +kernel
  intro e
  have := congrArg (fun s : ByteArray => s.data.toList) e
  exact key ⟨v, h⟩ (by simpa [nmZ] using this)
theorem last_eq {s : ByteArray} : ∀ k, k ≤ 9 → lastK s k = byK s k
  | 0, _ => rfl
  | k + 1, hk => by
    unfold lastK byK
    rw [last_eq k (by omega)]
    cases hb : byK s k with
    | some j =>
      have := byK_is hb
      by_cases e : nmZ k = s
      · exact absurd (nm_inj (by omega) (by omega) (this.2.trans e.symm)) (by omega)
      · rw [if_neg e]
    | none => rfl
theorem by_name {v : Nat} (h : v < 9) : byK (nmZ v) 9 = some v := byK_hit h (fun j hj e => absurd (nm_inj (by omega) h e) (by omega)) rfl
theorem by_none : byK ⟨#[]⟩ 9 = none := byK_miss fun j hj => nm_some hj
def PairR (n : Int) (b : Bool) (w : World) (e : Ending) (w' : World) : Prop := e = .returned (.tuple #[.int .u8 n, .bool b]) ∧ Below w.heap.size w w'
theorem nm_cell (v : Nat) (h : v < 9) : #[Value.string (nmZ 0), .string (nmZ 1), .string (nmZ 2), .string (nmZ 3), .string (nmZ 4), .string (nmZ 5), .string (nmZ 6), .string (nmZ 7), .string (nmZ 8)][v]? = some (.string (nmZ v)) := by
  match v, h with
  | 0, _ => rfl
  | 1, _ => rfl
  | 2, _ => rfl
  | 3, _ => rfl
  | 4, _ => rfl
  | 5, _ => rfl
  | 6, _ => rfl
  | 7, _ => rfl
  | 8, _ => rfl
end Go.Proofs.YtfdheeogpndklaaDoor
/-
  Contracts of what the document says a variant has; of Promotes, by the program and by the document.
-/
namespace Go.Proofs.YtfdheeogpndklaaDoor
open Go.RowKit
set_option linter.unusedVariables false

def BoE (b : Bool) (w : World) (e : Ending) (w' : World) : Prop := e = .returned (.bool b) ∧ w = w'
theorem int_lt (v n : Nat) : decide ((v : Int) < (n : Int)) = Nat.blt v n := by
  rw [Bool.eq_iff_iff]; simp [Nat.blt_eq]
theorem int_beq (v n : Nat) : ((v : Int) == (n : Int)) = Nat.beq v n := by
  rw [Bool.eq_iff_iff]; simp; omega
theorem int_bne (v n : Nat) : ((v : Int) != (n : Int)) = !Nat.beq v n := by
  unfold bne; rw [int_beq]
theorem ry_int (v c : Nat) : ryB v c = (decide ((v : Int) < 9) && (decide ((c : Int) < 2) && (((v : Int) != 4) && (((v : Int) != 7) || ((c : Int) == 1))))) := by
  rw [show (9 : Int) = ((9 : Nat) : Int) from rfl, show (2 : Int) = ((2 : Nat) : Int) from rfl, show (4 : Int) = ((4 : Nat) : Int) from rfl, show (7 : Int) = ((7 : Nat) : Int) from rfl, show (1 : Int) = ((1 : Nat) : Int) from rfl, int_lt, int_lt, int_bne, int_bne, int_beq]
  unfold ryB
  simp only [Bool.and_assoc]
theorem cas_int (v : Nat) : casB v = (decide ((v : Int) < 9) && (((v : Int) != 4) && ((v : Int) != 8))) := by
  rw [show (9 : Int) = ((9 : Nat) : Int) from rfl, show (4 : Int) = ((4 : Nat) : Int) from rfl, show (8 : Int) = ((8 : Nat) : Int) from rfl, int_lt, int_bne, int_bne]
  unfold casB
  simp only [Bool.and_assoc]
theorem poc_int (v : Nat) : pocB v = ((v : Int) == 2) := by
  rw [show (2 : Int) = ((2 : Nat) : Int) from rfl, int_beq]; rfl
theorem paw_int (v : Nat) : pawB v = decide ((v : Int) < 8) := by
  rw [show (8 : Int) = ((8 : Nat) : Int) from rfl, int_lt]; rfl
/-- The kinds from the knight on, n of them. -/
def upN (n : Nat) : List Nat := (List.range n).map (· + 2)
theorem upN_snoc (n : Nat) : upN (n + 1) = upN n ++ [n + 2] := by simp [upN, List.range_succ]
theorem upN_len (n : Nat) : (upN n).length = n := by simp [upN]
theorem upN_at (n i : Nat) (h : i < (upN n).length) : (upN n)[i] = i + 2 := by simp [upN]
def prL (v : Nat) : List Nat := upN (hiN v - 1)
theorem hi_cases (v : Nat) : hiN v = 0 ∨ hiN v = 5 ∨ hiN v = 6 := by
  unfold hiN
  cases Nat.beq v 4
  · cases Nat.blt v 8
    · exact .inl rfl
    · exact .inr (.inl rfl)
  · exact .inr (.inr rfl)
set_option maxHeartbeats 1000000 in
theorem prom_any (v : Nat) (w : World) (hv : v ≤ 255) (hT : TabVar w) : Calls Tryd.prog 65 #[.int .u8 (v : Int)] w (ListK .u8 5 (prL v) w) := by
  have HT := Lib.hid hT
  clear hT
  obtain ⟨i0, hi, hz0, hz1, hz2⟩ := info_parts infoU8
  obtain ⟨h, Hh⟩ : ∃ h, Hid (hiN v = h) := ⟨_, Lib.hid rfl⟩
  have hc : h = 0 ∨ h = 5 ∨ h = 6 := by rw [← Hh.out]; exact hi_cases v
  go_enter Tryd.func65, Tryd.ntmps65
  go_wp2
  go_loopw [3, 4] (fun l i wr => ∃ k : Nat, 2 ≤ k ∧ k ≤ 7 ∧ k - 2 ≤ h - 1 ∧ i = .int .u8 (k : Int) ∧ ListedK .u8 5 w.heap.size (upN (k - 2)) l wr ∧ Below w.heap.size w wr) (fun _ i _ => 8 - (intOf i).toNat)
  case atStart => exact ⟨2, by omega, by omega, by omega, rfl, listedK_nil _ _ _ _, Below.refl _ _⟩
  case round =>
    obtain ⟨k, hk2, hk7, hkh, rfl, hl, hb⟩ := hrel
    have HL := Lib.hid hl
    have HB := Lib.hid hb
    clear hl hb
    by_cases hlt : k ≤ h
    · have g0 : decide ((k : Int) ≤ (h : Int)) = true := decide_eq_true (by omega)
      have HU := Lib.hid (show upN (k + 1 - 2) = upN (k - 2) ++ [k] by rw [show k + 1 - 2 = (k - 2) + 1 by omega, upN_snoc, show k - 2 + 2 = k by omega])
      have hlen := upN_len (k - 2)
      go_wp2_with fail
      refine (of_row v _ hv (HT.out.on HB.out)).mono ?_; rintro e w2 ⟨rfl, hb2⟩
      have HB2 := Lib.hid (below_on HB.out hb2)
      have HL2 := Lib.hid (listedK_below HL.out hb2)
      have hsz := HB2.out.size
      clear hb2 HB HL
      rw [Hh.out]
      go_wp2_with (first
        | (refine step_field rfl 100 _ 5 rfl _ rfl Tryd.underlying100 rfl Tryd.underlying5 rfl (.int .u8 (h : Int)) rfl ?_)
        | (at_builtin; refine wpList_append_own _ rfl _ _ 47 rfl w.heap.size 5 i0 (.int .u8 0) 1 1 Tryd.underlying47 hi hz0 hz1 hz2 rfl (by decide) _ _ _ rfl (HL2.out.alloc _) ⟨_, 0, none⟩ 1 1 [.int .u8 (k : Int)] rfl rfl ?c1 ?c2 ?c3 ?c4 ?c5 ?_))
      case c1 => exact cell_one_new _ _ _
      case c2 => simp [Value.oneCell']
      case c3 => unfold maxLen; omega
      case c4 => omega
      case c5 => simp; omega
      intro v' w1 hown' hgrow _
      have HG := Lib.hid (listedK_grow HL2.out HB2.out HB2.out.size (by rw [upN_len]; exact hown') hgrow)
      clear hown' hgrow
      go_wp2
      go_roundw
      case rel => exact ⟨k + 1, by omega, by omega, by omega, by go_num, by rw [HU.out]; exact HG.out.1, HG.out.2⟩
      case measure => simp [intOf]; omega
    · have g0 : decide ((k : Int) ≤ (h : Int)) = false := decide_eq_false (by omega)
      have HE := Lib.hid (show upN (k - 2) = prL v by unfold prL; rw [Hh.out, show k - 2 = h - 1 by omega])
      go_wp2_with fail
      refine (of_row v _ hv (HT.out.on HB.out)).mono ?_; rintro e w2 ⟨rfl, hb2⟩
      have HB2 := Lib.hid (below_on HB.out hb2)
      have HL2 := Lib.hid (listedK_below HL.out hb2)
      clear hb2 HB HL
      rw [Hh.out]
      go_wp2_with (refine step_field rfl 100 _ 5 rfl _ rfl Tryd.underlying100 rfl Tryd.underlying5 rfl (.int .u8 (h : Int)) rfl ?_)
      go_ret
      exact ⟨_, rfl, by rw [← HE.out]; exact HL2.out, HB2.out⟩
theorem listed_new {w : World} {l : List Nat} {cs : Array Value} {n : Nat} (h : cs.toList = rowK .u8 l) (hl : l.length = n) (hm : n ≤ maxLen) :
    ListedK .u8 5 w.heap.size l (.slice (some ⟨w.heap.size, 0, none⟩) n n) (w.alloc (.cells cs 5)) := by
  subst hl
  have e : cs.size = l.length := by
    have := congrArg List.length h
    simpa [rowK] using this
  refine ⟨by simp [rowK], .inr ⟨w.heap.size, l.length, cs, rfl, Nat.le_refl _, heap_alloc_new w _, Nat.le_refl _, hm, by omega, ?_⟩⟩
  rw [h]
  exact List.take_of_length_le (by simp [rowK])
theorem pr_4 {v : Nat} (h : ((v : Int) == 4) = true) : prL v = upN 5 := by
  rw [show (4 : Int) = ((4 : Nat) : Int) from rfl, int_beq] at h
  unfold prL hiN; rw [h]; rfl
theorem pr_8 {v : Nat} (h : ((v : Int) == 4) = false) (g : decide ((v : Int) < 8) = true) : prL v = upN 4 := by
  rw [show (4 : Int) = ((4 : Nat) : Int) from rfl, int_beq] at h
  rw [show (8 : Int) = ((8 : Nat) : Int) from rfl, int_lt] at g
  unfold prL hiN; rw [h, g]; rfl
theorem pr_9 {v : Nat} (h : ((v : Int) == 4) = false) (g : decide ((v : Int) < 8) = false) : prL v = upN 0 := by
  rw [show (4 : Int) = ((4 : Nat) : Int) from rfl, int_beq] at h
  rw [show (8 : Int) = ((8 : Nat) : Int) from rfl, int_lt] at g
  unfold prL hiN; rw [h, g]; rfl
theorem rprom_any (v : Nat) (w : World) : Calls Tryd.prog 18 #[.int .u8 (v : Int)] w (ListK .u8 5 (prL v) w) := by
  cases g1 : ((v : Int) == 4)
  · cases g2 : decide ((v : Int) < 8)
    · have HE := Lib.hid (pr_9 g1 g2)
      go_enter Tryd.func18, Tryd.ntmps18
      go_wp2_with fail
      go_ret
      exact ⟨_, rfl, by rw [HE.out]; exact listedK_nil _ _ _ _, Below.refl _ _⟩
    · have HE := Lib.hid (pr_8 g1 g2)
      go_enter Tryd.func18, Tryd.ntmps18
      go_wp2_with fail
      go_ret
      exact ⟨_, rfl, by rw [HE.out]; exact listed_new rfl rfl (by decide), (Below.refl _ _).alloc (Nat.le_refl _) _⟩
  · have HE := Lib.hid (pr_4 g1)
    go_enter Tryd.func18, Tryd.ntmps18
    go_wp2_with fail
    go_ret
    exact ⟨_, rfl, by rw [HE.out]; exact listed_new rfl rfl (by decide), (Below.refl _ _).alloc (Nat.le_refl _) _⟩
end Go.Proofs.YtfdheeogpndklaaDoor
/-
  Contract of the document's Start.
-/
namespace Go.Proofs.YtfdheeogpndklaaDoor
open Go.RowKit
set_option linter.unusedVariables false
set_option linter.unusedSimpArgs false
def rowsH : List ByteArray := [⟨#[114, 110, 98, 113, 107, 98, 110, 114]⟩, ⟨#[112, 112, 112, 112, 112, 112, 112, 112]⟩, ⟨#[46, 46, 46, 46, 46, 46, 46, 46]⟩, ⟨#[46, 80, 80, 46, 46, 80, 80, 46]⟩, ⟨#[80, 80, 80, 80, 80, 80, 80, 80]⟩, ⟨#[80, 80, 80, 80, 80, 80, 80, 80]⟩, ⟨#[80, 80, 80, 80, 80, 80, 80, 80]⟩, ⟨#[80, 80, 80, 80, 80, 80, 80, 80]⟩]
def rowsR : List ByteArray := [⟨#[]⟩, ⟨#[]⟩, ⟨#[]⟩, ⟨#[]⟩, ⟨#[]⟩, ⟨#[]⟩, ⟨#[107, 114, 98, 110, 78, 66, 82, 75]⟩, ⟨#[113, 114, 98, 110, 78, 66, 82, 81]⟩]
def rowsC : List ByteArray := [⟨#[114, 110, 98, 113, 107, 98, 110, 114]⟩, ⟨#[112, 112, 112, 112, 112, 112, 112, 112]⟩, ⟨#[]⟩, ⟨#[]⟩, ⟨#[]⟩, ⟨#[]⟩, ⟨#[80, 80, 80, 80, 80, 80, 80, 80]⟩, ⟨#[82, 78, 66, 81, 75, 66, 78, 82]⟩]
theorem blk_new (w : World) (T : TypeId) (cs : Array Value) : Blk (w.alloc (.cells cs T)) w.heap.size T cs := heap_alloc_new w _
theorem blk_eq {w : World} {T : TypeId} {cs ds : Array Value} (h : cs = ds) : Blk (w.alloc (.cells cs T)) w.heap.size T ds := h ▸ heap_alloc_new w _
theorem rowsH_size : ∀ i, i < 8 → (rowsH.getD i ⟨#[]⟩).size ≤ 8 := fun i hi => by
  have key : ∀ i : Fin 8, (rowsH.getD i.val ⟨#[]⟩).size ≤ 8 := by decide +kernel
  exact key ⟨i, hi⟩
theorem rowsR_size : ∀ i, i < 8 → (rowsR.getD i ⟨#[]⟩).size ≤ 8 := fun i hi => by
  have key : ∀ i : Fin 8, (rowsR.getD i.val ⟨#[]⟩).size ≤ 8 := by decide +kernel
  exact key ⟨i, hi⟩
theorem rowsC_size : ∀ i, i < 8 → (rowsC.getD i ⟨#[]⟩).size ≤ 8 := fun i hi => by
  have key : ∀ i : Fin 8, (rowsC.getD i.val ⟨#[]⟩).size ≤ 8 := by decide +kernel
  exact key ⟨i, hi⟩
/-- The document's first position of a variant. -/
def rstP (v : Nat) : Nat → Int := if v = 7 then rookP (ofP 7 rowsH) 81 7 0 else if v = 8 then ofP 8 rowsR else bif casB v then rookP (rookP (ofP v rowsC) 79 7 0) 81 7 0 else ofP v rowsC
theorem rst_7 : rstP 7 = rookP (ofP 7 rowsH) 81 7 0 := rfl
theorem rst_8 : rstP 8 = ofP 8 rowsR := rfl
theorem rst_of {v : Nat} (h7 : v ≠ 7) (h8 : v ≠ 8) : rstP v = bif casB v then rookP (rookP (ofP v rowsC) 79 7 0) 81 7 0 else ofP v rowsC := by
  unfold rstP; rw [if_neg h7, if_neg h8]
end Go.Proofs.YtfdheeogpndklaaDoor
/-
  That the program's first positions and the document's are the same; that their numbers fit their kinds.
-/
namespace Go.Proofs.YtfdheeogpndklaaDoor
open Go.RowKit
set_option linter.unusedVariables false
/-- Two home ranks, the pawns ahead of them, rooks that castle, from the two colors' pieces. -/
def linG (v : Int) (up lo : Nat → Int) (a b : Int) : Nat → Int := fun i =>
  if i = 0 then v else if i ≤ 8 then up (i - 1) else if i ≤ 16 then 1 else if i ≤ 48 then 0 else if i ≤ 56 then 9 else if i ≤ 64 then lo (i - 57)
  else if i = 79 ∨ i = 81 then a else if i = 80 ∨ i = 82 then b else if i = 83 then -1 else if i = 87 then 1 else 0
def upR (r : Nat → Int) : Nat → Int := fun j => 8 * ((0 : Nat) : Int) + r j
def loR (r : Nat → Int) : Nat → Int := fun j => 8 * ((1 : Nat) : Int) + r j
def bv (x : Int) : Nat := (UInt8.ofNat x.toNat).toNat
def upS (q : Nat → Int) : Nat → Int := fun j => ((letN (bv (q j)) : Nat) : Int)
theorem both_lin0 (r : Nat → Int) : bothP 1 r 0 = linG 1 (upR r) (loR r) (rf0 r 8) (rf1 r 8) 0 := by kernel_rfl
theorem both_lin1 (r : Nat → Int) : bothP 1 r 1 = linG 1 (upR r) (loR r) (rf0 r 8) (rf1 r 8) 1 := by kernel_rfl
theorem both_lin2 (r : Nat → Int) : bothP 1 r 2 = linG 1 (upR r) (loR r) (rf0 r 8) (rf1 r 8) 2 := by kernel_rfl
theorem both_lin3 (r : Nat → Int) : bothP 1 r 3 = linG 1 (upR r) (loR r) (rf0 r 8) (rf1 r 8) 3 := by kernel_rfl
theorem both_lin4 (r : Nat → Int) : bothP 1 r 4 = linG 1 (upR r) (loR r) (rf0 r 8) (rf1 r 8) 4 := by kernel_rfl
theorem both_lin5 (r : Nat → Int) : bothP 1 r 5 = linG 1 (upR r) (loR r) (rf0 r 8) (rf1 r 8) 5 := by kernel_rfl
theorem both_lin6 (r : Nat → Int) : bothP 1 r 6 = linG 1 (upR r) (loR r) (rf0 r 8) (rf1 r 8) 6 := by kernel_rfl
theorem both_lin7 (r : Nat → Int) : bothP 1 r 7 = linG 1 (upR r) (loR r) (rf0 r 8) (rf1 r 8) 7 := by kernel_rfl
theorem both_lin8 (r : Nat → Int) : bothP 1 r 8 = linG 1 (upR r) (loR r) (rf0 r 8) (rf1 r 8) 8 := by kernel_rfl
theorem both_lin9 (r : Nat → Int) : bothP 1 r 9 = linG 1 (upR r) (loR r) (rf0 r 8) (rf1 r 8) 9 := by kernel_rfl
theorem both_lin10 (r : Nat → Int) : bothP 1 r 10 = linG 1 (upR r) (loR r) (rf0 r 8) (rf1 r 8) 10 := by kernel_rfl
theorem both_lin11 (r : Nat → Int) : bothP 1 r 11 = linG 1 (upR r) (loR r) (rf0 r 8) (rf1 r 8) 11 := by kernel_rfl
theorem both_lin12 (r : Nat → Int) : bothP 1 r 12 = linG 1 (upR r) (loR r) (rf0 r 8) (rf1 r 8) 12 := by kernel_rfl
theorem both_lin13 (r : Nat → Int) : bothP 1 r 13 = linG 1 (upR r) (loR r) (rf0 r 8) (rf1 r 8) 13 := by kernel_rfl
theorem both_lin14 (r : Nat → Int) : bothP 1 r 14 = linG 1 (upR r) (loR r) (rf0 r 8) (rf1 r 8) 14 := by kernel_rfl
theorem both_lin15 (r : Nat → Int) : bothP 1 r 15 = linG 1 (upR r) (loR r) (rf0 r 8) (rf1 r 8) 15 := by kernel_rfl
theorem both_lin16 (r : Nat → Int) : bothP 1 r 16 = linG 1 (upR r) (loR r) (rf0 r 8) (rf1 r 8) 16 := by kernel_rfl
theorem both_lin17 (r : Nat → Int) : bothP 1 r 17 = linG 1 (upR r) (loR r) (rf0 r 8) (rf1 r 8) 17 := by kernel_rfl
theorem both_lin18 (r : Nat → Int) : bothP 1 r 18 = linG 1 (upR r) (loR r) (rf0 r 8) (rf1 r 8) 18 := by kernel_rfl
theorem both_lin19 (r : Nat → Int) : bothP 1 r 19 = linG 1 (upR r) (loR r) (rf0 r 8) (rf1 r 8) 19 := by kernel_rfl
theorem both_lin20 (r : Nat → Int) : bothP 1 r 20 = linG 1 (upR r) (loR r) (rf0 r 8) (rf1 r 8) 20 := by kernel_rfl
theorem both_lin21 (r : Nat → Int) : bothP 1 r 21 = linG 1 (upR r) (loR r) (rf0 r 8) (rf1 r 8) 21 := by kernel_rfl
theorem both_lin22 (r : Nat → Int) : bothP 1 r 22 = linG 1 (upR r) (loR r) (rf0 r 8) (rf1 r 8) 22 := by kernel_rfl
theorem both_lin23 (r : Nat → Int) : bothP 1 r 23 = linG 1 (upR r) (loR r) (rf0 r 8) (rf1 r 8) 23 := by kernel_rfl
theorem both_lin24 (r : Nat → Int) : bothP 1 r 24 = linG 1 (upR r) (loR r) (rf0 r 8) (rf1 r 8) 24 := by kernel_rfl
theorem both_lin25 (r : Nat → Int) : bothP 1 r 25 = linG 1 (upR r) (loR r) (rf0 r 8) (rf1 r 8) 25 := by kernel_rfl
theorem both_lin26 (r : Nat → Int) : bothP 1 r 26 = linG 1 (upR r) (loR r) (rf0 r 8) (rf1 r 8) 26 := by kernel_rfl
theorem both_lin27 (r : Nat → Int) : bothP 1 r 27 = linG 1 (upR r) (loR r) (rf0 r 8) (rf1 r 8) 27 := by kernel_rfl
theorem both_lin28 (r : Nat → Int) : bothP 1 r 28 = linG 1 (upR r) (loR r) (rf0 r 8) (rf1 r 8) 28 := by kernel_rfl
theorem both_lin29 (r : Nat → Int) : bothP 1 r 29 = linG 1 (upR r) (loR r) (rf0 r 8) (rf1 r 8) 29 := by kernel_rfl
theorem both_lin30 (r : Nat → Int) : bothP 1 r 30 = linG 1 (upR r) (loR r) (rf0 r 8) (rf1 r 8) 30 := by kernel_rfl
theorem both_lin31 (r : Nat → Int) : bothP 1 r 31 = linG 1 (upR r) (loR r) (rf0 r 8) (rf1 r 8) 31 := by kernel_rfl
theorem both_lin32 (r : Nat → Int) : bothP 1 r 32 = linG 1 (upR r) (loR r) (rf0 r 8) (rf1 r 8) 32 := by kernel_rfl
theorem both_lin33 (r : Nat → Int) : bothP 1 r 33 = linG 1 (upR r) (loR r) (rf0 r 8) (rf1 r 8) 33 := by kernel_rfl
theorem both_lin34 (r : Nat → Int) : bothP 1 r 34 = linG 1 (upR r) (loR r) (rf0 r 8) (rf1 r 8) 34 := by kernel_rfl
theorem both_lin35 (r : Nat → Int) : bothP 1 r 35 = linG 1 (upR r) (loR r) (rf0 r 8) (rf1 r 8) 35 := by kernel_rfl
theorem both_lin36 (r : Nat → Int) : bothP 1 r 36 = linG 1 (upR r) (loR r) (rf0 r 8) (rf1 r 8) 36 := by kernel_rfl
theorem both_lin37 (r : Nat → Int) : bothP 1 r 37 = linG 1 (upR r) (loR r) (rf0 r 8) (rf1 r 8) 37 := by kernel_rfl
theorem both_lin38 (r : Nat → Int) : bothP 1 r 38 = linG 1 (upR r) (loR r) (rf0 r 8) (rf1 r 8) 38 := by kernel_rfl
theorem both_lin39 (r : Nat → Int) : bothP 1 r 39 = linG 1 (upR r) (loR r) (rf0 r 8) (rf1 r 8) 39 := by kernel_rfl
theorem both_lin40 (r : Nat → Int) : bothP 1 r 40 = linG 1 (upR r) (loR r) (rf0 r 8) (rf1 r 8) 40 := by kernel_rfl
theorem both_lin41 (r : Nat → Int) : bothP 1 r 41 = linG 1 (upR r) (loR r) (rf0 r 8) (rf1 r 8) 41 := by kernel_rfl
theorem both_lin42 (r : Nat → Int) : bothP 1 r 42 = linG 1 (upR r) (loR r) (rf0 r 8) (rf1 r 8) 42 := by kernel_rfl
theorem both_lin43 (r : Nat → Int) : bothP 1 r 43 = linG 1 (upR r) (loR r) (rf0 r 8) (rf1 r 8) 43 := by kernel_rfl
theorem both_lin44 (r : Nat → Int) : bothP 1 r 44 = linG 1 (upR r) (loR r) (rf0 r 8) (rf1 r 8) 44 := by kernel_rfl
theorem both_lin45 (r : Nat → Int) : bothP 1 r 45 = linG 1 (upR r) (loR r) (rf0 r 8) (rf1 r 8) 45 := by kernel_rfl
theorem both_lin46 (r : Nat → Int) : bothP 1 r 46 = linG 1 (upR r) (loR r) (rf0 r 8) (rf1 r 8) 46 := by kernel_rfl
theorem both_lin47 (r : Nat → Int) : bothP 1 r 47 = linG 1 (upR r) (loR r) (rf0 r 8) (rf1 r 8) 47 := by kernel_rfl
theorem both_lin48 (r : Nat → Int) : bothP 1 r 48 = linG 1 (upR r) (loR r) (rf0 r 8) (rf1 r 8) 48 := by kernel_rfl
theorem both_lin49 (r : Nat → Int) : bothP 1 r 49 = linG 1 (upR r) (loR r) (rf0 r 8) (rf1 r 8) 49 := by kernel_rfl
theorem both_lin50 (r : Nat → Int) : bothP 1 r 50 = linG 1 (upR r) (loR r) (rf0 r 8) (rf1 r 8) 50 := by kernel_rfl
theorem both_lin51 (r : Nat → Int) : bothP 1 r 51 = linG 1 (upR r) (loR r) (rf0 r 8) (rf1 r 8) 51 := by kernel_rfl
theorem both_lin52 (r : Nat → Int) : bothP 1 r 52 = linG 1 (upR r) (loR r) (rf0 r 8) (rf1 r 8) 52 := by kernel_rfl
theorem both_lin53 (r : Nat → Int) : bothP 1 r 53 = linG 1 (upR r) (loR r) (rf0 r 8) (rf1 r 8) 53 := by kernel_rfl
theorem both_lin54 (r : Nat → Int) : bothP 1 r 54 = linG 1 (upR r) (loR r) (rf0 r 8) (rf1 r 8) 54 := by kernel_rfl
theorem both_lin55 (r : Nat → Int) : bothP 1 r 55 = linG 1 (upR r) (loR r) (rf0 r 8) (rf1 r 8) 55 := by kernel_rfl
theorem both_lin56 (r : Nat → Int) : bothP 1 r 56 = linG 1 (upR r) (loR r) (rf0 r 8) (rf1 r 8) 56 := by kernel_rfl
theorem both_lin57 (r : Nat → Int) : bothP 1 r 57 = linG 1 (upR r) (loR r) (rf0 r 8) (rf1 r 8) 57 := by kernel_rfl
theorem both_lin58 (r : Nat → Int) : bothP 1 r 58 = linG 1 (upR r) (loR r) (rf0 r 8) (rf1 r 8) 58 := by kernel_rfl
theorem both_lin59 (r : Nat → Int) : bothP 1 r 59 = linG 1 (upR r) (loR r) (rf0 r 8) (rf1 r 8) 59 := by kernel_rfl
theorem both_lin60 (r : Nat → Int) : bothP 1 r 60 = linG 1 (upR r) (loR r) (rf0 r 8) (rf1 r 8) 60 := by kernel_rfl
theorem both_lin61 (r : Nat → Int) : bothP 1 r 61 = linG 1 (upR r) (loR r) (rf0 r 8) (rf1 r 8) 61 := by kernel_rfl
theorem both_lin62 (r : Nat → Int) : bothP 1 r 62 = linG 1 (upR r) (loR r) (rf0 r 8) (rf1 r 8) 62 := by kernel_rfl
theorem both_lin63 (r : Nat → Int) : bothP 1 r 63 = linG 1 (upR r) (loR r) (rf0 r 8) (rf1 r 8) 63 := by kernel_rfl
theorem both_lin64 (r : Nat → Int) : bothP 1 r 64 = linG 1 (upR r) (loR r) (rf0 r 8) (rf1 r 8) 64 := by kernel_rfl
theorem both_lin65 (r : Nat → Int) : bothP 1 r 65 = linG 1 (upR r) (loR r) (rf0 r 8) (rf1 r 8) 65 := by kernel_rfl
theorem both_lin66 (r : Nat → Int) : bothP 1 r 66 = linG 1 (upR r) (loR r) (rf0 r 8) (rf1 r 8) 66 := by kernel_rfl
theorem both_lin67 (r : Nat → Int) : bothP 1 r 67 = linG 1 (upR r) (loR r) (rf0 r 8) (rf1 r 8) 67 := by kernel_rfl
theorem both_lin68 (r : Nat → Int) : bothP 1 r 68 = linG 1 (upR r) (loR r) (rf0 r 8) (rf1 r 8) 68 := by kernel_rfl
theorem both_lin69 (r : Nat → Int) : bothP 1 r 69 = linG 1 (upR r) (loR r) (rf0 r 8) (rf1 r 8) 69 := by kernel_rfl
theorem both_lin70 (r : Nat → Int) : bothP 1 r 70 = linG 1 (upR r) (loR r) (rf0 r 8) (rf1 r 8) 70 := by kernel_rfl
theorem both_lin71 (r : Nat → Int) : bothP 1 r 71 = linG 1 (upR r) (loR r) (rf0 r 8) (rf1 r 8) 71 := by kernel_rfl
theorem both_lin72 (r : Nat → Int) : bothP 1 r 72 = linG 1 (upR r) (loR r) (rf0 r 8) (rf1 r 8) 72 := by kernel_rfl
theorem both_lin73 (r : Nat → Int) : bothP 1 r 73 = linG 1 (upR r) (loR r) (rf0 r 8) (rf1 r 8) 73 := by kernel_rfl
theorem both_lin74 (r : Nat → Int) : bothP 1 r 74 = linG 1 (upR r) (loR r) (rf0 r 8) (rf1 r 8) 74 := by kernel_rfl
theorem both_lin75 (r : Nat → Int) : bothP 1 r 75 = linG 1 (upR r) (loR r) (rf0 r 8) (rf1 r 8) 75 := by kernel_rfl
theorem both_lin76 (r : Nat → Int) : bothP 1 r 76 = linG 1 (upR r) (loR r) (rf0 r 8) (rf1 r 8) 76 := by kernel_rfl
theorem both_lin77 (r : Nat → Int) : bothP 1 r 77 = linG 1 (upR r) (loR r) (rf0 r 8) (rf1 r 8) 77 := by kernel_rfl
theorem both_lin78 (r : Nat → Int) : bothP 1 r 78 = linG 1 (upR r) (loR r) (rf0 r 8) (rf1 r 8) 78 := by kernel_rfl
theorem both_lin79 (r : Nat → Int) : bothP 1 r 79 = linG 1 (upR r) (loR r) (rf0 r 8) (rf1 r 8) 79 := by kernel_rfl
theorem both_lin80 (r : Nat → Int) : bothP 1 r 80 = linG 1 (upR r) (loR r) (rf0 r 8) (rf1 r 8) 80 := by kernel_rfl
theorem both_lin81 (r : Nat → Int) : bothP 1 r 81 = linG 1 (upR r) (loR r) (rf0 r 8) (rf1 r 8) 81 := by kernel_rfl
theorem both_lin82 (r : Nat → Int) : bothP 1 r 82 = linG 1 (upR r) (loR r) (rf0 r 8) (rf1 r 8) 82 := by kernel_rfl
theorem both_lin83 (r : Nat → Int) : bothP 1 r 83 = linG 1 (upR r) (loR r) (rf0 r 8) (rf1 r 8) 83 := by kernel_rfl
theorem both_lin84 (r : Nat → Int) : bothP 1 r 84 = linG 1 (upR r) (loR r) (rf0 r 8) (rf1 r 8) 84 := by kernel_rfl
theorem both_lin85 (r : Nat → Int) : bothP 1 r 85 = linG 1 (upR r) (loR r) (rf0 r 8) (rf1 r 8) 85 := by kernel_rfl
theorem both_lin86 (r : Nat → Int) : bothP 1 r 86 = linG 1 (upR r) (loR r) (rf0 r 8) (rf1 r 8) 86 := by kernel_rfl
theorem both_lin87 (r : Nat → Int) : bothP 1 r 87 = linG 1 (upR r) (loR r) (rf0 r 8) (rf1 r 8) 87 := by kernel_rfl
theorem both_lin (r : Nat → Int) : ∀ i, i < 88 → bothP 1 r i = linG 1 (upR r) (loR r) (rf0 r 8) (rf1 r 8) i := fun i hi => by
  match i, hi with
  | 0, _ => exact both_lin0 r
  | 1, _ => exact both_lin1 r
  | 2, _ => exact both_lin2 r
  | 3, _ => exact both_lin3 r
  | 4, _ => exact both_lin4 r
  | 5, _ => exact both_lin5 r
  | 6, _ => exact both_lin6 r
  | 7, _ => exact both_lin7 r
  | 8, _ => exact both_lin8 r
  | 9, _ => exact both_lin9 r
  | 10, _ => exact both_lin10 r
  | 11, _ => exact both_lin11 r
  | 12, _ => exact both_lin12 r
  | 13, _ => exact both_lin13 r
  | 14, _ => exact both_lin14 r
  | 15, _ => exact both_lin15 r
  | 16, _ => exact both_lin16 r
  | 17, _ => exact both_lin17 r
  | 18, _ => exact both_lin18 r
  | 19, _ => exact both_lin19 r
  | 20, _ => exact both_lin20 r
  | 21, _ => exact both_lin21 r
  | 22, _ => exact both_lin22 r
  | 23, _ => exact both_lin23 r
  | 24, _ => exact both_lin24 r
  | 25, _ => exact both_lin25 r
  | 26, _ => exact both_lin26 r
  | 27, _ => exact both_lin27 r
  | 28, _ => exact both_lin28 r
  | 29, _ => exact both_lin29 r
  | 30, _ => exact both_lin30 r
  | 31, _ => exact both_lin31 r
  | 32, _ => exact both_lin32 r
  | 33, _ => exact both_lin33 r
  | 34, _ => exact both_lin34 r
  | 35, _ => exact both_lin35 r
  | 36, _ => exact both_lin36 r
  | 37, _ => exact both_lin37 r
  | 38, _ => exact both_lin38 r
  | 39, _ => exact both_lin39 r
  | 40, _ => exact both_lin40 r
  | 41, _ => exact both_lin41 r
  | 42, _ => exact both_lin42 r
  | 43, _ => exact both_lin43 r
  | 44, _ => exact both_lin44 r
  | 45, _ => exact both_lin45 r
  | 46, _ => exact both_lin46 r
  | 47, _ => exact both_lin47 r
  | 48, _ => exact both_lin48 r
  | 49, _ => exact both_lin49 r
  | 50, _ => exact both_lin50 r
  | 51, _ => exact both_lin51 r
  | 52, _ => exact both_lin52 r
  | 53, _ => exact both_lin53 r
  | 54, _ => exact both_lin54 r
  | 55, _ => exact both_lin55 r
  | 56, _ => exact both_lin56 r
  | 57, _ => exact both_lin57 r
  | 58, _ => exact both_lin58 r
  | 59, _ => exact both_lin59 r
  | 60, _ => exact both_lin60 r
  | 61, _ => exact both_lin61 r
  | 62, _ => exact both_lin62 r
  | 63, _ => exact both_lin63 r
  | 64, _ => exact both_lin64 r
  | 65, _ => exact both_lin65 r
  | 66, _ => exact both_lin66 r
  | 67, _ => exact both_lin67 r
  | 68, _ => exact both_lin68 r
  | 69, _ => exact both_lin69 r
  | 70, _ => exact both_lin70 r
  | 71, _ => exact both_lin71 r
  | 72, _ => exact both_lin72 r
  | 73, _ => exact both_lin73 r
  | 74, _ => exact both_lin74 r
  | 75, _ => exact both_lin75 r
  | 76, _ => exact both_lin76 r
  | 77, _ => exact both_lin77 r
  | 78, _ => exact both_lin78 r
  | 79, _ => exact both_lin79 r
  | 80, _ => exact both_lin80 r
  | 81, _ => exact both_lin81 r
  | 82, _ => exact both_lin82 r
  | 83, _ => exact both_lin83 r
  | 84, _ => exact both_lin84 r
  | 85, _ => exact both_lin85 r
  | 86, _ => exact both_lin86 r
  | 87, _ => exact both_lin87 r
  | n + 88, h => exact absurd h (by omega)
theorem of_lin0 (s q : Nat → Int) (a b : Int) : rookP (rookP (ofP 1 (rowsL (stR s) (stR q))) 79 a b) 81 a b 0 = linG 1 (upS q) (upS s) a b 0 := by kernel_rfl
theorem of_lin1 (s q : Nat → Int) (a b : Int) : rookP (rookP (ofP 1 (rowsL (stR s) (stR q))) 79 a b) 81 a b 1 = linG 1 (upS q) (upS s) a b 1 := by kernel_rfl
theorem of_lin2 (s q : Nat → Int) (a b : Int) : rookP (rookP (ofP 1 (rowsL (stR s) (stR q))) 79 a b) 81 a b 2 = linG 1 (upS q) (upS s) a b 2 := by kernel_rfl
theorem of_lin3 (s q : Nat → Int) (a b : Int) : rookP (rookP (ofP 1 (rowsL (stR s) (stR q))) 79 a b) 81 a b 3 = linG 1 (upS q) (upS s) a b 3 := by kernel_rfl
theorem of_lin4 (s q : Nat → Int) (a b : Int) : rookP (rookP (ofP 1 (rowsL (stR s) (stR q))) 79 a b) 81 a b 4 = linG 1 (upS q) (upS s) a b 4 := by kernel_rfl
theorem of_lin5 (s q : Nat → Int) (a b : Int) : rookP (rookP (ofP 1 (rowsL (stR s) (stR q))) 79 a b) 81 a b 5 = linG 1 (upS q) (upS s) a b 5 := by kernel_rfl
theorem of_lin6 (s q : Nat → Int) (a b : Int) : rookP (rookP (ofP 1 (rowsL (stR s) (stR q))) 79 a b) 81 a b 6 = linG 1 (upS q) (upS s) a b 6 := by kernel_rfl
theorem of_lin7 (s q : Nat → Int) (a b : Int) : rookP (rookP (ofP 1 (rowsL (stR s) (stR q))) 79 a b) 81 a b 7 = linG 1 (upS q) (upS s) a b 7 := by kernel_rfl
theorem of_lin8 (s q : Nat → Int) (a b : Int) : rookP (rookP (ofP 1 (rowsL (stR s) (stR q))) 79 a b) 81 a b 8 = linG 1 (upS q) (upS s) a b 8 := by kernel_rfl
theorem of_lin9 (s q : Nat → Int) (a b : Int) : rookP (rookP (ofP 1 (rowsL (stR s) (stR q))) 79 a b) 81 a b 9 = linG 1 (upS q) (upS s) a b 9 := by kernel_rfl
theorem of_lin10 (s q : Nat → Int) (a b : Int) : rookP (rookP (ofP 1 (rowsL (stR s) (stR q))) 79 a b) 81 a b 10 = linG 1 (upS q) (upS s) a b 10 := by kernel_rfl
theorem of_lin11 (s q : Nat → Int) (a b : Int) : rookP (rookP (ofP 1 (rowsL (stR s) (stR q))) 79 a b) 81 a b 11 = linG 1 (upS q) (upS s) a b 11 := by kernel_rfl
theorem of_lin12 (s q : Nat → Int) (a b : Int) : rookP (rookP (ofP 1 (rowsL (stR s) (stR q))) 79 a b) 81 a b 12 = linG 1 (upS q) (upS s) a b 12 := by kernel_rfl
theorem of_lin13 (s q : Nat → Int) (a b : Int) : rookP (rookP (ofP 1 (rowsL (stR s) (stR q))) 79 a b) 81 a b 13 = linG 1 (upS q) (upS s) a b 13 := by kernel_rfl
theorem of_lin14 (s q : Nat → Int) (a b : Int) : rookP (rookP (ofP 1 (rowsL (stR s) (stR q))) 79 a b) 81 a b 14 = linG 1 (upS q) (upS s) a b 14 := by kernel_rfl
theorem of_lin15 (s q : Nat → Int) (a b : Int) : rookP (rookP (ofP 1 (rowsL (stR s) (stR q))) 79 a b) 81 a b 15 = linG 1 (upS q) (upS s) a b 15 := by kernel_rfl
theorem of_lin16 (s q : Nat → Int) (a b : Int) : rookP (rookP (ofP 1 (rowsL (stR s) (stR q))) 79 a b) 81 a b 16 = linG 1 (upS q) (upS s) a b 16 := by kernel_rfl
theorem of_lin17 (s q : Nat → Int) (a b : Int) : rookP (rookP (ofP 1 (rowsL (stR s) (stR q))) 79 a b) 81 a b 17 = linG 1 (upS q) (upS s) a b 17 := by kernel_rfl
theorem of_lin18 (s q : Nat → Int) (a b : Int) : rookP (rookP (ofP 1 (rowsL (stR s) (stR q))) 79 a b) 81 a b 18 = linG 1 (upS q) (upS s) a b 18 := by kernel_rfl
theorem of_lin19 (s q : Nat → Int) (a b : Int) : rookP (rookP (ofP 1 (rowsL (stR s) (stR q))) 79 a b) 81 a b 19 = linG 1 (upS q) (upS s) a b 19 := by kernel_rfl
theorem of_lin20 (s q : Nat → Int) (a b : Int) : rookP (rookP (ofP 1 (rowsL (stR s) (stR q))) 79 a b) 81 a b 20 = linG 1 (upS q) (upS s) a b 20 := by kernel_rfl
theorem of_lin21 (s q : Nat → Int) (a b : Int) : rookP (rookP (ofP 1 (rowsL (stR s) (stR q))) 79 a b) 81 a b 21 = linG 1 (upS q) (upS s) a b 21 := by kernel_rfl
theorem of_lin22 (s q : Nat → Int) (a b : Int) : rookP (rookP (ofP 1 (rowsL (stR s) (stR q))) 79 a b) 81 a b 22 = linG 1 (upS q) (upS s) a b 22 := by kernel_rfl
theorem of_lin23 (s q : Nat → Int) (a b : Int) : rookP (rookP (ofP 1 (rowsL (stR s) (stR q))) 79 a b) 81 a b 23 = linG 1 (upS q) (upS s) a b 23 := by kernel_rfl
theorem of_lin24 (s q : Nat → Int) (a b : Int) : rookP (rookP (ofP 1 (rowsL (stR s) (stR q))) 79 a b) 81 a b 24 = linG 1 (upS q) (upS s) a b 24 := by kernel_rfl
theorem of_lin25 (s q : Nat → Int) (a b : Int) : rookP (rookP (ofP 1 (rowsL (stR s) (stR q))) 79 a b) 81 a b 25 = linG 1 (upS q) (upS s) a b 25 := by kernel_rfl
theorem of_lin26 (s q : Nat → Int) (a b : Int) : rookP (rookP (ofP 1 (rowsL (stR s) (stR q))) 79 a b) 81 a b 26 = linG 1 (upS q) (upS s) a b 26 := by kernel_rfl
theorem of_lin27 (s q : Nat → Int) (a b : Int) : rookP (rookP (ofP 1 (rowsL (stR s) (stR q))) 79 a b) 81 a b 27 = linG 1 (upS q) (upS s) a b 27 := by kernel_rfl
theorem of_lin28 (s q : Nat → Int) (a b : Int) : rookP (rookP (ofP 1 (rowsL (stR s) (stR q))) 79 a b) 81 a b 28 = linG 1 (upS q) (upS s) a b 28 := by kernel_rfl
theorem of_lin29 (s q : Nat → Int) (a b : Int) : rookP (rookP (ofP 1 (rowsL (stR s) (stR q))) 79 a b) 81 a b 29 = linG 1 (upS q) (upS s) a b 29 := by kernel_rfl
theorem of_lin30 (s q : Nat → Int) (a b : Int) : rookP (rookP (ofP 1 (rowsL (stR s) (stR q))) 79 a b) 81 a b 30 = linG 1 (upS q) (upS s) a b 30 := by kernel_rfl
theorem of_lin31 (s q : Nat → Int) (a b : Int) : rookP (rookP (ofP 1 (rowsL (stR s) (stR q))) 79 a b) 81 a b 31 = linG 1 (upS q) (upS s) a b 31 := by kernel_rfl
theorem of_lin32 (s q : Nat → Int) (a b : Int) : rookP (rookP (ofP 1 (rowsL (stR s) (stR q))) 79 a b) 81 a b 32 = linG 1 (upS q) (upS s) a b 32 := by kernel_rfl
theorem of_lin33 (s q : Nat → Int) (a b : Int) : rookP (rookP (ofP 1 (rowsL (stR s) (stR q))) 79 a b) 81 a b 33 = linG 1 (upS q) (upS s) a b 33 := by kernel_rfl
theorem of_lin34 (s q : Nat → Int) (a b : Int) : rookP (rookP (ofP 1 (rowsL (stR s) (stR q))) 79 a b) 81 a b 34 = linG 1 (upS q) (upS s) a b 34 := by kernel_rfl
theorem of_lin35 (s q : Nat → Int) (a b : Int) : rookP (rookP (ofP 1 (rowsL (stR s) (stR q))) 79 a b) 81 a b 35 = linG 1 (upS q) (upS s) a b 35 := by kernel_rfl
theorem of_lin36 (s q : Nat → Int) (a b : Int) : rookP (rookP (ofP 1 (rowsL (stR s) (stR q))) 79 a b) 81 a b 36 = linG 1 (upS q) (upS s) a b 36 := by kernel_rfl
theorem of_lin37 (s q : Nat → Int) (a b : Int) : rookP (rookP (ofP 1 (rowsL (stR s) (stR q))) 79 a b) 81 a b 37 = linG 1 (upS q) (upS s) a b 37 := by kernel_rfl
theorem of_lin38 (s q : Nat → Int) (a b : Int) : rookP (rookP (ofP 1 (rowsL (stR s) (stR q))) 79 a b) 81 a b 38 = linG 1 (upS q) (upS s) a b 38 := by kernel_rfl
theorem of_lin39 (s q : Nat → Int) (a b : Int) : rookP (rookP (ofP 1 (rowsL (stR s) (stR q))) 79 a b) 81 a b 39 = linG 1 (upS q) (upS s) a b 39 := by kernel_rfl
theorem of_lin40 (s q : Nat → Int) (a b : Int) : rookP (rookP (ofP 1 (rowsL (stR s) (stR q))) 79 a b) 81 a b 40 = linG 1 (upS q) (upS s) a b 40 := by kernel_rfl
theorem of_lin41 (s q : Nat → Int) (a b : Int) : rookP (rookP (ofP 1 (rowsL (stR s) (stR q))) 79 a b) 81 a b 41 = linG 1 (upS q) (upS s) a b 41 := by kernel_rfl
theorem of_lin42 (s q : Nat → Int) (a b : Int) : rookP (rookP (ofP 1 (rowsL (stR s) (stR q))) 79 a b) 81 a b 42 = linG 1 (upS q) (upS s) a b 42 := by kernel_rfl
theorem of_lin43 (s q : Nat → Int) (a b : Int) : rookP (rookP (ofP 1 (rowsL (stR s) (stR q))) 79 a b) 81 a b 43 = linG 1 (upS q) (upS s) a b 43 := by kernel_rfl
theorem of_lin44 (s q : Nat → Int) (a b : Int) : rookP (rookP (ofP 1 (rowsL (stR s) (stR q))) 79 a b) 81 a b 44 = linG 1 (upS q) (upS s) a b 44 := by kernel_rfl
theorem of_lin45 (s q : Nat → Int) (a b : Int) : rookP (rookP (ofP 1 (rowsL (stR s) (stR q))) 79 a b) 81 a b 45 = linG 1 (upS q) (upS s) a b 45 := by kernel_rfl
theorem of_lin46 (s q : Nat → Int) (a b : Int) : rookP (rookP (ofP 1 (rowsL (stR s) (stR q))) 79 a b) 81 a b 46 = linG 1 (upS q) (upS s) a b 46 := by kernel_rfl
theorem of_lin47 (s q : Nat → Int) (a b : Int) : rookP (rookP (ofP 1 (rowsL (stR s) (stR q))) 79 a b) 81 a b 47 = linG 1 (upS q) (upS s) a b 47 := by kernel_rfl
theorem of_lin48 (s q : Nat → Int) (a b : Int) : rookP (rookP (ofP 1 (rowsL (stR s) (stR q))) 79 a b) 81 a b 48 = linG 1 (upS q) (upS s) a b 48 := by kernel_rfl
theorem of_lin49 (s q : Nat → Int) (a b : Int) : rookP (rookP (ofP 1 (rowsL (stR s) (stR q))) 79 a b) 81 a b 49 = linG 1 (upS q) (upS s) a b 49 := by kernel_rfl
theorem of_lin50 (s q : Nat → Int) (a b : Int) : rookP (rookP (ofP 1 (rowsL (stR s) (stR q))) 79 a b) 81 a b 50 = linG 1 (upS q) (upS s) a b 50 := by kernel_rfl
theorem of_lin51 (s q : Nat → Int) (a b : Int) : rookP (rookP (ofP 1 (rowsL (stR s) (stR q))) 79 a b) 81 a b 51 = linG 1 (upS q) (upS s) a b 51 := by kernel_rfl
theorem of_lin52 (s q : Nat → Int) (a b : Int) : rookP (rookP (ofP 1 (rowsL (stR s) (stR q))) 79 a b) 81 a b 52 = linG 1 (upS q) (upS s) a b 52 := by kernel_rfl
theorem of_lin53 (s q : Nat → Int) (a b : Int) : rookP (rookP (ofP 1 (rowsL (stR s) (stR q))) 79 a b) 81 a b 53 = linG 1 (upS q) (upS s) a b 53 := by kernel_rfl
theorem of_lin54 (s q : Nat → Int) (a b : Int) : rookP (rookP (ofP 1 (rowsL (stR s) (stR q))) 79 a b) 81 a b 54 = linG 1 (upS q) (upS s) a b 54 := by kernel_rfl
theorem of_lin55 (s q : Nat → Int) (a b : Int) : rookP (rookP (ofP 1 (rowsL (stR s) (stR q))) 79 a b) 81 a b 55 = linG 1 (upS q) (upS s) a b 55 := by kernel_rfl
theorem of_lin56 (s q : Nat → Int) (a b : Int) : rookP (rookP (ofP 1 (rowsL (stR s) (stR q))) 79 a b) 81 a b 56 = linG 1 (upS q) (upS s) a b 56 := by kernel_rfl
theorem of_lin57 (s q : Nat → Int) (a b : Int) : rookP (rookP (ofP 1 (rowsL (stR s) (stR q))) 79 a b) 81 a b 57 = linG 1 (upS q) (upS s) a b 57 := by kernel_rfl
theorem of_lin58 (s q : Nat → Int) (a b : Int) : rookP (rookP (ofP 1 (rowsL (stR s) (stR q))) 79 a b) 81 a b 58 = linG 1 (upS q) (upS s) a b 58 := by kernel_rfl
theorem of_lin59 (s q : Nat → Int) (a b : Int) : rookP (rookP (ofP 1 (rowsL (stR s) (stR q))) 79 a b) 81 a b 59 = linG 1 (upS q) (upS s) a b 59 := by kernel_rfl
theorem of_lin60 (s q : Nat → Int) (a b : Int) : rookP (rookP (ofP 1 (rowsL (stR s) (stR q))) 79 a b) 81 a b 60 = linG 1 (upS q) (upS s) a b 60 := by kernel_rfl
theorem of_lin61 (s q : Nat → Int) (a b : Int) : rookP (rookP (ofP 1 (rowsL (stR s) (stR q))) 79 a b) 81 a b 61 = linG 1 (upS q) (upS s) a b 61 := by kernel_rfl
theorem of_lin62 (s q : Nat → Int) (a b : Int) : rookP (rookP (ofP 1 (rowsL (stR s) (stR q))) 79 a b) 81 a b 62 = linG 1 (upS q) (upS s) a b 62 := by kernel_rfl
theorem of_lin63 (s q : Nat → Int) (a b : Int) : rookP (rookP (ofP 1 (rowsL (stR s) (stR q))) 79 a b) 81 a b 63 = linG 1 (upS q) (upS s) a b 63 := by kernel_rfl
theorem of_lin64 (s q : Nat → Int) (a b : Int) : rookP (rookP (ofP 1 (rowsL (stR s) (stR q))) 79 a b) 81 a b 64 = linG 1 (upS q) (upS s) a b 64 := by kernel_rfl
theorem of_lin65 (s q : Nat → Int) (a b : Int) : rookP (rookP (ofP 1 (rowsL (stR s) (stR q))) 79 a b) 81 a b 65 = linG 1 (upS q) (upS s) a b 65 := by kernel_rfl
theorem of_lin66 (s q : Nat → Int) (a b : Int) : rookP (rookP (ofP 1 (rowsL (stR s) (stR q))) 79 a b) 81 a b 66 = linG 1 (upS q) (upS s) a b 66 := by kernel_rfl
theorem of_lin67 (s q : Nat → Int) (a b : Int) : rookP (rookP (ofP 1 (rowsL (stR s) (stR q))) 79 a b) 81 a b 67 = linG 1 (upS q) (upS s) a b 67 := by kernel_rfl
theorem of_lin68 (s q : Nat → Int) (a b : Int) : rookP (rookP (ofP 1 (rowsL (stR s) (stR q))) 79 a b) 81 a b 68 = linG 1 (upS q) (upS s) a b 68 := by kernel_rfl
theorem of_lin69 (s q : Nat → Int) (a b : Int) : rookP (rookP (ofP 1 (rowsL (stR s) (stR q))) 79 a b) 81 a b 69 = linG 1 (upS q) (upS s) a b 69 := by kernel_rfl
theorem of_lin70 (s q : Nat → Int) (a b : Int) : rookP (rookP (ofP 1 (rowsL (stR s) (stR q))) 79 a b) 81 a b 70 = linG 1 (upS q) (upS s) a b 70 := by kernel_rfl
theorem of_lin71 (s q : Nat → Int) (a b : Int) : rookP (rookP (ofP 1 (rowsL (stR s) (stR q))) 79 a b) 81 a b 71 = linG 1 (upS q) (upS s) a b 71 := by kernel_rfl
theorem of_lin72 (s q : Nat → Int) (a b : Int) : rookP (rookP (ofP 1 (rowsL (stR s) (stR q))) 79 a b) 81 a b 72 = linG 1 (upS q) (upS s) a b 72 := by kernel_rfl
theorem of_lin73 (s q : Nat → Int) (a b : Int) : rookP (rookP (ofP 1 (rowsL (stR s) (stR q))) 79 a b) 81 a b 73 = linG 1 (upS q) (upS s) a b 73 := by kernel_rfl
theorem of_lin74 (s q : Nat → Int) (a b : Int) : rookP (rookP (ofP 1 (rowsL (stR s) (stR q))) 79 a b) 81 a b 74 = linG 1 (upS q) (upS s) a b 74 := by kernel_rfl
theorem of_lin75 (s q : Nat → Int) (a b : Int) : rookP (rookP (ofP 1 (rowsL (stR s) (stR q))) 79 a b) 81 a b 75 = linG 1 (upS q) (upS s) a b 75 := by kernel_rfl
theorem of_lin76 (s q : Nat → Int) (a b : Int) : rookP (rookP (ofP 1 (rowsL (stR s) (stR q))) 79 a b) 81 a b 76 = linG 1 (upS q) (upS s) a b 76 := by kernel_rfl
theorem of_lin77 (s q : Nat → Int) (a b : Int) : rookP (rookP (ofP 1 (rowsL (stR s) (stR q))) 79 a b) 81 a b 77 = linG 1 (upS q) (upS s) a b 77 := by kernel_rfl
theorem of_lin78 (s q : Nat → Int) (a b : Int) : rookP (rookP (ofP 1 (rowsL (stR s) (stR q))) 79 a b) 81 a b 78 = linG 1 (upS q) (upS s) a b 78 := by kernel_rfl
theorem of_lin79 (s q : Nat → Int) (a b : Int) : rookP (rookP (ofP 1 (rowsL (stR s) (stR q))) 79 a b) 81 a b 79 = linG 1 (upS q) (upS s) a b 79 := by kernel_rfl
theorem of_lin80 (s q : Nat → Int) (a b : Int) : rookP (rookP (ofP 1 (rowsL (stR s) (stR q))) 79 a b) 81 a b 80 = linG 1 (upS q) (upS s) a b 80 := by kernel_rfl
theorem of_lin81 (s q : Nat → Int) (a b : Int) : rookP (rookP (ofP 1 (rowsL (stR s) (stR q))) 79 a b) 81 a b 81 = linG 1 (upS q) (upS s) a b 81 := by kernel_rfl
theorem of_lin82 (s q : Nat → Int) (a b : Int) : rookP (rookP (ofP 1 (rowsL (stR s) (stR q))) 79 a b) 81 a b 82 = linG 1 (upS q) (upS s) a b 82 := by kernel_rfl
theorem of_lin83 (s q : Nat → Int) (a b : Int) : rookP (rookP (ofP 1 (rowsL (stR s) (stR q))) 79 a b) 81 a b 83 = linG 1 (upS q) (upS s) a b 83 := by kernel_rfl
theorem of_lin84 (s q : Nat → Int) (a b : Int) : rookP (rookP (ofP 1 (rowsL (stR s) (stR q))) 79 a b) 81 a b 84 = linG 1 (upS q) (upS s) a b 84 := by kernel_rfl
theorem of_lin85 (s q : Nat → Int) (a b : Int) : rookP (rookP (ofP 1 (rowsL (stR s) (stR q))) 79 a b) 81 a b 85 = linG 1 (upS q) (upS s) a b 85 := by kernel_rfl
theorem of_lin86 (s q : Nat → Int) (a b : Int) : rookP (rookP (ofP 1 (rowsL (stR s) (stR q))) 79 a b) 81 a b 86 = linG 1 (upS q) (upS s) a b 86 := by kernel_rfl
theorem of_lin87 (s q : Nat → Int) (a b : Int) : rookP (rookP (ofP 1 (rowsL (stR s) (stR q))) 79 a b) 81 a b 87 = linG 1 (upS q) (upS s) a b 87 := by kernel_rfl
theorem of_lin (s q : Nat → Int) (a b : Int) : ∀ i, i < 88 → rookP (rookP (ofP 1 (rowsL (stR s) (stR q))) 79 a b) 81 a b i = linG 1 (upS q) (upS s) a b i := fun i hi => by
  match i, hi with
  | 0, _ => exact of_lin0 s q a b
  | 1, _ => exact of_lin1 s q a b
  | 2, _ => exact of_lin2 s q a b
  | 3, _ => exact of_lin3 s q a b
  | 4, _ => exact of_lin4 s q a b
  | 5, _ => exact of_lin5 s q a b
  | 6, _ => exact of_lin6 s q a b
  | 7, _ => exact of_lin7 s q a b
  | 8, _ => exact of_lin8 s q a b
  | 9, _ => exact of_lin9 s q a b
  | 10, _ => exact of_lin10 s q a b
  | 11, _ => exact of_lin11 s q a b
  | 12, _ => exact of_lin12 s q a b
  | 13, _ => exact of_lin13 s q a b
  | 14, _ => exact of_lin14 s q a b
  | 15, _ => exact of_lin15 s q a b
  | 16, _ => exact of_lin16 s q a b
  | 17, _ => exact of_lin17 s q a b
  | 18, _ => exact of_lin18 s q a b
  | 19, _ => exact of_lin19 s q a b
  | 20, _ => exact of_lin20 s q a b
  | 21, _ => exact of_lin21 s q a b
  | 22, _ => exact of_lin22 s q a b
  | 23, _ => exact of_lin23 s q a b
  | 24, _ => exact of_lin24 s q a b
  | 25, _ => exact of_lin25 s q a b
  | 26, _ => exact of_lin26 s q a b
  | 27, _ => exact of_lin27 s q a b
  | 28, _ => exact of_lin28 s q a b
  | 29, _ => exact of_lin29 s q a b
  | 30, _ => exact of_lin30 s q a b
  | 31, _ => exact of_lin31 s q a b
  | 32, _ => exact of_lin32 s q a b
  | 33, _ => exact of_lin33 s q a b
  | 34, _ => exact of_lin34 s q a b
  | 35, _ => exact of_lin35 s q a b
  | 36, _ => exact of_lin36 s q a b
  | 37, _ => exact of_lin37 s q a b
  | 38, _ => exact of_lin38 s q a b
  | 39, _ => exact of_lin39 s q a b
  | 40, _ => exact of_lin40 s q a b
  | 41, _ => exact of_lin41 s q a b
  | 42, _ => exact of_lin42 s q a b
  | 43, _ => exact of_lin43 s q a b
  | 44, _ => exact of_lin44 s q a b
  | 45, _ => exact of_lin45 s q a b
  | 46, _ => exact of_lin46 s q a b
  | 47, _ => exact of_lin47 s q a b
  | 48, _ => exact of_lin48 s q a b
  | 49, _ => exact of_lin49 s q a b
  | 50, _ => exact of_lin50 s q a b
  | 51, _ => exact of_lin51 s q a b
  | 52, _ => exact of_lin52 s q a b
  | 53, _ => exact of_lin53 s q a b
  | 54, _ => exact of_lin54 s q a b
  | 55, _ => exact of_lin55 s q a b
  | 56, _ => exact of_lin56 s q a b
  | 57, _ => exact of_lin57 s q a b
  | 58, _ => exact of_lin58 s q a b
  | 59, _ => exact of_lin59 s q a b
  | 60, _ => exact of_lin60 s q a b
  | 61, _ => exact of_lin61 s q a b
  | 62, _ => exact of_lin62 s q a b
  | 63, _ => exact of_lin63 s q a b
  | 64, _ => exact of_lin64 s q a b
  | 65, _ => exact of_lin65 s q a b
  | 66, _ => exact of_lin66 s q a b
  | 67, _ => exact of_lin67 s q a b
  | 68, _ => exact of_lin68 s q a b
  | 69, _ => exact of_lin69 s q a b
  | 70, _ => exact of_lin70 s q a b
  | 71, _ => exact of_lin71 s q a b
  | 72, _ => exact of_lin72 s q a b
  | 73, _ => exact of_lin73 s q a b
  | 74, _ => exact of_lin74 s q a b
  | 75, _ => exact of_lin75 s q a b
  | 76, _ => exact of_lin76 s q a b
  | 77, _ => exact of_lin77 s q a b
  | 78, _ => exact of_lin78 s q a b
  | 79, _ => exact of_lin79 s q a b
  | 80, _ => exact of_lin80 s q a b
  | 81, _ => exact of_lin81 s q a b
  | 82, _ => exact of_lin82 s q a b
  | 83, _ => exact of_lin83 s q a b
  | 84, _ => exact of_lin84 s q a b
  | 85, _ => exact of_lin85 s q a b
  | 86, _ => exact of_lin86 s q a b
  | 87, _ => exact of_lin87 s q a b
  | n + 88, h => exact absurd h (by omega)
theorem linG_ext {v : Int} {up up' lo lo' : Nat → Int} {a a' b b' : Int} (hu : ∀ j, j < 8 → up j = up' j) (hl : ∀ j, j < 8 → lo j = lo' j) (ha : a = a') (hb : b = b') (i : Nat) : linG v up lo a b i = linG v up' lo' a' b' i := by
  subst ha; subst hb
  unfold linG
  by_cases h0 : i = 0
  · rw [if_pos h0, if_pos h0]
  · by_cases h1 : i ≤ 8
    · rw [if_neg h0, if_neg h0, if_pos h1, if_pos h1]; exact hu _ (by omega)
    · by_cases h5 : 56 < i ∧ i ≤ 64
      · rw [if_neg h0, if_neg h0, if_neg h1, if_neg h1, if_neg (show ¬ i ≤ 16 by omega), if_neg (show ¬ i ≤ 16 by omega), if_neg (show ¬ i ≤ 48 by omega), if_neg (show ¬ i ≤ 48 by omega), if_neg (show ¬ i ≤ 56 by omega), if_neg (show ¬ i ≤ 56 by omega), if_pos h5.2, if_pos h5.2]
        exact hl _ (by omega)
      · rw [if_neg h0, if_neg h0, if_neg h1, if_neg h1]
        by_cases h2 : i ≤ 16
        · rw [if_pos h2, if_pos h2]
        · rw [if_neg h2, if_neg h2]
          by_cases h3 : i ≤ 48
          · rw [if_pos h3, if_pos h3]
          · rw [if_neg h3, if_neg h3]
            by_cases h4 : i ≤ 56
            · rw [if_pos h4, if_pos h4]
            · rw [if_neg h4, if_neg h4, if_neg (show ¬ i ≤ 64 by omega), if_neg (show ¬ i ≤ 64 by omega)]
theorem map_at {l m : List Nat} {f g : Nat → Nat} (h : l.map f = m.map g) (hl : l.length = 8) (hm : m.length = 8) (j : Nat) (hj : j < 8) : f (l.getD j 0) = g (m.getD j 0) := by
  have e := congrArg (·[j]?) h
  simp only [List.getElem?_map] at e
  rw [List.getD_eq_getElem?_getD, List.getD_eq_getElem?_getD, List.getElem?_eq_getElem (by omega), List.getElem?_eq_getElem (by omega)]
  rw [List.getElem?_eq_getElem (by omega), List.getElem?_eq_getElem (by omega)] at e
  simpa using e
theorem bv_nat (x : Nat) (h : x < 256) : bv (x : Int) = x := by
  unfold bv
  rw [Int.toNat_natCast]
  simp only [UInt8.toNat_ofNat']
  exact Nat.mod_eq_of_lt h
/-- The same first position of each number. -/
theorem same_960 (n : Nat) (hn : n < 960) : posA (posN n) = posA (rposN n) := posA_ext fun i hi => by
  have hz := rowZ_rep n
  have hd := rfD_rep n
  obtain ⟨e1, e2⟩ := ref_row ⟨n, hn⟩
  obtain ⟨k1, k2⟩ := ref_rooks ⟨n, hn⟩
  have e1' : (refD n).map letN = (rowL n).map id := by rw [List.map_id]; exact e1
  have r8 : ∀ j, j < 8 → (refD n).getD j 0 ≤ 90 := fun j hj => by
    have := (rfD_rng n hn j hj).2
    rw [hd.at_ j hj] at this
    omega
  show bothP 1 (rowZ n) i = rookP (rookP (ofP 1 (rowsL (stR (loN (rfD n) 8)) (stR (rfD n)))) 79 _ _) 81 _ _ i
  rw [both_lin _ i hi, of_lin _ _ _ _ i hi]
  refine linG_ext (fun j hj => ?_) (fun j hj => ?_) ?_ ?_ i
  · show 8 * ((0 : Nat) : Int) + rowZ n j = ((letN (bv (rfD n j)) : Nat) : Int)
    rw [hz.at_ j hj, hd.at_ j hj, bv_nat _ (by have := r8 j hj; omega), map_at e1' hd.len hz.len j hj]
    simp
  · show 8 * ((1 : Nat) : Int) + rowZ n j = ((letN (bv (loN (rfD n) 8 j)) : Nat) : Int)
    rw [loN_at _ 8 j hj, hz.at_ j hj, hd.at_ j hj, show (((refD n).getD j 0 : Nat) : Int) + 32 = (((refD n).getD j 0 + 32 : Nat) : Int) by omega, bv_nat _ (by have := r8 j hj; omega)]
    have := map_at (f := fun b => letN (b + 32)) e2 hd.len hz.len j hj
    simp only at this
    rw [this]
    omega
  · rw [← k1]; exact rf0_ext 8 fun j hj => hz.at_ j hj
  · rw [← k2]; exact rf1_ext 8 fun j hj => hz.at_ j hj
set_option maxRecDepth 100000 in
theorem same_start (v : Nat) (hv : v < 9) (h1 : v ≠ 1) : posA (startP v) = posA (rstP v) := posA_ext fun i hi => by
  have key : ∀ v : Fin 9, v.val ≠ 1 → ∀ i : Fin 88, startP v.val i.val = rstP v.val i.val := by decide +kernel
  exact key ⟨v, hv⟩ h1 ⟨i, hi⟩
theorem fits {k : IntKind} {n : Int} (h : k.min ≤ n ∧ n ≤ k.max) : (Lit.int k n).wf = true := by simp [Lit.wf, h.1, h.2]
theorem kAt_u {o : Nat} (k : o < 65 ∨ 66 ≤ o ∧ o < 79 ∨ o = 84 ∨ o = 85) : kAt o = .u8 := by unfold kAt; rw [if_neg (by omega), if_neg (by omega), if_neg (by omega)]
theorem kAt_i {o : Nat} (h : 79 ≤ o) (k : o ≤ 83) : kAt o = .i8 := by unfold kAt; rw [if_neg (by omega), if_pos ⟨h, k⟩]
theorem fit_u {n : Int} (h : 0 ≤ n ∧ n ≤ 255) : (Lit.int .u8 n).wf = true := fits h
theorem fit_i {n : Int} (h : -128 ≤ n ∧ n ≤ 127) : (Lit.int .i8 n).wf = true := fits h
theorem rf0_rng (r : Nat → Int) : ∀ k, -1 ≤ rf0 r k ∧ rf0 r k < k
  | 0 => by unfold rf0; omega
  | k + 1 => by
    have := rf0_rng r k
    unfold rf0
    cases r k == 4
    · simp only [cond_false]; omega
    · simp only [cond_true]; omega
theorem rf1_rng (r : Nat → Int) : ∀ k, -1 ≤ rf1 r k ∧ rf1 r k < k
  | 0 => by unfold rf1; omega
  | k + 1 => by
    have := rf1_rng r k
    unfold rf1
    cases (r k == 4) && (rf1 r k == -1)
    · simp only [cond_false]; omega
    · simp only [cond_true]; omega
theorem wf_posN (n : Nat) (hn : n < 960) : WfP (posN n) := fun i hi => by
  have hr : ∀ j, j < 8 → 0 ≤ rowZ n j ∧ rowZ n j ≤ 7 := fun j hj => by
    obtain ⟨m, h1, h2⟩ := kinds_row n hn j hj
    omega
  have a := rf0_rng (rowZ n) 8
  have b := rf1_rng (rowZ n) 8
  show (Lit.int (kAt i) (bothP 1 (rowZ n) i)).wf = true
  rw [both_lin _ i hi]
  by_cases h0 : i = 0
  · subst h0; rfl
  · by_cases h1 : i ≤ 8
    · rw [kAt_u (by omega)]
      have := hr (i - 1) (by omega)
      unfold linG upR
      rw [if_neg h0, if_pos h1]
      exact fit_u (by omega)
    · by_cases h2 : i ≤ 56
      · rw [kAt_u (by omega)]
        unfold linG
        rw [if_neg h0, if_neg h1]
        by_cases h3 : i ≤ 16
        · rw [if_pos h3]; rfl
        · rw [if_neg h3]
          by_cases h4 : i ≤ 48
          · rw [if_pos h4]; rfl
          · rw [if_neg h4, if_pos h2]; rfl
      · by_cases h3 : i ≤ 64
        · rw [kAt_u (by omega)]
          have := hr (i - 57) (by omega)
          unfold linG loR
          rw [if_neg h0, if_neg h1, if_neg (by omega), if_neg (by omega), if_neg h2, if_pos h3]
          exact fit_u (by omega)
        · by_cases h4 : 79 ≤ i ∧ i ≤ 83
          · rw [kAt_i h4.1 h4.2]
            unfold linG
            rw [if_neg h0, if_neg h1, if_neg (by omega), if_neg (by omega), if_neg h2, if_neg h3]
            by_cases h5 : i = 79 ∨ i = 81
            · rw [if_pos h5]; exact fit_i (by omega)
            · rw [if_neg h5]
              by_cases h6 : i = 80 ∨ i = 82
              · rw [if_pos h6]; exact fit_i (by omega)
              · rw [if_neg h6, if_pos (by omega)]; rfl
          · unfold linG
            rw [if_neg h0, if_neg h1, if_neg (by omega), if_neg (by omega), if_neg h2, if_neg h3, if_neg (by omega), if_neg (by omega), if_neg (by omega)]
            unfold kAt
            by_cases h7 : i = 87
            · subst h7; rfl
            · rw [if_neg h7]
              split
              · rfl
              · split <;> first | rfl | (split <;> rfl)
set_option maxRecDepth 100000 in
theorem wf_start (v : Nat) : WfP (startP v) := by
  by_cases h9 : 9 ≤ v
  · rw [start_no v h9]; exact WfP.zero
  · by_cases h1 : v = 1
    · subst h1; exact wf_posN 518 (by omega)
    · intro i hi
      have key : ∀ v : Fin 9, v.val ≠ 1 → ∀ i : Fin 88, (Lit.int (kAt i.val) (startP v.val i.val)).wf = true := by decide +kernel
      exact key ⟨v, by omega⟩ h1 ⟨i, hi⟩
end Go.Proofs.YtfdheeogpndklaaDoor
