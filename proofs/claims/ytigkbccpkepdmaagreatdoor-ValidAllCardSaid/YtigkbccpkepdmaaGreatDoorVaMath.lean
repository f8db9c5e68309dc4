/-
 Plain functions of layer 12: what is wrong with a position, one question after the other; a position in a block of the package's own type.
-/
import Derived.Test.YtigkbccpkepdmaaGreatDoorAtCheck
import Derived.Test.YtigkbccpkepdmaaGreatDoorVaBaseA
import Derived.Test.YtigkbccpkepdmaaGreatDoorVaBaseB
namespace Go.Proofs.YtigkbccpkepdmaaGreatDoor
open Go.RowKit
set_option linter.unusedVariables false
set_option linter.unusedSimpArgs false

/-- The numbers of a position fit their kinds. -/
structure FitP (p : Nat → Int) : Prop where
 var : 0 ≤ p 0 ∧ p 0 ≤ 255
 bd : ∀ i, i < 64 → 0 ≤ p (1 + i) ∧ p (1 + i) ≤ 255
 prom : 0 ≤ p 65 ∧ (p 65).toNat < W64
 pock : ∀ i, 66 ≤ i → i < 78 → 0 ≤ p i ∧ p i ≤ 255
 turn : 0 ≤ p 78 ∧ p 78 ≤ 255
 rook : ∀ i, 79 ≤ i → i < 83 → -128 ≤ p i ∧ p i ≤ 127
 pass : -128 ≤ p 83 ∧ p 83 ≤ 127
 chk : ∀ i, 84 ≤ i → i < 86 → 0 ≤ p i ∧ p i ≤ 255
 clk : ∀ i, 86 ≤ i → i < 88 → -9223372036854775808 ≤ p i ∧ p i ≤ 9223372036854775807
theorem fit_wf {k : IntKind} {n : Int} (h : (Lit.int k n).wf = true) : k.min ≤ n ∧ n ≤ k.max := by simpa [Lit.wf] using h
theorem fit_u8 {k : IntKind} {n : Int} (h : (Lit.int k n).wf = true) (e : k = .u8) : 0 ≤ n ∧ n ≤ 255 := by
 subst e
 have h := fit_wf h
 have a : IntKind.u8.min = 0 := by decide
 have b : IntKind.u8.max = 255 := by decide
 omega
theorem fit_i8 {k : IntKind} {n : Int} (h : (Lit.int k n).wf = true) (e : k = .i8) : -128 ≤ n ∧ n ≤ 127 := by
 subst e
 have h := fit_wf h
 have a : IntKind.i8.min = -128 := by decide
 have b : IntKind.i8.max = 127 := by decide
 omega
theorem k_u8 {o : Nat} (k : o < 65 ∨ 66 ≤ o ∧ o < 79 ∨ o = 84 ∨ o = 85) : kAt o = .u8 := by unfold kAt; rw [if_neg (by omega), if_neg (by omega), if_neg (by omega)]
theorem k_i8 {o : Nat} (h : 79 ≤ o) (k : o ≤ 83) : kAt o = .i8 := by unfold kAt; rw [if_neg (by omega), if_pos ⟨h, k⟩]
theorem k_i64 {o : Nat} (h : 86 ≤ o) : kAt o = .i64 := by unfold kAt; rw [if_neg (by omega), if_neg (by omega), if_pos h]
theorem FitP.of {p : Nat → Int} (h : WfP p) : FitP p := by
 refine ⟨fit_u8 (h 0 (by omega)) rfl, fun i hi => fit_u8 (h (1 + i) (by omega)) (k_u8 (by omega)), ?_, fun i h1 h2 => fit_u8 (h i (by omega)) (k_u8 (by omega)), fit_u8 (h 78 (by omega)) rfl, fun i h1 h2 => fit_i8 (h i (by omega)) (k_i8 (by omega) (by omega)), fit_i8 (h 83 (by omega)) rfl, fun i h1 h2 => fit_u8 (h i (by omega)) (k_u8 (by omega)), fun i h1 h2 => ?_⟩
 ·have := fit_wf (h 65 (by omega)); have e : kAt 65 = .u64 := rfl; rw [e] at this
  have a : IntKind.u64.min = 0 := by decide
  have b : IntKind.u64.max = 18446744073709551615 := by decide
  unfold W64; omega
 ·have := fit_wf (h i (by omega)); rw [k_i64 h1] at this
  have a : IntKind.i64.min = -9223372036854775808 := by decide
  have b : IntKind.i64.max = 9223372036854775807 := by decide
  omega
theorem FitP.at {p : Nat → Int} (h : FitP p) : AtR p := ⟨fun i hi => h.bd i hi, h.var, h.turn⟩

def filB (p : Nat → Int) (k : Nat) : Bool := (List.range k).all fun i => decide (-1 ≤ p (79 + i)) && decide (p (79 + i) < 8)
def mckZ (p : Nat → Int) : Int := bif p 0 == 5 then 3 else 0
def ckB (p : Nat → Int) : Bool := decide (max (p 84) (p 85) ≤ mckZ p)
def argB (p : Nat → Int) : Bool := decide (p 0 < 9) && (decide (p 78 ≤ 1) && (decide (-1 ≤ p 83) && (decide (p 83 < 64) && (lawB p 64 && (filB p 4 && ckB p)))))
def nrZ (n m : Int) : Int := min (max n m) 10000
def clkB (p : Nat → Int) : Bool := (p 86 == nrZ (p 86) 0) && (p 87 == nrZ (p 87) 1)
def kgsZ (p : Nat → Int) (c : Int) : Int := cntN (ofN p c 6)
def kmB (p : Nat → Int) (c : Int) : Bool := bif p 0 == 4 then true else bif (p 0 == 7) && (c == 0) then kgsZ p c == 0 else bif (p 0 == 3) && (c == p 78) then decide (kgsZ p c ≤ 1) else kgsZ p c == 1
def kgB (p : Nat → Int) : Bool := kmB p 0 && kmB p 1
def pmB (p : Nat → Int) (c r : Int) : Bool := bif r == 0 then (p 0 == 7) && (c == 0) else bif r == 7 then false else pawB (p 0).toNat
def pwnB (p : Nat → Int) (k : Nat) : Bool := (List.range k).all fun i => !(kndZ (p (1 + i)) == 1) || pmB p (colZ (p (1 + i))) ((i / 8 : Nat) : Int)
def pkz (p : Nat → Int) : Bool := (List.range 12).all fun j => p (66 + j) == 0
def hldZ (p : Nat → Int) (c k : Nat) : Int := (List.range k).foldl (fun n j => n + p (66 + c * 6 + j)) 0
def mnZ (p : Nat → Int) : Nat → Int
 | 0 => 0
 | d + 1 => mnZ p d + cntN (ofN p (d : Int) 0) + hldZ p d 6
def menZ (p : Nat → Int) : Int := mnZ p 2
def prmB (p : Nat → Int) (k : Nat) : Bool := (List.range k).all fun i => !((p 65).toNat.testBit i) || (decide (2 ≤ kndZ (p (1 + i))) && decide (kndZ (p (1 + i)) ≤ 5))
def pkB (p : Nat → Int) : Bool := bif pocB (p 0).toNat then (p 66 == 0) && ((p 72 == 0) && (decide (menZ p ≤ 32) && prmB p 64)) else pkz p && (p 65 == 0)
def roA (p : Nat → Int) (c s : Nat) : Int := p (79 + c * 2 + s)
def kfZ (p : Nat → Int) (c : Nat) : Int := kingZ p (c : Int) - 56 * (c : Int)
def usZ (s : Nat) : Int := bif s == 0 then 7 else 0
def rkB (p : Nat → Int) (c s : Nat) : Bool := (roA p c s == -1) || (casB (p 0).toNat && (decide (0 ≤ kfZ p c) && (decide (kfZ p c < 8) && ((p (1 + (56 * c + (roA p c s).toNat)) == mkZ (c : Int) 4) && ((decide (kfZ p c < roA p c s) == (s == 0)) && ((p 0 == 1) || ((kfZ p c == 4) && (roA p c s == usZ s))))))))
def rksB (p : Nat → Int) : Bool := rkB p 0 0 && (rkB p 0 1 && (rkB p 1 0 && rkB p 1 1))
def prkZ (p : Nat → Int) : Int := bif p 78 == 1 then 2 else 5
def pupZ (p : Nat → Int) : Int := bif p 78 == 1 then 8 else -8
def pasB (p : Nat → Int) : Bool := (p 83 == -1) || ((Int.tdiv (p 83) 8 == prkZ p) && ((p (1 + (p 83).toNat) == 0) && ((p (1 + (p 83 - pupZ p).toNat) == 0) && ((p (1 + (p 83 + pupZ p).toNat) == mkZ (1 - p 78) 1) && (byN p (p 83) (p 78) &&& ofN p (p 78) 1 != 0)))))
def icB (p : Nat → Int) (c : Int) : Bool := bif (p 0 == 3) && (kgsZ p (p 78) == 0) then false else chkB p c
def chB (p : Nat → Int) : Bool := !icB p (1 - p 78) && !((p 0 == 8) && icB p (p 78))
/-- Is it right, by the k-th question? -/
def okN (p : Nat → Int) (k : Nat) : Bool := match k with | 0 => argB p | 1 => clkB p | 2 => kgB p | 3 => pwnB p 64 | 4 => pkB p | 5 => rksB p | 6 => pasB p | _ => chB p
def cdZ (k : Nat) : Int := match k with | 0 => 2 | 1 => 125 | 2 => 120 | 3 => 121 | 4 => 122 | 5 => 123 | 6 => 124 | _ => 126
def anZ (p : Nat → Int) (k : Nat) : Int := bif okN p k then 0 else cdZ k
/-- The errors that the first k questions tell. -/
def erL (p : Nat → Int) (k : Nat) : List Int := (((List.range k).filter fun j => !okN p j).map cdZ)
/-- What is wrong. -/
def wrL (p : Nat → Int) : List Int := bif argB p then erL p 8 else [2]

/-! A position in a block of the package's own type. -/
def VR (w : World) (b : Nat) (p : Nat → Int) : Prop := Blk w b 47 (posA p)
theorem VR.lt {w : World} {b : Nat} {p : Nat → Int} (h : VR w b p) : b < w.heap.size := Blk.lt h
theorem VR.later {w w' : World} {b : Nat} {p : Nat → Int} (h : VR w b p) (hb : Below w.heap.size w w') : VR w' b p := Blk.later h hb
theorem VR.cell {w : World} {b : Nat} {p : Nat → Int} (h : VR w b p) (i : Nat) (hi : i < 88) : w.cell? ⟨b, i, none⟩ = some (.int (kAt i) (p i)) := by
 rw [Blk.cell h i, posA_get p i hi]
theorem VR.range {w : World} {b : Nat} {p : Nat → Int} (h : VR w b p) (o n : Nat) (hn : o + n ≤ 88) : w.rangeAt b o (partL p o n) := fun j v hv => by
 have hj : j < n := by have := (List.getElem?_eq_some_iff.1 hv).1; rwa [partL_len] at this
 have e : (partL p o n)[j]? = some (.int (kAt (o + j)) (p (o + j))) := by simp [partL, hj]
 rw [e] at hv
 rw [h.cell _ (by omega), Option.some.inj hv]
theorem sizeVp : (Tryz.prog.info? 47).map (·.size) = some 88 := by kernel_rfl
theorem part_arr (p : Nat → Int) (off n : Nat) (K : IntKind) (hk : ∀ j, j < n → kAt (off + j) = K) : (partL p off n).toArray = arrA n K (fun j => p (off + j)) := by
 apply Array.ext_getElem?
 intro i
 by_cases hi : i < n
 ·rw [arrA_get _ _ _ _ hi]; simp [partL, hi, hk i hi]
 ·rw [Array.getElem?_eq_none (by rw [List.size_toArray, partL_len]; omega), Array.getElem?_eq_none (by rw [arrA_size]; omega)]
theorem part_all (p : Nat → Int) : (partL p 0 88).toArray = posA p := by rw [partL_all]
theorem vshr_bit {n a : Nat} (hn : n < W64) : (bits .and .u64 ((n : Int) / 2 ^ a) 1 == 1) = n.testBit a := by
 rw [show ((n : Int) / 2 ^ a) = ((n / 2 ^ a : Nat) : Int) by simp, show (1 : Int) = ((1 : Nat) : Int) from rfl, and_nat (Nat.lt_of_le_of_lt (Nat.div_le_self _ _) hn) (by decide)]
 rw [Nat.and_one_is_mod, Nat.testBit_eq_decide_div_mod_eq]
 rw [Bool.eq_iff_iff, beq_iff_eq, decide_eq_true_eq]; omega
theorem vking_sq {p : Nat → Int} {c : Int} (h : 0 ≤ kingZ p c) : ∃ n : Nat, n < 64 ∧ kingZ p c = (n : Int) := by
 unfold kingZ at *
 by_cases h0 : ofN p c 6 = 0
 ·rw [h0, firstN_zero] at h; omega
 ·obtain ⟨e, he, h1, _⟩ := first_spec h0 (ofN_lt p c 6); exact ⟨e, he, h1⟩
theorem vwf_u8 {x : Int} (h : 0 ≤ x ∧ x ≤ 255) : (Lit.int .u8 x).wf = true := by
 have a : IntKind.u8.min = 0 := by decide
 have b : IntKind.u8.max = 255 := by decide
 simp [Lit.wf, a, b, h.1, h.2]
theorem vnew_row {b c : Nat} {w w' : World} {p : Nat → Int} (h : New b w w') (hr : Row w c p) : Row w' c p := hr.later h.below
theorem vnew_ne {b c : Nat} {w w' : World} {p : Nat → Int} (h : New b w w') (hr : Row w c p) : c ≠ b := by have := hr.lt; have := h.at_; omega
theorem wp_cutV {P : Program} {Q : Exit → Act → World → Prop} {a : Act} {w : World} {x y : Code} (M : Act → World → Prop) (h1 : ∀ K : Act → World → Prop, Shut (∀ a w, M a w → K a w) → x.wp P (Exit.then K Q) a w) (h2 : ∀ a w, M a w → y.wp P Q a w) : (Code.seq x y).wp P Q a w :=
 wp_seq_k fun K hK => h1 K (fun a w hm => hK _ _ (h2 a w hm))

/-! Short words for regions that draw their order. -/
theorem qa {α : Type _} {l : List α} {i : Nat} : l.toArray[i]? = l[i]? := List.getElem?_toArray
theorem qb {α : Type _} {a : α} {l : List α} : (a :: l)[0]? = some a := List.getElem?_cons_zero
theorem qc {α : Type _} {a : α} {l : List α} {i : Nat} : (a :: l)[i + 1]? = l[i]? := List.getElem?_cons_succ
theorem qd {α : Type _} (a b : α) : (some a = some b) = (a = b) := Option.some.injEq a b
theorem pa {α : Type _} {l : List α} {i : Nat} {a : α} : l.toArray.setIfInBounds i a = (l.set i a).toArray := List.setIfInBounds_toArray ..
theorem pb {α : Type _} {x a : α} {l : List α} : (x :: l).set 0 a = a :: l := List.set_cons_zero
theorem pc {α : Type _} {x a : α} {l : List α} {i : Nat} : (x :: l).set (i + 1) a = x :: l.set i a := List.set_cons_succ
section
variable {L : Nat} {P : Program} {md : Region.Mode} {ops : Array Oper} {Q : Exit → Act → World → Prop}
theorem ltk (i : Nat) {n : Nat} {listed : Array Bool} {a : Act} {w : World} (hb : (waits md ops L i && (i != L && (Region.noSelect ops && (Region.free md ops listed i && ((Region.ready md ops listed).contains i && (ops[i]?).isSome))))) = true)
  (hQ : ∀ c a d v w, Q (.panic c) (Act.put a d v) w → Q (.panic c) a w)
  (h : ∀ o : Oper, ops[i]? = some o → ∃ v, LateIs P ops o v a w ∧ Late L P md ops Q n (listed.setIfInBounds i true) (a.put o.dst v) w) : Late L P md ops Q (n + 1) listed a w := by
 rw [Bool.and_eq_true, Bool.and_eq_true, Bool.and_eq_true, Bool.and_eq_true, Bool.and_eq_true] at hb
 exact late_take i (by rw [hb.1, hb.2.1]; rfl) hb.2.2.1 hb.2.2.2.1 hb.2.2.2.2.1 hb.2.2.2.2.2 hQ h
theorem of_drop {i : Nat} {o : Oper} {r : List Oper} (h : ops.toList.drop i = o :: r) : ops[i]? = some o := by
 have h1 : (ops.toList.drop i)[0]? = some o := by rw [h]; rfl
 rw [List.getElem?_drop, Nat.add_zero] at h1
 rwa [← Array.getElem?_toList]
/-- An operation whose guard is not met. -/
theorem lo (i : Nat) {n : Nat} {listed : Array Bool} {a : Act} {w : World} {o : Oper} {r : List Oper} (ho : ops.toList.drop i = o :: r) (h : Late L P md ops Q n (listed.setIfInBounds i true) (a.put o.dst undef) w)
  (hb : (waits md ops L i && (i != L && (Region.noSelect ops && (Region.free md ops listed i && ((Region.ready md ops listed).contains i && (ops[i]?).isSome))))) = true := by kernel_rfl)
  (hw : Region.wanted o (yielded ops a.tmps) = false := by kernel_rfl) (hQ : ∀ c a d v w, Q (.panic c) (Act.put a d v) w → Q (.panic c) a w := by intro _ _ d _ _ h; cases d <;> exact h) : Late L P md ops Q (n + 1) listed a w :=
 ltk i hb hQ fun o' ho' => by
  obtain rfl := Option.some.inj ((of_drop ho).symm.trans ho')
  exact ⟨undef, Or.inr ⟨hw, rfl⟩, h⟩
/-- An operation that yields one value in every later world. -/
theorem lv (i : Nat) {n : Nat} {listed : Array Bool} {a : Act} {w : World} {o : Oper} {r : List Oper} (ho : ops.toList.drop i = o :: r)
  (h : ∃ v, (∀ w', Later w w' → (execOp a.eval o).run P w' = .ok (.value v) w') ∧ Late L P md ops Q n (listed.setIfInBounds i true) (a.put o.dst v) w)
  (hb : (waits md ops L i && (i != L && (Region.noSelect ops && (Region.free md ops listed i && ((Region.ready md ops listed).contains i && (ops[i]?).isSome))))) = true := by kernel_rfl)
  (hw : Region.wanted o (yielded ops a.tmps) = true := by kernel_rfl) (hQ : ∀ c a d v w, Q (.panic c) (Act.put a d v) w → Q (.panic c) a w := by intro _ _ d _ _ h; cases d <;> exact h) : Late L P md ops Q (n + 1) listed a w :=
 ltk i hb hQ fun o' ho' => by
  obtain rfl := Option.some.inj ((of_drop ho).symm.trans ho')
  obtain ⟨v, h1, h2⟩ := h
  exact ⟨v, Or.inl ⟨hw, fun w' hl => Or.inl (h1 w' hl)⟩, h2⟩
end
section laws
variable {ops : Array Oper} {rest : List Oper} {op : Oper} {a : Act} {w : World} {Q : Exit → Act → World → Prop}
/-- The package's own position, whole. -/
theorem va_load (hw : Region.wanted op (yielded ops a.tmps) = true) (x : Operand) (ho : op.op = .load 47 x) (b : Nat) (hx : a.eval x = .pointer (some ⟨b, 0, none⟩)) (p : Nat → Int) (hr : VR w b p)
  (h : wpList Tryz.prog ops Q rest (a.put op.dst (.agg (posA p))) w) : wpList Tryz.prog ops Q (op :: rest) a w :=
 blk_load hw 47 x ho b hx (posA p) hr _ Tryz.underlying47 rfl (by rw [posA_size]; exact sizeVp) h
/-- The position that is embedded. -/
theorem va_in (hw : Region.wanted op (yielded ops a.tmps) = true) (x : Operand) (ho : op.op = .load 31 x) (b : Nat) (hx : a.eval x = .pointer (some ⟨b, 0, none⟩)) (p : Nat → Int) (hr : VR w b p)
  (h : wpList Tryz.prog ops Q rest (a.put op.dst (.agg (posA p))) w) : wpList Tryz.prog ops Q (op :: rest) a w :=
 wpList_want hw fun _ hK => wp_load_mid 31 x ho b 0 hx (partL p 0 88) _ (hr.range 0 88 (by omega)) Tryz.underlying31 rfl (by rw [partL_len]; exact size31) (hK _ _ (by rw [part_all]; exact h))
/-- An array of it. -/
theorem va_arr (hw : Region.wanted op (yielded ops a.tmps) = true) (T : TypeId) (x : Operand) (ho : op.op = .load T x) (b off n : Nat) (hx : a.eval x = .pointer (some ⟨b, off, none⟩)) (K : IntKind) (p : Nat → Int) (hr : VR w b p) (hn : off + n ≤ 88) (hk : ∀ j, j < n → kAt (off + j) = K)
  (d : TypeDesc) (hu : Tryz.prog.underlying T = some d) (hd : d.isRow = true) (hi : (Tryz.prog.info? T).map (·.size) = some n)
  (h : wpList Tryz.prog ops Q rest (a.put op.dst (.agg (arrA n K fun j => p (off + j)))) w) : wpList Tryz.prog ops Q (op :: rest) a w :=
 wpList_want hw fun _ hK => wp_load_mid T x ho b off hx (partL p off n) _ (hr.range off n hn) hu hd (by rw [partL_len]; exact hi) (hK _ _ (by rw [part_arr p off n K hk]; exact h))
theorem va_box (hw : Region.wanted op (yielded ops a.tmps) = true) (x : Operand) (ho : op.op = .box 47 x) (p : Nat → Int) (hx : a.eval x = .agg (posA p))
  (h : ∀ b w', New b w w' → VR w' b p → wpList Tryz.prog ops Q rest (a.put op.dst (.pointer (some ⟨b, 0, none⟩))) w') : wpList Tryz.prog ops Q (op :: rest) a w :=
 blk_box hw 47 x ho (posA p) hx h
theorem va_part (hw : Region.wanted op (yielded ops a.tmps) = true) (T : TypeId) (x : Operand) (ho : op.op = .load T x) (b off n : Nat) (hx : a.eval x = .pointer (some ⟨b, off, none⟩)) (p : Nat → Int) (hr : VR w b p) (hn : off + n ≤ 88)
  (d : TypeDesc) (hu : Tryz.prog.underlying T = some d) (hd : d.isRow = true) (hi : (Tryz.prog.info? T).map (·.size) = some n)
  (h : wpList Tryz.prog ops Q rest (a.put op.dst (.agg (partL p off n).toArray)) w) : wpList Tryz.prog ops Q (op :: rest) a w :=
 wpList_want hw fun _ hK => wp_load_mid T x ho b off hx (partL p off n) _ (hr.range off n hn) hu hd (by rw [partL_len]; exact hi) (hK _ _ h)
end laws
theorem run_va {o : Oper} {a : Act} {w : World} (x : Operand) (ho : o.op = .load 47 x) (b : Nat) (hx : a.eval x = .pointer (some ⟨b, 0, none⟩)) (p : Nat → Int) (hr : VR w b p) : (execOp a.eval o).run Tryz.prog w = .ok (.value (.agg (posA p))) w :=
 run_blk 47 x ho b hx (posA p) hr _ Tryz.underlying47 rfl (by rw [posA_size]; exact sizeVp)
theorem run_vin {o : Oper} {a : Act} {w : World} (x : Operand) (ho : o.op = .load 31 x) (b : Nat) (hx : a.eval x = .pointer (some ⟨b, 0, none⟩)) (p : Nat → Int) (hr : VR w b p) : (execOp a.eval o).run Tryz.prog w = .ok (.value (.agg (posA p))) w := by
 have hl := run_loadVar_mid (P := Tryz.prog) w b 0 31 (partL p 0 88) _ (hr.range 0 88 (by omega)) Tryz.underlying31 rfl (by rw [partL_len]; exact size31)
 rw [part_all] at hl
 unfold execOp
 simp only [ho, hx, Instr.loadAt, Instr.sureAddr, Sem.run_bind, Sem.run_pure, Result.andThen_ok, hl]
theorem filB_succ (p : Nat → Int) (k : Nat) : filB p (k + 1) = (filB p k && (decide (-1 ≤ p (79 + k)) && decide (p (79 + k) < 8))) := by unfold filB; rw [List.range_succ, List.all_append]; simp
theorem filB_no {p : Nat → Int} {k : Nat} (h : filB p k = false) : ∀ n, k ≤ n → filB p n = false := fun n hn => by
 induction n with
 | zero =>
  obtain rfl : k = 0 := by omega
  exact h
 | succ n ih =>
  by_cases e : k = n + 1
  ·subst e; exact h
  ·rw [filB_succ, ih (by omega)]; rfl
theorem pwnB_succ (p : Nat → Int) (k : Nat) : pwnB p (k + 1) = (pwnB p k && (!(kndZ (p (1 + k)) == 1) || pmB p (colZ (p (1 + k))) ((k / 8 : Nat) : Int))) := by unfold pwnB; rw [List.range_succ, List.all_append]; simp
theorem pwnB_no {p : Nat → Int} {k : Nat} (h : pwnB p k = false) : ∀ n, k ≤ n → pwnB p n = false := fun n hn => by
 induction n with
 | zero =>
  obtain rfl : k = 0 := by omega
  exact h
 | succ n ih =>
  by_cases e : k = n + 1
  ·subst e; exact h
  ·rw [pwnB_succ, ih (by omega)]; rfl
theorem prmB_succ (p : Nat → Int) (k : Nat) : prmB p (k + 1) = (prmB p k && (!((p 65).toNat.testBit k) || (decide (2 ≤ kndZ (p (1 + k))) && decide (kndZ (p (1 + k)) ≤ 5)))) := by unfold prmB; rw [List.range_succ, List.all_append]; simp
theorem prmB_no {p : Nat → Int} {k : Nat} (h : prmB p k = false) : ∀ n, k ≤ n → prmB p n = false := fun n hn => by
 induction n with
 | zero =>
  obtain rfl : k = 0 := by omega
  exact h
 | succ n ih =>
  by_cases e : k = n + 1
  ·subst e; exact h
  ·rw [prmB_succ, ih (by omega)]; rfl
theorem hldZ_succ (p : Nat → Int) (c k : Nat) : hldZ p c (k + 1) = hldZ p c k + p (66 + c * 6 + k) := by unfold hldZ; rw [List.range_succ, List.foldl_append]; rfl
theorem erL_succ (p : Nat → Int) (k : Nat) : erL p (k + 1) = erL p k ++ (bif okN p k then [] else [cdZ k]) := by
 unfold erL; rw [List.range_succ, List.filter_append, List.map_append]
 cases h : okN p k <;> simp [h]
theorem erL_pre (p : Nat → Int) {k n : Nat} (h : k ≤ n) : erL p k <+: erL p n := by
 induction n with
 | zero =>
  obtain rfl : k = 0 := by omega
  exact List.prefix_rfl
 | succ n ih =>
  by_cases e : k = n + 1
  ·subst e; exact List.prefix_rfl
  ·rw [erL_succ]; exact (ih (by omega)).trans (List.prefix_append _ _)
theorem argB_var {p : Nat → Int} (h : argB p = true) : p 0 < 9 ∧ p 78 ≤ 1 ∧ -1 ≤ p 83 ∧ p 83 < 64 ∧ lawB p 64 = true ∧ filB p 4 = true ∧ ckB p = true := by
 unfold argB at h
 simp only [Bool.and_eq_true, decide_eq_true_eq] at h
 exact h
theorem filB_at {p : Nat → Int} (h : filB p 4 = true) (i : Nat) (hi : i < 4) : -1 ≤ p (79 + i) ∧ p (79 + i) < 8 := by
 unfold filB at h
 have := (List.all_eq_true.1 h) i (List.mem_range.2 hi)
 simpa using this
end Go.Proofs.YtigkbccpkepdmaaGreatDoor
