/-
 Several texts in one: Base, Pos, PcMath, Pc, PcText, PcRef, PcFind, PcRefB, Math, Square, SquareRef, BoAt, MathB, ListRef, StepRef, ShiftRef.
-/
import Derived.Test.YteblmnbagbdiiaaGreatDoorChecked
import Derived.WalkKit
import Derived.Lib.Hide
import Derived.Laws.Rows
import Derived.Deep.MidRow
import Derived.Lib.Strings
import Derived.WalkMore
import Derived.Deep.LoopGhost
import Derived.Deep.QuietTactic
import Derived.BigQuiet
import Derived.OwnWalk
import Derived.Maps.AppendAt
import Derived.BigGuardPart
/-
 What a call answers that makes memory at most: posts for one byte, a yes or no, a text; one call behind another.
-/
namespace Go.Proofs.YteblmnbagbdiiaaGreatDoor
open Go.RowKit

def U8L (n : Int) (w : World) (e : Ending) (w' : World) : Prop := e = .returned (.int .u8 n) ∧ Below w.heap.size w w'
def BoL (b : Bool) (w : World) (e : Ending) (w' : World) : Prop := e = .returned (.bool b) ∧ Below w.heap.size w w'
theorem below_on {w a b : World} (h : Below w.heap.size w a) (k : Below a.heap.size a b) : Below w.heap.size w b := h.trans (k.mono h.size)
def AggL (cs : Array Value) (w : World) (e : Ending) (w' : World) : Prop := e = .returned (.agg cs) ∧ Below w.heap.size w w'
def IntL (n : Int) (w : World) (e : Ending) (w' : World) : Prop := e = .returned (.int .i64 n) ∧ Below w.heap.size w w'
def U64L (n : Nat) (w : World) (e : Ending) (w' : World) : Prop := e = .returned (.int .u64 (n : Int)) ∧ Below w.heap.size w w'
theorem size5 : (Tryz.prog.info? 5).map (·.size) = some 1 := by kernel_rfl
end Go.Proofs.YteblmnbagbdiiaaGreatDoor
/-
 A position as the 88 cells in which it lies: plain functions from places to numbers; a block that holds one; loads and stores of whole positions and of parts, each behind a law of one step.
-/
namespace Go.Proofs.YteblmnbagbdiiaaGreatDoor
open Go.RowKit

def kAt (i : Nat) : IntKind := if i = 65 then .u64 else if 79 ≤ i ∧ i ≤ 83 then .i8 else if 86 ≤ i then .i64 else .u8
def posA (p : Nat → Int) : Array Value := Array.ofFn (n := 88) fun i => .int (kAt i.val) (p i.val)
def upd (p : Nat → Int) (i : Nat) (v : Int) : Nat → Int := fun j => if j = i then v else p j
theorem upd_same (p : Nat → Int) (i : Nat) (v : Int) : upd p i v i = v := by simp [upd]
theorem upd_other (p : Nat → Int) (i j : Nat) (v : Int) (h : j ≠ i) : upd p i v j = p j := by simp [upd, h]
theorem posA_size (p : Nat → Int) : (posA p).size = 88 := by simp [posA]
theorem posA_get (p : Nat → Int) (i : Nat) (h : i < 88) : (posA p)[i]? = some (.int (kAt i) (p i)) := by simp [posA, h]
theorem posA_ext {p q : Nat → Int} (h : ∀ i, i < 88 → p i = q i) : posA p = posA q := by
 apply Array.ext_getElem?
 intro i
 by_cases hi : i < 88
 ·rw [posA_get p i hi, posA_get q i hi, h i hi]
 ·rw [Array.getElem?_eq_none (by rw [posA_size]; omega), Array.getElem?_eq_none (by rw [posA_size]; omega)]
theorem posA_set (p : Nat → Int) (i : Nat) (v : Int) (h : i < 88) : (posA p).setIfInBounds i (.int (kAt i) v) = posA (upd p i v) := by
 apply Array.ext_getElem?
 intro j
 rw [Array.getElem?_setIfInBounds]
 by_cases hj : j < 88
 ·rw [posA_get _ j hj, posA_get _ j hj]
  by_cases e : i = j
  ·subst e; simp [posA_size, h, upd_same]
  ·simp [e, upd_other p i j v (Ne.symm e)]
 ·rw [Array.getElem?_eq_none (by rw [posA_size]; omega), Array.getElem?_eq_none (by rw [posA_size]; omega)]
  simp [posA_size]; omega
theorem posA_one (p : Nat → Int) : (posA p).all (·.oneCell') = true := by
 rw [Array.all_eq_true_iff_forall_mem]
 intro v hv
 obtain ⟨i, hi, rfl⟩ := Array.mem_iff_getElem.1 hv
 have := posA_get p i (by rwa [posA_size] at hi)
 rw [Array.getElem?_eq_getElem hi] at this
 rw [Option.some.inj this]; rfl
theorem kAt_board {i : Nat} (h0 : 0 ≤ i) (h : i < 64) : kAt (1 + i) = .u8 := by unfold kAt; rw [if_neg (by omega), if_neg (by omega), if_neg (by omega)]

def PosL (q : Nat → Int) (w : World) (e : Ending) (w' : World) : Prop := e = .returned (.agg (posA q)) ∧ Below w.heap.size w w'
def Row (w : World) (b : Nat) (p : Nat → Int) : Prop := w.heap[b]? = some (.cells (posA p) 31 (0, 0))
structure Upd (b : Nat) (w w' : World) : Prop where
 os : w'.os = w.os
 tape : w'.tape = w.tape
 output : w'.output = w.output
 size : w'.heap.size = w.heap.size
 block : ∀ k, k ≠ b → w'.heap[k]? = w.heap[k]?
theorem Upd.refl (b : Nat) (w : World) : Upd b w w := ⟨rfl, rfl, rfl, rfl, fun _ _ => rfl⟩
theorem Upd.trans {b : Nat} {a c d : World} (h : Upd b a c) (k : Upd b c d) : Upd b a d :=
 ⟨k.os.trans h.os, k.tape.trans h.tape, k.output.trans h.output, k.size.trans h.size, fun i hi => (k.block i hi).trans (h.block i hi)⟩
theorem Upd.below {b B : Nat} {w w' : World} (h : Upd b w w') (hB : B ≤ b) : Below B w w' := ⟨h.os, h.tape, h.output, Nat.le_of_eq h.size.symm, fun k hk => h.block k (by omega)⟩
theorem Upd.drew {b : Nat} {w w' : World} (h : Upd b w w') : Upd b w w'.drew := ⟨h.os, h.tape, h.output, h.size, h.block⟩
theorem Upd.setCell (w : World) (b o : Nat) (v : Value) : Upd b w (w.setCell ⟨b, o, none⟩ v) :=
 ⟨rfl, rfl, rfl, by simp [World.setCell], fun k hk => Below.heap_setCell _ _ _ _ (by simpa using hk)⟩
theorem Upd.setCells (b : Nat) : ∀ (vs : List Value) (o : Nat) (w : World), Upd b w (w.setCells b o vs)
 | [], _, _ => Upd.refl _ _
 | v :: r, o, w => (Upd.setCell w b o v).trans (Upd.setCells b r (o + 1) (w.setCell ⟨b, o, none⟩ v))
theorem Row.lt {w : World} {b : Nat} {p : Nat → Int} (h : Row w b p) : b < w.heap.size := (Array.getElem?_eq_some_iff.1 h).1
theorem Row.next {w w' : World} {b B : Nat} {p : Nat → Int} (h : Row w b p) (hb : Below B w w') (hB : b < B) : Row w' b p := (hb.block b hB).trans h
theorem Row.later {w w' : World} {b : Nat} {p : Nat → Int} (h : Row w b p) (hb : Below w.heap.size w w') : Row w' b p := h.next hb h.lt
theorem Row.apart {w w' : World} {b c : Nat} {p : Nat → Int} (h : Row w b p) (hu : Upd c w w') (hc : b ≠ c) : Row w' b p := (hu.block b hc).trans h
theorem Row.cell {w : World} {b : Nat} {p : Nat → Int} (h : Row w b p) (i : Nat) (hi : i < 88) : w.cell? ⟨b, i, none⟩ = some (.int (kAt i) (p i)) := by
 rw [cell_of_row w b i _ _ _ h, posA_get p i hi]
theorem Row.frozen {w : World} {b : Nat} {p : Nat → Int} (h : Row w b p) (i : Nat) : w.frozen? ⟨b, i, none⟩ = false := frozen_of_row w b i _ _ h
theorem Row.there {w : World} {b : Nat} {p : Nat → Int} (h : Row w b p) (o n : Nat) (hn : o + n ≤ 88) : w.there b o n := fun j hj =>
 ⟨by rw [h.cell _ (by omega)]; rfl, h.frozen _⟩
theorem Row.set {w : World} {b : Nat} {p : Nat → Int} (h : Row w b p) (i : Nat) (v : Int) (hi : i < 88) : Row (w.setCell ⟨b, i, none⟩ (.int (kAt i) v)) b (upd p i v) := by
 have := heap_setCell_same w b i _ _ (.int (kAt i) v) h
 unfold Row
 rw [this, ← posA_set p i v hi]
def over (p : Nat → Int) (o n : Nat) (q : Nat → Int) : Nat → Int := fun j => if o ≤ j ∧ j < o + n then q j else p j
theorem Row.sets {b : Nat} : ∀ (n o : Nat) (w : World) (p q : Nat → Int), Row w b p → o + n ≤ 88 → Row (w.setCells b o ((List.range n).map fun j => .int (kAt (o + j)) (q (o + j)))) b (over p o n q)
 | 0, o, w, p, q, h, _ => by
  have : over p o 0 q = p := by funext j; unfold over; rw [if_neg (by omega)]
  rw [this]; exact h
 | n + 1, o, w, p, q, h, hn => by
  have e : ((List.range (n + 1)).map fun j => Value.int (kAt (o + j)) (q (o + j))) = .int (kAt o) (q o) :: ((List.range n).map fun j => Value.int (kAt (o + 1 + j)) (q (o + 1 + j))) := by
   rw [List.range_succ_eq_map, List.map_cons, List.map_map]
   congr 1
   apply List.map_congr_left
   intro j _
   simp only [Function.comp, Nat.succ_eq_add_one]
   rw [show o + (j + 1) = o + 1 + j by omega]
  rw [e]
  have h1 := Row.sets n (o + 1) (w.setCell ⟨b, o, none⟩ (.int (kAt o) (q o))) (upd p o (q o)) q (h.set o (q o) (by omega)) (by omega)
  have e2 : over (upd p o (q o)) (o + 1) n q = over p o (n + 1) q := by
   funext j
   unfold over upd
   by_cases h1 : j = o
   ·subst h1; rw [if_neg (by omega), if_pos rfl, if_pos (by omega)]
   ·by_cases h2 : o + 1 ≤ j ∧ j < o + 1 + n
    ·rw [if_pos h2, if_pos (by omega)]
    ·rw [if_neg h2, if_neg h1, if_neg (by omega)]
  rw [e2] at h1
  exact h1
def partL (p : Nat → Int) (o n : Nat) : List Value := (List.range n).map fun j => .int (kAt (o + j)) (p (o + j))
theorem partL_len (p : Nat → Int) (o n : Nat) : (partL p o n).length = n := by simp [partL]
theorem partL_all (p : Nat → Int) : partL p 0 88 = (posA p).toList := by
 apply List.ext_getElem?
 intro i
 have e : (posA p).toList[i]? = (posA p)[i]? := by simp
 rw [e]
 by_cases hi : i < 88
 ·rw [posA_get p i hi]; simp [partL, hi]
 ·rw [Array.getElem?_eq_none (by rw [posA_size]; omega), List.getElem?_eq_none (by rw [partL_len]; omega)]
theorem Row.range {w : World} {b : Nat} {p : Nat → Int} (h : Row w b p) (o n : Nat) (hn : o + n ≤ 88) : w.rangeAt b o (partL p o n) := fun j v hv => by
 have hj : j < n := by have := (List.getElem?_eq_some_iff.1 hv).1; rwa [partL_len] at this
 have e : (partL p o n)[j]? = some (.int (kAt (o + j)) (p (o + j))) := by simp [partL, hj]
 rw [e] at hv
 rw [h.cell _ (by omega), Option.some.inj hv]
theorem over_all (p q : Nat → Int) : posA (over p 0 88 q) = posA q := posA_ext fun i hi => by unfold over; rw [if_pos (by omega)]
theorem Row.whole {w : World} {b : Nat} {p q : Nat → Int} (h : Row w b p) : Row (w.setCells b 0 (posA q).toList) b q := by
 have := Row.sets 88 0 w p q h (by omega)
 rw [← partL_all q]
 unfold Row at *
 rw [over_all] at this
 exact this

structure New (b : Nat) (w w' : World) : Prop where
 at_ : b = w.heap.size
 size : w'.heap.size = b + 1
 below : Below w.heap.size w w'
theorem New.alloc (w : World) (o : Obj) : New w.heap.size w (w.alloc o) := ⟨rfl, by show (w.heap.push o).size = _; simp, (Below.refl _ _).alloc (Nat.le_refl _) o⟩
def zeroP : Nat → Int := fun _ => 0
theorem size31 : (Tryz.prog.info? 31).map (·.size) = some 88 := by kernel_rfl
theorem info31 : (Tryz.prog.info? 31).map (fun i => (i.zero, i.size)) = some (some (.agg (posA zeroP)), 88) := by kernel_rfl

section laws
variable {ops : Array Oper} {rest : List Oper} {op : Oper} {a : Act} {w : World} {Q : Exit → Act → World → Prop}
theorem wpList_want {P : Program} (hw : Region.wanted op (yielded ops a.tmps) = true) (h : ∀ K : Act → World → Prop, (∀ a w, wpList P ops Q rest a w → K a w) → op.wp P a w K Q) : wpList P ops Q (op :: rest) a w :=
 wpList_step fun K hK => by rw [if_pos hw]; exact h K hK
theorem step_load (hw : Region.wanted op (yielded ops a.tmps) = true) (x : Operand) (ho : op.op = .load 31 x) (b : Nat) (hx : a.eval x = .pointer (some ⟨b, 0, none⟩)) (p : Nat → Int) (hr : Row w b p)
  (h : wpList Tryz.prog ops Q rest (a.put op.dst (.agg (posA p))) w) : wpList Tryz.prog ops Q (op :: rest) a w :=
 wpList_want hw fun _ hK => wp_load_row 31 x ho b hx 31 (posA p) (0, 0) _ hr Tryz.underlying31 rfl (by rw [posA_size]; exact size31) (hK _ _ h)
theorem step_store (hw : Region.wanted op (yielded ops a.tmps) = true) (x y : Operand) (ho : op.op = .store 31 x y) (b : Nat) (hx : a.eval x = .pointer (some ⟨b, 0, none⟩)) (p q : Nat → Int) (hy : a.eval y = .agg (posA q)) (hr : Row w b p)
  (h : ∀ w', Upd b w w' → Row w' b q → wpList Tryz.prog ops Q rest (a.put op.dst undef) w') : wpList Tryz.prog ops Q (op :: rest) a w :=
 wpList_want hw fun _ hK => wp_store_mid 31 x y ho b 0 (posA q) hx hy (by rw [posA_size]; exact hr.there 0 88 (by omega)) (by rw [posA_size]; exact size31) (posA_one q) (hK _ _ (h _ (Upd.setCells _ _ _ _) hr.whole))
theorem step_alloc (hw : Region.wanted op (yielded ops a.tmps) = true) (ho : op.op = .alloc 31)
  (h : ∀ b w', New b w w' → Row w' b zeroP → wpList Tryz.prog ops Q rest (a.put op.dst (.pointer (some ⟨b, 0, none⟩))) w') : wpList Tryz.prog ops Q (op :: rest) a w :=
 wpList_want hw fun K hK => by
  have hk := hK _ _ (h _ _ (New.alloc w _) (heap_alloc_new w (.cells (posA zeroP) 31)))
  have hz : ∀ w, (zeroValue 31).run Tryz.prog w = .ok (.agg (posA zeroP)) w := fun w => by
   cases hq : Tryz.prog.info? 31 with
   | none => have := info31; simp [hq] at this
   | some i => have := info31; simp [hq] at this; simp [zeroValue, typeInfo, hq, this.1]
  unfold Oper.wp execOp
  simp only [ho, Instr.alloc, Sem.run_bind, Sem.run_pure, Result.andThen_ok, hz]
  exact hk
theorem step_box (hw : Region.wanted op (yielded ops a.tmps) = true) (x : Operand) (ho : op.op = .box 31 x) (p : Nat → Int) (hx : a.eval x = .agg (posA p))
  (h : ∀ b w', New b w w' → Row w' b p → wpList Tryz.prog ops Q rest (a.put op.dst (.pointer (some ⟨b, 0, none⟩))) w') : wpList Tryz.prog ops Q (op :: rest) a w :=
 wpList_want hw fun K hK => by
  have hk := hK _ _ (h _ _ (New.alloc w _) (heap_alloc_new w (.cells (posA p) 31)))
  unfold Oper.wp execOp
  simp only [ho, hx, Instr.box, Sem.run_bind, Sem.run_pure]
  exact hk
theorem step_cell (hw : Region.wanted op (yielded ops a.tmps) = true) (ty : TypeId) (x y : Operand) (ho : op.op = .store ty x y) (b i : Nat) (hx : a.eval x = .pointer (some ⟨b, i, none⟩)) (K : IntKind) (v : Int) (hy : a.eval y = .int K v)
  (p : Nat → Int) (hr : Row w b p) (hi : i < 88) (hK : kAt i = K) (hs : (Tryz.prog.info? ty).map (·.size) = some 1)
  (h : ∀ w', Upd b w w' → Row w' b (upd p i v) → wpList Tryz.prog ops Q rest (a.put op.dst undef) w') : wpList Tryz.prog ops Q (op :: rest) a w :=
 wpList_want hw fun K' hK' => by
  subst hK
  have hk := hK' _ _ (h _ (Upd.setCell w b i (.int (kAt i) v)) (hr.set i v hi))
  have hrun : (storeVar ty ⟨b, i, none⟩ (.int (kAt i) v)).run Tryz.prog w = .ok () (w.setCell ⟨b, i, none⟩ (.int (kAt i) v)) :=
   run_storeVar_mid w b i ty #[.int (kAt i) v] (hr.there i 1 (by omega)) hs (by simp [Value.oneCell'])
  unfold Oper.wp execOp
  simp only [ho, hx, hy, Instr.storeAt, Instr.sureAddr, Sem.run_bind, Sem.run_pure, Result.andThen_ok, hrun]
  exact hk
theorem partL_one (p : Nat → Int) (o n : Nat) : (partL p o n).toArray.all (·.oneCell') = true := by
 rw [Array.all_eq_true_iff_forall_mem]
 intro v hv
 simp only [partL, List.mem_toArray, List.mem_map] at hv
 obtain ⟨j, _, rfl⟩ := hv
 rfl
theorem step_write (hw : Region.wanted op (yielded ops a.tmps) = true) (ty : TypeId) (x y : Operand) (ho : op.op = .store ty x y) (b o n : Nat) (hx : a.eval x = .pointer (some ⟨b, o, none⟩)) (p q : Nat → Int) (hy : a.eval y = .agg (partL q o n).toArray)
  (hr : Row w b p) (hn : o + n ≤ 88) (hi : (Tryz.prog.info? ty).map (·.size) = some n)
  (h : ∀ w', Upd b w w' → Row w' b (over p o n q) → wpList Tryz.prog ops Q rest (a.put op.dst undef) w') : wpList Tryz.prog ops Q (op :: rest) a w :=
 wpList_want hw fun _ hK => wp_store_mid ty x y ho b o (partL q o n).toArray hx hy (by rw [List.size_toArray, partL_len]; exact hr.there o n hn) (by rw [List.size_toArray, partL_len]; exact hi) (partL_one q o n) (hK _ _ (h _ (Upd.setCells _ _ _ _) (Row.sets n o w p q hr hn)))
end laws
/-! Short names (tools/terse.py): what a step is, its operation looked at alone. -/
theorem H_ {p : Prop} (h : p) : Hid p := Lib.hid h
theorem nA {w w1 w2 : World} {b : Nat} (h : Below w.heap.size w w1) (n : New b w1 w2) : w.heap.size ≤ b := by have := h.size; have := n.at_; omega
section short
variable {P : Program} {ops : Array Oper} {Q : Exit → Act → World → Prop} {D : Tmp} {O : Op} {t : TypeId} {x y : Operand} {ty : TypeId} {po : String} {af : Array Edge} {gd : Option (Nat × Bool)} {rest : List Oper} {a : Act} {w : World}
abbrev gL (k : Nat) : Prop := wpList P ops Q ((⟨some D, .load t (.tmp k), ty, po, af, gd⟩ : Oper) :: rest) a w
abbrev gL2 (d k : Nat) : Prop := wpList P ops Q ((⟨some d, .load t (.tmp k), ty, po, af, gd⟩ : Oper) :: rest) a w
abbrev gL1 (d : Nat) : Prop := wpList P ops Q ((⟨some d, .load t x, ty, po, af, gd⟩ : Oper) :: rest) a w
abbrev gB (d : Nat) : Prop := wpList P ops Q ((⟨some d, .box t x, ty, po, af, gd⟩ : Oper) :: rest) a w
abbrev gS (k : Nat) : Prop := wpList P ops Q ((⟨none, .store t (.tmp k) x, ty, po, af, gd⟩ : Oper) :: rest) a w
abbrev gI (d : Nat) : Prop := wpList P ops Q ((⟨some d, .index t x y, ty, po, af, gd⟩ : Oper) :: rest) a w
abbrev gA (d : Nat) : Prop := wpList P ops Q ((⟨some d, .alloc t, ty, po, af, gd⟩ : Oper) :: rest) a w
abbrev gD (d : Nat) {ps : Array (Nat × Operand)} : Prop := wpList P ops Q ((⟨some d, .build t ps, ty, po, af, gd⟩ : Oper) :: rest) a w
end short
end Go.Proofs.YteblmnbagbdiiaaGreatDoor
/-
 Plain functions of layer 5: which numbers are pieces; the piece of a color and a kind; a piece's color, kind, letter; the piece of a text; the other color's piece.
-/
namespace Go.Proofs.YteblmnbagbdiiaaGreatDoor
open Go.RowKit

def pcB (p : Int) : Bool := (decide (1 ≤ p) && decide (p ≤ 6)) || (decide (9 ≤ p) && decide (p ≤ 14))
def mkB (c k : Int) : Bool := decide (c ≤ 1) && (decide (1 ≤ k) && decide (k ≤ 6))
def mkZ (c k : Int) : Int := bif mkB c k then 8 * c + k else 0
def colZ (p : Int) : Int := bif pcB p then p / 8 else 2
def kndZ (p : Int) : Int := bif pcB p then p % 8 else 0
theorem pcB_true {p : Int} : pcB p = true ↔ (1 ≤ p ∧ p ≤ 6) ∨ (9 ≤ p ∧ p ≤ 14) := by simp [pcB]
theorem pcB_false {p : Int} : pcB p = false ↔ p ≤ 0 ∨ p = 7 ∨ p = 8 ∨ 15 ≤ p := by
 have := @pcB_true p
 cases h : pcB p
 ·rw [h] at this; simp at this; constructor
  ·intro _; omega
  ·intro _; rfl
 ·have := this.1 h; constructor
  ·intro x; cases x
  ·intro _; omega
theorem mkB_true {c k : Int} : mkB c k = true ↔ c ≤ 1 ∧ 1 ≤ k ∧ k ≤ 6 := by simp [mkB]
theorem mkB_false {c k : Int} : mkB c k = false ↔ 1 < c ∨ k < 1 ∨ 6 < k := by
 have := @mkB_true c k
 cases h : mkB c k
 ·rw [h] at this; simp at this; constructor
  ·intro _; omega
  ·intro _; rfl
 ·have := this.1 h; constructor
  ·intro x; cases x
  ·intro _; omega
theorem mkZ_yes {c k : Int} (h : mkB c k = true) : mkZ c k = 8 * c + k := by simp [mkZ, h]
theorem mkZ_no {c k : Int} (h : mkB c k = false) : mkZ c k = 0 := by simp [mkZ, h]
theorem colZ_yes {p : Int} (h : pcB p = true) : colZ p = p / 8 := by simp [colZ, h]
theorem colZ_no {p : Int} (h : pcB p = false) : colZ p = 2 := by simp [colZ, h]
theorem kndZ_yes {p : Int} (h : pcB p = true) : kndZ p = p % 8 := by simp [kndZ, h]
theorem kndZ_no {p : Int} (h : pcB p = false) : kndZ p = 0 := by simp [kndZ, h]
theorem is_mk {p : Int} (h0 : 0 ≤ p) : (mkZ (p / 8) (p % 8) != 0) = pcB p := by
 cases h : pcB p
 ·rw [pcB_false] at h
  have : mkZ (p / 8) (p % 8) = 0 := mkZ_no (mkB_false.2 (by omega))
  rw [this]; rfl
 ·rw [pcB_true] at h
  have : mkZ (p / 8) (p % 8) = 8 * (p / 8) + p % 8 := mkZ_yes (mkB_true.2 (by omega))
  rw [this]; simp; omega
theorem knd_rng (p : Int) : 0 ≤ kndZ p ∧ kndZ p ≤ 7 := by
 cases e : pcB p
 ·rw [kndZ_no e]; omega
 ·rw [kndZ_yes e]; rw [pcB_true] at e; omega
theorem u8_rng {a : Int} (h : (Lit.int .u8 a).wf = true) : 0 ≤ a ∧ a ≤ 255 := by
 simp [Lit.wf] at h
 have m : IntKind.u8.min = 0 := by decide
 have n : IntKind.u8.max = 255 := by decide
 omega
end Go.Proofs.YteblmnbagbdiiaaGreatDoor
/-
 Contracts of the program's layer 5: Make, Is, Color, Kind, Letter, Parse, Other, Kinds.
-/
namespace Go.Proofs.YteblmnbagbdiiaaGreatDoor
open Go.RowKit

def U8 (n : Int) (w : World) (e : Ending) (w' : World) : Prop := e = .returned (.int .u8 n) ∧ w = w'
def Bo (b : Bool) (w : World) (e : Ending) (w' : World) : Prop := e = .returned (.bool b) ∧ w = w'
theorem pc_int {k : IntKind} {a b : Int} (h : a = b) : Ending.returned (.int k a) = .returned (.int k b) := by rw [h]
theorem pc_bool {a b : Bool} (h : a = b) : Ending.returned (.bool a) = .returned (.bool b) := by rw [h]
theorem mk_any (c k : Int) (w : World) (hc : 0 ≤ c) (hk : 0 ≤ k) : Calls Tryz.prog 63 #[.int .u8 c, .int .u8 k] w (U8 (mkZ c k) w) := by
 by_cases h0 : 1 < c
 ·have HS := Lib.hid (mkZ_no (mkB_false.2 (.inl h0) : mkB c k = false))
  have g0 : decide (1 < c) = true := decide_eq_true h0
  go_enter Tryz.func63, Tryz.ntmps63
  go_wp2
  go_ret
  exact ⟨pc_int HS.out.symm, rfl⟩
 ·have g0 : decide (1 < c) = false := decide_eq_false h0
  by_cases h1 : k < 1
  ·have HS := Lib.hid (mkZ_no (mkB_false.2 (.inr (.inl h1)) : mkB c k = false))
   have g1 : decide (k < 1) = true := decide_eq_true h1
   go_enter Tryz.func63, Tryz.ntmps63
   go_wp2
   go_ret
   exact ⟨pc_int HS.out.symm, rfl⟩
  ·have g1 : decide (k < 1) = false := decide_eq_false h1
   by_cases h2 : 6 < k
   ·have HS := Lib.hid (mkZ_no (mkB_false.2 (.inr (.inr h2)) : mkB c k = false))
    have g2 : decide (6 < k) = true := decide_eq_true h2
    go_enter Tryz.func63, Tryz.ntmps63
    go_wp2
    go_ret
    exact ⟨pc_int HS.out.symm, rfl⟩
   ·have g2 : decide (6 < k) = false := decide_eq_false h2
    have HS := Lib.hid (mkZ_yes (mkB_true.2 ⟨by omega, by omega, by omega⟩ : mkB c k = true))
    have l0 : c ≤ 1 := by omega
    have l1 : k ≤ 6 := by omega
    clear h0 h1 h2
    go_enter Tryz.func63, Tryz.ntmps63
    go_wp2
    go_ret
    exact ⟨pc_int (by rw [HS.out]), rfl⟩
theorem is_any (p : Int) (w : World) (hp : 0 ≤ p) (hq : p ≤ 255) : Calls Tryz.prog 125 #[.int .u8 p] w (Bo (pcB p) w) := by
 have HS := Lib.hid (is_mk hp)
 have l0 : 0 ≤ p / 8 := by omega
 have l1 : 0 ≤ p % 8 := by omega
 go_enter Tryz.func125, Tryz.ntmps125
 go_wp2_with (go_at_call 63; refine (mk_any _ _ _ l0 l1).mono ?_; rintro e w' ⟨rfl, rfl⟩)
 go_ret
 exact ⟨pc_bool HS.out, rfl⟩
theorem col_any (p : Int) (w : World) (hp : 0 ≤ p) (hq : p ≤ 255) : Calls Tryz.prog 147 #[.int .u8 p] w (U8 (colZ p) w) := by
 cases h : pcB p
 ·have HS := Lib.hid (colZ_no h)
  go_enter Tryz.func147, Tryz.ntmps147
  go_wp2_with (go_at_call 125; refine (is_any _ _ hp hq).mono ?_; rintro e w' ⟨rfl, rfl⟩)
  go_ret
  exact ⟨pc_int HS.out.symm, rfl⟩
 ·have HS := Lib.hid (colZ_yes h)
  go_enter Tryz.func147, Tryz.ntmps147
  go_wp2_with (go_at_call 125; refine (is_any _ _ hp hq).mono ?_; rintro e w' ⟨rfl, rfl⟩)
  go_ret
  exact ⟨pc_int (by rw [HS.out]), rfl⟩
theorem knd_any (p : Int) (w : World) (hp : 0 ≤ p) (hq : p ≤ 255) : Calls Tryz.prog 138 #[.int .u8 p] w (U8 (kndZ p) w) := by
 cases h : pcB p
 ·have HS := Lib.hid (kndZ_no h)
  go_enter Tryz.func138, Tryz.ntmps138
  go_wp2_with (go_at_call 125; refine (is_any _ _ hp hq).mono ?_; rintro e w' ⟨rfl, rfl⟩)
  go_ret
  exact ⟨pc_int HS.out.symm, rfl⟩
 ·have HS := Lib.hid (kndZ_yes h)
  go_enter Tryz.func138, Tryz.ntmps138
  go_wp2_with (go_at_call 125; refine (is_any _ _ hp hq).mono ?_; rintro e w' ⟨rfl, rfl⟩)
  go_ret
  exact ⟨pc_int (by rw [HS.out]), rfl⟩
end Go.Proofs.YteblmnbagbdiiaaGreatDoor
/-
 Contracts of the program's Parse and Kinds (layer 5).
-/
namespace Go.Proofs.YteblmnbagbdiiaaGreatDoor
open Go.RowKit

end Go.Proofs.YteblmnbagbdiiaaGreatDoor
/-
 Contracts of the document's own layer 5, first part: all, find.
-/
namespace Go.Proofs.YteblmnbagbdiiaaGreatDoor
open Go.RowKit

end Go.Proofs.YteblmnbagbdiiaaGreatDoor
/-
 Contract of the document's own find (layer 5).
-/
namespace Go.Proofs.YteblmnbagbdiiaaGreatDoor
open Go.RowKit

end Go.Proofs.YteblmnbagbdiiaaGreatDoor
/-
 Contracts of the document's own layer 5, second part: Make, Is, Color, Kind, Letter, Parse, Other.
-/
namespace Go.Proofs.YteblmnbagbdiiaaGreatDoor
open Go.RowKit


end Go.Proofs.YteblmnbagbdiiaaGreatDoor
/-
 Plain mathematics of sets of squares: a set is a natural number below 2^64, its squares are its bits. Nothing of the program stands here.
-/
namespace Go.Proofs.YteblmnbagbdiiaaGreatDoor

def W64 : Nat := 18446744073709551616
theorem W64_eq : W64 = 2 ^ 64 := rfl

theorem testBit_high {b i : Nat} (hb : b < W64) (h : 64 ≤ i) : b.testBit i = false := by
 apply Nat.testBit_lt_two_pow
 exact Nat.lt_of_lt_of_le hb (by rw [W64_eq]; exact Nat.pow_le_pow_right (by decide) h)

theorem lt_W64_of_testBit {b : Nat} (h : ∀ i, 64 ≤ i → b.testBit i = false) : b < W64 := by
 rw [W64_eq]; exact Nat.lt_pow_two_of_testBit b h

theorem eq_of_bits {a b : Nat} (ha : a < W64) (hb : b < W64) (h : ∀ i, i < 64 → a.testBit i = b.testBit i) : a = b := by
 apply Nat.eq_of_testBit_eq
 intro i
 by_cases hi : i < 64
 ·exact h i hi
 ·rw [testBit_high ha (by omega), testBit_high hb (by omega)]

def sq (s : Int) : Bool := decide (0 ≤ s) && decide (s < 64)
theorem sq_true {s : Int} : sq s = true ↔ 0 ≤ s ∧ s < 64 := by simp [sq]
theorem sq_false {s : Int} : sq s = false ↔ s < 0 ∨ 64 ≤ s := by
 rw [← Bool.not_eq_true, sq_true]; omega

def hasN (b : Nat) (s : Int) : Bool := sq s && b.testBit s.toNat
def onlyN (s : Int) : Nat := if sq s then 2 ^ s.toNat else 0
def putN (b : Nat) (s : Int) : Nat := b ||| onlyN s
def clearN (b : Nat) (s : Int) : Nat := b ^^^ (b &&& onlyN s)

theorem onlyN_lt (s : Int) : onlyN s < W64 := by
 unfold onlyN
 split
 ·rename_i h; rw [sq_true] at h; rw [W64_eq]; exact Nat.pow_lt_pow_right (by decide) (by omega)
 ·decide
theorem putN_lt {b : Nat} (hb : b < W64) (s : Int) : putN b s < W64 := Nat.or_lt_two_pow (n := 64) hb (onlyN_lt s)
theorem clearN_lt {b : Nat} (hb : b < W64) (s : Int) : clearN b s < W64 := Nat.xor_lt_two_pow (n := 64) hb (Nat.and_lt_two_pow (n := 64) _ (onlyN_lt s))

theorem onlyN_testBit (s : Int) (i : Nat) : (onlyN s).testBit i = (sq s && decide (s = i)) := by
 unfold onlyN
 by_cases h : sq s
 ·simp only [h, if_true, Bool.true_and, Nat.testBit_two_pow]
  rw [sq_true] at h
  rw [decide_eq_decide]; omega
 ·simp [h]
theorem putN_testBit (b : Nat) (s : Int) (i : Nat) : (putN b s).testBit i = (b.testBit i || (sq s && decide (s = i))) := by
 rw [putN, Nat.testBit_or, onlyN_testBit]
theorem clearN_testBit (b : Nat) (s : Int) (i : Nat) : (clearN b s).testBit i = (b.testBit i && !(sq s && decide (s = i))) := by
 rw [clearN, Nat.testBit_xor, Nat.testBit_and, onlyN_testBit]
 cases b.testBit i <;> cases sq s <;> cases decide (s = i) <;> rfl

theorem hasN_nat (b i : Nat) (hi : i < 64) : hasN b (i : Int) = b.testBit i := by
 have : sq (i : Int) = true := by rw [sq_true]; omega
 simp [hasN, this]
theorem hasN_no {b : Nat} {s : Int} (h : sq s = false) : hasN b s = false := by simp [hasN, h]

theorem clear_no {b : Nat} {s : Int} (h : hasN b s = false) : clearN b s = b := by
 apply Nat.eq_of_testBit_eq
 intro i
 rw [clearN_testBit]
 by_cases hi : s = i
 ·subst hi
  by_cases hs : sq (i : Int)
  ·have hb : b.testBit i = false := by simpa [hasN, hs] using h
   simp [hb]
  ·simp [hs]
 ·simp [hi]
end Go.Proofs.YteblmnbagbdiiaaGreatDoor
/-
 Contracts of the program's Has, Put, Clear, only, and of the document's own Has, One, Put, Clear: each answers the plain function of XMath.
-/
namespace Go.Proofs.YteblmnbagbdiiaaGreatDoor
open Go.RowKit

theorem ret_int {k : IntKind} {a b : Int} (h : a = b) : Ending.returned (.int k a) = .returned (.int k b) := by rw [h]
theorem ret_bool {a b : Bool} (h : a = b) : Ending.returned (.bool a) = .returned (.bool b) := by rw [h]

theorem wrap_nat (n : Nat) (h : n < W64) : IntKind.u64.wrap (n : Int) = (n : Int) := by
 rw [IntKind.wrap_u64]; unfold W64 at h; omega
theorem wrap_pow (n : Nat) (h : n < 64) : IntKind.u64.wrap (2 ^ n) = ((2 ^ n : Nat) : Int) := by
 have e : ((2 : Int) ^ n) = ((2 ^ n : Nat) : Int) := by simp
 rw [e]; exact wrap_nat _ (Nat.pow_lt_pow_right (by decide) h)
theorem and_nat {a b : Nat} (ha : a < W64) (hb : b < W64) : bits .and .u64 (a : Int) (b : Int) = ((a &&& b : Nat) : Int) := bits_and_u64_nat a b ha hb
theorem or_nat {a b : Nat} (ha : a < W64) (hb : b < W64) : bits .or .u64 (a : Int) (b : Int) = ((a ||| b : Nat) : Int) := bits_or_u64_nat a b ha hb
theorem andNot_nat {a b : Nat} (ha : a < W64) (hb : b < W64) : bits .andNot .u64 (a : Int) (b : Int) = ((a ^^^ (a &&& b) : Nat) : Int) := by
 have h1 : (BitVec.ofInt 64 (a : Int)).toNat = a := by
  rw [BitVec.ofInt_natCast, BitVec.toNat_ofNat]; exact Nat.mod_eq_of_lt (by unfold W64 at ha; omega)
 have h2 : (BitVec.ofInt 64 (b : Int)).toNat = b := by
  rw [BitVec.ofInt_natCast, BitVec.toNat_ofNat]; exact Nat.mod_eq_of_lt (by unfold W64 at hb; omega)
 have e : (BitVec.ofInt 64 (a : Int) &&& ~~~BitVec.ofInt 64 (b : Int)) = BitVec.ofInt 64 (a : Int) ^^^ (BitVec.ofInt 64 (a : Int) &&& BitVec.ofInt 64 (b : Int)) := by
  apply BitVec.eq_of_getLsbD_eq
  intro i hi
  simp only [BitVec.getLsbD_and, BitVec.getLsbD_not, BitVec.getLsbD_xor, hi, decide_true, Bool.true_and]
  cases (BitVec.ofInt 64 (a : Int)).getLsbD i <;> cases (BitVec.ofInt 64 (b : Int)).getLsbD i <;> rfl
 show IntKind.u64.wrap ((BitVec.ofInt 64 (a : Int) &&& ~~~BitVec.ofInt 64 (b : Int)).toNat : Int) = _
 rw [e, BitVec.toNat_xor, BitVec.toNat_and, h1, h2]
 exact wrap_nat _ (Nat.xor_lt_two_pow (n := 64) ha (Nat.and_lt_two_pow (n := 64) _ hb))

theorem onlyN_no {s : Int} (h : s < 0 ∨ 64 ≤ s) : onlyN s = 0 := by simp [onlyN, sq_false.2 h]
theorem onlyN_yes {s : Int} (h : 0 ≤ s ∧ s < 64) : onlyN s = 2 ^ s.toNat := by simp [onlyN, sq_true.2 h]

theorem only_any (s : Int) (w : World) :
  Calls Tryz.prog 232 #[.int .i64 s] w fun e w' => e = .returned (.int .u64 (onlyN s : Nat)) ∧ w = w' := by
 by_cases h0 : s < 0
 ·have HS := Lib.hid (onlyN_no (.inl h0))
  go_enter Tryz.func232, Tryz.ntmps232
  go_wp2
  go_ret
  exact ⟨ret_int (by rw [HS.out]; rfl), rfl⟩
 ·by_cases h1 : 64 ≤ s
  ·have HS := Lib.hid (onlyN_no (.inr h1))
   go_enter Tryz.func232, Tryz.ntmps232
   go_wp2
   go_ret
   exact ⟨ret_int (by rw [HS.out]; rfl), rfl⟩
  ·have h2 : 0 ≤ s := by omega
   have h3 : s ≤ 63 := by omega
   have HS := Lib.hid (onlyN_yes (s := s) ⟨by omega, by omega⟩)
   clear h0 h1
   go_enter Tryz.func232, Tryz.ntmps232
   go_wp2
   go_ret
   exact ⟨ret_int (by rw [HS.out, ← wrap_pow _ (by omega)]), rfl⟩

theorem hasB (b : Nat) (s : Int) (hb : b < W64) : ((bits .and .u64 (b : Int) (onlyN s : Nat)) != 0) = hasN b s := by
 rw [and_nat hb (onlyN_lt s)]
 rw [Bool.eq_iff_iff]
 simp only [bne_iff_ne, ne_eq]
 constructor
 ·intro h
  by_cases hh : hasN b s = true
  ·exact hh
  ·exfalso; apply h
   have e := clear_no (b := b) (s := s) (by simpa using hh)
   have : b &&& onlyN s = 0 := by
    apply Nat.eq_of_testBit_eq
    intro i
    have e2 := congrArg (fun n => n.testBit i) e
    simp only [clearN, Nat.testBit_xor] at e2
    rw [Nat.zero_testBit]
    cases h1 : b.testBit i <;> cases h2 : (b &&& onlyN s).testBit i <;> simp_all
   rw [this]; rfl
 ·intro h e
  have e' : b &&& onlyN s = 0 := by exact_mod_cast e
  have e2 := congrArg (fun n => n.testBit s.toNat) e'
  simp only [hasN, Bool.and_eq_true] at h
  have h1 := h.1; rw [sq_true] at h1
  simp only [Nat.testBit_and, onlyN_testBit, h.1, h.2, Nat.zero_testBit, Bool.true_and] at e2
  have : s = (s.toNat : Int) := by omega
  rw [decide_eq_true this] at e2
  cases e2

theorem has_any (b : Nat) (s : Int) (w : World) (hb : b < W64) :
  Calls Tryz.prog 179 #[.int .u64 (b : Int), .int .i64 s] w fun e w' => e = .returned (.bool (hasN b s)) ∧ w = w' := by
 have HB := Lib.hid (hasB b s hb)
 clear hb
 go_enter Tryz.func179, Tryz.ntmps179
 go_wp2_with (go_at_call 232; refine (only_any _ _).mono ?_; rintro e w' ⟨rfl, rfl⟩)
 go_ret
 exact ⟨ret_bool HB.out, rfl⟩
theorem put_any (b : Nat) (s : Int) (w : World) (hb : b < W64) :
  Calls Tryz.prog 198 #[.int .u64 (b : Int), .int .i64 s] w fun e w' => e = .returned (.int .u64 (putN b s : Nat)) ∧ w = w' := by
 have HB := Lib.hid (or_nat hb (onlyN_lt s))
 clear hb
 go_enter Tryz.func198, Tryz.ntmps198
 go_wp2_with (go_at_call 232; refine (only_any _ _).mono ?_; rintro e w' ⟨rfl, rfl⟩)
 go_ret
 exact ⟨ret_int HB.out, rfl⟩
theorem clear_any (b : Nat) (s : Int) (w : World) (hb : b < W64) :
  Calls Tryz.prog 217 #[.int .u64 (b : Int), .int .i64 s] w fun e w' => e = .returned (.int .u64 (clearN b s : Nat)) ∧ w = w' := by
 have HB := Lib.hid (andNot_nat hb (onlyN_lt s))
 clear hb
 go_enter Tryz.func217, Tryz.ntmps217
 go_wp2_with (go_at_call 232; refine (only_any _ _).mono ?_; rintro e w' ⟨rfl, rfl⟩)
 go_ret
 exact ⟨ret_int HB.out, rfl⟩
end Go.Proofs.YteblmnbagbdiiaaGreatDoor
/-
 Contracts of the document's own Has, One, Put, Clear (the package that holds the chapter's answers): each answers the plain function of XMath.
-/
namespace Go.Proofs.YteblmnbagbdiiaaGreatDoor
open Go.RowKit

end Go.Proofs.YteblmnbagbdiiaaGreatDoor
/-
 Contracts of the program's and the document's At.
-/
namespace Go.Proofs.YteblmnbagbdiiaaGreatDoor
open Go.RowKit

theorem isq_any (s : Int) (w : World) : Calls Tryz.prog 124 #[.int .i64 s] w (Bo (sq s) w) := by
 by_cases h0 : 0 ≤ s
 ·have g0 : decide (0 ≤ s) = true := decide_eq_true h0
  have HS := Lib.hid (show decide (s < 64) = sq s by simp [sq, h0])
  go_enter Tryz.func124, Tryz.ntmps124
  go_wp2
  go_ret
  exact ⟨pc_bool HS.out, rfl⟩
 ·have g0 : decide (0 ≤ s) = false := decide_eq_false h0
  have HS := Lib.hid (sq_false.2 (.inl (by omega) : s < 0 ∨ 64 ≤ s))
  go_enter Tryz.func124, Tryz.ntmps124
  go_wp2
  go_ret
  exact ⟨pc_bool HS.out.symm, rfl⟩

def atZ (p : Nat → Int) (s : Int) : Int := if sq s = true then (if pcB (p (1 + s.toNat)) = true then p (1 + s.toNat) else 0) else 0

def BdR (p : Nat → Int) : Prop := ∀ i, i < 64 → 0 ≤ p (1 + i) ∧ p (1 + i) ≤ 255
theorem atZ_no {p : Nat → Int} {s : Int} (h : sq s = false) : atZ p s = 0 := by unfold atZ; rw [if_neg (by rw [h]; simp)]
theorem atZ_off {p : Nat → Int} {n : Nat} (h : sq (n : Int) = true) (h1 : pcB (p (1 + n)) = false) : atZ p (n : Int) = 0 := by
 unfold atZ; rw [if_pos h, Int.toNat_natCast, if_neg (by rw [h1]; simp)]
theorem atZ_yes {p : Nat → Int} {n : Nat} (h : sq (n : Int) = true) (h1 : pcB (p (1 + n)) = true) : atZ p (n : Int) = p (1 + n) := by
 unfold atZ; rw [if_pos h, Int.toNat_natCast, if_pos h1]
theorem box_below (w : World) (o : Obj) : Below w.heap.size w (w.alloc o) := (Below.refl _ _).alloc (Nat.le_refl _) o

theorem at_any (p : Nat → Int) (s : Int) (w : World) (hp : BdR p) : Calls Tryz.prog 62 #[.agg (posA p), .int .i64 s] w (U8L (atZ p s) w) := by
 cases h0 : sq s
 ·have HS := Lib.hid (atZ_no (p := p) h0)
  clear hp
  go_enter Tryz.func62, Tryz.ntmps62
  go_wp2_with fail
  refine (isq_any _ _).mono ?_; rintro e w' ⟨rfl, rfl⟩
  go_wp2_with fail
  go_ret
  exact ⟨pc_int HS.out.symm, box_below _ _⟩
 ·obtain ⟨n, rfl⟩ := Int.eq_ofNat_of_zero_le (sq_true.1 h0).1
  have hn : n < 64 := by have := (sq_true.1 h0).2; omega
  obtain ⟨r0, r1⟩ := hp n hn
  have hc := posA_get p (1 + n) (by omega)
  rw [kAt_board (by omega) hn] at hc
  have HN := Lib.hid (atZ_off (p := p) h0)
  have HY := Lib.hid (atZ_yes (p := p) h0)
  obtain ⟨x, HX⟩ : ∃ x, Hid (p (1 + n) = x) := ⟨_, Lib.hid rfl⟩
  rw [HX.out] at hc r0 r1
  clear hp
  cases h1 : pcB x
  ·go_enter Tryz.func62, Tryz.ntmps62
   go_wp2_with fail
   refine (isq_any _ _).mono ?_; rintro e w' ⟨rfl, rfl⟩
   go_wp2_with fail
   refine (is_any _ _ r0 r1).mono ?_; rintro e w' ⟨rfl, rfl⟩
   go_wp2_with fail
   go_ret
   exact ⟨pc_int (HN.out (by rw [HX.out]; exact h1)).symm, box_below _ _⟩
  ·go_enter Tryz.func62, Tryz.ntmps62
   go_wp2_with fail
   refine (isq_any _ _).mono ?_; rintro e w' ⟨rfl, rfl⟩
   go_wp2_with fail
   refine (is_any _ _ r0 r1).mono ?_; rintro e w' ⟨rfl, rfl⟩
   go_wp2_with fail
   go_ret
   exact ⟨pc_int (by rw [HY.out (by rw [HX.out]; exact h1), HX.out]), box_below _ _⟩
end Go.Proofs.YteblmnbagbdiiaaGreatDoor
/-
 Plain mathematics of sets of squares, second part: lists of squares, steps, flips, counts. Nothing of the program stands here.
-/
namespace Go.Proofs.YteblmnbagbdiiaaGreatDoor

/-! Lists of squares. -/
def listTo (b k : Nat) : List Nat := (List.range k).filter (b.testBit ·)
def listN (b : Nat) : List Nat := listTo b 64
theorem listTo_len (b k : Nat) : (listTo b k).length ≤ k := by
 have := List.length_filter_le (b.testBit ·) (List.range k)
 simpa [listTo] using this
theorem listN_len (b : Nat) : (listN b).length ≤ 64 := listTo_len b 64
theorem mem_listTo {b k i : Nat} : i ∈ listTo b k ↔ i < k ∧ b.testBit i = true := by simp [listTo]
theorem mem_listN {b i : Nat} : i ∈ listN b ↔ i < 64 ∧ b.testBit i = true := mem_listTo
theorem listN_sorted (b : Nat) : (listN b).Pairwise (· < ·) := by
 unfold listN listTo
 exact List.Pairwise.filter _ List.pairwise_lt_range

def ofList (l : List Int) : Nat := l.foldl putN 0
theorem foldl_testBit (l : List Int) : ∀ (b i : Nat), (l.foldl putN b).testBit i = (b.testBit i || decide (i < 64 ∧ (i : Int) ∈ l)) := by
 induction l with
 | nil => intro b i; simp
 | cons s l ih =>
  intro b i
  rw [List.foldl_cons, ih, putN_testBit]
  rw [Bool.eq_iff_iff]
  simp only [Bool.or_eq_true, Bool.and_eq_true, decide_eq_true_eq, List.mem_cons, sq_true]
  constructor
  ·rintro ((h | ⟨h, rfl⟩) | h)
   ·exact .inl h
   ·exact .inr ⟨by omega, .inl rfl⟩
   ·exact .inr ⟨h.1, .inr h.2⟩
  ·rintro (h | ⟨h, rfl | h2⟩)
   ·exact .inl (.inl h)
   ·exact .inl (.inr ⟨by omega, rfl⟩)
   ·exact .inr ⟨h, h2⟩
theorem ofList_testBit (l : List Int) (i : Nat) : (ofList l).testBit i = decide (i < 64 ∧ (i : Int) ∈ l) := by
 rw [ofList, foldl_testBit, Nat.zero_testBit, Bool.false_or]
theorem ofList_lt (l : List Int) : ofList l < W64 := by
 apply lt_W64_of_testBit
 intro i hi
 rw [ofList_testBit, decide_eq_false_iff_not]
 omega
theorem ofList_snoc (l : List Int) (s : Int) : ofList (l ++ [s]) = putN (ofList l) s := by simp [ofList, List.foldl_append]

/-! Steps. -/
def fileD (d : Int) : Int := if d = 0 ∨ d = 4 then 0 else if d ≤ 3 then 1 else -1
def rankD (d : Int) : Int := if d ≤ 1 ∨ d = 7 then 1 else if d = 2 ∨ d = 6 then 0 else -1
def dirB (d : Int) : Bool := decide (0 ≤ d) && decide (d < 8)
theorem dirB_true {d : Int} : dirB d = true ↔ 0 ≤ d ∧ d < 8 := by simp [dirB]
theorem dirB_false {d : Int} : dirB d = false ↔ d < 0 ∨ 8 ≤ d := by rw [← Bool.not_eq_true, dirB_true]; omega
def onB (f r : Int) : Bool := decide (0 ≤ f) && decide (f < 8) && decide (0 ≤ r) && decide (r < 8)
theorem onB_true {f r : Int} : onB f r = true ↔ 0 ≤ f ∧ f < 8 ∧ 0 ≤ r ∧ r < 8 := by simp [onB, and_assoc]
theorem onB_false {f r : Int} : onB f r = false ↔ f < 0 ∨ 8 ≤ f ∨ r < 0 ∨ 8 ≤ r := by rw [← Bool.not_eq_true, onB_true]; omega
def stepN (s d : Int) : Int :=
 if sq s && dirB d then (if onB (s % 8 + fileD d) (s / 8 + rankD d) then 8 * (s / 8 + rankD d) + (s % 8 + fileD d) else -1) else -1
theorem stepN_out {s d : Int} (h : (sq s && dirB d) = false) : stepN s d = -1 := by simp [stepN, h]
theorem stepN_off {s d : Int} (h : onB (s % 8 + fileD d) (s / 8 + rankD d) = false) : stepN s d = -1 := by simp [stepN, h]
theorem stepN_on {s d : Int} (h0 : (sq s && dirB d) = true) (h : onB (s % 8 + fileD d) (s / 8 + rankD d) = true) : stepN s d = 8 * (s / 8 + rankD d) + (s % 8 + fileD d) := by simp [stepN, h0, h]

def shiftN (b : Nat) (d : Int) : Nat := ofList ((listN b).map fun i : Nat => stepN (i : Int) d)
theorem shiftN_lt (b : Nat) (d : Int) : shiftN b d < W64 := ofList_lt _
theorem shiftN_out (b : Nat) {d : Int} (h : dirB d = false) : shiftN b d = 0 := by
 apply Nat.eq_of_testBit_eq
 intro i
 rw [shiftN, ofList_testBit, Nat.zero_testBit, decide_eq_false_iff_not]
 rintro ⟨_, h2⟩
 obtain ⟨j, _, hj⟩ := List.mem_map.1 h2
 rw [stepN_out (by simp [h])] at hj
 omega

theorem fileD_cases (d : Int) : fileD d = 0 ∨ fileD d = 1 ∨ fileD d = -1 := by
 unfold fileD; split
 ·simp
 ·split <;> simp
theorem rankD_cases (d : Int) : rankD d = 0 ∨ rankD d = 1 ∨ rankD d = -1 := by
 unfold rankD; split
 ·simp
 ·split <;> simp
def leadD (d : Int) : Int := 8 * rankD d + fileD d
theorem step_iff {s d t : Int} (hs : 0 ≤ s ∧ s < 64) (hd : 0 ≤ d ∧ d < 8) (ht : 0 ≤ t) :
  stepN s d = t ↔ s = t - leadD d ∧ onB (s % 8 + fileD d) (s / 8 + rankD d) = true := by
 have h0 : (sq s && dirB d) = true := by simp [sq_true.2 hs, dirB_true.2 hd]
 by_cases h : onB (s % 8 + fileD d) (s / 8 + rankD d) = true
 ·rw [stepN_on h0 h]; unfold leadD; simp only [h, and_true]; omega
 ·rw [stepN_off (by simpa using h)]; simp only [h]; simp; omega

theorem shiftN_testBit (b : Nat) (d : Int) (hd : 0 ≤ d ∧ d < 8) (i : Nat) (hi : i < 64) :
  (shiftN b d).testBit i = (onB ((i : Int) % 8 - fileD d) ((i : Int) / 8 - rankD d) && b.testBit ((i : Int) - leadD d).toNat) := by
 have hf : fileD d = 0 ∨ fileD d = 1 ∨ fileD d = -1 := fileD_cases d
 have hr : rankD d = 0 ∨ rankD d = 1 ∨ rankD d = -1 := rankD_cases d
 rw [shiftN, ofList_testBit, Bool.eq_iff_iff]
 simp only [decide_eq_true_eq, Bool.and_eq_true, List.mem_map, mem_listN]
 constructor
 ·rintro ⟨_, j, ⟨hj, hb⟩, e⟩
  rw [step_iff ⟨by omega, by omega⟩ hd (by omega)] at e
  obtain ⟨e1, e2⟩ := e
  rw [onB_true] at e2
  have : ((i : Int) - leadD d).toNat = j := by omega
  rw [this]
  refine ⟨?_, hb⟩
  rw [onB_true]
  unfold leadD at e1
  generalize fileD d = f at *
  generalize rankD d = r at *
  omega
 ·rintro ⟨h1, h2⟩
  rw [onB_true] at h1
  have hl : leadD d = 8 * rankD d + fileD d := rfl
  refine ⟨hi, ((i : Int) - leadD d).toNat, ⟨by omega, h2⟩, ?_⟩
  rw [step_iff ⟨by omega, by omega⟩ hd (by omega)]
  refine ⟨by omega, ?_⟩
  rw [onB_true]
  omega

/-! The program's own formula for a step. -/
def edgeN (d : Int) : Nat := if d = 1 ∨ d = 2 ∨ d = 3 then 9259542123273814144 else if d = 5 ∨ d = 6 ∨ d = 7 then 72340172838076673 else 0
theorem edgeN_lt (d : Int) : edgeN d < W64 := by
 unfold edgeN; split
 ·decide
 ·split <;> decide
theorem fileH_bits : ∀ i, i < 64 → (9259542123273814144 : Nat).testBit i = decide (i % 8 = 7) := by decide
theorem fileA_bits : ∀ i, i < 64 → (72340172838076673 : Nat).testBit i = decide (i % 8 = 0) := by decide
theorem edgeN_testBit (d : Int) (hd : 0 ≤ d ∧ d < 8) (i : Nat) (hi : i < 64) : (edgeN d).testBit i = !(decide (0 ≤ (i : Int) % 8 + fileD d) && decide ((i : Int) % 8 + fileD d < 8)) := by
 unfold edgeN fileD
 by_cases h1 : d = 1 ∨ d = 2 ∨ d = 3
 ·rw [if_pos h1, fileH_bits i hi, if_neg (by omega), if_pos (by omega), Bool.eq_iff_iff]; simp; omega
 ·rw [if_neg h1]
  by_cases h2 : d = 5 ∨ d = 6 ∨ d = 7
  ·rw [if_pos h2, fileA_bits i hi, if_neg (by omega), if_neg (by omega), Bool.eq_iff_iff]; simp; omega
  ·rw [if_neg h2, if_pos (by omega), Nat.zero_testBit, eq_comm, Bool.not_eq_false']; simp; omega
def keptN (b : Nat) (d : Int) : Nat := b ^^^ (b &&& edgeN d)
theorem keptN_lt {b : Nat} (hb : b < W64) (d : Int) : keptN b d < W64 := Nat.xor_lt_two_pow (n := 64) hb (Nat.and_lt_two_pow (n := 64) _ (edgeN_lt d))
theorem keptN_testBit (b : Nat) (d : Int) (i : Nat) : (keptN b d).testBit i = (b.testBit i && !(edgeN d).testBit i) := by
 rw [keptN, Nat.testBit_xor, Nat.testBit_and]
 cases b.testBit i <;> cases (edgeN d).testBit i <;> rfl
theorem leadD_cases (d : Int) (hd : 0 ≤ d ∧ d < 8) : (d = 0 ∧ leadD d = 8) ∨ (d = 1 ∧ leadD d = 9) ∨ (d = 2 ∧ leadD d = 1) ∨ (d = 3 ∧ leadD d = -7) ∨ (d = 4 ∧ leadD d = -8) ∨ (d = 5 ∧ leadD d = -9) ∨ (d = 6 ∧ leadD d = -1) ∨ (d = 7 ∧ leadD d = 7) := by
 have : d = 0 ∨ d = 1 ∨ d = 2 ∨ d = 3 ∨ d = 4 ∨ d = 5 ∨ d = 6 ∨ d = 7 := by omega
 rcases this with rfl | rfl | rfl | rfl | rfl | rfl | rfl | rfl <;> decide
theorem shift_up (b : Nat) (d : Int) (hd : 0 ≤ d ∧ d < 8) (h : 0 ≤ leadD d) : keptN b d * 2 ^ (leadD d).toNat % W64 = shiftN b d := by
 apply eq_of_bits (Nat.mod_lt _ (by decide)) (shiftN_lt b d)
 intro i hi
 rw [W64_eq, Nat.testBit_mod_two_pow, ← Nat.shiftLeft_eq, Nat.testBit_shiftLeft, shiftN_testBit b d hd i hi, decide_eq_true hi, Bool.true_and]
 have hl : leadD d = 8 * rankD d + fileD d := rfl
 have hr := rankD_cases d
 have hf := fileD_cases d
 by_cases hle : (leadD d).toNat ≤ i
 ·have e : ((i : Int) - leadD d).toNat = i - (leadD d).toNat := by omega
  rw [decide_eq_true hle, Bool.true_and, keptN_testBit, edgeN_testBit d hd _ (by omega), e, Bool.not_not, Bool.and_comm]
  congr 1
  rw [Bool.eq_iff_iff, onB_true]
  simp only [Bool.and_eq_true, decide_eq_true_eq]
  omega
 ·rw [decide_eq_false hle, Bool.false_and]
  rw [eq_comm, Bool.and_eq_false_iff, onB_false]
  omega
theorem shift_down {b : Nat} (hb : b < W64) (d : Int) (hd : 0 ≤ d ∧ d < 8) (h : leadD d < 0) : keptN b d / 2 ^ (-leadD d).toNat = shiftN b d := by
 apply eq_of_bits (Nat.lt_of_le_of_lt (Nat.div_le_self _ _) (keptN_lt hb d)) (shiftN_lt b d)
 intro i hi
 rw [← Nat.shiftRight_eq_div_pow, Nat.testBit_shiftRight, shiftN_testBit b d hd i hi]
 have hl : leadD d = 8 * rankD d + fileD d := rfl
 have hr := rankD_cases d
 have hf := fileD_cases d
 have e : ((i : Int) - leadD d).toNat = (-leadD d).toNat + i := by omega
 rw [e]
 by_cases hle : (-leadD d).toNat + i < 64
 ·rw [keptN_testBit, edgeN_testBit d hd _ hle, Bool.not_not, Bool.and_comm]
  congr 1
  rw [Bool.eq_iff_iff, onB_true]
  simp only [Bool.and_eq_true, decide_eq_true_eq]
  omega
 ·rw [testBit_high (keptN_lt hb d) (by omega), testBit_high hb (by omega), Bool.and_false]

end Go.Proofs.YteblmnbagbdiiaaGreatDoor
/-
 Contracts of the document's own List, Step, Shift, Flip, Same.
-/
namespace Go.Proofs.YteblmnbagbdiiaaGreatDoor
open Go.RowKit

theorem infoInt : (Tryz.prog.info? 3).map (fun i => (i.zero, i.size, i.bytes)) = some (some (.int .i64 0), 1, 8) := by kernel_rfl

def rowOf (l : List Nat) : List Value := l.map fun i : Nat => Value.int .i64 (i : Int)
theorem rowOf_snoc (l : List Nat) (k : Nat) : rowOf (l ++ [k]) = rowOf l ++ [.int .i64 (k : Int)] := by simp [rowOf]
def Listed (B : Nat) (l : List Nat) (v : Value) (w : World) : Prop := w.ownsRow B 3 1 v l.length (rowOf l)
def ListPost (b : Nat) (w : World) (e : Ending) (w' : World) : Prop := ∃ v, e = .returned v ∧ Listed w.heap.size (listN b) v w' ∧ Below w.heap.size w w'

end Go.Proofs.YteblmnbagbdiiaaGreatDoor
/-
 The contract of the document's own Step.
-/
namespace Go.Proofs.YteblmnbagbdiiaaGreatDoor
open Go.RowKit

theorem below_drewN {B : Nat} {a w : World} (h : Below B a w) (n : Nat) : Below B a (w.drewN n) := h.trans ⟨rfl, rfl, rfl, Nat.le_refl _, fun _ _ => rfl⟩
end Go.Proofs.YteblmnbagbdiiaaGreatDoor
/-
 Contracts of the document's own Shift, Flip, Same.
-/
namespace Go.Proofs.YteblmnbagbdiiaaGreatDoor
open Go.RowKit

def U64Post (n : Nat) (w : World) (e : Ending) (w' : World) : Prop := e = .returned (.int .u64 (n : Int)) ∧ Below w.heap.size w w'

def Cells (B : Nat) (l : List Nat) (p : Option Addr) (w : World) : Prop :=
 0 < l.length → ∃ g, p = some ⟨g, 0, none⟩ ∧ B ≤ g ∧ g < w.heap.size ∧ ∀ k s, l[k]? = some s → w.cell? ⟨g, k, none⟩ = some (.int .i64 ((s : Nat) : Int)) ∧ w.frozen? ⟨g, k, none⟩ = false
theorem listed_open {B : Nat} {l : List Nat} {v : Value} {w : World} (h : Listed B l v w) : ∃ p cap, v = .slice p l.length cap ∧ Cells B l p w := by
 rcases h.2 with ⟨rfl, hn⟩ | ⟨g, cap, cur, rfl, hB, hg, h1, h2, h3, h4⟩
 ·exact ⟨none, 0, by rw [hn], fun h0 => by omega⟩
 ·refine ⟨_, cap, rfl, fun _ => ⟨g, rfl, hB, (Array.getElem?_eq_some_iff.1 hg).1, fun k s hk => ⟨?_, ?_⟩⟩⟩
  ·have hc := h.cells (g := g) rfl k (.int .i64 ((s : Nat) : Int)) (by simp [rowOf, hk])
   have hadd : (⟨g, 0, none⟩ : Addr).add k = ⟨g, k, none⟩ := by unfold Addr.add; split <;> simp_all
   rwa [hadd] at hc
  ·simp [World.frozen?, hg]
theorem Cells.later {B : Nat} {l : List Nat} {p : Option Addr} {w w' : World} (h : Cells B l p w) (hb : Below w.heap.size w w') : Cells B l p w' := by
 intro h0
 obtain ⟨g, h1, h2, h3, h4⟩ := h h0
 exact ⟨g, h1, h2, Nat.lt_of_lt_of_le h3 hb.size, fun k s hk => ⟨(hb.cell (p := ⟨g, k, none⟩) h3).trans (h4 k s hk).1, (hb.frozen (p := ⟨g, k, none⟩) h3).trans (h4 k s hk).2⟩⟩
theorem quiet_c {P : Program} {f : FuncId} {args : Array Value} {w : World} {n : Nat} {v : Value}
  (h : Calls P f args (w.drewN n) fun e w' => e = .returned v ∧ w.drewN n = w') : Calls P f args (w.drewN n) fun e w'' => e = .returned v ∧ ∃ m, w'' = w.drewN m :=
 h.mono fun _ _ ⟨he, hm⟩ => ⟨he, n, hm.symm⟩
end Go.Proofs.YteblmnbagbdiiaaGreatDoor
