/-
  A position as the 88 cells in which it lies: plain functions from places to numbers; a block that holds one; loads and stores of whole positions and of parts, each behind a law of one step.
-/
import Derived.Test.YtnogmogmlilpiaaDoorChecked
import Derived.WalkKit
import Derived.Lib.Hide
import Derived.Laws.Rows
import Derived.Deep.MidRow
namespace Go.Proofs.YtnogmogmlilpiaaDoor
open Go.RowKit

/-- The kind of the number at each place. -/
def kAt (i : Nat) : IntKind := if i = 65 then .u64 else if 79 ≤ i ∧ i ≤ 83 then .i8 else if 86 ≤ i then .i64 else .u8
def posA (p : Nat → Int) : Array Value := Array.ofFn (n := 88) fun i => .int (kAt i.val) (p i.val)
def upd (p : Nat → Int) (i : Nat) (v : Int) : Nat → Int := fun j => if j = i then v else p j
theorem upd_same (p : Nat → Int) (i : Nat) (v : Int) : upd p i v i = v := by simp [upd]
theorem upd_other (p : Nat → Int) (i j : Nat) (v : Int) (h : j ≠ i) : upd p i v j = p j := by simp [upd, h]
theorem posA_size (p : Nat → Int) : (posA p).size = 88 := by simp [posA]
theorem posA_get (p : Nat → Int) (i : Nat) (h : i < 88) : (posA p)[i]? = some (.int (kAt i) (p i)) := by simp [posA, h]
theorem posA_ext {p q : Nat → Int} (h : ∀ i, i < 88 → p i = q i) : posA p = posA q := by
  apply Array.ext_getElem?
  intro i
  by_cases hi : i < 88
  · rw [posA_get p i hi, posA_get q i hi, h i hi]
  · rw [Array.getElem?_eq_none (by rw [posA_size]; omega), Array.getElem?_eq_none (by rw [posA_size]; omega)]
theorem posA_set (p : Nat → Int) (i : Nat) (v : Int) (h : i < 88) : (posA p).setIfInBounds i (.int (kAt i) v) = posA (upd p i v) := by
  apply Array.ext_getElem?
  intro j
  rw [Array.getElem?_setIfInBounds]
  by_cases hj : j < 88
  · rw [posA_get _ j hj, posA_get _ j hj]
    by_cases e : i = j
    · subst e; simp [posA_size, h, upd_same]
    · simp [e, upd_other p i j v (Ne.symm e)]
  · rw [Array.getElem?_eq_none (by rw [posA_size]; omega), Array.getElem?_eq_none (by rw [posA_size]; omega)]
    simp [posA_size]; omega
theorem posA_one (p : Nat → Int) : (posA p).all (·.oneCell') = true := by
  rw [Array.all_eq_true_iff_forall_mem]
  intro v hv
  obtain ⟨i, hi, rfl⟩ := Array.mem_iff_getElem.1 hv
  have := posA_get p i (by rwa [posA_size] at hi)
  rw [Array.getElem?_eq_getElem hi] at this
  rw [Option.some.inj this]; rfl
theorem kAt_board {i : Nat} (h0 : 0 ≤ i) (h : i < 64) : kAt (1 + i) = .u8 := by unfold kAt; rw [if_neg (by omega), if_neg (by omega), if_neg (by omega)]

def PosL (q : Nat → Int) (w : World) (e : Ending) (w' : World) : Prop := e = .returned (.agg (posA q)) ∧ Below w.heap.size w w'
/-- The block b holds the position p. -/
def Row (w : World) (b : Nat) (p : Nat → Int) : Prop := w.heap[b]? = some (.cells (posA p) 31 (0, 0))
/-- Nothing but the block b has changed. -/
structure Upd (b : Nat) (w w' : World) : Prop where
  os : w'.os = w.os
  tape : w'.tape = w.tape
  output : w'.output = w.output
  size : w'.heap.size = w.heap.size
  block : ∀ k, k ≠ b → w'.heap[k]? = w.heap[k]?
theorem Upd.refl (b : Nat) (w : World) : Upd b w w := ⟨rfl, rfl, rfl, rfl, fun _ _ => rfl⟩
theorem Upd.trans {b : Nat} {a c d : World} (h : Upd b a c) (k : Upd b c d) : Upd b a d :=
  ⟨k.os.trans h.os, k.tape.trans h.tape, k.output.trans h.output, k.size.trans h.size, fun i hi => (k.block i hi).trans (h.block i hi)⟩
theorem Upd.below {b B : Nat} {w w' : World} (h : Upd b w w') (hB : B ≤ b) : Below B w w' := ⟨h.os, h.tape, h.output, Nat.le_of_eq h.size.symm, fun k hk => h.block k (by omega)⟩
theorem Upd.drew {b : Nat} {w w' : World} (h : Upd b w w') : Upd b w w'.drew := ⟨h.os, h.tape, h.output, h.size, h.block⟩
theorem Upd.setCell (w : World) (b o : Nat) (v : Value) : Upd b w (w.setCell ⟨b, o, none⟩ v) :=
  ⟨rfl, rfl, rfl, by simp [World.setCell], fun k hk => Below.heap_setCell _ _ _ _ (by simpa using hk)⟩
theorem Upd.setCells (b : Nat) : ∀ (vs : List Value) (o : Nat) (w : World), Upd b w (w.setCells b o vs)
  | [], _, _ => Upd.refl _ _
  | v :: r, o, w => (Upd.setCell w b o v).trans (Upd.setCells b r (o + 1) (w.setCell ⟨b, o, none⟩ v))
theorem Row.lt {w : World} {b : Nat} {p : Nat → Int} (h : Row w b p) : b < w.heap.size := (Array.getElem?_eq_some_iff.1 h).1
theorem Row.next {w w' : World} {b B : Nat} {p : Nat → Int} (h : Row w b p) (hb : Below B w w') (hB : b < B) : Row w' b p := (hb.block b hB).trans h
theorem Row.later {w w' : World} {b : Nat} {p : Nat → Int} (h : Row w b p) (hb : Below w.heap.size w w') : Row w' b p := h.next hb h.lt
theorem Row.apart {w w' : World} {b c : Nat} {p : Nat → Int} (h : Row w b p) (hu : Upd c w w') (hc : b ≠ c) : Row w' b p := (hu.block b hc).trans h
theorem Row.cell {w : World} {b : Nat} {p : Nat → Int} (h : Row w b p) (i : Nat) (hi : i < 88) : w.cell? ⟨b, i, none⟩ = some (.int (kAt i) (p i)) := by
  rw [cell_of_row w b i _ _ _ h, posA_get p i hi]
theorem Row.frozen {w : World} {b : Nat} {p : Nat → Int} (h : Row w b p) (i : Nat) : w.frozen? ⟨b, i, none⟩ = false := frozen_of_row w b i _ _ h
theorem Row.there {w : World} {b : Nat} {p : Nat → Int} (h : Row w b p) (o n : Nat) (hn : o + n ≤ 88) : w.there b o n := fun j hj =>
  ⟨by rw [h.cell _ (by omega)]; rfl, h.frozen _⟩
theorem Row.set {w : World} {b : Nat} {p : Nat → Int} (h : Row w b p) (i : Nat) (v : Int) (hi : i < 88) : Row (w.setCell ⟨b, i, none⟩ (.int (kAt i) v)) b (upd p i v) := by
  have := heap_setCell_same w b i _ _ (.int (kAt i) v) h
  unfold Row
  rw [this, ← posA_set p i v hi]
/-- What lies from place o on is written over by q's. -/
def over (p : Nat → Int) (o n : Nat) (q : Nat → Int) : Nat → Int := fun j => if o ≤ j ∧ j < o + n then q j else p j
theorem Row.sets {b : Nat} : ∀ (n o : Nat) (w : World) (p q : Nat → Int), Row w b p → o + n ≤ 88 → Row (w.setCells b o ((List.range n).map fun j => .int (kAt (o + j)) (q (o + j)))) b (over p o n q)
  | 0, o, w, p, q, h, _ => by
    have : over p o 0 q = p := by funext j; unfold over; rw [if_neg (by omega)]
    rw [this]; exact h
  | n + 1, o, w, p, q, h, hn => by
    have e : ((List.range (n + 1)).map fun j => Value.int (kAt (o + j)) (q (o + j))) = .int (kAt o) (q o) :: ((List.range n).map fun j => Value.int (kAt (o + 1 + j)) (q (o + 1 + j))) := by
      rw [List.range_succ_eq_map, List.map_cons, List.map_map]
      congr 1
      apply List.map_congr_left
      intro j _
      simp only [Function.comp, Nat.succ_eq_add_one]
      rw [show o + (j + 1) = o + 1 + j by omega]
    rw [e]
    have h1 := Row.sets n (o + 1) (w.setCell ⟨b, o, none⟩ (.int (kAt o) (q o))) (upd p o (q o)) q (h.set o (q o) (by omega)) (by omega)
    have e2 : over (upd p o (q o)) (o + 1) n q = over p o (n + 1) q := by
      funext j
      unfold over upd
      by_cases h1 : j = o
      · subst h1; rw [if_neg (by omega), if_pos rfl, if_pos (by omega)]
      · by_cases h2 : o + 1 ≤ j ∧ j < o + 1 + n
        · rw [if_pos h2, if_pos (by omega)]
        · rw [if_neg h2, if_neg h1, if_neg (by omega)]
    rw [e2] at h1
    exact h1
/-- A part of a position. -/
def partL (p : Nat → Int) (o n : Nat) : List Value := (List.range n).map fun j => .int (kAt (o + j)) (p (o + j))
theorem partL_len (p : Nat → Int) (o n : Nat) : (partL p o n).length = n := by simp [partL]
theorem partL_all (p : Nat → Int) : partL p 0 88 = (posA p).toList := by
  apply List.ext_getElem?
  intro i
  have e : (posA p).toList[i]? = (posA p)[i]? := by simp
  rw [e]
  by_cases hi : i < 88
  · rw [posA_get p i hi]; simp [partL, hi]
  · rw [Array.getElem?_eq_none (by rw [posA_size]; omega), List.getElem?_eq_none (by rw [partL_len]; omega)]
theorem Row.range {w : World} {b : Nat} {p : Nat → Int} (h : Row w b p) (o n : Nat) (hn : o + n ≤ 88) : w.rangeAt b o (partL p o n) := fun j v hv => by
  have hj : j < n := by have := (List.getElem?_eq_some_iff.1 hv).1; rwa [partL_len] at this
  have e : (partL p o n)[j]? = some (.int (kAt (o + j)) (p (o + j))) := by simp [partL, hj]
  rw [e] at hv
  rw [h.cell _ (by omega), Option.some.inj hv]
theorem over_all (p q : Nat → Int) : posA (over p 0 88 q) = posA q := posA_ext fun i hi => by unfold over; rw [if_pos (by omega)]
theorem Row.whole {w : World} {b : Nat} {p q : Nat → Int} (h : Row w b p) : Row (w.setCells b 0 (posA q).toList) b q := by
  have := Row.sets 88 0 w p q h (by omega)
  rw [← partL_all q]
  unfold Row at *
  rw [over_all] at this
  exact this

/-- The world behind a new block b. -/
structure New (b : Nat) (w w' : World) : Prop where
  at_ : b = w.heap.size
  size : w'.heap.size = b + 1
  below : Below w.heap.size w w'
theorem New.alloc (w : World) (o : Obj) : New w.heap.size w (w.alloc o) := ⟨rfl, by show (w.heap.push o).size = _; simp, (Below.refl _ _).alloc (Nat.le_refl _) o⟩
def zeroP : Nat → Int := fun _ => 0
theorem size31 : (Tryd.prog.info? 31).map (·.size) = some 88 := by kernel_rfl
theorem info31 : (Tryd.prog.info? 31).map (fun i => (i.zero, i.size)) = some (some (.agg (posA zeroP)), 88) := by kernel_rfl

section laws
variable {ops : Array Oper} {rest : List Oper} {op : Oper} {a : Act} {w : World} {Q : Exit → Act → World → Prop}
theorem wpList_want {P : Program} (hw : Region.wanted op (yielded ops a.tmps) = true) (h : ∀ K : Act → World → Prop, (∀ a w, wpList P ops Q rest a w → K a w) → op.wp P a w K Q) : wpList P ops Q (op :: rest) a w :=
  wpList_step fun K hK => by rw [if_pos hw]; exact h K hK
theorem step_load (hw : Region.wanted op (yielded ops a.tmps) = true) (x : Operand) (ho : op.op = .load 31 x) (b : Nat) (hx : a.eval x = .pointer (some ⟨b, 0, none⟩)) (p : Nat → Int) (hr : Row w b p)
    (h : wpList Tryd.prog ops Q rest (a.put op.dst (.agg (posA p))) w) : wpList Tryd.prog ops Q (op :: rest) a w :=
  wpList_want hw fun _ hK => wp_load_row 31 x ho b hx 31 (posA p) (0, 0) _ hr Tryd.underlying31 rfl (by rw [posA_size]; exact size31) (hK _ _ h)
theorem step_store (hw : Region.wanted op (yielded ops a.tmps) = true) (x y : Operand) (ho : op.op = .store 31 x y) (b : Nat) (hx : a.eval x = .pointer (some ⟨b, 0, none⟩)) (p q : Nat → Int) (hy : a.eval y = .agg (posA q)) (hr : Row w b p)
    (h : ∀ w', Upd b w w' → Row w' b q → wpList Tryd.prog ops Q rest (a.put op.dst undef) w') : wpList Tryd.prog ops Q (op :: rest) a w :=
  wpList_want hw fun _ hK => wp_store_mid 31 x y ho b 0 (posA q) hx hy (by rw [posA_size]; exact hr.there 0 88 (by omega)) (by rw [posA_size]; exact size31) (posA_one q) (hK _ _ (h _ (Upd.setCells _ _ _ _) hr.whole))
theorem step_alloc (hw : Region.wanted op (yielded ops a.tmps) = true) (ho : op.op = .alloc 31)
    (h : ∀ b w', New b w w' → Row w' b zeroP → wpList Tryd.prog ops Q rest (a.put op.dst (.pointer (some ⟨b, 0, none⟩))) w') : wpList Tryd.prog ops Q (op :: rest) a w :=
  wpList_want hw fun K hK => by
    have hk := hK _ _ (h _ _ (New.alloc w _) (heap_alloc_new w (.cells (posA zeroP) 31)))
    have hz : ∀ w, (zeroValue 31).run Tryd.prog w = .ok (.agg (posA zeroP)) w := fun w => by
      cases hq : Tryd.prog.info? 31 with
      | none => have := info31; simp [hq] at this
      | some i => have := info31; simp [hq] at this; simp [zeroValue, typeInfo, hq, this.1]
    unfold Oper.wp execOp
    simp only [ho, Instr.alloc, Sem.run_bind, Sem.run_pure, Result.andThen_ok, hz]
    exact hk
theorem step_box (hw : Region.wanted op (yielded ops a.tmps) = true) (x : Operand) (ho : op.op = .box 31 x) (p : Nat → Int) (hx : a.eval x = .agg (posA p))
    (h : ∀ b w', New b w w' → Row w' b p → wpList Tryd.prog ops Q rest (a.put op.dst (.pointer (some ⟨b, 0, none⟩))) w') : wpList Tryd.prog ops Q (op :: rest) a w :=
  wpList_want hw fun K hK => by
    have hk := hK _ _ (h _ _ (New.alloc w _) (heap_alloc_new w (.cells (posA p) 31)))
    unfold Oper.wp execOp
    simp only [ho, hx, Instr.box, Sem.run_bind, Sem.run_pure]
    exact hk
theorem step_cell (hw : Region.wanted op (yielded ops a.tmps) = true) (ty : TypeId) (x y : Operand) (ho : op.op = .store ty x y) (b i : Nat) (hx : a.eval x = .pointer (some ⟨b, i, none⟩)) (K : IntKind) (v : Int) (hy : a.eval y = .int K v)
    (p : Nat → Int) (hr : Row w b p) (hi : i < 88) (hK : kAt i = K) (hs : (Tryd.prog.info? ty).map (·.size) = some 1)
    (h : ∀ w', Upd b w w' → Row w' b (upd p i v) → wpList Tryd.prog ops Q rest (a.put op.dst undef) w') : wpList Tryd.prog ops Q (op :: rest) a w :=
  wpList_want hw fun K' hK' => by
    subst hK
    have hk := hK' _ _ (h _ (Upd.setCell w b i (.int (kAt i) v)) (hr.set i v hi))
    have hrun : (storeVar ty ⟨b, i, none⟩ (.int (kAt i) v)).run Tryd.prog w = .ok () (w.setCell ⟨b, i, none⟩ (.int (kAt i) v)) :=
      run_storeVar_mid w b i ty #[.int (kAt i) v] (hr.there i 1 (by omega)) hs (by simp [Value.oneCell'])
    unfold Oper.wp execOp
    simp only [ho, hx, hy, Instr.storeAt, Instr.sureAddr, Sem.run_bind, Sem.run_pure, Result.andThen_ok, hrun]
    exact hk
theorem step_read (hw : Region.wanted op (yielded ops a.tmps) = true) (ty : TypeId) (x : Operand) (ho : op.op = .load ty x) (b o n : Nat) (hx : a.eval x = .pointer (some ⟨b, o, none⟩)) (p : Nat → Int) (hr : Row w b p) (hn : o + n ≤ 88)
    (d : TypeDesc) (hu : Tryd.prog.underlying ty = some d) (hd : d.isRow = true) (hi : (Tryd.prog.info? ty).map (·.size) = some n)
    (h : wpList Tryd.prog ops Q rest (a.put op.dst (.agg (partL p o n).toArray)) w) : wpList Tryd.prog ops Q (op :: rest) a w :=
  wpList_want hw fun _ hK => wp_load_mid ty x ho b o hx (partL p o n) d (hr.range o n hn) hu hd (by rw [partL_len]; exact hi) (hK _ _ h)
theorem partL_one (p : Nat → Int) (o n : Nat) : (partL p o n).toArray.all (·.oneCell') = true := by
  rw [Array.all_eq_true_iff_forall_mem]
  intro v hv
  simp only [partL, List.mem_toArray, List.mem_map] at hv
  obtain ⟨j, _, rfl⟩ := hv
  rfl
theorem step_write (hw : Region.wanted op (yielded ops a.tmps) = true) (ty : TypeId) (x y : Operand) (ho : op.op = .store ty x y) (b o n : Nat) (hx : a.eval x = .pointer (some ⟨b, o, none⟩)) (p q : Nat → Int) (hy : a.eval y = .agg (partL q o n).toArray)
    (hr : Row w b p) (hn : o + n ≤ 88) (hi : (Tryd.prog.info? ty).map (·.size) = some n)
    (h : ∀ w', Upd b w w' → Row w' b (over p o n q) → wpList Tryd.prog ops Q rest (a.put op.dst undef) w') : wpList Tryd.prog ops Q (op :: rest) a w :=
  wpList_want hw fun _ hK => wp_store_mid ty x y ho b o (partL q o n).toArray hx hy (by rw [List.size_toArray, partL_len]; exact hr.there o n hn) (by rw [List.size_toArray, partL_len]; exact hi) (partL_one q o n) (hK _ _ (h _ (Upd.setCells _ _ _ _) (Row.sets n o w p q hr hn)))
end laws
end Go.Proofs.YtnogmogmlilpiaaDoor
