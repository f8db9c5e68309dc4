/-
  Several texts in one: FnRank, Arr, RuMath, RuTab, RuList, Ru, RuPos, Later, RuLater.
-/
import Derived.Test.YtjbfjohgfbipgaaGreatDoorFnBaseB
import Derived.Test.YtjbfjohgfbipgaaGreatDoorFnBaseA
import Derived.Test.YtjbfjohgfbipgaaGreatDoorRows
import Derived.Lib.LaidTab
import Derived.Stop.LaidErr
import Derived.LaidMore
import Derived.MapViews
import Derived.DeepKeys2
import Derived.OwnWalk
import Derived.Maps.AppendAt
import Derived.Deep.Onto
import Derived.WalkMore
import Derived.Deep.LoopGhost
import Derived.Deep.Draws
import Derived.Deep.RegionHeld
/-
  Contract of the document's own rank (layer 10).
-/
namespace Go.Proofs.YtjbfjohgfbipgaaGreatDoor
open Go.RowKit
set_option linter.unusedVariables false

theorem bz_snoc {t : ByteArray} {l m : List UInt8} (h : bz l = t) : t ++ bz m = bz (l ++ m) := by rw [← h, bz_app]
end Go.Proofs.YtjbfjohgfbipgaaGreatDoor
/-
  Blocks of any type as the cells in which they lie, and arrays of integers as functions from places: loads and stores, whole and of one cell, each behind a law of one step.
-/
namespace Go.Proofs.YtjbfjohgfbipgaaGreatDoor
open Go.RowKit
set_option linter.unusedVariables false

/-- The block b holds these cells. -/
def Blk (w : World) (b : Nat) (T : TypeId) (cs : Array Value) : Prop := w.heap[b]? = some (.cells cs T (0, 0))
section
variable {w w' : World} {b c : Nat} {T : TypeId} {cs : Array Value}
theorem Blk.lt (h : Blk w b T cs) : b < w.heap.size := (Array.getElem?_eq_some_iff.1 h).1
theorem Blk.next {B : Nat} (h : Blk w b T cs) (hb : Below B w w') (hB : b < B) : Blk w' b T cs := (hb.block b hB).trans h
theorem Blk.later (h : Blk w b T cs) (hb : Below w.heap.size w w') : Blk w' b T cs := h.next hb h.lt
theorem Blk.apart (h : Blk w b T cs) (hu : Upd c w w') (hc : b ≠ c) : Blk w' b T cs := (hu.block b hc).trans h
theorem Blk.cell (h : Blk w b T cs) (i : Nat) : w.cell? ⟨b, i, none⟩ = cs[i]? := cell_of_row w b i _ _ _ h
theorem Blk.frozen (h : Blk w b T cs) (i : Nat) : w.frozen? ⟨b, i, none⟩ = false := frozen_of_row w b i _ _ h
theorem Blk.there (h : Blk w b T cs) (o n : Nat) (hn : o + n ≤ cs.size) : w.there b o n := fun j hj =>
  ⟨by rw [h.cell]; simp [show o + j < cs.size by omega], h.frozen _⟩
theorem Blk.set (h : Blk w b T cs) (i : Nat) (v : Value) : Blk (w.setCell ⟨b, i, none⟩ v) b T (cs.setIfInBounds i v) := heap_setCell_same w b i _ _ v h
end
def putsA : List Value → Nat → Array Value → Array Value
  | [], _, cs => cs
  | v :: r, o, cs => putsA r (o + 1) (cs.setIfInBounds o v)
theorem putsA_size : ∀ (vs : List Value) (o : Nat) (cs : Array Value), (putsA vs o cs).size = cs.size
  | [], _, _ => rfl
  | v :: r, o, cs => by unfold putsA; rw [putsA_size r]; simp
theorem putsA_get : ∀ (vs : List Value) (o : Nat) (cs : Array Value) (i : Nat), o + vs.length ≤ cs.size → (putsA vs o cs)[i]? = if o ≤ i ∧ i < o + vs.length then vs[i - o]? else cs[i]?
  | [], o, cs, i, _ => by unfold putsA; rw [if_neg (by simp)]
  | v :: r, o, cs, i, h => by
    simp only [List.length_cons] at h
    unfold putsA
    rw [putsA_get r (o + 1) _ i (by simp; omega)]
    by_cases e : i = o
    · subst e
      rw [if_neg (by omega), if_pos (by simp), Array.getElem?_setIfInBounds]
      simp [show i < cs.size by omega]
    · by_cases g : o + 1 ≤ i ∧ i < o + 1 + r.length
      · rw [if_pos g, if_pos (by simp; omega), show i - o = (i - (o + 1)) + 1 by omega]; rfl
      · rw [if_neg g, if_neg (by simp; omega), Array.getElem?_setIfInBounds, if_neg (Ne.symm e)]
theorem Blk.sets {b : Nat} {T : TypeId} : ∀ (vs : List Value) (o : Nat) (w : World) (cs : Array Value), Blk w b T cs → Blk (w.setCells b o vs) b T (putsA vs o cs)
  | [], _, _, _, h => h
  | v :: r, o, w, cs, h => Blk.sets r (o + 1) _ _ (h.set o v)
theorem Blk.whole {w : World} {b : Nat} {T : TypeId} {cs ds : Array Value} (h : Blk w b T cs) (hs : ds.size = cs.size) : Blk (w.setCells b 0 ds.toList) b T ds := by
  have := Blk.sets ds.toList 0 w cs h
  have e : putsA ds.toList 0 cs = ds := by
    apply Array.ext_getElem?
    intro i
    rw [putsA_get _ _ _ _ (by simp; omega)]
    by_cases hi : i < ds.size
    · rw [if_pos (by simp [hi])]; simp
    · rw [if_neg (by simp; omega), Array.getElem?_eq_none (by omega), Array.getElem?_eq_none (by omega)]
  rwa [e] at this
section laws
variable {ops : Array Oper} {rest : List Oper} {op : Oper} {a : Act} {w : World} {Q : Exit → Act → World → Prop}
theorem blk_load (hw : Region.wanted op (yielded ops a.tmps) = true) (T : TypeId) (x : Operand) (ho : op.op = .load T x) (b : Nat) (hx : a.eval x = .pointer (some ⟨b, 0, none⟩)) (cs : Array Value) (hr : Blk w b T cs)
    (d : TypeDesc) (hu : Tryz.prog.underlying T = some d) (hd : d.isRow = true) (hi : (Tryz.prog.info? T).map (·.size) = some cs.size)
    (h : wpList Tryz.prog ops Q rest (a.put op.dst (.agg cs)) w) : wpList Tryz.prog ops Q (op :: rest) a w :=
  wpList_want hw fun _ hK => wp_load_row T x ho b hx T cs (0, 0) d hr hu (by cases d <;> first | rfl | cases hd) hi (hK _ _ h)
theorem blk_store (hw : Region.wanted op (yielded ops a.tmps) = true) (T : TypeId) (x y : Operand) (ho : op.op = .store T x y) (b : Nat) (hx : a.eval x = .pointer (some ⟨b, 0, none⟩)) (cs ds : Array Value) (hy : a.eval y = .agg ds) (hr : Blk w b T cs)
    (hs : ds.size = cs.size) (h1 : ds.all (·.oneCell') = true) (hi : (Tryz.prog.info? T).map (·.size) = some ds.size)
    (h : ∀ w', Upd b w w' → Blk w' b T ds → wpList Tryz.prog ops Q rest (a.put op.dst undef) w') : wpList Tryz.prog ops Q (op :: rest) a w :=
  wpList_want hw fun _ hK => wp_store_mid T x y ho b 0 ds hx hy (hr.there 0 ds.size (by omega)) hi h1 (hK _ _ (h _ (Upd.setCells _ _ _ _) (hr.whole hs)))
theorem blk_alloc (hw : Region.wanted op (yielded ops a.tmps) = true) (T : TypeId) (ho : op.op = .alloc T) (zs : Array Value) (hz : (Tryz.prog.info? T).map (fun i => (i.zero, i.size)) = some (some (.agg zs), zs.size))
    (h : ∀ b w', New b w w' → Blk w' b T zs → wpList Tryz.prog ops Q rest (a.put op.dst (.pointer (some ⟨b, 0, none⟩))) w') : wpList Tryz.prog ops Q (op :: rest) a w :=
  wpList_want hw fun K hK => by
    have hk := hK _ _ (h _ _ (New.alloc w _) (heap_alloc_new w (.cells zs T)))
    have hzr : ∀ w, (zeroValue T).run Tryz.prog w = .ok (.agg zs) w := fun w => by
      cases hq : Tryz.prog.info? T with
      | none => simp [hq] at hz
      | some i => simp [hq] at hz; simp [zeroValue, typeInfo, hq, hz.1]
    unfold Oper.wp execOp
    simp only [ho, Instr.alloc, Sem.run_bind, Sem.run_pure, Result.andThen_ok, hzr]
    exact hk
theorem blk_box (hw : Region.wanted op (yielded ops a.tmps) = true) (T : TypeId) (x : Operand) (ho : op.op = .box T x) (cs : Array Value) (hx : a.eval x = .agg cs)
    (h : ∀ b w', New b w w' → Blk w' b T cs → wpList Tryz.prog ops Q rest (a.put op.dst (.pointer (some ⟨b, 0, none⟩))) w') : wpList Tryz.prog ops Q (op :: rest) a w :=
  wpList_want hw fun K hK => by
    have hk := hK _ _ (h _ _ (New.alloc w _) (heap_alloc_new w (.cells cs T)))
    unfold Oper.wp execOp
    simp only [ho, hx, Instr.box, Sem.run_bind, Sem.run_pure]
    exact hk
theorem blk_cell (hw : Region.wanted op (yielded ops a.tmps) = true) (ty : TypeId) (x y : Operand) (ho : op.op = .store ty x y) (b i : Nat) (hx : a.eval x = .pointer (some ⟨b, i, none⟩)) (K : IntKind) (v : Int) (hy : a.eval y = .int K v)
    (T : TypeId) (cs : Array Value) (hr : Blk w b T cs) (hi : i < cs.size) (hs : (Tryz.prog.info? ty).map (·.size) = some 1)
    (h : ∀ w', Upd b w w' → Blk w' b T (cs.setIfInBounds i (.int K v)) → wpList Tryz.prog ops Q rest (a.put op.dst undef) w') : wpList Tryz.prog ops Q (op :: rest) a w :=
  wpList_want hw fun K' hK' => by
    have hk := hK' _ _ (h _ (Upd.setCell w b i (.int K v)) (hr.set i _))
    have hrun : (storeVar ty ⟨b, i, none⟩ (.int K v)).run Tryz.prog w = .ok () (w.setCell ⟨b, i, none⟩ (.int K v)) :=
      run_storeVar_mid w b i ty #[.int K v] (hr.there i 1 (by omega)) hs (by simp [Value.oneCell'])
    unfold Oper.wp execOp
    simp only [ho, hx, hy, Instr.storeAt, Instr.sureAddr, Sem.run_bind, Sem.run_pure, Result.andThen_ok, hrun]
    exact hk
end laws

/-! Arrays of integers. -/
def arrA (n : Nat) (K : IntKind) (p : Nat → Int) : Array Value := Array.ofFn (n := n) fun i => .int K (p i.val)
theorem arrA_size (n : Nat) (K : IntKind) (p : Nat → Int) : (arrA n K p).size = n := by simp [arrA]
theorem arrA_get (n : Nat) (K : IntKind) (p : Nat → Int) (i : Nat) (h : i < n) : (arrA n K p)[i]? = some (.int K (p i)) := by simp [arrA, h]
theorem arrA_ext {n : Nat} {K : IntKind} {p q : Nat → Int} (h : ∀ i, i < n → p i = q i) : arrA n K p = arrA n K q := by
  apply Array.ext_getElem?
  intro i
  by_cases hi : i < n
  · rw [arrA_get _ _ _ _ hi, arrA_get _ _ _ _ hi, h i hi]
  · rw [Array.getElem?_eq_none (by rw [arrA_size]; omega), Array.getElem?_eq_none (by rw [arrA_size]; omega)]
theorem arrA_set (n : Nat) (K : IntKind) (p : Nat → Int) (i : Nat) (v : Int) (h : i < n) : (arrA n K p).setIfInBounds i (.int K v) = arrA n K (upd p i v) := by
  apply Array.ext_getElem?
  intro j
  rw [Array.getElem?_setIfInBounds]
  by_cases hj : j < n
  · rw [arrA_get _ _ _ _ hj, arrA_get _ _ _ _ hj]
    by_cases e : i = j
    · subst e; simp [arrA_size, h, upd_same]
    · simp [e, upd_other p i j v (Ne.symm e)]
  · rw [Array.getElem?_eq_none (by rw [arrA_size]; omega), Array.getElem?_eq_none (by rw [arrA_size]; omega)]
    simp [arrA_size]; omega
theorem arrA_one (n : Nat) (K : IntKind) (p : Nat → Int) : (arrA n K p).all (·.oneCell') = true := by
  rw [Array.all_eq_true_iff_forall_mem]
  intro v hv
  obtain ⟨i, hi, rfl⟩ := Array.mem_iff_getElem.1 hv
  have := arrA_get n K p i (by rwa [arrA_size] at hi)
  rw [Array.getElem?_eq_getElem hi] at this
  rw [Option.some.inj this]; rfl
theorem Blk.at {w : World} {b n : Nat} {T : TypeId} {K : IntKind} {p : Nat → Int} (h : Blk w b T (arrA n K p)) (i : Nat) (hi : i < n) : w.cell? ⟨b, i, none⟩ = some (.int K (p i)) := by
  rw [h.cell, arrA_get _ _ _ _ hi]
section laws
variable {ops : Array Oper} {rest : List Oper} {op : Oper} {a : Act} {w : World} {Q : Exit → Act → World → Prop}
theorem arr_load (hw : Region.wanted op (yielded ops a.tmps) = true) (T : TypeId) (x : Operand) (ho : op.op = .load T x) (b : Nat) (hx : a.eval x = .pointer (some ⟨b, 0, none⟩)) (n : Nat) (K : IntKind) (p : Nat → Int) (hr : Blk w b T (arrA n K p))
    (d : TypeDesc) (hu : Tryz.prog.underlying T = some d) (hd : d.isRow = true) (hi : (Tryz.prog.info? T).map (·.size) = some n)
    (h : wpList Tryz.prog ops Q rest (a.put op.dst (.agg (arrA n K p))) w) : wpList Tryz.prog ops Q (op :: rest) a w :=
  blk_load hw T x ho b hx _ hr d hu hd (by rw [arrA_size]; exact hi) h
theorem arr_store (hw : Region.wanted op (yielded ops a.tmps) = true) (T : TypeId) (x y : Operand) (ho : op.op = .store T x y) (b : Nat) (hx : a.eval x = .pointer (some ⟨b, 0, none⟩)) (n : Nat) (K : IntKind) (p q : Nat → Int) (hy : a.eval y = .agg (arrA n K q)) (hr : Blk w b T (arrA n K p))
    (hi : (Tryz.prog.info? T).map (·.size) = some n)
    (h : ∀ w', Upd b w w' → Blk w' b T (arrA n K q) → wpList Tryz.prog ops Q rest (a.put op.dst undef) w') : wpList Tryz.prog ops Q (op :: rest) a w :=
  blk_store hw T x y ho b hx _ _ hy hr (by rw [arrA_size, arrA_size]) (arrA_one _ _ _) (by rw [arrA_size]; exact hi) h
theorem arr_alloc (hw : Region.wanted op (yielded ops a.tmps) = true) (T : TypeId) (ho : op.op = .alloc T) (n : Nat) (K : IntKind) (hz : (Tryz.prog.info? T).map (fun i => (i.zero, i.size)) = some (some (.agg (arrA n K zeroP)), n))
    (h : ∀ b w', New b w w' → Blk w' b T (arrA n K zeroP) → wpList Tryz.prog ops Q rest (a.put op.dst (.pointer (some ⟨b, 0, none⟩))) w') : wpList Tryz.prog ops Q (op :: rest) a w :=
  blk_alloc hw T ho _ (by rw [hz, arrA_size]) h
theorem arr_cell (hw : Region.wanted op (yielded ops a.tmps) = true) (ty : TypeId) (x y : Operand) (ho : op.op = .store ty x y) (b i : Nat) (hx : a.eval x = .pointer (some ⟨b, i, none⟩)) (K : IntKind) (v : Int) (hy : a.eval y = .int K v)
    (T : TypeId) (n : Nat) (p : Nat → Int) (hr : Blk w b T (arrA n K p)) (hi : i < n) (hs : (Tryz.prog.info? ty).map (·.size) = some 1)
    (h : ∀ w', Upd b w w' → Blk w' b T (arrA n K (upd p i v)) → wpList Tryz.prog ops Q rest (a.put op.dst undef) w') : wpList Tryz.prog ops Q (op :: rest) a w :=
  blk_cell hw ty x y ho b i hx K v hy T _ hr (by rw [arrA_size]; exact hi) hs (by rw [arrA_set _ _ _ _ _ hi]; exact h)
theorem run_at {T e : TypeId} {n : Nat} {K : IntKind} {p : Nat → Int} (hu : Tryz.prog.underlying T = some (.array n e)) (he : Tryz.prog.underlying e = some (.int K)) (hs : (Tryz.prog.info? e).map (·.size) = some 1) (k : Nat) (hk : k < n) (w : World) :
    (Instr.index T (.agg (arrA n K p)) (.int .i64 (k : Int))).run Tryz.prog w = .ok (.int K (p k)) w := by
  have ha : ∀ w, (isAgg e).run Tryz.prog w = .ok false w := fun w => by
    unfold isAgg; rw [Sem.run_bind, run_underlying he w]; simp
  have hz : ∀ w, (sizeOf e).run Tryz.prog w = .ok 1 w := fun w => by
    cases hq : Tryz.prog.info? e with
    | none => simp [hq] at hs
    | some i => simp [hq] at hs; simp [sizeOf, typeInfo, hq, hs]
  have h0 : (0 : Int) ≤ (k : Int) ∧ (k : Int) < (n : Int) := by omega
  simp only [Instr.index, asIntOf, Sem.run_bind, Sem.run_pure, Result.andThen_ok, run_underlying hu, h0, and_self, if_true, hz, part, ha, Int.toNat_natCast, Nat.mul_one, arrA_get _ _ _ _ hk, Bool.false_eq_true, if_false]
theorem arr_index (hw : Region.wanted op (yielded ops a.tmps) = true) (T e : TypeId) (x y : Operand) (ho : op.op = .index T x y) (n : Nat) (K : IntKind) (p : Nat → Int) (hx : a.eval x = .agg (arrA n K p)) (k : Nat) (hy : a.eval y = .int .i64 (k : Int)) (hk : k < n)
    (hu : Tryz.prog.underlying T = some (.array n e)) (he : Tryz.prog.underlying e = some (.int K)) (hs : (Tryz.prog.info? e).map (·.size) = some 1)
    (h : wpList Tryz.prog ops Q rest (a.put op.dst (.int K (p k))) w) : wpList Tryz.prog ops Q (op :: rest) a w :=
  wpList_want hw fun K' hK' => by
    have hk' := hK' _ _ h
    unfold Oper.wp execOp
    simp only [ho, hx, hy, Sem.run_bind, run_at hu he hs k hk w]
    exact hk'
theorem isAgg_no {t : TypeId} {d : TypeDesc} (hu : Tryz.prog.underlying t = some d) (hd : d.isRow = false) (w : World) : (isAgg t).run Tryz.prog w = .ok false w := by
  unfold isAgg; rw [Sem.run_bind, run_underlying hu w]; cases d <;> first | rfl | cases hd
theorem isAgg_yes {t : TypeId} {d : TypeDesc} (hu : Tryz.prog.underlying t = some d) (hd : d.isRow = true) (w : World) : (isAgg t).run Tryz.prog w = .ok true w := by
  unfold isAgg; rw [Sem.run_bind, run_underlying hu w]; cases d <;> first | rfl | cases hd
theorem sizeOf_is {t : TypeId} {n : Nat} (hs : (Tryz.prog.info? t).map (·.size) = some n) (w : World) : (sizeOf t).run Tryz.prog w = .ok n w := by
  cases hq : Tryz.prog.info? t with
  | none => simp [hq] at hs
  | some i => simp [hq] at hs; simp [sizeOf, typeInfo, hq, hs]
theorem step_field (hw : Region.wanted op (yielded ops a.tmps) = true) (T : TypeId) (x : Operand) (i : Nat) (ho : op.op = .field T x i) (cs : Array Value) (hx : a.eval x = .agg cs) {fs : Array Field} (hu : Tryz.prog.underlying T = some (.struct fs))
    {f : Field} (hf : fs[i]? = some f) {d : TypeDesc} (he : Tryz.prog.underlying f.type = some d) (hd : d.isRow = false) (v : Value) (hv : cs[f.offset]? = some v)
    (h : wpList Tryz.prog ops Q rest (a.put op.dst v) w) : wpList Tryz.prog ops Q (op :: rest) a w :=
  wpList_want hw fun K' hK' => by
    have hk' := hK' _ _ h
    unfold Oper.wp execOp
    simp only [ho, hx, Instr.field, asAgg, Sem.run_bind, Sem.run_pure, Result.andThen_ok, run_underlying hu, hf, part, isAgg_no he hd, hv, Bool.false_eq_true, if_false]
    exact hk'
theorem step_fieldA (hw : Region.wanted op (yielded ops a.tmps) = true) (T : TypeId) (x : Operand) (i : Nat) (ho : op.op = .field T x i) (cs : Array Value) (hx : a.eval x = .agg cs) {fs : Array Field} (hu : Tryz.prog.underlying T = some (.struct fs))
    {f : Field} (hf : fs[i]? = some f) {d : TypeDesc} (he : Tryz.prog.underlying f.type = some d) (hd : d.isRow = true) (n : Nat) (hs : (Tryz.prog.info? f.type).map (·.size) = some n)
    (ds : Array Value) (hv : cs.extract f.offset (f.offset + n) = ds)
    (h : wpList Tryz.prog ops Q rest (a.put op.dst (.agg ds)) w) : wpList Tryz.prog ops Q (op :: rest) a w :=
  wpList_want hw fun K' hK' => by
    have hk' := hK' _ _ h
    unfold Oper.wp execOp
    simp only [ho, hx, Instr.field, asAgg, Sem.run_bind, Sem.run_pure, Result.andThen_ok, run_underlying hu, hf, part, isAgg_yes he hd, sizeOf_is hs, hv, if_true]
    exact hk'
theorem step_index (hw : Region.wanted op (yielded ops a.tmps) = true) (T e : TypeId) (x y : Operand) (ho : op.op = .index T x y) (n : Nat) (cs : Array Value) (hx : a.eval x = .agg cs) (K : IntKind) (k : Nat) (hy : a.eval y = .int K (k : Int)) (hk : k < n)
    (hu : Tryz.prog.underlying T = some (.array n e)) {d : TypeDesc} (he : Tryz.prog.underlying e = some d) (hd : d.isRow = false) (hs : (Tryz.prog.info? e).map (·.size) = some 1) (v : Value) (hv : cs[k]? = some v)
    (h : wpList Tryz.prog ops Q rest (a.put op.dst v) w) : wpList Tryz.prog ops Q (op :: rest) a w :=
  wpList_want hw fun K' hK' => by
    have hk' := hK' _ _ h
    have h0 : (0 : Int) ≤ (k : Int) ∧ (k : Int) < (n : Int) := by omega
    unfold Oper.wp execOp
    simp only [ho, hx, hy, Instr.index, asIntOf, Sem.run_bind, Sem.run_pure, Result.andThen_ok, run_underlying hu, h0, and_self, if_true, sizeOf_is hs, part, isAgg_no he hd, Int.toNat_natCast, Nat.mul_one, hv, Bool.false_eq_true, if_false]
    exact hk'
theorem step_indexA (hw : Region.wanted op (yielded ops a.tmps) = true) (T e : TypeId) (x y : Operand) (ho : op.op = .index T x y) (n m : Nat) (cs : Array Value) (hx : a.eval x = .agg cs) (K : IntKind) (k : Nat) (hy : a.eval y = .int K (k : Int)) (hk : k < n)
    (hu : Tryz.prog.underlying T = some (.array n e)) {d : TypeDesc} (he : Tryz.prog.underlying e = some d) (hd : d.isRow = true) (hs : (Tryz.prog.info? e).map (·.size) = some m) (ds : Array Value) (hv : cs.extract (k * m) (k * m + m) = ds)
    (h : wpList Tryz.prog ops Q rest (a.put op.dst (.agg ds)) w) : wpList Tryz.prog ops Q (op :: rest) a w :=
  wpList_want hw fun K' hK' => by
    have hk' := hK' _ _ h
    have h0 : (0 : Int) ≤ (k : Int) ∧ (k : Int) < (n : Int) := by omega
    unfold Oper.wp execOp
    simp only [ho, hx, hy, Instr.index, asIntOf, Sem.run_bind, Sem.run_pure, Result.andThen_ok, run_underlying hu, h0, and_self, if_true, sizeOf_is hs, part, isAgg_yes he hd, Int.toNat_natCast, hv, if_true]
    exact hk'
theorem step_get (hw : Region.wanted op (yielded ops a.tmps) = true) (T : TypeId) (x : Operand) (ho : op.op = .load T x) (b o : Nat) (hx : a.eval x = .pointer (some ⟨b, o, none⟩)) {d : TypeDesc} (hu : Tryz.prog.underlying T = some d) (hd : d.isRow = false)
    (v : Value) (hc : w.cell? ⟨b, o, none⟩ = some v) (h : wpList Tryz.prog ops Q rest (a.put op.dst v) w) : wpList Tryz.prog ops Q (op :: rest) a w :=
  wpList_want hw fun K' hK' => by
    have hk' := hK' _ _ h
    have ha := isAgg_no hu hd w
    have hl : (loadVar T ⟨b, o, none⟩).run Tryz.prog w = .ok v w := by simp [loadVar, ha, hc, go_sem]
    unfold Oper.wp execOp
    simp only [ho, hx, Instr.loadAt, Instr.sureAddr, Sem.run_bind, Sem.run_pure, Result.andThen_ok, hl]
    exact hk'
theorem step_build (hw : Region.wanted op (yielded ops a.tmps) = true) (T : TypeId) (parts : Array (Nat × Operand)) (ho : op.op = .build T parts) (cs : Array Value) (hb : Tryz.prog.built T (parts.map fun (i, x) => (i, a.eval x)).toList = some cs)
    (h : wpList Tryz.prog ops Q rest (a.put op.dst (.agg cs)) w) : wpList Tryz.prog ops Q (op :: rest) a w :=
  wpList_want hw fun K' hK' => by
    have hk' := hK' _ _ h
    unfold Oper.wp execOp
    simp only [ho, Sem.run_bind, run_build w T _ cs hb, Result.andThen_ok]
    exact hk'
theorem gU (hw : Region.wanted op (yielded ops a.tmps) = true) (T : TypeId) (x : Operand) (ho : op.op = .load T x) {d : TypeDesc} (hu : Tryz.prog.underlying T = some d) {b : Nat} {p : Nat → Int} (hr : Row w b p) (i : Nat) (hi : i < 88) (hx : a.eval x = .pointer (some ⟨b, i, none⟩)) (hk : kAt i = .u8)
    (h : wpList Tryz.prog ops Q rest (a.put op.dst (.int .u8 (p i))) w) (hd : d.isRow = false := by rfl) : wpList Tryz.prog ops Q (op :: rest) a w :=
  step_get hw T x ho b i hx hu hd (.int .u8 (p i)) ((hr.cell i hi).trans (by rw [hk])) h
end laws
end Go.Proofs.YtjbfjohgfbipgaaGreatDoor
/-
  Rows of eight places: the first positions of chess960, as the program and as the document lay them, told over all 960 numbers by the kernel.
-/
namespace Go.Proofs.YtjbfjohgfbipgaaGreatDoor
set_option linter.unusedVariables false

/-- The place of the empty place number c, from place k on, when n places are left. -/
def seekR (r : Nat → Int) : Nat → Nat → Nat → Nat
  | 0, k, _ => k
  | n + 1, k, c => bif r k == 0 then (match c with | 0 => k | d + 1 => seekR r n (k + 1) d) else seekR r n (k + 1) c
def placeR (r : Nat → Int) (c : Nat) (x : Int) : Nat → Int := upd r (seekR r 8 0 c) x
/-- The empty places below k, rising. -/
def emR (r : Nat → Int) : Nat → List Nat
  | 0 => []
  | k + 1 => bif r k == 0 then emR r k ++ [k] else emR r k
/-- The row is told by a list. -/
structure Rep (r : Nat → Int) (l : List Nat) : Prop where
  len : l.length = 8
  at_ : ∀ i, i < 8 → r i = ((l.getD i 0 : Nat) : Int)
def seekL : List Nat → Nat → Nat
  | [], _ => 0
  | a :: l, c => bif Nat.beq a 0 then (match c with | 0 => 0 | d + 1 => seekL l d + 1) else seekL l c + 1
def emL (l : List Nat) : List Nat := (List.range 8).filter fun i => Nat.beq (l.getD i 0) 0
theorem seek_eq (r : Nat → Int) : ∀ (l : List Nat) (k c : Nat), (∀ i, i < l.length → r (k + i) = ((l.getD i 0 : Nat) : Int)) → seekR r l.length k c = k + seekL l c
  | [], k, c, _ => by simp [seekR, seekL]
  | a :: l, k, c, h => by
    have h0 := h 0 (by simp)
    simp only [Nat.add_zero, List.getD_cons_zero] at h0
    have hr : ∀ d, seekR r l.length (k + 1) d = k + 1 + seekL l d := fun d => seek_eq r l (k + 1) d fun i hi => by
      have := h (i + 1) (by simp; omega)
      rw [show k + (i + 1) = k + 1 + i by omega] at this
      simpa using this
    have hb : (r k == 0) = Nat.beq a 0 := by
      rw [h0, Bool.eq_iff_iff]; simp
    show (bif r k == 0 then _ else _) = _
    rw [hb]
    unfold seekL
    cases hz : Nat.beq a 0
    · simp only [cond_false]; rw [hr]; omega
    · simp only [cond_true]
      cases c with
      | zero => simp
      | succ d => simp only; rw [hr]; omega
theorem Rep.zero : Rep (fun _ => 0) [0, 0, 0, 0, 0, 0, 0, 0] := ⟨rfl, fun i hi => by
  match i, hi with
  | 0, _ => rfl
  | 1, _ => rfl
  | 2, _ => rfl
  | 3, _ => rfl
  | 4, _ => rfl
  | 5, _ => rfl
  | 6, _ => rfl
  | 7, _ => rfl⟩
theorem Rep.set {r : Nat → Int} {l : List Nat} (h : Rep r l) (i x : Nat) : Rep (upd r i (x : Int)) (l.set i x) := ⟨by rw [List.length_set]; exact h.len, fun j hj => by
  by_cases e : j = i
  · subst e
    rw [upd_same, List.getD_eq_getElem?_getD, List.getElem?_set_self (by rw [h.len]; exact hj)]; rfl
  · rw [upd_other _ _ _ _ e, h.at_ j hj, List.getD_eq_getElem?_getD, List.getD_eq_getElem?_getD, List.getElem?_set_ne (Ne.symm e)]⟩
theorem Rep.seek {r : Nat → Int} {l : List Nat} (h : Rep r l) (c : Nat) : seekR r 8 0 c = seekL l c := by
  have := seek_eq r l 0 c fun i hi => by rw [Nat.zero_add]; exact h.at_ i (by rw [← h.len]; exact hi)
  rw [h.len] at this
  omega
theorem Rep.place {r : Nat → Int} {l : List Nat} (h : Rep r l) (c x : Nat) : Rep (placeR r c (x : Int)) (l.set (seekL l c) x) := by
  unfold placeR; rw [h.seek]; exact h.set _ _
theorem emR_eq {r : Nat → Int} {l : List Nat} (h : Rep r l) : ∀ k, k ≤ 8 → emR r k = (List.range k).filter fun i => Nat.beq (l.getD i 0) 0
  | 0, _ => rfl
  | k + 1, hk => by
    unfold emR
    rw [emR_eq h k (by omega), List.range_succ, List.filter_append]
    have hb : (r k == 0) = Nat.beq (l.getD k 0) 0 := by rw [h.at_ k (by omega), Bool.eq_iff_iff]; simp
    rw [hb]
    cases hz : Nat.beq (l.getD k 0) 0
    · simp only [cond_false, List.filter_cons, List.filter_nil, hz, Bool.false_eq_true, if_false, List.append_nil]
    · simp only [cond_true, List.filter_cons, List.filter_nil, hz, if_true]
theorem Rep.em {r : Nat → Int} {l : List Nat} (h : Rep r l) : emR r 8 = emL l := emR_eq h 8 (Nat.le_refl _)
theorem Rep.ext {r s : Nat → Int} {l : List Nat} (h : Rep r l) (k : Rep s l) (i : Nat) (hi : i < 8) : r i = s i := (h.at_ i hi).trans (k.at_ i hi).symm

/-! The row of a number, by lists. -/
/-- The nearer and the farther knight's place among the five empty ones. -/
def knA (k : Nat) : Nat := bif Nat.blt k 4 then 0 else bif Nat.blt k 7 then 1 else bif Nat.blt k 9 then 2 else 3
def knB (k : Nat) : Nat := bif Nat.blt k 4 then k + 1 else bif Nat.blt k 7 then k - 2 else bif Nat.blt k 9 then k - 4 else 4
def rowL (n : Nat) : List Nat :=
  let a := ([0, 0, 0, 0, 0, 0, 0, 0].set (2 * (n % 4) + 1) 3).set (2 * (n / 4 % 4)) 3
  let b := a.set (seekL a (n / 4 / 4 % 6)) 5
  let c := b.set (seekL b (knB (n / 4 / 4 / 6))) 2
  let d := c.set (seekL c (knA (n / 4 / 4 / 6))) 2
  let e := d.set (seekL d 0) 4
  let f := e.set (seekL e 0) 6
  f.set (seekL f 0) 4
/-- The same, as the program lays it. -/
def rowZ (n : Nat) : Nat → Int :=
  placeR (placeR (placeR (placeR (placeR (placeR (upd (upd (fun _ => 0) (2 * (n % 4) + 1) 3) (2 * (n / 4 % 4)) 3) (n / 4 / 4 % 6) 5) (knB (n / 4 / 4 / 6)) 2) (knA (n / 4 / 4 / 6)) 2) 0 4) 0 6) 0 4
theorem rowZ_rep (n : Nat) : Rep (rowZ n) (rowL n) :=
  (((((((Rep.zero.set _ 3).set _ 3).place _ 5).place _ 2).place _ 2).place 0 4).place 0 6).place 0 4
end Go.Proofs.YtjbfjohgfbipgaaGreatDoor
/-
  The table of the variants, and of the pairs of knights, as the walks read them.
-/
namespace Go.Proofs.YtjbfjohgfbipgaaGreatDoor
open Go.RowKit
set_option linter.unusedVariables false

/-- The variants' names, as bytes. -/
def nmL : Nat → List UInt8
  | 0 => [115, 116, 97, 110, 100, 97, 114, 100]
  | 1 => [99, 104, 101, 115, 115, 57, 54, 48]
  | 2 => [99, 114, 97, 122, 121, 104, 111, 117, 115, 101]
  | 3 => [97, 116, 111, 109, 105, 99]
  | 4 => [97, 110, 116, 105, 99, 104, 101, 115, 115]
  | 5 => [116, 104, 114, 101, 101, 99, 104, 101, 99, 107]
  | 6 => [107, 105, 110, 103, 104, 105, 108, 108]
  | 7 => [104, 111, 114, 100, 101]
  | 8 => [114, 97, 99, 105, 110, 103]
  | _ => []
def nmZ (v : Nat) : ByteArray := ⟨(nmL v).toArray⟩
def ryB (v c : Nat) : Bool := Nat.blt v 9 && Nat.blt c 2 && !Nat.beq v 4 && (!Nat.beq v 7 || Nat.beq c 1)
def casB (v : Nat) : Bool := Nat.blt v 9 && !Nat.beq v 4 && !Nat.beq v 8
def pocB (v : Nat) : Bool := Nat.beq v 2
def pawB (v : Nat) : Bool := Nat.blt v 8
def hiN (v : Nat) : Nat := bif Nat.beq v 4 then 6 else bif Nat.blt v 8 then 5 else 0
/-- A variant's row; of none, one in which nothing stands. -/
def trL (v : Nat) : List Value := [.string (nmZ v), .bool (ryB v 0), .bool (ryB v 1), .bool (casB v), .bool (pocB v), .bool (pawB v), .int .u8 (hiN v : Nat)]
theorem trL_none {v : Nat} (h : 9 ≤ v) : trL v = [.string ⟨#[]⟩, .bool false, .bool false, .bool false, .bool false, .bool false, .int .u8 0] := by
  match v, h with
  | n + 9, _ => rfl
def TabVar (w : World) : Prop := ∀ v, v < 9 → w.rangeAt 3 (v * 7) (trL v)
def knL (k : Nat) : List Value := [.int .i64 (knA k : Nat), .int .i64 (knB k : Nat)]
def TabKn (w : World) : Prop := ∀ k, k < 10 → w.rangeAt 2 (k * 2) (knL k)
theorem cells_of_laid {W : World} {nm : String} {d : DataW Unit} {rest : List (String × DataW Unit)} {g t : Nat} (hg : Tryz.prog.globalNamed nm = some g) (hty : (Tryz.prog.globals[g]?).map (·.type) = some t) (hk : Tryz.prog.keyTypeAt 5 t = true) (ht : Tryz.prog.tiled 5 t = true)
    (h : laidMet Tryz.prog ((nm, d) :: rest) W) : ∀ i, W.cell? ⟨g, i, none⟩ = (d.flat.map Lit.toCell)[i]? := by
  obtain ⟨ps, ⟨g', t', cs, fuel, p, q, hg', ht', hvar, hd, _, _⟩, _⟩ := h
  obtain rfl := Option.some.inj (hg.symm.trans hg')
  obtain rfl := Option.some.inj (hty.symm.trans ht')
  have h1 := (keyLits_of_trod 5 _ hk _ _ _ hd).1
  have h2 := cells_of_lits 5 _ ht _ _ _ h1
  intro i
  have := World.var?_cell hg hvar i
  rw [this, ← h2]
  simp
/-- What lies in a range lies there behind a call that only makes memory. -/
theorem range_on {w w' : World} {b o : Nat} {cs : List Value} (h : w.rangeAt b o cs) (hb : Below w.heap.size w w') : w'.rangeAt b o cs := fun j x hx => by
  have h1 := h j x hx
  have hlt : b < w.heap.size := by
    rcases Nat.lt_or_ge b w.heap.size with g | g
    · exact g
    · exfalso
      simp [World.cell?, Array.getElem?_eq_none g] at h1
  rw [← h1]
  exact hb.cell (p := ⟨b, o + j, none⟩) hlt
theorem TabVar.on {w w' : World} (h : TabVar w) (hb : Below w.heap.size w w') : TabVar w' := fun v hv => range_on (h v hv) hb
theorem TabKn.on {w w' : World} (h : TabKn w) (hb : Below w.heap.size w w') : TabKn w' := fun v hv => range_on (h v hv) hb
section laws
variable {ops : Array Oper} {rest : List Oper} {op : Oper} {a : Act} {w : World} {Q : Exit → Act → World → Prop}
theorem step_range (hw : Region.wanted op (yielded ops a.tmps) = true) (T : TypeId) (x : Operand) (ho : op.op = .load T x) (b o : Nat) (hx : a.eval x = .pointer (some ⟨b, o, none⟩)) (cs : List Value) (hr : w.rangeAt b o cs)
    (d : TypeDesc) (hu : Tryz.prog.underlying T = some d) (hd : d.isRow = true) (hi : (Tryz.prog.info? T).map (·.size) = some cs.length)
    (h : wpList Tryz.prog ops Q rest (a.put op.dst (.agg cs.toArray)) w) : wpList Tryz.prog ops Q (op :: rest) a w :=
  wpList_want hw fun _ hK => wp_load_mid T x ho b o hx cs d hr hu hd hi (hK _ _ h)
end laws
/-- Rows of one length, laid one behind the other. -/
theorem flat_at {α : Type} (f : Nat → List α) (m : Nat) (hf : ∀ v, (f v).length = m) : ∀ (n v j : Nat) (x : α), v < n → (f v)[j]? = some x → ((List.range n).map f).flatten[v * m + j]? = some x
  | 0, v, j, x, hv, _ => by omega
  | n + 1, v, j, x, hv, h => by
    have hl : ∀ n, ((List.range n).map f).flatten.length = n * m := fun n => by
      induction n with
      | zero => simp
      | succ n ih => rw [List.range_succ, List.map_append, List.flatten_append, List.length_append, ih]; simp [hf, Nat.succ_mul]
    have hj : j < m := by have := (List.getElem?_eq_some_iff.1 h).1; rwa [hf] at this
    rw [List.range_succ, List.map_append, List.flatten_append]
    by_cases e : v = n
    · subst e
      rw [List.getElem?_append_right (by rw [hl]; omega), hl, show v * m + j - v * m = j by omega]
      simpa using h
    · have h1 : (v + 1) * m ≤ n * m := Nat.mul_le_mul_right m (by omega)
      rw [Nat.succ_mul] at h1
      rw [List.getElem?_append_left (by rw [hl]; omega)]
      exact flat_at f m hf n v j x (by omega) h
theorem tab_kibitzer_rules_variants {W : World} {nm : String} {rest : List (String × DataW Unit)} (h : laidMet Tryz.prog ((nm, Rows.laid_kibitzer_rules_variants) :: rest) W) (hn : Tryz.prog.globalNamed nm = some 3) : TabVar W := by
  have t := cells_of_laid (g := 3) (t := 134) hn (by kernel_rfl) (by kernel_rfl) (by kernel_rfl) h
  have e : ((Rows.laid_kibitzer_rules_variants (H := Unit)).flat.map Lit.toCell) = ((List.range 9).map trL).flatten := by kernel_rfl
  rw [e] at t
  intro v hv j x hx
  rw [t]
  exact flat_at trL 7 (fun _ => rfl) 9 v j x hv hx
theorem tab_kibitzer_rules_knights {W : World} {nm : String} {rest : List (String × DataW Unit)} (h : laidMet Tryz.prog ((nm, Rows.laid_kibitzer_rules_knights) :: rest) W) (hn : Tryz.prog.globalNamed nm = some 2) : TabKn W := by
  have t := cells_of_laid (g := 2) (t := 124) hn (by kernel_rfl) (by kernel_rfl) (by kernel_rfl) h
  have e : ((Rows.laid_kibitzer_rules_knights (H := Unit)).flat.map Lit.toCell) = ((List.range 10).map knL).flatten := by kernel_rfl
  rw [e] at t
  intro k hk j x hx
  rw [t]
  exact flat_at knL 2 (fun _ => rfl) 10 k j x hk hx
end Go.Proofs.YtjbfjohgfbipgaaGreatDoor
/-
  Lists of numbers of one kind that a call makes by append.
-/
namespace Go.Proofs.YtjbfjohgfbipgaaGreatDoor
open Go.RowKit
set_option linter.unusedVariables false
theorem infoI64 : (Tryz.prog.info? 3).map (fun i => (i.zero, i.size, i.bytes)) = some (some (.int .i64 0), 1, 8) := by kernel_rfl
theorem infoU8 : (Tryz.prog.info? 5).map (fun i => (i.zero, i.size, i.bytes)) = some (some (.int .u8 0), 1, 1) := by kernel_rfl
/-- A list of numbers as the cells of a row. -/
def rowK (K : IntKind) (l : List Nat) : List Value := l.map fun i : Nat => Value.int K (i : Int)
theorem rowK_snoc (K : IntKind) (l : List Nat) (k : Nat) : rowK K (l ++ [k]) = rowK K l ++ [.int K (k : Int)] := by simp [rowK]
/-- The value is a list of the call's own, made at or beyond block B. -/
def ListedK (K : IntKind) (e : TypeId) (B : Nat) (l : List Nat) (v : Value) (w : World) : Prop := w.ownsRow B e 1 v l.length (rowK K l)
theorem listedK_nil (K : IntKind) (e : TypeId) (B : Nat) (w : World) : ListedK K e B [] (.slice none 0 0) w := World.ownsRow_nil _ _ _ _
theorem listedK_grow {K : IntKind} {e : TypeId} {B : Nat} {l : List Nat} {v v' : Value} {k : Nat} {w wr w1 : World} {o : Obj} (h : ListedK K e B l v wr) (hb : Below B w wr) (hB : B ≤ wr.heap.size)
    (hown' : w1.ownsRow B e 1 v' (l.length + 1) (rowK K l ++ [.int K (k : Int)])) (hgrow : (wr.alloc o).grownBy w1 v.ownBlock) :
    ListedK K e B (l ++ [k]) v' w1 ∧ Below B w w1 := by
  refine ⟨?_, (hb.alloc hB o).grown hgrow (by simp; omega) (fun j hj => (h.lt j hj).1)⟩
  unfold ListedK
  rw [rowK_snoc]; simpa using hown'
theorem listedK_below {K : IntKind} {e : TypeId} {B : Nat} {l : List Nat} {v : Value} {w w' : World} (h : ListedK K e B l v w) (hb : Below w.heap.size w w') : ListedK K e B l v w' := by
  refine ⟨h.1, ?_⟩
  rcases h.2 with hn | ⟨g, cap, cur, hv, hB, hg, rest⟩
  · exact .inl hn
  · exact .inr ⟨g, cap, cur, hv, hB, (hb.block g (Array.getElem?_eq_some_iff.1 hg).1).trans hg, rest⟩
/-- A list that lies in a block of its own, cell by cell. -/
structure Lies (K : IntKind) (e : TypeId) (B : Nat) (l : List Nat) (v : Value) (g cap : Nat) (cur : Array Value) (w : World) : Prop where
  val : v = .slice (some ⟨g, 0, none⟩) l.length cap
  base : B ≤ g
  blk : Blk w g e cur
  room : l.length ≤ cap
  lim : cap ≤ maxLen
  size : cur.size = cap
  at_ : ∀ i (h : i < l.length), cur[i]? = some (.int K (l[i] : Nat))
theorem listedK_open {K : IntKind} {e : TypeId} {B : Nat} {l : List Nat} {v : Value} {w : World} (h : ListedK K e B l v w) (hl : 0 < l.length) : ∃ g cap cur, Lies K e B l v g cap cur w := by
  rcases h.2 with ⟨_, hn⟩ | ⟨g, cap, cur, hv, hB, hg, h1, h2, h3, h4⟩
  · omega
  · refine ⟨g, cap, cur, hv, hB, hg, h1, h2, by omega, fun i hi => ?_⟩
    have := congrArg (·[i]?) h4
    simp only [Nat.mul_one, List.getElem?_take_of_lt hi] at this
    have e : cur[i]? = cur.toList[i]? := by simp
    rw [e, this]
    simp [rowK, hi]
theorem listedK_none {K : IntKind} {e : TypeId} {B : Nat} {v : Value} {w : World} (h : ListedK K e B [] v w) : ∃ p cap, v = .slice p 0 cap := by
  rcases h.2 with ⟨hv, _⟩ | ⟨g, cap, cur, hv, _⟩
  · exact ⟨_, _, hv⟩
  · exact ⟨_, _, hv⟩
theorem Lies.cell {K : IntKind} {e : TypeId} {B g cap : Nat} {cur : Array Value} {l : List Nat} {v : Value} {w : World} (h : Lies K e B l v g cap cur w) (i : Nat) (hi : i < l.length) : w.cell? ⟨g, i, none⟩ = some (.int K (l[i] : Nat)) := by
  rw [h.blk.cell, h.at_ i hi]
theorem Lies.later {K : IntKind} {e : TypeId} {B g cap : Nat} {cur : Array Value} {l : List Nat} {v : Value} {w w' : World} (h : Lies K e B l v g cap cur w) (hb : Below w.heap.size w w') : Lies K e B l v g cap cur w' := { h with blk := h.blk.later hb }
theorem Lies.apart {K : IntKind} {e : TypeId} {B g cap c : Nat} {cur : Array Value} {l : List Nat} {v : Value} {w w' : World} (h : Lies K e B l v g cap cur w) (hu : Upd c w w') (hc : g ≠ c) : Lies K e B l v g cap cur w' := { h with blk := h.blk.apart hu hc }
/-- What a call that makes a list hands back. -/
def ListK (K : IntKind) (e : TypeId) (l : List Nat) (w : World) (en : Ending) (w' : World) : Prop := ∃ v, en = .returned v ∧ ListedK K e w.heap.size l v w' ∧ Below w.heap.size w w'
end Go.Proofs.YtjbfjohgfbipgaaGreatDoor
/-
  Contracts of what a variant has, by the program: of, Name, Royal, Castles, Pockets, Pawns.
-/
namespace Go.Proofs.YtjbfjohgfbipgaaGreatDoor
open Go.RowKit
set_option linter.unusedVariables false

theorem drewN_on (w : World) (n : Nat) : Below w.heap.size w (w.drewN n) := ⟨rfl, rfl, rfl, Nat.le_refl _, fun _ _ => rfl⟩
theorem rz {T : TypeId} {n : Nat} (h : (Tryz.prog.info? T).map (·.size) = some n) : (Tryz.prog.info? T).map (·.size) = some n := h
theorem results_blk {fn : Func} {i : Tmp} {T : TypeId} {d : TypeDesc} {n : Nat} (h : fn.results = #[.cell i T]) (tmps : Array Value) (w : World) (b : Nat) (cs : Array Value) (hp : tmps.getD i undef = .pointer (some ⟨b, 0, none⟩)) (hr : Blk w b T cs)
    (hu : Tryz.prog.underlying T = some d) (hd : d.isRow = true) (hi : (Tryz.prog.info? T).map (·.size) = some n) (hn : cs.size = n) : (results fn tmps).run Tryz.prog w = .ok (.agg cs) w :=
  results_cell_row h tmps w b T cs (0, 0) d hp hr hu (by cases d <;> first | rfl | cases hd) (by rw [hi, hn])
theorem sizeTr : (Tryz.prog.info? 110).map (·.size) = some 7 := by kernel_rfl
theorem trL_one (v : Nat) : (trL v).toArray.all (·.oneCell') = true := by simp [trL, Value.oneCell']
theorem zeroTr : (Tryz.prog.info? 110).map (fun i => (i.zero, i.size)) = some (some (.agg (trL 9).toArray), 7) := by kernel_rfl

set_option maxRecDepth 100000 in
theorem ofv_any (v : Nat) (w : World) (hv : v ≤ 255) (hT : TabVar w) : Calls Tryz.prog 91 #[.int .u8 (v : Int)] w (AggL (trL v).toArray w) := by
  by_cases h9 : 9 ≤ v
  · have HE := Lib.hid (show trL v = trL 9 by rw [trL_none h9]; rfl)
    have g0 : decide ((9 : Int) ≤ (v : Int)) = true := decide_eq_true (by omega)
    clear h9
    go_enter Tryz.func91, Tryz.ntmps91
    go_wp2_with (first
      | (refine blk_alloc rfl 110 rfl (trL 9).toArray zeroTr ?_; intro b1 w1 N R; have HG := Lib.hid (Nat.le_of_eq N.at_.symm); have HR := Lib.hid R; have HB := Lib.hid N.below; clear N R)
      | (refine blk_store rfl 110 _ _ rfl b1 rfl _ (trL 9).toArray rfl HR.out rfl (trL_one _) sizeTr ?_; intro w2 U R; have HR := Lib.hid R; have HB := Lib.hid (HB.out.trans (U.below HG.out)); clear U R))
    refine bodyPost_ret (v := .agg (trL 9).toArray) (results_blk rfl _ _ _ _ rfl HR.out Tryz.underlying110 rfl sizeTr rfl) rfl ⟨by rw [HE.out], HB.out⟩
  · have HT := Lib.hid (hT v (by omega))
    have g0 : decide ((9 : Int) ≤ (v : Int)) = false := decide_eq_false (by omega)
    have g1 : (v : Int) < 9 := by omega
    clear hT
    go_enter Tryz.func91, Tryz.ntmps91
    go_wp2_with (first
      | (refine blk_alloc rfl 110 rfl (trL 9).toArray zeroTr ?_; intro b1 w1 N R; have HG := Lib.hid (Nat.le_of_eq N.at_.symm); have HR := Lib.hid R; have HB := Lib.hid N.below; clear N R)
      | (refine step_range rfl 110 _ rfl 3 (v * 7) rfl (trL v) (range_on HT.out HB.out) _ Tryz.underlying110 rfl sizeTr ?_)
      | (refine blk_store rfl 110 _ _ rfl b1 rfl _ (trL v).toArray rfl HR.out rfl (trL_one _) sizeTr ?_; intro w2 U R; have HR := Lib.hid R; have HB := Lib.hid (HB.out.trans (U.below HG.out)); clear U R))
    refine bodyPost_ret (v := .agg (trL v).toArray) (results_blk rfl _ _ _ _ rfl HR.out Tryz.underlying110 rfl sizeTr rfl) rfl ⟨rfl, HB.out⟩
theorem of_row (v : Nat) (w : World) (hv : v ≤ 255) (hT : TabVar w) : Calls Tryz.prog 91 #[.int .u8 (v : Int)] w (AggL #[.string (nmZ v), .bool (ryB v 0), .bool (ryB v 1), .bool (casB v), .bool (pocB v), .bool (pawB v), .int .u8 (hiN v : Nat)] w) := ofv_any v w hv hT
theorem cas_any (v : Nat) (w : World) (hv : v ≤ 255) (hT : TabVar w) : Calls Tryz.prog 107 #[.int .u8 (v : Int)] w (BoL (casB v) w) := by
  have HT := Lib.hid hT
  clear hT
  go_enter Tryz.func107, Tryz.ntmps107
  go_wp2_with fail
  refine (of_row v _ hv HT.out).mono ?_; rintro e w1 ⟨rfl, hb⟩
  have HB := Lib.hid hb
  clear hb
  go_wp2_with (refine step_field rfl 110 _ 2 rfl _ rfl Tryz.underlying110 rfl Tryz.underlying4 rfl (.bool (casB v)) rfl ?_)
  go_ret
  exact ⟨rfl, HB.out⟩
theorem poc_any (v : Nat) (w : World) (hv : v ≤ 255) (hT : TabVar w) : Calls Tryz.prog 63 #[.int .u8 (v : Int)] w (BoL (pocB v) w) := by
  have HT := Lib.hid hT
  clear hT
  go_enter Tryz.func63, Tryz.ntmps63
  go_wp2_with fail
  refine (of_row v _ hv HT.out).mono ?_; rintro e w1 ⟨rfl, hb⟩
  have HB := Lib.hid hb
  clear hb
  go_wp2_with (refine step_field rfl 110 _ 3 rfl _ rfl Tryz.underlying110 rfl Tryz.underlying4 rfl (.bool (pocB v)) rfl ?_)
  go_ret
  exact ⟨rfl, HB.out⟩
end Go.Proofs.YtjbfjohgfbipgaaGreatDoor
/-
  Contracts of the program's first positions, first part: bare, square, man, chess, placed, rookFiles.
-/
namespace Go.Proofs.YtjbfjohgfbipgaaGreatDoor
open Go.RowKit
set_option linter.unusedVariables false

/-- The position ahead of any piece, of a variant. -/
def bareP (v : Int) : Nat → Int := fun i => if i = 0 then v else if 79 ≤ i ∧ i ≤ 83 then -1 else if i = 87 then 1 else 0
theorem results_row {fn : Func} {i : Tmp} (h : fn.results = #[.cell i 31]) (tmps : Array Value) (w : World) (b : Nat) (p : Nat → Int) (hp : tmps.getD i undef = .pointer (some ⟨b, 0, none⟩)) (hr : Row w b p) :
    (results fn tmps).run Tryz.prog w = .ok (.agg (posA p)) w :=
  results_cell_row h tmps w b 31 (posA p) (0, 0) _ hp hr Tryz.underlying31 rfl (by rw [posA_size]; exact size31)
theorem size58 : (Tryz.prog.info? 67).map (·.size) = some 8 := by kernel_rfl
theorem zero58 : (Tryz.prog.info? 67).map (fun i => (i.zero, i.size)) = some (some (.agg (arrA 8 .u8 zeroP)), 8) := by kernel_rfl
theorem results_arr {fn : Func} {i : Tmp} (h : fn.results = #[.cell i 67]) (tmps : Array Value) (w : World) (b : Nat) (p : Nat → Int) (hp : tmps.getD i undef = .pointer (some ⟨b, 0, none⟩)) (hr : Blk w b 67 (arrA 8 .u8 p)) :
    (results fn tmps).run Tryz.prog w = .ok (.agg (arrA 8 .u8 p)) w :=
  results_blk h tmps w b _ hp hr Tryz.underlying67 rfl size58 (arrA_size _ _ _)

set_option maxRecDepth 100000 in
theorem bare_any (v : Int) (w : World) : Calls Tryz.prog 78 #[.int .u8 v] w (PosL (bareP v) w) := by
  go_enter Tryz.func78, Tryz.ntmps78
  go_wp2_with (first
    | (refine step_alloc rfl rfl ?_; intro b1 w1 N R; have HG := Lib.hid (Nat.le_of_eq N.at_.symm); have HR := Lib.hid R; have HB := Lib.hid N.below; clear N R)
    | (refine step_build rfl 31 _ rfl (posA (bareP v)) (by kernel_rfl) ?_)
    | (refine step_store rfl _ _ rfl b1 rfl _ (bareP v) rfl HR.out ?_; intro w2 U R; have HR := Lib.hid R; have HB := Lib.hid (HB.out.trans (U.below HG.out)); clear U R))
  refine bodyPost_ret (v := .agg (posA (bareP v))) (results_row rfl _ _ _ _ rfl HR.out) rfl ⟨rfl, HB.out⟩
def IntE (n : Int) (w : World) (e : Ending) (w' : World) : Prop := e = .returned (.int .i64 n) ∧ w = w'
def U8E (n : Int) (w : World) (e : Ending) (w' : World) : Prop := e = .returned (.int .u8 n) ∧ w = w'
theorem square_any (f r : Nat) (w : World) (hf : f < 8) (hr : r < 8) : Calls Tryz.prog 79 #[.int .i64 (f : Int), .int .i64 (r : Int)] w (IntE ((8 * r + f : Nat) : Int) w) := by
  go_enter Tryz.func79, Tryz.ntmps79
  go_wp2_with fail
  go_ret
  exact ⟨by go_num, rfl⟩
theorem man_any (c k : Nat) (w : World) (hc : c ≤ 1) (hk : k ≤ 15) : Calls Tryz.prog 80 #[.int .u8 (c : Int), .int .u8 (k : Int)] w (U8E ((8 * c + k : Nat) : Int) w) := by
  go_enter Tryz.func80, Tryz.ntmps80
  go_wp2_with fail
  go_ret
  exact ⟨by go_num, rfl⟩
/-- The row of chess. -/
def chR : Nat → Int := fun i => (([4, 2, 3, 5, 6, 3, 2, 4].getD i 0 : Nat) : Int)
def RowL (r : Nat → Int) (w : World) (e : Ending) (w' : World) : Prop := e = .returned (.agg (arrA 8 .u8 r)) ∧ Below w.heap.size w w'
theorem chess_any (w : World) : Calls Tryz.prog 50 #[] w (RowL chR w) := by
  go_enter Tryz.func50, Tryz.ntmps50
  go_wp2_with (first
    | (refine arr_alloc rfl 67 rfl 8 .u8 zero58 ?_; intro b1 w1 N R; have HG := Lib.hid (Nat.le_of_eq N.at_.symm); have HR := Lib.hid R; have HB := Lib.hid N.below; clear N R)
    | (refine step_build rfl 67 _ rfl (arrA 8 .u8 chR) (by kernel_rfl) ?_)
    | (refine arr_store rfl 67 _ _ rfl b1 rfl 8 .u8 _ chR rfl HR.out size58 ?_; intro w2 U R; have HR := Lib.hid R; have HB := Lib.hid (HB.out.trans (U.below HG.out)); clear U R))
  refine bodyPost_ret (v := .agg (arrA 8 .u8 chR)) (results_arr rfl _ _ _ _ rfl HR.out) rfl ⟨rfl, HB.out⟩
end Go.Proofs.YtjbfjohgfbipgaaGreatDoor
/-
  A region that draws its order, of which some operations yield one value in every later world, whenever they come up: these are taken first; what hands back memory of its own is carried out when nothing else may come up.
-/
namespace Go.Proofs.YtjbfjohgfbipgaaGreatDoor
open Go.RowKit
set_option linter.unusedVariables false
/-- A later world. -/
def Later (w w' : World) : Prop := Below w.heap.size w w'
theorem Later.refl (w : World) : Later w w := Below.refl _ _
theorem Later.trans {a b c : World} (h : Later a b) (k : Later b c) : Later a c := below_on h k
section
variable {L : Nat} {P : Program} {ops : Array Oper} {Q : Exit → Act → World → Prop} {md : Region.Mode}
/-- Whatever order is drawn from here on; behind each operation the rest may begin in any later world. Number L (a store) comes up when all else has. -/
def wpLate (L : Nat) (P : Program) (md : Region.Mode) (ops : Array Oper) (Q : Exit → Act → World → Prop) : Nat → Array Bool → Act → World → Prop
  | 0, listed, a, w => Region.ready md ops listed = [] ∧ Q .normal a w
  | n + 1, listed, a, w => (Region.ready md ops listed = [] → Q .normal a w) ∧
    ∀ i ∈ Region.ready md ops listed, wpOp P ops Q i (fun a' w' => if i = L then wpAny P md ops Q n (listed.setIfInBounds i true) a' w'
      else Later w w' ∧ ∀ w'', Later w' w'' → wpLate L P md ops Q n (listed.setIfInBounds i true) a' w'') a w
theorem wpAny_of_late : ∀ (n : Nat) (listed : Array Bool) (a : Act) (w : World), wpLate L P md ops Q n listed a w → wpAny P md ops Q n listed a w
  | 0, _, _, _, h => h
  | n + 1, listed, _, _, h => ⟨h.1, fun i hi => wpOp_mono (fun a' w' h' => by
      by_cases e : i = L
      · rw [if_pos e] at h'; exact h'
      · rw [if_neg e] at h'
        exact wpAny_of_late n _ a' w' (h'.2 w' (Later.refl _))) (h.2 i hi)⟩
/-- Number L waits for number i. -/
def waits (md : Region.Mode) (ops : Array Oper) (L i : Nat) : Bool := match ops[L]? with
  | none => true
  | some o => o.after.any fun e => Region.binds md e && e.on == i
theorem waits_spec {i : Nat} (h : waits md ops L i = true) {listed : Array Bool} (hi : i ∈ Region.ready md ops listed) : L ∉ Region.ready md ops listed := fun hL => by
  obtain ⟨_, o, ho, hall⟩ := mem_ready.1 hL
  unfold waits at h
  rw [ho] at h
  simp only [Array.any_eq_true', Bool.and_eq_true, beq_iff_eq] at h
  obtain ⟨e, he, hb, rfl⟩ := h
  have h1 := hall e he hb
  have h2 := (mem_ready.1 hi).1
  rcases Nat.lt_or_ge e.on listed.size with hl | hl
  · simp [hl] at h1 h2; rw [h2] at h1; cases h1
  · simp [Array.getElem?_eq_none hl] at h1
/-- In every world later than w the operation yields v, and leaves a later world. -/
def LateIs (P : Program) (ops : Array Oper) (o : Oper) (v : Value) (a : Act) (w : World) : Prop :=
  (Region.wanted o (yielded ops a.tmps) = true ∧ ∀ w', Later w w' → (execOp a.eval o).run P w' = .ok (.value v) w' ∨
    ∃ f args, (execOp a.eval o).run P w' = .ok (.enter f args) w' ∧ Calls P f args w' (fun e w'' => e = .returned v ∧ Later w' w'')) ∨
  (Region.wanted o (yielded ops a.tmps) = false ∧ v = undef)
theorem LateIs.later {o : Oper} {v : Value} {a : Act} {w w' : World} (h : LateIs P ops o v a w) (hw : Later w w') : LateIs P ops o v a w' :=
  h.imp (fun ⟨h1, h2⟩ => ⟨h1, fun _ hl => h2 _ (hw.trans hl)⟩) id
theorem LateIs.same {o : Oper} {v : Value} {a a' : Act} {w : World} (h : LateIs P ops o v a w) (he : execOp a'.eval o = execOp a.eval o)
    (hw : Region.wanted o (yielded ops a'.tmps) = Region.wanted o (yielded ops a.tmps)) : LateIs P ops o v a' w := by
  unfold LateIs at *
  rw [he, hw]
  exact h
theorem LateIs.wpOp {i : Nat} {o : Oper} {v : Value} {a : Act} {w : World} (hi : ops[i]? = some o) (hy : LateIs P ops o v a w) {K : Act → World → Prop}
    (h : ∀ w', Later w w' → K (a.put o.dst v) w') : wpOp P ops Q i K a w := by
  unfold Go.wpOp
  rw [hi]
  rcases hy with ⟨hw, hv⟩ | ⟨hw, rfl⟩
  · simp only [hw, if_true]
    refine .inl ?_
    unfold Oper.wp
    rcases hv w (Later.refl w) with hr | ⟨f, args, hr, hc⟩
    · rw [hr]; exact h w (Later.refl w)
    · rw [hr]
      exact hc.mono fun e w'' ⟨he, hl⟩ => by subst he; exact h _ hl
  · simp only [hw, Bool.false_eq_true, if_false]; exact h w (Later.refl w)
/-- Whether a value lies already in the slot of an operation that is apart makes no difference. -/
theorem wpOp_behind {j : Nat} {oi oj : Oper} {v : Value} (hj : ops[j]? = some oj) (hap : oi.apart ops oj = true) (hsj : ∀ cs b, oj.op ≠ .select cs b)
    (hQ : ∀ c a w, Q (.panic c) (a.put oi.dst v) w → Q (.panic c) a w) (G : Act → Prop) (gp : ∀ a u, G a → G (a.put oj.dst u)) (gd : ∀ (a : Act) d, G a → G { a with defers := d :: a.defers })
    {K : Act → World → Prop} {a : Act} {w : World} (ha : G a) (h : wpOp P ops Q j K (a.put oi.dst v) w) :
    wpOp P ops Q j (fun a' w' => G a' ∧ K (a'.put oi.dst v) w') a w := by
  obtain ⟨h1, h2, _⟩ := Oper.apart_spec hap
  have key : ∀ u w', K ((a.put oi.dst v).put oj.dst u) w' → G (a.put oj.dst u) ∧ K ((a.put oj.dst u).put oi.dst v) w' := fun u w' hk =>
    ⟨gp a u ha, by rw [← Act.put_comm a v u h2]; exact hk⟩
  unfold wpOp at *
  rw [hj] at h ⊢
  simp only [wanted_put oj a oi.dst v h1] at h ⊢
  by_cases hw : Region.wanted oj (yielded ops a.tmps) = true
  · rw [if_pos hw] at h ⊢
    rcases h with h | ⟨h3, h4⟩
    · refine .inl ?_
      unfold Oper.wp at *
      rw [execOp_put oj hsj a oi.dst v h1] at h
      cases hr : (execOp a.eval oj).run P w with
      | ok n w' =>
        rw [hr] at h
        cases n <;> simp only [Oper.upon] at h ⊢
        · exact key _ _ h
        · exact key _ _ h
        · refine Calls.mono h fun e w'' he => ?_
          cases e with
          | returned u => exact key _ _ he
          | panicked c => exact hQ _ _ _ he
          | outgrown => exact he
        · refine ⟨gp _ _ (gd a _ ha), ?_⟩
          rw [← Act.put_comm _ v undef h2, ← Act.put_defers]
          exact h
        all_goals exact Rows.mono h fun u w'' he => key _ _ he
      | halt x w' =>
        rw [hr] at h
        cases x <;> simp only [Oper.upon] at h ⊢
        exact hQ _ _ _ h
    · exact .inr ⟨by unfold Oper.asks at *; rw [execOp_put oj hsj a oi.dst v h1] at h3; exact h3, h4⟩
  · rw [if_neg hw] at h ⊢
    exact key _ _ h
theorem wpLate_first {i : Nat} {oi : Oper} {v : Value} (hi : ops[i]? = some oi) (hsel : ∀ (j : Nat) (o : Oper) cs b, ops[j]? = some o → o.op ≠ .select cs b)
    (hQ : ∀ c a w, Q (.panic c) (a.put oi.dst v) w → Q (.panic c) a w) :
    ∀ (n : Nat) (listed : Array Bool) (a : Act) (w : World),
      waits md ops L i = true → i ≠ L → (∀ j oj, ops[j]? = some oj → j ≠ i → listed.getD j true = false → (∀ e ∈ oj.after, Region.binds md e = true → e.on ≠ i) → oi.apart ops oj = true) →
      i ∈ Region.ready md ops listed → LateIs P ops oi v a w →
      (∀ w', Later w w' → wpLate L P md ops Q n (listed.setIfInBounds i true) (a.put oi.dst v) w') → wpLate L P md ops Q (n + 1) listed a w := by
  intro n
  induction n with
  | zero =>
    intro listed a w hwt hiL _ hr hy H
    refine ⟨fun h => absurd hr (by rw [h]; simp), fun j hj => ?_⟩
    by_cases e : j = i
    · subst e; refine hy.wpOp hi fun w' hw' => ?_; rw [if_neg hiL]; exact ⟨hw', fun w'' hw'' => H w'' (hw'.trans hw'')⟩
    · have := ready_mono hj e
      rw [(H w (Later.refl w)).1] at this
      cases this
  | succ n ih =>
    intro listed a w hwt hiL hfree hr hy H
    refine ⟨fun h => absurd hr (by rw [h]; simp), fun j hj => ?_⟩
    by_cases e : j = i
    · subst e; refine hy.wpOp hi fun w' hw' => ?_; rw [if_neg hiL]; exact ⟨hw', fun w'' hw'' => H w'' (hw'.trans hw'')⟩
    · have h1 := (H w (Later.refl w)).2 j (ready_mono hj e)
      obtain ⟨hun, oj, hoj, hall⟩ := mem_ready.1 hj
      have hno : ∀ x ∈ oj.after, Region.binds md x = true → x.on ≠ i := fun x hx hb he => by
        have h3 := hall x hx hb
        have h4 := (mem_ready.1 hr).1
        rw [he] at h3
        rcases Nat.lt_or_ge i listed.size with hl | hl
        · simp [hl] at h3 h4; rw [h4] at h3; cases h3
        · simp [Array.getElem?_eq_none hl] at h3
      have hjL : j ≠ L := fun hjl => waits_spec hwt hr (hjl ▸ hj)
      have hap := hfree j oj hoj e hun hno
      obtain ⟨_, _, hd⟩ := Oper.apart_spec hap
      have hk := wpOp_behind (G := fun a' => execOp a'.eval oi = execOp a.eval oi ∧ Region.wanted oi (yielded ops a'.tmps) = Region.wanted oi (yielded ops a.tmps)) hoj hap (fun cs b => hsel j oj cs b hoj) hQ
        (fun a' u hg => ⟨(execOp_put oi (fun cs b => hsel i oi cs b hi) a' oj.dst u hd).trans hg.1, (wanted_put oi a' oj.dst u hd).trans hg.2⟩) (fun a' d hg => hg) ⟨rfl, rfl⟩ h1
      refine wpOp_mono (fun a' w' hg => ?_) hk
      rw [if_neg hjL] at hg ⊢
      refine ⟨hg.2.1, fun w'' hw'' => ?_⟩
      refine ih (listed.setIfInBounds j true) a' w'' hwt hiL (fun k ok hok hki hkun hkno => hfree k ok hok hki ?_ hkno) (ready_mono hr (Ne.symm e)) ((hy.same hg.1.1 hg.1.2).later (hg.2.1.trans hw'')) ?_
      · by_cases hjk : j = k
        · subst hjk; exact hun
        · rwa [getD_set_ne true hjk] at hkun
      · intro w3 hw3
        rw [Array.setIfInBounds_comm _ _ e]
        exact hg.2.2 w3 (hw''.trans hw3)
theorem any_end {n : Nat} {listed : Array Bool} {a : Act} {w : World} (he : Region.ready md ops listed = []) (hq : Q .normal a w) : wpAny P md ops Q n listed a w := by
  cases n with
  | zero => exact ⟨he, hq⟩
  | succ n => exact ⟨fun _ => hq, fun j hj => (by rw [he] at hj; cases hj)⟩
/-! The moves of a walk: from 'in every world later than w' to the same with one operation more. -/
def Late (L : Nat) (P : Program) (md : Region.Mode) (ops : Array Oper) (Q : Exit → Act → World → Prop) (n : Nat) (listed : Array Bool) (a : Act) (w : World) : Prop := ∀ w', Later w w' → wpLate L P md ops Q n listed a w'
theorem late_begin (L : Nat) {id : Nat} {a : Act} {w : World} (hm : P.follows .mixedOrders = true)
    (h : Late L P .any ops Q ops.size (Array.replicate ops.size false) a w) : (Code.region id ops true).wp P Q a w :=
  wp_region_any hm (wpAny_of_late _ _ _ _ (h _ (Below.refl _ w).drew))
theorem late_take (i : Nat) {n : Nat} {listed : Array Bool} {a : Act} {w : World} (hwt : (waits md ops L i && i != L) = true) (hs : Region.noSelect ops = true) (hf : Region.free md ops listed i = true) (hr : (Region.ready md ops listed).contains i = true) (hz : (ops[i]?).isSome = true)
    (hQ : ∀ c a d v w, Q (.panic c) (Act.put a d v) w → Q (.panic c) a w)
    (h : ∀ o : Oper, ops[i]? = some o → ∃ v, LateIs P ops o v a w ∧ Late L P md ops Q n (listed.setIfInBounds i true) (a.put o.dst v) w) : Late L P md ops Q (n + 1) listed a w := by
  obtain ⟨o, ho⟩ := Option.isSome_iff_exists.1 hz
  obtain ⟨v, hy, h⟩ := h o ho
  exact fun w' hw' => wpLate_first ho (Region.noSelect_spec hs) (fun c a w => hQ c a o.dst v w) n listed a w' (by simp at hwt; exact hwt.1) (by simp at hwt; exact hwt.2) (Region.free_spec ho hf) (by simpa using hr) (hy.later hw') (fun w2 hw2 => h w2 (hw'.trans hw2))
theorem late_val {o : Oper} {a : Act} {w : World} {v : Value} {K : Prop} (hw : Region.wanted o (yielded ops a.tmps) = true) (h : ∀ w', Later w w' → (execOp a.eval o).run P w' = .ok (.value v) w') (k : K) :
    LateIs P ops o v a w ∧ K := ⟨.inl ⟨hw, fun w' hl => .inl (h w' hl)⟩, k⟩
theorem late_off {o : Oper} {a : Act} {w : World} {K : Value → Prop} (hw : Region.wanted o (yielded ops a.tmps) = false) (k : K undef) :
    ∃ v, LateIs P ops o v a w ∧ K v := ⟨undef, .inr ⟨hw, rfl⟩, k⟩
theorem late_end {listed : Array Bool} {a : Act} {w : World} {n : Nat} (hr : Region.ready md ops listed = []) (h : ∀ w', Later w w' → Q .normal a w') : Late L P md ops Q n listed a w := fun w' hw' =>
  match n with
  | 0 => ⟨hr, h w' hw'⟩
  | _ + 1 => ⟨fun _ => h w' hw', fun i hi => (by rw [hr] at hi; cases hi)⟩
theorem run_load {o : Oper} {a : Act} {w : World} (x : Operand) (ho : o.op = .load 31 x) (b : Nat) (hx : a.eval x = .pointer (some ⟨b, 0, none⟩)) (p : Nat → Int) (hr : Row w b p) :
    (execOp a.eval o).run Tryz.prog w = .ok (.value (.agg (posA p))) w := by
  have hl := run_loadVar_row w b 31 31 (posA p) (0, 0) _ hr Tryz.underlying31 rfl (by rw [posA_size]; exact size31)
  unfold execOp
  simp only [ho, hx, Instr.loadAt, Instr.sureAddr, Sem.run_bind, Sem.run_pure, Result.andThen_ok, hl]
/-- One operation's step, in a shape that no unification lays open. -/
structure Wp (P : Program) (o : Oper) (a : Act) (w : World) (K : Act → World → Prop) (Q : Exit → Act → World → Prop) : Prop where
  out : Oper.wp P o a w K Q
/-- One step of whatever kind, when it is one of those that may come up. -/
def LateStep (L : Nat) (P : Program) (md : Region.Mode) (ops : Array Oper) (Q : Exit → Act → World → Prop) (n : Nat) (listed : Array Bool) (a : Act) (w : World) (i : Nat) : Prop :=
  ∀ o : Oper, ops[i]? = some o → Region.wanted o (yielded ops a.tmps) = true ∧ ∀ w', Later w w' → ∀ K : Act → World → Prop, Shut (∀ a2 w2, Later w' w2 → Late L P md ops Q n (listed.setIfInBounds i true) a2 w2 → K a2 w2) → Wp P o a w' K Q
theorem late_step {n : Nat} {listed : Array Bool} {a : Act} {w : World} {i : Nat} (hz : ((ops[i]?).isSome && i != L) = true) (h : LateStep L P md ops Q n listed a w i) {w' : World} (hw' : Later w w') :
    wpOp P ops Q i (fun a' w2 => if i = L then wpAny P md ops Q n (listed.setIfInBounds i true) a' w2 else Later w' w2 ∧ ∀ w3, Later w2 w3 → wpLate L P md ops Q n (listed.setIfInBounds i true) a' w3) a w' := by
  rw [Bool.and_eq_true, bne_iff_ne] at hz
  obtain ⟨o, ho⟩ := Option.isSome_iff_exists.1 hz.1
  obtain ⟨hw, h⟩ := h o ho
  unfold wpOp
  rw [ho]
  simp only [hw, if_true, if_neg hz.2]
  exact .inl (h w' hw' _ fun a2 w2 hl hk => ⟨hl, hk⟩).out
theorem late_one (i : Nat) {n : Nat} {listed : Array Bool} {a : Act} {w : World} (hr : Region.ready md ops listed = [i]) (hz : ((ops[i]?).isSome && i != L) = true)
    (h : LateStep L P md ops Q n listed a w i) : Late L P md ops Q (n + 1) listed a w := fun w' hw' =>
  ⟨fun h0 => (by rw [hr] at h0; cases h0), fun j hj => (by
    rw [hr] at hj
    obtain rfl : j = i := by simpa using hj
    exact late_step hz h hw')⟩
theorem late_fork (i j : Nat) {n : Nat} {listed : Array Bool} {a : Act} {w : World} (hr : Region.ready md ops listed = [i, j]) (hz : ((ops[i]?).isSome && i != L) = true) (hz' : ((ops[j]?).isSome && j != L) = true)
    (h : LateStep L P md ops Q n listed a w i) (h' : LateStep L P md ops Q n listed a w j) : Late L P md ops Q (n + 1) listed a w := fun w' hw' =>
  ⟨fun h0 => (by rw [hr] at h0; cases h0), fun k hk => (by
    rw [hr] at hk
    have hk : k = i ∨ k = j := by simpa using hk
    rcases hk with rfl | rfl
    · exact late_step hz h hw'
    · exact late_step hz' h' hw')⟩
/-- Number L, the last one. -/
theorem late_last (L : Nat) {n : Nat} {listed : Array Bool} {a : Act} {w : World} (hr : Region.ready md ops listed = [L]) (hz : (ops[L]?).isSome = true) (he : Region.ready md ops (listed.setIfInBounds L true) = [])
    (h : ∀ o : Oper, ops[L]? = some o → Region.wanted o (yielded ops a.tmps) = true ∧ ∀ w', Later w w' → ∀ K : Act → World → Prop, Shut (∀ a2 w2, Q .normal a2 w2 → K a2 w2) → Wp P o a w' K Q) : Late L P md ops Q (n + 1) listed a w := fun w' hw' =>
  ⟨fun h0 => (by rw [hr] at h0; cases h0), fun j hj => (by
    rw [hr] at hj
    obtain rfl : j = L := by simpa using hj
    obtain ⟨o, ho⟩ := Option.isSome_iff_exists.1 hz
    obtain ⟨hw, h⟩ := h o ho
    unfold wpOp
    rw [ho]
    simp only [hw, if_true]
    exact .inl (h w' hw' _ fun a2 w2 hk => any_end he hk).out)⟩
/-- Number L, and behind it whatever order is left. -/
theorem late_then (L : Nat) {n : Nat} {listed : Array Bool} {a : Act} {w : World} (hr : Region.ready md ops listed = [L]) (hz : (ops[L]?).isSome = true)
    (h : ∀ o : Oper, ops[L]? = some o → Region.wanted o (yielded ops a.tmps) = true ∧ ∀ w', Later w w' → ∀ K : Act → World → Prop, Shut (∀ a2 w2, wpAny P md ops Q n (listed.setIfInBounds L true) a2 w2 → K a2 w2) → Wp P o a w' K Q) : Late L P md ops Q (n + 1) listed a w := fun w' hw' =>
  ⟨fun h0 => (by rw [hr] at h0; cases h0), fun j hj => (by
    rw [hr] at hj
    obtain rfl : j = L := by simpa using hj
    obtain ⟨o, ho⟩ := Option.isSome_iff_exists.1 hz
    obtain ⟨hw, h⟩ := h o ho
    unfold wpOp
    rw [ho]
    simp only [hw, if_true]
    exact .inl (h w' hw' _ fun a2 w2 hk => hk).out)⟩
/-- The one operation that is ready, in whatever order is left. -/
theorem any_one (i : Nat) {n : Nat} {listed : Array Bool} {a : Act} {w : World} (hr : Region.ready md ops listed = [i]) (hz : (ops[i]?).isSome = true)
    (h : ∀ o : Oper, ops[i]? = some o → Region.wanted o (yielded ops a.tmps) = true ∧ ∀ K : Act → World → Prop, Shut (∀ a2 w2, wpAny P md ops Q n (listed.setIfInBounds i true) a2 w2 → K a2 w2) → Wp P o a w K Q) : wpAny P md ops Q (n + 1) listed a w :=
  ⟨fun h0 => (by rw [hr] at h0; cases h0), fun j hj => (by
    rw [hr] at hj
    obtain rfl : j = i := by simpa using hj
    obtain ⟨o, ho⟩ := Option.isSome_iff_exists.1 hz
    obtain ⟨hw, h⟩ := h o ho
    unfold wpOp
    rw [ho]
    simp only [hw, if_true]
    exact .inl (h _ fun a2 w2 hk => hk).out)⟩
theorem wp_value {o : Oper} {a : Act} {w : World} {K : Act → World → Prop} {v : Value} (hrun : (execOp a.eval o).run P w = .ok (.value v) w) (h : K (a.put o.dst v) w) : Wp P o a w K Q := ⟨by
  unfold Oper.wp
  rw [hrun]
  exact h⟩
theorem wp_enter {o : Oper} {a : Act} {w : World} {K : Act → World → Prop} (f : FuncId) (args : Array Value) (he : (execOp a.eval o).run P w = .ok (.enter f args) w)
    (h : Calls P f args w (fun e w' => ∃ v, e = .returned v ∧ K (a.put o.dst v) w')) : Wp P o a w K Q := ⟨by
  unfold Oper.wp
  rw [he]
  exact h.mono fun e w' ⟨v, hv, hk⟩ => by subst hv; exact hk⟩
theorem late_whole {o : Oper} {a : Act} {w : World} {K : Act → World → Prop} (x y : Operand) (ho : o.op = .store 31 x y) (b : Nat) (hx : a.eval x = .pointer (some ⟨b, 0, none⟩)) (p q : Nat → Int) (hy : a.eval y = .agg (posA q)) (hr : Row w b p)
    (h : ∀ w', Upd b w w' → Row w' b q → K (a.put o.dst undef) w') : Wp Tryz.prog o a w K Q :=
  ⟨wp_store_mid 31 x y ho b 0 (posA q) hx hy (by rw [posA_size]; exact hr.there 0 88 (by omega)) (by rw [posA_size]; exact size31) (posA_one q) (h _ (Upd.setCells _ _ _ _) hr.whole)⟩
theorem late_alloc {o : Oper} {a : Act} {w : World} {K : Act → World → Prop} (ho : o.op = .alloc 31) (h : ∀ b w', New b w w' → Row w' b zeroP → K (a.put o.dst (.pointer (some ⟨b, 0, none⟩))) w') : Wp Tryz.prog o a w K Q := ⟨by
  have hk := h _ _ (New.alloc w _) (heap_alloc_new w (.cells (posA zeroP) 31))
  have hz : ∀ w, (zeroValue 31).run Tryz.prog w = .ok (.agg (posA zeroP)) w := fun w => by
    cases hq : Tryz.prog.info? 31 with
    | none => have := info31; simp [hq] at this
    | some i => have := info31; simp [hq] at this; simp [zeroValue, typeInfo, hq, this.1]
  unfold Oper.wp execOp
  simp only [ho, Instr.alloc, Sem.run_bind, Sem.run_pure, Result.andThen_ok, hz]
  exact hk⟩
end
end Go.Proofs.YtjbfjohgfbipgaaGreatDoor
/-
  More of XLater's moves: blocks of any type, cells, arrays.
-/
namespace Go.Proofs.YtjbfjohgfbipgaaGreatDoor
open Go.RowKit
set_option linter.unusedVariables false
theorem run_blk {o : Oper} {a : Act} {w : World} (T : TypeId) (x : Operand) (ho : o.op = .load T x) (b : Nat) (hx : a.eval x = .pointer (some ⟨b, 0, none⟩)) (cs : Array Value) (hr : Blk w b T cs)
    (d : TypeDesc) (hu : Tryz.prog.underlying T = some d) (hd : d.isRow = true) (hi : (Tryz.prog.info? T).map (·.size) = some cs.size) : (execOp a.eval o).run Tryz.prog w = .ok (.value (.agg cs)) w := by
  have hl := run_loadVar_row w b T T cs (0, 0) d hr hu (by cases d <;> first | rfl | cases hd) hi
  unfold execOp
  simp only [ho, hx, Instr.loadAt, Instr.sureAddr, Sem.run_bind, Sem.run_pure, Result.andThen_ok, hl]
theorem run_get {o : Oper} {a : Act} {w : World} (T : TypeId) (x : Operand) (ho : o.op = .load T x) (b i : Nat) (hx : a.eval x = .pointer (some ⟨b, i, none⟩)) {d : TypeDesc} (hu : Tryz.prog.underlying T = some d) (hd : d.isRow = false)
    (v : Value) (hc : w.cell? ⟨b, i, none⟩ = some v) : (execOp a.eval o).run Tryz.prog w = .ok (.value v) w := by
  have ha := isAgg_no hu hd w
  have hl : (loadVar T ⟨b, i, none⟩).run Tryz.prog w = .ok v w := by simp [loadVar, ha, hc, go_sem]
  unfold execOp
  simp only [ho, hx, Instr.loadAt, Instr.sureAddr, Sem.run_bind, Sem.run_pure, Result.andThen_ok, hl]
theorem late_arr {o : Oper} {a : Act} {w : World} {K : Act → World → Prop} {Q : Exit → Act → World → Prop} (T : TypeId) (x y : Operand) (ho : o.op = .store T x y) (b : Nat) (hx : a.eval x = .pointer (some ⟨b, 0, none⟩)) (n : Nat) (k : IntKind) (p q : Nat → Int) (hy : a.eval y = .agg (arrA n k q)) (hr : Blk w b T (arrA n k p))
    (hi : (Tryz.prog.info? T).map (·.size) = some n)
    (h : ∀ w', Upd b w w' → Blk w' b T (arrA n k q) → K (a.put o.dst undef) w') : Wp Tryz.prog o a w K Q :=
  ⟨wp_store_mid T x y ho b 0 (arrA n k q) hx hy (hr.there 0 _ (by rw [arrA_size, arrA_size]; omega)) (by rw [arrA_size]; exact hi) (arrA_one _ _ _) (h _ (Upd.setCells _ _ _ _) (hr.whole (by rw [arrA_size, arrA_size])))⟩
end Go.Proofs.YtjbfjohgfbipgaaGreatDoor
