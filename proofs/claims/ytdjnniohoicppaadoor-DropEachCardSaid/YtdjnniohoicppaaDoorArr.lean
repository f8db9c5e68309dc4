/-
  Blocks of any type as the cells in which they lie, and arrays of integers as functions from places: loads and stores, whole and of one cell, each behind a law of one step.
-/
import Derived.Test.YtdjnniohoicppaaDoorAtBase
namespace Go.Proofs.YtdjnniohoicppaaDoor
open Go.RowKit
set_option linter.unusedVariables false

/-- The block b holds these cells. -/
def Blk (w : World) (b : Nat) (T : TypeId) (cs : Array Value) : Prop := w.heap[b]? = some (.cells cs T (0, 0))
section
variable {w w' : World} {b c : Nat} {T : TypeId} {cs : Array Value}
theorem Blk.lt (h : Blk w b T cs) : b < w.heap.size := (Array.getElem?_eq_some_iff.1 h).1
theorem Blk.next {B : Nat} (h : Blk w b T cs) (hb : Below B w w') (hB : b < B) : Blk w' b T cs := (hb.block b hB).trans h
theorem Blk.later (h : Blk w b T cs) (hb : Below w.heap.size w w') : Blk w' b T cs := h.next hb h.lt
theorem Blk.apart (h : Blk w b T cs) (hu : Upd c w w') (hc : b ≠ c) : Blk w' b T cs := (hu.block b hc).trans h
theorem Blk.cell (h : Blk w b T cs) (i : Nat) : w.cell? ⟨b, i, none⟩ = cs[i]? := cell_of_row w b i _ _ _ h
theorem Blk.frozen (h : Blk w b T cs) (i : Nat) : w.frozen? ⟨b, i, none⟩ = false := frozen_of_row w b i _ _ h
theorem Blk.there (h : Blk w b T cs) (o n : Nat) (hn : o + n ≤ cs.size) : w.there b o n := fun j hj =>
  ⟨by rw [h.cell]; simp [show o + j < cs.size by omega], h.frozen _⟩
theorem Blk.set (h : Blk w b T cs) (i : Nat) (v : Value) : Blk (w.setCell ⟨b, i, none⟩ v) b T (cs.setIfInBounds i v) := heap_setCell_same w b i _ _ v h
end
def putsA : List Value → Nat → Array Value → Array Value
  | [], _, cs => cs
  | v :: r, o, cs => putsA r (o + 1) (cs.setIfInBounds o v)
theorem putsA_size : ∀ (vs : List Value) (o : Nat) (cs : Array Value), (putsA vs o cs).size = cs.size
  | [], _, _ => rfl
  | v :: r, o, cs => by unfold putsA; rw [putsA_size r]; simp
theorem putsA_get : ∀ (vs : List Value) (o : Nat) (cs : Array Value) (i : Nat), o + vs.length ≤ cs.size → (putsA vs o cs)[i]? = if o ≤ i ∧ i < o + vs.length then vs[i - o]? else cs[i]?
  | [], o, cs, i, _ => by unfold putsA; rw [if_neg (by simp)]
  | v :: r, o, cs, i, h => by
    simp only [List.length_cons] at h
    unfold putsA
    rw [putsA_get r (o + 1) _ i (by simp; omega)]
    by_cases e : i = o
    · subst e
      rw [if_neg (by omega), if_pos (by simp), Array.getElem?_setIfInBounds]
      simp [show i < cs.size by omega]
    · by_cases g : o + 1 ≤ i ∧ i < o + 1 + r.length
      · rw [if_pos g, if_pos (by simp; omega), show i - o = (i - (o + 1)) + 1 by omega]; rfl
      · rw [if_neg g, if_neg (by simp; omega), Array.getElem?_setIfInBounds, if_neg (Ne.symm e)]
theorem Blk.sets {b : Nat} {T : TypeId} : ∀ (vs : List Value) (o : Nat) (w : World) (cs : Array Value), Blk w b T cs → Blk (w.setCells b o vs) b T (putsA vs o cs)
  | [], _, _, _, h => h
  | v :: r, o, w, cs, h => Blk.sets r (o + 1) _ _ (h.set o v)
theorem Blk.whole {w : World} {b : Nat} {T : TypeId} {cs ds : Array Value} (h : Blk w b T cs) (hs : ds.size = cs.size) : Blk (w.setCells b 0 ds.toList) b T ds := by
  have := Blk.sets ds.toList 0 w cs h
  have e : putsA ds.toList 0 cs = ds := by
    apply Array.ext_getElem?
    intro i
    rw [putsA_get _ _ _ _ (by simp; omega)]
    by_cases hi : i < ds.size
    · rw [if_pos (by simp [hi])]; simp
    · rw [if_neg (by simp; omega), Array.getElem?_eq_none (by omega), Array.getElem?_eq_none (by omega)]
  rwa [e] at this
section laws
variable {ops : Array Oper} {rest : List Oper} {op : Oper} {a : Act} {w : World} {Q : Exit → Act → World → Prop}
theorem blk_load (hw : Region.wanted op (yielded ops a.tmps) = true) (T : TypeId) (x : Operand) (ho : op.op = .load T x) (b : Nat) (hx : a.eval x = .pointer (some ⟨b, 0, none⟩)) (cs : Array Value) (hr : Blk w b T cs)
    (d : TypeDesc) (hu : Tryd.prog.underlying T = some d) (hd : d.isRow = true) (hi : (Tryd.prog.info? T).map (·.size) = some cs.size)
    (h : wpList Tryd.prog ops Q rest (a.put op.dst (.agg cs)) w) : wpList Tryd.prog ops Q (op :: rest) a w :=
  wpList_want hw fun _ hK => wp_load_row T x ho b hx T cs (0, 0) d hr hu (by cases d <;> first | rfl | cases hd) hi (hK _ _ h)
theorem blk_store (hw : Region.wanted op (yielded ops a.tmps) = true) (T : TypeId) (x y : Operand) (ho : op.op = .store T x y) (b : Nat) (hx : a.eval x = .pointer (some ⟨b, 0, none⟩)) (cs ds : Array Value) (hy : a.eval y = .agg ds) (hr : Blk w b T cs)
    (hs : ds.size = cs.size) (h1 : ds.all (·.oneCell') = true) (hi : (Tryd.prog.info? T).map (·.size) = some ds.size)
    (h : ∀ w', Upd b w w' → Blk w' b T ds → wpList Tryd.prog ops Q rest (a.put op.dst undef) w') : wpList Tryd.prog ops Q (op :: rest) a w :=
  wpList_want hw fun _ hK => wp_store_mid T x y ho b 0 ds hx hy (hr.there 0 ds.size (by omega)) hi h1 (hK _ _ (h _ (Upd.setCells _ _ _ _) (hr.whole hs)))
theorem blk_alloc (hw : Region.wanted op (yielded ops a.tmps) = true) (T : TypeId) (ho : op.op = .alloc T) (zs : Array Value) (hz : (Tryd.prog.info? T).map (fun i => (i.zero, i.size)) = some (some (.agg zs), zs.size))
    (h : ∀ b w', New b w w' → Blk w' b T zs → wpList Tryd.prog ops Q rest (a.put op.dst (.pointer (some ⟨b, 0, none⟩))) w') : wpList Tryd.prog ops Q (op :: rest) a w :=
  wpList_want hw fun K hK => by
    have hk := hK _ _ (h _ _ (New.alloc w _) (heap_alloc_new w (.cells zs T)))
    have hzr : ∀ w, (zeroValue T).run Tryd.prog w = .ok (.agg zs) w := fun w => by
      cases hq : Tryd.prog.info? T with
      | none => simp [hq] at hz
      | some i => simp [hq] at hz; simp [zeroValue, typeInfo, hq, hz.1]
    unfold Oper.wp execOp
    simp only [ho, Instr.alloc, Sem.run_bind, Sem.run_pure, Result.andThen_ok, hzr]
    exact hk
theorem blk_box (hw : Region.wanted op (yielded ops a.tmps) = true) (T : TypeId) (x : Operand) (ho : op.op = .box T x) (cs : Array Value) (hx : a.eval x = .agg cs)
    (h : ∀ b w', New b w w' → Blk w' b T cs → wpList Tryd.prog ops Q rest (a.put op.dst (.pointer (some ⟨b, 0, none⟩))) w') : wpList Tryd.prog ops Q (op :: rest) a w :=
  wpList_want hw fun K hK => by
    have hk := hK _ _ (h _ _ (New.alloc w _) (heap_alloc_new w (.cells cs T)))
    unfold Oper.wp execOp
    simp only [ho, hx, Instr.box, Sem.run_bind, Sem.run_pure]
    exact hk
theorem blk_cell (hw : Region.wanted op (yielded ops a.tmps) = true) (ty : TypeId) (x y : Operand) (ho : op.op = .store ty x y) (b i : Nat) (hx : a.eval x = .pointer (some ⟨b, i, none⟩)) (K : IntKind) (v : Int) (hy : a.eval y = .int K v)
    (T : TypeId) (cs : Array Value) (hr : Blk w b T cs) (hi : i < cs.size) (hs : (Tryd.prog.info? ty).map (·.size) = some 1)
    (h : ∀ w', Upd b w w' → Blk w' b T (cs.setIfInBounds i (.int K v)) → wpList Tryd.prog ops Q rest (a.put op.dst undef) w') : wpList Tryd.prog ops Q (op :: rest) a w :=
  wpList_want hw fun K' hK' => by
    have hk := hK' _ _ (h _ (Upd.setCell w b i (.int K v)) (hr.set i _))
    have hrun : (storeVar ty ⟨b, i, none⟩ (.int K v)).run Tryd.prog w = .ok () (w.setCell ⟨b, i, none⟩ (.int K v)) :=
      run_storeVar_mid w b i ty #[.int K v] (hr.there i 1 (by omega)) hs (by simp [Value.oneCell'])
    unfold Oper.wp execOp
    simp only [ho, hx, hy, Instr.storeAt, Instr.sureAddr, Sem.run_bind, Sem.run_pure, Result.andThen_ok, hrun]
    exact hk
end laws

/-! Arrays of integers. -/
def arrA (n : Nat) (K : IntKind) (p : Nat → Int) : Array Value := Array.ofFn (n := n) fun i => .int K (p i.val)
theorem arrA_size (n : Nat) (K : IntKind) (p : Nat → Int) : (arrA n K p).size = n := by simp [arrA]
theorem arrA_get (n : Nat) (K : IntKind) (p : Nat → Int) (i : Nat) (h : i < n) : (arrA n K p)[i]? = some (.int K (p i)) := by simp [arrA, h]
theorem arrA_ext {n : Nat} {K : IntKind} {p q : Nat → Int} (h : ∀ i, i < n → p i = q i) : arrA n K p = arrA n K q := by
  apply Array.ext_getElem?
  intro i
  by_cases hi : i < n
  · rw [arrA_get _ _ _ _ hi, arrA_get _ _ _ _ hi, h i hi]
  · rw [Array.getElem?_eq_none (by rw [arrA_size]; omega), Array.getElem?_eq_none (by rw [arrA_size]; omega)]
theorem arrA_set (n : Nat) (K : IntKind) (p : Nat → Int) (i : Nat) (v : Int) (h : i < n) : (arrA n K p).setIfInBounds i (.int K v) = arrA n K (upd p i v) := by
  apply Array.ext_getElem?
  intro j
  rw [Array.getElem?_setIfInBounds]
  by_cases hj : j < n
  · rw [arrA_get _ _ _ _ hj, arrA_get _ _ _ _ hj]
    by_cases e : i = j
    · subst e; simp [arrA_size, h, upd_same]
    · simp [e, upd_other p i j v (Ne.symm e)]
  · rw [Array.getElem?_eq_none (by rw [arrA_size]; omega), Array.getElem?_eq_none (by rw [arrA_size]; omega)]
    simp [arrA_size]; omega
theorem arrA_one (n : Nat) (K : IntKind) (p : Nat → Int) : (arrA n K p).all (·.oneCell') = true := by
  rw [Array.all_eq_true_iff_forall_mem]
  intro v hv
  obtain ⟨i, hi, rfl⟩ := Array.mem_iff_getElem.1 hv
  have := arrA_get n K p i (by rwa [arrA_size] at hi)
  rw [Array.getElem?_eq_getElem hi] at this
  rw [Option.some.inj this]; rfl
theorem Blk.at {w : World} {b n : Nat} {T : TypeId} {K : IntKind} {p : Nat → Int} (h : Blk w b T (arrA n K p)) (i : Nat) (hi : i < n) : w.cell? ⟨b, i, none⟩ = some (.int K (p i)) := by
  rw [h.cell, arrA_get _ _ _ _ hi]
section laws
variable {ops : Array Oper} {rest : List Oper} {op : Oper} {a : Act} {w : World} {Q : Exit → Act → World → Prop}
theorem arr_load (hw : Region.wanted op (yielded ops a.tmps) = true) (T : TypeId) (x : Operand) (ho : op.op = .load T x) (b : Nat) (hx : a.eval x = .pointer (some ⟨b, 0, none⟩)) (n : Nat) (K : IntKind) (p : Nat → Int) (hr : Blk w b T (arrA n K p))
    (d : TypeDesc) (hu : Tryd.prog.underlying T = some d) (hd : d.isRow = true) (hi : (Tryd.prog.info? T).map (·.size) = some n)
    (h : wpList Tryd.prog ops Q rest (a.put op.dst (.agg (arrA n K p))) w) : wpList Tryd.prog ops Q (op :: rest) a w :=
  blk_load hw T x ho b hx _ hr d hu hd (by rw [arrA_size]; exact hi) h
theorem arr_store (hw : Region.wanted op (yielded ops a.tmps) = true) (T : TypeId) (x y : Operand) (ho : op.op = .store T x y) (b : Nat) (hx : a.eval x = .pointer (some ⟨b, 0, none⟩)) (n : Nat) (K : IntKind) (p q : Nat → Int) (hy : a.eval y = .agg (arrA n K q)) (hr : Blk w b T (arrA n K p))
    (hi : (Tryd.prog.info? T).map (·.size) = some n)
    (h : ∀ w', Upd b w w' → Blk w' b T (arrA n K q) → wpList Tryd.prog ops Q rest (a.put op.dst undef) w') : wpList Tryd.prog ops Q (op :: rest) a w :=
  blk_store hw T x y ho b hx _ _ hy hr (by rw [arrA_size, arrA_size]) (arrA_one _ _ _) (by rw [arrA_size]; exact hi) h
theorem arr_alloc (hw : Region.wanted op (yielded ops a.tmps) = true) (T : TypeId) (ho : op.op = .alloc T) (n : Nat) (K : IntKind) (hz : (Tryd.prog.info? T).map (fun i => (i.zero, i.size)) = some (some (.agg (arrA n K zeroP)), n))
    (h : ∀ b w', New b w w' → Blk w' b T (arrA n K zeroP) → wpList Tryd.prog ops Q rest (a.put op.dst (.pointer (some ⟨b, 0, none⟩))) w') : wpList Tryd.prog ops Q (op :: rest) a w :=
  blk_alloc hw T ho _ (by rw [hz, arrA_size]) h
theorem arr_cell (hw : Region.wanted op (yielded ops a.tmps) = true) (ty : TypeId) (x y : Operand) (ho : op.op = .store ty x y) (b i : Nat) (hx : a.eval x = .pointer (some ⟨b, i, none⟩)) (K : IntKind) (v : Int) (hy : a.eval y = .int K v)
    (T : TypeId) (n : Nat) (p : Nat → Int) (hr : Blk w b T (arrA n K p)) (hi : i < n) (hs : (Tryd.prog.info? ty).map (·.size) = some 1)
    (h : ∀ w', Upd b w w' → Blk w' b T (arrA n K (upd p i v)) → wpList Tryd.prog ops Q rest (a.put op.dst undef) w') : wpList Tryd.prog ops Q (op :: rest) a w :=
  blk_cell hw ty x y ho b i hx K v hy T _ hr (by rw [arrA_size]; exact hi) hs (by rw [arrA_set _ _ _ _ _ hi]; exact h)
theorem run_at {T e : TypeId} {n : Nat} {K : IntKind} {p : Nat → Int} (hu : Tryd.prog.underlying T = some (.array n e)) (he : Tryd.prog.underlying e = some (.int K)) (hs : (Tryd.prog.info? e).map (·.size) = some 1) (k : Nat) (hk : k < n) (w : World) :
    (Instr.index T (.agg (arrA n K p)) (.int .i64 (k : Int))).run Tryd.prog w = .ok (.int K (p k)) w := by
  have ha : ∀ w, (isAgg e).run Tryd.prog w = .ok false w := fun w => by
    unfold isAgg; rw [Sem.run_bind, run_underlying he w]; simp
  have hz : ∀ w, (sizeOf e).run Tryd.prog w = .ok 1 w := fun w => by
    cases hq : Tryd.prog.info? e with
    | none => simp [hq] at hs
    | some i => simp [hq] at hs; simp [sizeOf, typeInfo, hq, hs]
  have h0 : (0 : Int) ≤ (k : Int) ∧ (k : Int) < (n : Int) := by omega
  simp only [Instr.index, asIntOf, Sem.run_bind, Sem.run_pure, Result.andThen_ok, run_underlying hu, h0, and_self, if_true, hz, part, ha, Int.toNat_natCast, Nat.mul_one, arrA_get _ _ _ _ hk, Bool.false_eq_true, if_false]
theorem arr_index (hw : Region.wanted op (yielded ops a.tmps) = true) (T e : TypeId) (x y : Operand) (ho : op.op = .index T x y) (n : Nat) (K : IntKind) (p : Nat → Int) (hx : a.eval x = .agg (arrA n K p)) (k : Nat) (hy : a.eval y = .int .i64 (k : Int)) (hk : k < n)
    (hu : Tryd.prog.underlying T = some (.array n e)) (he : Tryd.prog.underlying e = some (.int K)) (hs : (Tryd.prog.info? e).map (·.size) = some 1)
    (h : wpList Tryd.prog ops Q rest (a.put op.dst (.int K (p k))) w) : wpList Tryd.prog ops Q (op :: rest) a w :=
  wpList_want hw fun K' hK' => by
    have hk' := hK' _ _ h
    unfold Oper.wp execOp
    simp only [ho, hx, hy, Sem.run_bind, run_at hu he hs k hk w]
    exact hk'
theorem isAgg_no {t : TypeId} {d : TypeDesc} (hu : Tryd.prog.underlying t = some d) (hd : d.isRow = false) (w : World) : (isAgg t).run Tryd.prog w = .ok false w := by
  unfold isAgg; rw [Sem.run_bind, run_underlying hu w]; cases d <;> first | rfl | cases hd
theorem isAgg_yes {t : TypeId} {d : TypeDesc} (hu : Tryd.prog.underlying t = some d) (hd : d.isRow = true) (w : World) : (isAgg t).run Tryd.prog w = .ok true w := by
  unfold isAgg; rw [Sem.run_bind, run_underlying hu w]; cases d <;> first | rfl | cases hd
theorem sizeOf_is {t : TypeId} {n : Nat} (hs : (Tryd.prog.info? t).map (·.size) = some n) (w : World) : (sizeOf t).run Tryd.prog w = .ok n w := by
  cases hq : Tryd.prog.info? t with
  | none => simp [hq] at hs
  | some i => simp [hq] at hs; simp [sizeOf, typeInfo, hq, hs]
theorem step_field (hw : Region.wanted op (yielded ops a.tmps) = true) (T : TypeId) (x : Operand) (i : Nat) (ho : op.op = .field T x i) (cs : Array Value) (hx : a.eval x = .agg cs) {fs : Array Field} (hu : Tryd.prog.underlying T = some (.struct fs))
    {f : Field} (hf : fs[i]? = some f) {d : TypeDesc} (he : Tryd.prog.underlying f.type = some d) (hd : d.isRow = false) (v : Value) (hv : cs[f.offset]? = some v)
    (h : wpList Tryd.prog ops Q rest (a.put op.dst v) w) : wpList Tryd.prog ops Q (op :: rest) a w :=
  wpList_want hw fun K' hK' => by
    have hk' := hK' _ _ h
    unfold Oper.wp execOp
    simp only [ho, hx, Instr.field, asAgg, Sem.run_bind, Sem.run_pure, Result.andThen_ok, run_underlying hu, hf, part, isAgg_no he hd, hv, Bool.false_eq_true, if_false]
    exact hk'
theorem step_fieldA (hw : Region.wanted op (yielded ops a.tmps) = true) (T : TypeId) (x : Operand) (i : Nat) (ho : op.op = .field T x i) (cs : Array Value) (hx : a.eval x = .agg cs) {fs : Array Field} (hu : Tryd.prog.underlying T = some (.struct fs))
    {f : Field} (hf : fs[i]? = some f) {d : TypeDesc} (he : Tryd.prog.underlying f.type = some d) (hd : d.isRow = true) (n : Nat) (hs : (Tryd.prog.info? f.type).map (·.size) = some n)
    (ds : Array Value) (hv : cs.extract f.offset (f.offset + n) = ds)
    (h : wpList Tryd.prog ops Q rest (a.put op.dst (.agg ds)) w) : wpList Tryd.prog ops Q (op :: rest) a w :=
  wpList_want hw fun K' hK' => by
    have hk' := hK' _ _ h
    unfold Oper.wp execOp
    simp only [ho, hx, Instr.field, asAgg, Sem.run_bind, Sem.run_pure, Result.andThen_ok, run_underlying hu, hf, part, isAgg_yes he hd, sizeOf_is hs, hv, if_true]
    exact hk'
theorem step_index (hw : Region.wanted op (yielded ops a.tmps) = true) (T e : TypeId) (x y : Operand) (ho : op.op = .index T x y) (n : Nat) (cs : Array Value) (hx : a.eval x = .agg cs) (K : IntKind) (k : Nat) (hy : a.eval y = .int K (k : Int)) (hk : k < n)
    (hu : Tryd.prog.underlying T = some (.array n e)) {d : TypeDesc} (he : Tryd.prog.underlying e = some d) (hd : d.isRow = false) (hs : (Tryd.prog.info? e).map (·.size) = some 1) (v : Value) (hv : cs[k]? = some v)
    (h : wpList Tryd.prog ops Q rest (a.put op.dst v) w) : wpList Tryd.prog ops Q (op :: rest) a w :=
  wpList_want hw fun K' hK' => by
    have hk' := hK' _ _ h
    have h0 : (0 : Int) ≤ (k : Int) ∧ (k : Int) < (n : Int) := by omega
    unfold Oper.wp execOp
    simp only [ho, hx, hy, Instr.index, asIntOf, Sem.run_bind, Sem.run_pure, Result.andThen_ok, run_underlying hu, h0, and_self, if_true, sizeOf_is hs, part, isAgg_no he hd, Int.toNat_natCast, Nat.mul_one, hv, Bool.false_eq_true, if_false]
    exact hk'
theorem step_indexA (hw : Region.wanted op (yielded ops a.tmps) = true) (T e : TypeId) (x y : Operand) (ho : op.op = .index T x y) (n m : Nat) (cs : Array Value) (hx : a.eval x = .agg cs) (K : IntKind) (k : Nat) (hy : a.eval y = .int K (k : Int)) (hk : k < n)
    (hu : Tryd.prog.underlying T = some (.array n e)) {d : TypeDesc} (he : Tryd.prog.underlying e = some d) (hd : d.isRow = true) (hs : (Tryd.prog.info? e).map (·.size) = some m) (ds : Array Value) (hv : cs.extract (k * m) (k * m + m) = ds)
    (h : wpList Tryd.prog ops Q rest (a.put op.dst (.agg ds)) w) : wpList Tryd.prog ops Q (op :: rest) a w :=
  wpList_want hw fun K' hK' => by
    have hk' := hK' _ _ h
    have h0 : (0 : Int) ≤ (k : Int) ∧ (k : Int) < (n : Int) := by omega
    unfold Oper.wp execOp
    simp only [ho, hx, hy, Instr.index, asIntOf, Sem.run_bind, Sem.run_pure, Result.andThen_ok, run_underlying hu, h0, and_self, if_true, sizeOf_is hs, part, isAgg_yes he hd, Int.toNat_natCast, hv, if_true]
    exact hk'
theorem step_get (hw : Region.wanted op (yielded ops a.tmps) = true) (T : TypeId) (x : Operand) (ho : op.op = .load T x) (b o : Nat) (hx : a.eval x = .pointer (some ⟨b, o, none⟩)) {d : TypeDesc} (hu : Tryd.prog.underlying T = some d) (hd : d.isRow = false)
    (v : Value) (hc : w.cell? ⟨b, o, none⟩ = some v) (h : wpList Tryd.prog ops Q rest (a.put op.dst v) w) : wpList Tryd.prog ops Q (op :: rest) a w :=
  wpList_want hw fun K' hK' => by
    have hk' := hK' _ _ h
    have ha := isAgg_no hu hd w
    have hl : (loadVar T ⟨b, o, none⟩).run Tryd.prog w = .ok v w := by simp [loadVar, ha, hc, go_sem]
    unfold Oper.wp execOp
    simp only [ho, hx, Instr.loadAt, Instr.sureAddr, Sem.run_bind, Sem.run_pure, Result.andThen_ok, hl]
    exact hk'
theorem step_build (hw : Region.wanted op (yielded ops a.tmps) = true) (T : TypeId) (parts : Array (Nat × Operand)) (ho : op.op = .build T parts) (cs : Array Value) (hb : Tryd.prog.built T (parts.map fun (i, x) => (i, a.eval x)).toList = some cs)
    (h : wpList Tryd.prog ops Q rest (a.put op.dst (.agg cs)) w) : wpList Tryd.prog ops Q (op :: rest) a w :=
  wpList_want hw fun K' hK' => by
    have hk' := hK' _ _ h
    unfold Oper.wp execOp
    simp only [ho, Sem.run_bind, run_build w T _ cs hb, Result.andThen_ok]
    exact hk'
end laws
end Go.Proofs.YtdjnniohoicppaaDoor
