/-
 Contracts of the program's By and On: ranges over the iterator of 'attacking'.
-/
import Derived.Test.YtidgfadbdgheiaaGreatDoorAtAtt
namespace Go.Proofs.YtidgfadbdgheiaaGreatDoor
open Go.RowKit Go.Shelf
set_option linter.unusedVariables false
attribute [local go_sem] Oper.semAt_some

theorem stepIn2 {n : Nat} {P : Program} {ops : Array Oper} {Q : Exit → Act → World → Prop} {rest : List Oper} {o : Oper} {a : Act} {w w' : World} {v : Value} (hg : o.guard = none) (hr : (execOp a.eval o).run P w = .ok (.value v) w')
  (h : wpListIn Fence.wide n P ops Q rest (a.put o.dst v) w') : wpListIn Fence.wide n P ops Q (o :: rest) a w :=
 wpListIn_plain hg fun K hK => ⟨fun _ _ => trivial, by
  show o.uponIn Fence.wide n P a K Q ((execOp a.eval o).run P w)
  rw [hr]; exact hK _ _ h⟩
theorem run_boxP {o : Oper} {a : Act} {w : World} (x : Operand) (ho : o.op = .box 31 x) (p : Nat → Int) (hx : a.eval x = .agg (posA p)) :
  (execOp a.eval o).run Tryz.prog w = .ok (.value (.pointer (some ⟨w.heap.size, 0, none⟩))) (w.alloc (.cells (posA p) 31)) := by
 unfold execOp
 simp only [ho, hx, Instr.box, Sem.run_bind, Sem.run_pure]
 rfl
theorem boxed_kept {w w' : World} {X : Nat → Prop} {b : Nat} {t : TypeId} {v : Value} (h : Boxed w b t v) (k : Kept X w w') (hx : ¬ X b) : Boxed w' b t v := k.obj (show w.heap[b]? = _ from h) hx

set_option maxRecDepth 100000 in
set_option maxHeartbeats 2000000 in
theorem by_in (p : Nat → Int) (s c : Int) (w : World) (hp : BdR p) (hc : 0 ≤ c) (hD : TabDb w) (hL : TabLead w) : CallsIn Fence.wide 7 Tryz.prog 127 #[.agg (posA p), .int .i64 s, .int .u8 c] w (U64L (byN p s c) w) := by
 have HP := Lib.hid hp
 have HD := Lib.hid hD
 have HL := Lib.hid hL
 clear hp hD hL
 refine callsIn_of_wp_marks Tryz.func127 rfl trivial ?_ rfl
 simp only [Tryz.ntmps127, List.size_toArray, List.length_cons, List.length_nil, Nat.reduceAdd, Nat.reduceSub, Array.replicate_succ, Array.replicate_zero, List.push_toArray, List.append_toArray, List.nil_append, List.cons_append]
 have HR := Lib.hid (row_old (row_new w p) (.cells #[.int .u64 0] 23))
 gi_wp2_with (first
  | (refine stepIn2 rfl (run_boxP _ rfl p rfl) ?_)
  | (refine stepIn rfl (run_load _ rfl _ rfl p HR.out) ?_)
  | (refine ⟨trivial, ?_⟩; gi_at_call 156; refine (callsIn_wide.2 (attacking_any p s c _)).mono ?_; rintro e w2 ⟨b, hb0, rfl, hb, hrow, hs, hcol⟩))
 obtain ⟨w1, hw1⟩ : ∃ w1, w1 = (w.alloc (.cells (posA p) 31)).alloc (.cells #[.int .u64 0] 23) := ⟨_, rfl⟩
 have hx1 : Boxed w1 (w.heap.size + 1) 23 (.int .u64 ((putL [] : Nat) : Int)) := by rw [hw1, ← size_new w (.cells (posA p) 31)]; exact Boxed.new _ _ _
 have hs1 : w1.heap.size = w.heap.size + 2 := by rw [hw1, size_new, size_new]
 have hb1 : Below w.heap.size w w1 := by rw [hw1]; exact below_on (box_below _ _) (box_below _ _)
 rw [← hw1] at hb hb0
 clear hw1
 have hb2 := below_on hb1 hb
 have hx2 : Boxed w2 (w.heap.size + 1) 23 (.int .u64 ((putL [] : Nat) : Int)) := boxed_kept hx1 (Kept.of_call (fun _ => False) hb) id
 have hA : AttIn p s c b (b + 2) (b + 1) w2 := ⟨hrow, hcol, hs, HD.out.next hb2, HL.out.next hb2⟩
 have l1 := HD.out.lt
 have l2 := HL.out.lt
 have l3 := hb.size
 have HS := Lib.hid (show w.heap.size + 2 ≤ w2.heap.size by omega)
 have hA' := att_seq 6 b (b + 2) (b + 1) (by omega) p s c (· = w.heap.size + 1) w2 HP.out hc hA ⟨by omega, by omega, by omega, by omega, by omega⟩ (fun k e => by omega)
 clear hA HR hrow hs hcol hb hb0 hx1 hs1 hb1 l1 l2 l3
 have HB2 := Lib.hid hb2
 refine range_kept (n := 7) rfl (enters_of Tryz.func172 (by kernel_rfl) rfl) (· = w.heap.size + 1) (fun k e => by have := HS.out; omega) (attL p s c 7) hA'
  (fun pre A => Boxed A (w.heap.size + 1) 23 (.int .u64 ((putL pre : Nat) : Int)) ∧ Below w.heap.size w A) (fun _ _ => False) ?hI (fun _ _ _ h _ => h) ⟨hx2, hb2⟩
  (fun x => { tmps := #[.agg (posA p), .int .i64 s, .int .u8 c, .pointer (some ⟨w.heap.size, 0, none⟩), undef, undef, .int .u64 0, .pointer (some ⟨w.heap.size + 1, 0, none⟩), .int .i64 (x : Int), .agg (posA p), .int .i64 s, .int .u8 c, .func (.func 172) #[] #[.pointer (some ⟨b, 0, none⟩), .pointer (some ⟨b + 2, 0, none⟩), .pointer (some ⟨b + 1, 0, none⟩)], .int .i64 (x : Int), undef, undef, undef, undef], defers := [] }) ?assign ?body ?done ?stop
 case hI => exact fun q A A' h k => ⟨boxed_kept h.1 k (by have := HS.out; omega), h.2.trans (k.below (fun i hi => by have := HS.out; omega) h.2.size)⟩
 case assign =>
  intro l x W K hK
  gi_wp2
  exact hK
 case body =>
  rintro l pre x A ⟨hv, hB⟩ hpre
  have hcv := hv.cell
  have hfv := hv.frozen
  have Hv := Lib.hid hv
  have HB := Lib.hid hB
  clear hx2 hb2 hA' hv hB hpre
  gi_wp2_with (refine ⟨trivial, ?_⟩; gi_at_call 24; refine (CallsIn.inRound l (callsIn_wide.2 (put_any _ _ _ (putL_lt pre)))).mono ?_; rintro e w3 ⟨rfl, rfl⟩)
  exact ⟨Kept.setCell _ _ _ _, by rw [putL_snoc]; exact Hv.out.set _, HB.out.setCell (p := ⟨w.heap.size + 1, 0, none⟩) (by simp) _⟩
 case done =>
  rintro W ⟨hv, hB⟩ hK
  have hcv := hv.cell
  have HB := Lib.hid hB
  have HK := Lib.hid hK
  clear hx2 hb2 hA' hB hK
  gi_wp2_with fail
  refine marks_leave (lo := w.heap.size) (hi := w2.heap.size + 1) ⟨w2.heap.size, rfl, by have := HS.out; omega, by omega, HK.out, trivial⟩ (fun w' hk => ?_)
  exact ⟨_, results_tmp rfl _ _ _, rfl, HB.out.trans (hk.below (fun i hi => hi) HB.out.size)⟩
 case stop =>
  rintro pre W _ _ h _
  exact h.elim
theorem by_any (p : Nat → Int) (s c : Int) (w : World) (hp : BdR p) (hc : 0 ≤ c) (hD : TabDb w) (hL : TabLead w) : Calls Tryz.prog 127 #[.agg (posA p), .int .i64 s, .int .u8 c] w (U64L (byN p s c) w) :=
 callsIn_wide.1 (by_in p s c w hp hc hD hL)
def anyB (p : Nat → Int) (s c : Int) : Bool := byN p s c != 0
theorem on_nil {p : Nat → Int} {s c : Int} (h : [] = attL p s c 7) : anyB p s c = false := by unfold anyB byN; rw [← h]; rfl
theorem on_some {p : Nat → Int} {s c : Int} {pre : List Nat} (hne : pre ≠ []) (h : pre <+: attL p s c 7) : anyB p s c = true := by
 obtain ⟨x, t, rfl⟩ := List.exists_cons_of_ne_nil hne
 have hx : x ∈ attL p s c 7 := h.subset List.mem_cons_self
 obtain ⟨k, _, hk⟩ := (mem_att p s c x 7).1 hx
 have hx64 := ((mem_tell p s c k x).1 hk).1
 have : (byN p s c).testBit x = true := by unfold byN; rw [putL_testBit _ _ hx64, decide_eq_true_eq]; exact hx
 unfold anyB
 rw [bne_iff_ne]
 intro e
 rw [e, Nat.zero_testBit] at this
 cases this
set_option maxRecDepth 100000 in
set_option maxHeartbeats 2000000 in
theorem on_in (p : Nat → Int) (s c : Int) (w : World) (hp : BdR p) (hc : 0 ≤ c) (hD : TabDb w) (hL : TabLead w) : CallsIn Fence.wide 7 Tryz.prog 139 #[.agg (posA p), .int .i64 s, .int .u8 c] w (BoL (anyB p s c) w) := by
 have HP := Lib.hid hp
 have HD := Lib.hid hD
 have HL := Lib.hid hL
 clear hp hD hL
 refine callsIn_of_wp_marks Tryz.func139 rfl trivial ?_ rfl
 simp only [Tryz.ntmps139, List.size_toArray, List.length_cons, List.length_nil, Nat.reduceAdd, Nat.reduceSub, Array.replicate_succ, Array.replicate_zero, List.push_toArray, List.append_toArray, List.nil_append, List.cons_append]
 have HR := Lib.hid (row_old (row_new w p) (.cells #[.bool false] 4))
 gi_wp2_with (first
  | (refine stepIn2 rfl (run_boxP _ rfl p rfl) ?_)
  | (refine stepIn rfl (run_load _ rfl _ rfl p HR.out) ?_)
  | (refine ⟨trivial, ?_⟩; gi_at_call 156; refine (callsIn_wide.2 (attacking_any p s c _)).mono ?_; rintro e w2 ⟨b, hb0, rfl, hb, hrow, hs, hcol⟩))
 obtain ⟨w1, hw1⟩ : ∃ w1, w1 = (w.alloc (.cells (posA p) 31)).alloc (.cells #[.bool false] 4) := ⟨_, rfl⟩
 have hx1 : Boxed w1 (w.heap.size + 1) 4 (.bool false) := by rw [hw1, ← size_new w (.cells (posA p) 31)]; exact Boxed.new _ _ _
 have hs1 : w1.heap.size = w.heap.size + 2 := by rw [hw1, size_new, size_new]
 have hb1 : Below w.heap.size w w1 := by rw [hw1]; exact below_on (box_below _ _) (box_below _ _)
 rw [← hw1] at hb hb0
 clear hw1
 have hb2 := below_on hb1 hb
 have hx2 : Boxed w2 (w.heap.size + 1) 4 (.bool false) := boxed_kept hx1 (Kept.of_call (fun _ => False) hb) id
 have hA : AttIn p s c b (b + 2) (b + 1) w2 := ⟨hrow, hcol, hs, HD.out.next hb2, HL.out.next hb2⟩
 have l1 := HD.out.lt
 have l2 := HL.out.lt
 have l3 := hb.size
 have HS := Lib.hid (show w.heap.size + 2 ≤ w2.heap.size by omega)
 have hA' := att_seq 6 b (b + 2) (b + 1) (by omega) p s c (· = w.heap.size + 1) w2 HP.out hc hA ⟨by omega, by omega, by omega, by omega, by omega⟩ (fun k e => by omega)
 clear hA HR hrow hs hcol hb hb0 hx1 hs1 hb1 l1 l2 l3
 refine range_kept (n := 7) rfl (enters_of Tryz.func172 (by kernel_rfl) rfl) (· = w.heap.size + 1) (fun k e => by have := HS.out; omega) (attL p s c 7) hA'
  (fun pre A => pre = [] ∧ Boxed A (w.heap.size + 1) 4 (.bool false) ∧ Below w.heap.size w A) (fun _ A => Boxed A (w.heap.size + 1) 4 (.bool true) ∧ Below w.heap.size w A) ?hI ?hIx ⟨rfl, hx2, hb2⟩
  (fun x => { tmps := #[.agg (posA p), .int .i64 s, .int .u8 c, .pointer (some ⟨w.heap.size, 0, none⟩), undef, undef, .pointer (some ⟨w.heap.size + 1, 0, none⟩), .agg (posA p), .int .i64 s, .int .u8 c, .func (.func 172) #[] #[.pointer (some ⟨b, 0, none⟩), .pointer (some ⟨b + 2, 0, none⟩), .pointer (some ⟨b + 1, 0, none⟩)], .int .i64 (x : Int)], defers := [] }) ?assign ?body ?done ?stop
 case hI => exact fun q A A' h k => ⟨h.1, boxed_kept h.2.1 k (by have := HS.out; omega), h.2.2.trans (k.below (fun i hi => by have := HS.out; omega) h.2.2.size)⟩
 case hIx => exact fun q A A' h k => ⟨boxed_kept h.1 k (by have := HS.out; omega), h.2.trans (k.below (fun i hi => by have := HS.out; omega) h.2.size)⟩
 case assign =>
  intro l x W K hK
  gi_wp2
  simpa using hK
 case body =>
  rintro l pre x A ⟨_, hv, hB⟩ hpre
  have hcv := hv.cell
  have hfv := hv.frozen
  have Hv := Lib.hid hv
  have HB := Lib.hid hB
  clear hx2 hb2 hA' hv hB hpre
  gi_wp2_with fail
  exact ⟨Kept.setCell _ _ _ _, Hv.out.set _, HB.out.setCell (p := ⟨w.heap.size + 1, 0, none⟩) (by simp) _⟩
 case done =>
  rintro W ⟨hnil, hv, hB⟩ hK
  have hcv := hv.cell
  have hfv := hv.frozen
  have Hv := Lib.hid hv
  have HB := Lib.hid hB
  have HK := Lib.hid hK
  have HN := Lib.hid hnil
  clear hx2 hb2 hA' hv hB hK hnil
  gi_wp2_with fail
  have hK' := (Kept.setCell (w.heap.size + 1) 0 (.bool false) W).obj HK.out (by have := HS.out; omega)
  refine marks_leave (lo := w2.heap.size) (hi := w2.heap.size + 1) ⟨w2.heap.size, rfl, Nat.le_refl _, by omega, hK', trivial⟩ (fun w' hk => ?_)
  have hx := boxed_kept (Hv.out.set (.bool false)) hk (by have := HS.out; omega)
  have hc5 := hx.cell
  refine ⟨.bool false, ?_, by rw [on_nil HN.out.symm], (HB.out.setCell (p := ⟨w.heap.size + 1, 0, none⟩) (by simp) _).trans (hk.below (fun i hi => by have := HS.out; omega) (by have := HB.out.size; simp [World.setCell]; omega))⟩
  simp [results, Tryz.f139, go_sem, hc5]
 case stop =>
  rintro pre W hne hpre ⟨hv, hB⟩ hK
  have Hv := Lib.hid hv
  have HB := Lib.hid hB
  have HK := Lib.hid hK
  have HN := Lib.hid (on_some hne hpre)
  clear hx2 hb2 hA' hv hB hK hne hpre
  gi_wp2_with fail
  refine marks_leave (lo := w2.heap.size) (hi := w2.heap.size + 1) ⟨w2.heap.size, rfl, Nat.le_refl _, by omega, HK.out, trivial⟩ (fun w' hk => ?_)
  have hc5 := (boxed_kept Hv.out hk (by have := HS.out; omega)).cell
  refine ⟨.bool true, ?_, by rw [HN.out], HB.out.trans (hk.below (fun i hi => by have := HS.out; omega) HB.out.size)⟩
  simp [results, Tryz.f139, go_sem, hc5]
theorem on_any (p : Nat → Int) (s c : Int) (w : World) (hp : BdR p) (hc : 0 ≤ c) (hD : TabDb w) (hL : TabLead w) : Calls Tryz.prog 139 #[.agg (posA p), .int .i64 s, .int .u8 c] w (BoL (anyB p s c) w) :=
 callsIn_wide.1 (on_in p s c w hp hc hD hL)
end Go.Proofs.YtidgfadbdgheiaaGreatDoor
