/-
 Several texts in one: AfCh, AfA, AfMath, AfD.
-/
import Derived.Test.YteblmnbagbdiiaaGreatDoorAfBaseK
import Derived.Test.YteblmnbagbdiiaaGreatDoorVaBaseB
import Derived.Test.YteblmnbagbdiiaaGreatDoorBoPut
import Derived.IntWalk
import Derived.Test.YteblmnbagbdiiaaGreatDoorAfPsF
import Derived.Test.YteblmnbagbdiiaaGreatDoorAfCs
import Derived.Test.YteblmnbagbdiiaaGreatDoorAfDr
/-
 Layer 16: a position in which a move is being made, as a block of memory: its cells, loads and stores.
-/
set_option maxRecDepth 100000
set_option maxHeartbeats 1000000
namespace Go.Proofs.YteblmnbagbdiiaaGreatDoor
open Go.RowKit Go.Shelf
set_option linter.unusedVariables false
set_option linter.unusedSimpArgs false

structure Ch where
 m : Mv
 x : Int
 y : Int
 k : Int
def chV (p : Nat → Int) (c : Ch) (i : Nat) : Value :=
 if i < 88 then .int (kAt i) (p i) else if i = 88 then .int .i8 c.m.f else if i = 89 then .int .i8 c.m.t else if i = 90 then .int .u8 c.m.pr else if i = 91 then .int .u8 c.m.dr else if i = 92 then .bool c.m.ca
 else if i = 93 then .int .u8 c.x else if i = 94 then .int .u8 c.y else .int .i64 c.k
def chA (p : Nat → Int) (c : Ch) : Array Value := Array.ofFn (n := 96) fun i => chV p c i.val
theorem chA_size (p : Nat → Int) (c : Ch) : (chA p c).size = 96 := by simp [chA]
theorem chA_get (p : Nat → Int) (c : Ch) (i : Nat) (h : i < 96) : (chA p c)[i]? = some (chV p c i) := by simp [chA, h]
theorem chV_pos (p : Nat → Int) (c : Ch) {i : Nat} (h : i < 88) : chV p c i = .int (kAt i) (p i) := by unfold chV; rw [if_pos h]
theorem chV_far {p q : Nat → Int} {c : Ch} {i : Nat} (h : 88 ≤ i) : chV p c i = chV q c i := by
 have e : ¬ i < 88 := by omega
 unfold chV; simp only [if_neg e]
theorem ch_ext {cs : Array Value} {p : Nat → Int} {c : Ch} (hs : cs.size = 96) (h : ∀ i, i < 96 → cs[i]? = some (chV p c i)) : cs = chA p c := by
 apply Array.ext_getElem?
 intro i
 by_cases hi : i < 96
 ·rw [h i hi, chA_get p c i hi]
 ·rw [Array.getElem?_eq_none (by omega), Array.getElem?_eq_none (by rw [chA_size]; omega)]
theorem sizePr : (Tryz.prog.info? 27).map (·.size) = some 2 := by kernel_rfl
def CH (w : World) (b : Nat) (p : Nat → Int) (c : Ch) : Prop := Blk w b 58 (chA p c)
section
variable {w w' : World} {b b' : Nat} {p q : Nat → Int} {c : Ch}
theorem CH.lt (h : CH w b p c) : b < w.heap.size := Blk.lt h
theorem CH.later (h : CH w b p c) (hb : Below w.heap.size w w') : CH w' b p c := Blk.later h hb
theorem CH.apart (h : CH w b p c) (hu : Upd b' w w') (hc : b ≠ b') : CH w' b p c := Blk.apart h hu hc
theorem CH.cell (h : CH w b p c) (i : Nat) (hi : i < 88) : w.cell? ⟨b, i, none⟩ = some (.int (kAt i) (p i)) := by rw [Blk.cell h i, chA_get p c i (by omega), chV_pos p c hi]
theorem CH.tail (h : CH w b p c) (i : Nat) (hi : i < 96) : w.cell? ⟨b, i, none⟩ = some (chV p c i) := by rw [Blk.cell h i, chA_get p c i hi]
theorem CH.range (h : CH w b p c) (off n : Nat) (hn : off + n ≤ 88) : w.rangeAt b off (partL p off n) := fun j v hv => by
 have hj : j < n := by have := (List.getElem?_eq_some_iff.1 hv).1; rwa [partL_len] at this
 have e : (partL p off n)[j]? = some (.int (kAt (off + j)) (p (off + j))) := by simp [partL, hj]
 rw [e] at hv
 rw [h.cell _ (by omega), Option.some.inj hv]
theorem CH.mv (h : CH w b p c) : w.rangeAt b 88 (mvA c.m).toList := fun j v hv => by
 have hj : j < 5 := (List.getElem?_eq_some_iff.1 hv).1
 rw [h.tail _ (by omega), ← hv]
 rcases (by omega : j = 0 ∨ j = 1 ∨ j = 2 ∨ j = 3 ∨ j = 4) with rfl | rfl | rfl | rfl | rfl <;> rfl
theorem CH.set (h : CH w b p c) (i : Nat) (v : Int) (hi : i < 88) : CH (w.setCell ⟨b, i, none⟩ (.int (kAt i) v)) b (upd p i v) c := by
 have e : (chA p c).setIfInBounds i (.int (kAt i) v) = chA (upd p i v) c := ch_ext (by rw [Array.size_setIfInBounds, chA_size]) fun j hj => by
  rw [Array.getElem?_setIfInBounds, chA_get p c j hj, chA_size]
  by_cases e : i = j
  ·subst e; rw [if_pos rfl, if_pos hj, chV_pos _ _ hi, upd_same]
  ·rw [if_neg e]
   by_cases g : j < 88
   ·rw [chV_pos _ _ g, chV_pos _ _ g, upd_other _ _ _ _ (Ne.symm e)]
   ·rw [chV_far (by omega)]
 unfold CH; rw [← e]
 exact Blk.set h i _
theorem CH.setx (h : CH w b p c) (v : Int) : CH (w.setCell ⟨b, 93, none⟩ (.int .u8 v)) b p ⟨c.m, v, c.y, c.k⟩ := by
 have e : (chA p c).setIfInBounds 93 (.int .u8 v) = chA p ⟨c.m, v, c.y, c.k⟩ := ch_ext (by rw [Array.size_setIfInBounds, chA_size]) fun j hj => by
  rw [Array.getElem?_setIfInBounds, chA_get p c j hj, chA_size]
  by_cases e : 93 = j
  ·subst e; rfl
  ·rw [if_neg e]; unfold chV; simp [Ne.symm e]
 unfold CH; rw [← e]
 exact Blk.set h 93 _
theorem CH.sety (h : CH w b p c) (v : Int) : CH (w.setCell ⟨b, 94, none⟩ (.int .u8 v)) b p ⟨c.m, c.x, v, c.k⟩ := by
 have e : (chA p c).setIfInBounds 94 (.int .u8 v) = chA p ⟨c.m, c.x, v, c.k⟩ := ch_ext (by rw [Array.size_setIfInBounds, chA_size]) fun j hj => by
  rw [Array.getElem?_setIfInBounds, chA_get p c j hj, chA_size]
  by_cases e : 94 = j
  ·subst e; rfl
  ·rw [if_neg e]; unfold chV; simp [Ne.symm e]
 unfold CH; rw [← e]
 exact Blk.set h 94 _
theorem CH.whole (h : CH w b p c) : CH (w.setCells b 0 (posA q).toList) b q c := by
 have e : putsA (posA q).toList 0 (chA p c) = chA q c := ch_ext (by rw [putsA_size, chA_size]) fun j hj => by
  rw [putsA_get _ _ _ _ (by rw [Array.length_toList, posA_size, chA_size]; omega), Array.length_toList, posA_size]
  by_cases g : j < 88
  ·rw [if_pos (by omega), chV_pos _ _ g, Nat.sub_zero, Array.getElem?_toList, posA_get q j g]
  ·rw [if_neg (by omega), chA_get p c j hj, chV_far (by omega)]
 unfold CH; rw [← e]
 exact Blk.sets _ 0 _ _ h
theorem CH.pair (h : CH w b p c) (i : Nat) (u v : Int) (hi : 79 ≤ i) (h1 : i ≤ 81) : CH (w.setCells b i [.int .i8 u, .int .i8 v]) b (upd (upd p i u) (i + 1) v) c := by
 have k0 : kAt i = .i8 := by unfold kAt; rw [if_neg (by omega), if_pos (by omega)]
 have k1 : kAt (i + 1) = .i8 := by unfold kAt; rw [if_neg (by omega), if_pos (by omega)]
 have h2 := (h.set i u (by omega)).set (i + 1) v (by omega)
 rw [k0, k1] at h2
 exact h2
theorem CH.f (h : CH w b p c) : w.cell? ⟨b, 88, none⟩ = some (.int .i8 c.m.f) := h.tail 88 (by decide)
theorem CH.t (h : CH w b p c) : w.cell? ⟨b, 89, none⟩ = some (.int .i8 c.m.t) := h.tail 89 (by decide)
theorem CH.pr (h : CH w b p c) : w.cell? ⟨b, 90, none⟩ = some (.int .u8 c.m.pr) := h.tail 90 (by decide)
theorem CH.dr (h : CH w b p c) : w.cell? ⟨b, 91, none⟩ = some (.int .u8 c.m.dr) := h.tail 91 (by decide)
theorem CH.ca (h : CH w b p c) : w.cell? ⟨b, 92, none⟩ = some (.bool c.m.ca) := h.tail 92 (by decide)
theorem CH.x (h : CH w b p c) : w.cell? ⟨b, 93, none⟩ = some (.int .u8 c.x) := h.tail 93 (by decide)
theorem CH.y (h : CH w b p c) : w.cell? ⟨b, 94, none⟩ = some (.int .u8 c.y) := h.tail 94 (by decide)
theorem CH.k (h : CH w b p c) : w.cell? ⟨b, 95, none⟩ = some (.int .i64 c.k) := h.tail 95 (by decide)
theorem CH.there (h : CH w b p c) (o n : Nat) (hn : o + n ≤ 96) : w.there b o n := Blk.there h o n (by rw [chA_size]; exact hn)
end
theorem kept_on {X : Nat → Prop} {w w1 w2 : World} (h : Kept X w w1) (k : Below w1.heap.size w1 w2) : Kept X w w2 := h.trans (Kept.of_call X k)
theorem Upd.kept {b : Nat} {w w' : World} (h : Upd b w w') : Kept (fun k => k = b) w w' := ⟨h.below (Nat.zero_le _), fun k _ hx => h.block k hx⟩
theorem kept_upd {b : Nat} {w w1 w2 : World} (h : Kept (fun k => k = b) w w1) (k : Upd b w1 w2) : Kept (fun k => k = b) w w2 := h.trans k.kept
section laws
variable {ops : Array Oper} {rest : List Oper} {op : Oper} {a : Act} {w : World} {Q : Exit → Act → World → Prop} {b : Nat} {p q : Nat → Int} {c : Ch}
theorem part_posA (p : Nat → Int) : (partL p 0 88).toArray = posA p := by rw [partL_all]
theorem ch_load (hw : Region.wanted op (yielded ops a.tmps) = true) (x : Operand) (ho : op.op = .load 31 x) (hx : a.eval x = .pointer (some ⟨b, 0, none⟩)) (hr : CH w b p c)
  (h : wpList Tryz.prog ops Q rest (a.put op.dst (.agg (posA p))) w) : wpList Tryz.prog ops Q (op :: rest) a w :=
 wpList_want hw fun _ hK => wp_load_mid 31 x ho b 0 hx (partL p 0 88) _ (hr.range 0 88 (by omega)) Tryz.underlying31 rfl (by rw [partL_len]; exact size31) (hK _ _ (by rw [part_posA]; exact h))
theorem ch_pair (hw : Region.wanted op (yielded ops a.tmps) = true) (x : Operand) (ho : op.op = .load 27 x) (i : Nat) (hx : a.eval x = .pointer (some ⟨b, i, none⟩)) (hr : CH w b p c) (hi : i + 2 ≤ 88)
  (h : wpList Tryz.prog ops Q rest (a.put op.dst (.agg (partL p i 2).toArray)) w) : wpList Tryz.prog ops Q (op :: rest) a w :=
 wpList_want hw fun _ hK => wp_load_mid 27 x ho b i hx (partL p i 2) _ (hr.range i 2 hi) Tryz.underlying27 rfl (by rw [partL_len]; exact sizePr) (hK _ _ h)
theorem ch_store (hw : Region.wanted op (yielded ops a.tmps) = true) (x y : Operand) (ho : op.op = .store 31 x y) (hx : a.eval x = .pointer (some ⟨b, 0, none⟩)) (q : Nat → Int) (hy : a.eval y = .agg (posA q)) (hr : CH w b p c)
  (h : ∀ w', Upd b w w' → CH w' b q c → wpList Tryz.prog ops Q rest (a.put op.dst undef) w') : wpList Tryz.prog ops Q (op :: rest) a w :=
 wpList_want hw fun _ hK => wp_store_mid 31 x y ho b 0 (posA q) hx hy (by rw [posA_size]; exact hr.there 0 88 (by omega)) (by rw [posA_size]; exact size31) (posA_one q) (hK _ _ (h _ (Upd.setCells _ _ _ _) hr.whole))
theorem ch_cell (hw : Region.wanted op (yielded ops a.tmps) = true) (ty : TypeId) (x y : Operand) (ho : op.op = .store ty x y) (i : Nat) (hx : a.eval x = .pointer (some ⟨b, i, none⟩)) (k : IntKind) (v : Int) (hy : a.eval y = .int k v) (hr : CH w b p c) (hi : i < 88) (hk : kAt i = k) (hs : (Tryz.prog.info? ty).map (·.size) = some 1)
  (h : ∀ w', Upd b w w' → CH w' b (upd p i v) c → wpList Tryz.prog ops Q rest (a.put op.dst undef) w') : wpList Tryz.prog ops Q (op :: rest) a w :=
 wpList_want hw fun K hK => by
  subst hk
  have hk := hK _ _ (h _ (Upd.setCell w b i (.int (kAt i) v)) (hr.set i v hi))
  have hrun : (storeVar ty ⟨b, i, none⟩ (.int (kAt i) v)).run Tryz.prog w = .ok () (w.setCell ⟨b, i, none⟩ (.int (kAt i) v)) :=
   run_storeVar_mid w b i ty #[.int (kAt i) v] (hr.there i 1 (by omega)) hs (by simp [Value.oneCell'])
  unfold Oper.wp execOp
  simp only [ho, hx, hy, Instr.storeAt, Instr.sureAddr, Sem.run_bind, Sem.run_pure, Result.andThen_ok, hrun]
  exact hk
theorem late_ch {o : Oper} {K : Act → World → Prop} (x y : Operand) (ho : o.op = .store 31 x y) (b : Nat) (hx : a.eval x = .pointer (some ⟨b, 0, none⟩)) (p q : Nat → Int) (c : Ch) (hy : a.eval y = .agg (posA q)) (hr : CH w b p c)
  (h : ∀ w', Upd b w w' → CH w' b q c → K (a.put o.dst undef) w') : Wp Tryz.prog o a w K Q :=
 ⟨wp_store_mid 31 x y ho b 0 (posA q) hx hy (by rw [posA_size]; exact hr.there 0 88 (by omega)) (by rw [posA_size]; exact size31) (posA_one q) (h _ (Upd.setCells _ _ _ _) hr.whole)⟩
theorem late_chc {o : Oper} {K : Act → World → Prop} (ty : TypeId) (x y : Operand) (ho : o.op = .store ty x y) (b i : Nat) (hx : a.eval x = .pointer (some ⟨b, i, none⟩)) (k : IntKind) (v : Int) (hy : a.eval y = .int k v)
  (p : Nat → Int) (c : Ch) (hr : CH w b p c) (hi : i < 96) (hs : (Tryz.prog.info? ty).map (·.size) = some 1) (h : Upd b w (w.setCell ⟨b, i, none⟩ (.int k v)) → K (a.put o.dst undef) (w.setCell ⟨b, i, none⟩ (.int k v))) : Wp Tryz.prog o a w K Q := ⟨by
 have hrun : (storeVar ty ⟨b, i, none⟩ (.int k v)).run Tryz.prog w = .ok () (w.setCell ⟨b, i, none⟩ (.int k v)) :=
  run_storeVar_mid w b i ty #[.int k v] (hr.there i 1 (by omega)) hs (by simp [Value.oneCell'])
 unfold Oper.wp execOp
 simp only [ho, hx, hy, Instr.storeAt, Instr.sureAddr, Sem.run_bind, Sem.run_pure, Result.andThen_ok, hrun]
 exact h (Upd.setCell w b i _)⟩
end laws
theorem run_chp {o : Oper} {a : Act} {w : World} (x : Operand) (ho : o.op = .load 31 x) (b : Nat) (hx : a.eval x = .pointer (some ⟨b, 0, none⟩)) (p : Nat → Int) (c : Ch) (hr : CH w b p c) : (execOp a.eval o).run Tryz.prog w = .ok (.value (.agg (posA p))) w := by
 have hl := run_loadVar_mid (P := Tryz.prog) w b 0 31 (partL p 0 88) _ (hr.range 0 88 (by omega)) Tryz.underlying31 rfl (by rw [partL_len]; exact size31)
 rw [part_posA] at hl
 unfold execOp
 simp only [ho, hx, Instr.loadAt, Instr.sureAddr, Sem.run_bind, Sem.run_pure, Result.andThen_ok, hl]
theorem run_chm {o : Oper} {a : Act} {w : World} (x : Operand) (ho : o.op = .load 40 x) (b : Nat) (hx : a.eval x = .pointer (some ⟨b, 88, none⟩)) (p : Nat → Int) (c : Ch) (hr : CH w b p c) : (execOp a.eval o).run Tryz.prog w = .ok (.value (.agg (mvA c.m))) w := by
 have hl := run_loadVar_mid (P := Tryz.prog) w b 88 40 (mvA c.m).toList _ hr.mv Tryz.underlying40 rfl sizeMv
 unfold execOp
 simp only [ho, hx, Instr.loadAt, Instr.sureAddr, Sem.run_bind, Sem.run_pure, Result.andThen_ok, hl]
end Go.Proofs.YteblmnbagbdiiaaGreatDoor
/-
 Layer 16: contracts of the change's small methods: from, to, takes, put, mark, unmark; home, aheadOfHome, oneMore.
-/
namespace Go.Proofs.YteblmnbagbdiiaaGreatDoor
open Go.RowKit Go.Shelf
set_option linter.unusedVariables false
set_option linter.unusedSimpArgs false
attribute [local go_sem] Oper.semAt_some

def proN (p : Nat → Int) : Nat := (p 65).toNat
def prU (p : Nat → Int) (n : Nat) : Nat → Int := upd p 65 (n : Int)
def markA (p : Nat → Int) (s : Int) : Nat → Int := prU p (putN (proN p) s)
def unmA (p : Nat → Int) (s : Int) : Nat → Int := prU p (clearN (proN p) s)
def oneZ (n : Int) : Int := bif decide (10000 ≤ n) then n else n + 1
def AfL (b : Nat) (q : Nat → Int) (c : Ch) (w : World) (e : Ending) (w' : World) : Prop := (∃ v, e = .returned v) ∧ CH w' b q c ∧ Kept (fun k => k = b) w w'
def IntA (n : Int) (w : World) (e : Ending) (w' : World) : Prop := e = .returned (.int .i64 n) ∧ w = w'
def BoA (n : Bool) (w : World) (e : Ending) (w' : World) : Prop := e = .returned (.bool n) ∧ w = w'
theorem af_from (b : Nat) (p : Nat → Int) (c : Ch) (w : World) (hC : CH w b p c) (hm : FitV c.m) : Calls Tryz.prog 130 #[.pointer (some ⟨b, 0, none⟩)] w (IntA c.m.f w) := by
 have HC := H_ hC
 have hr := hm.f
 clear hC hm
 go_enter Tryz.func130, Tryz.ntmps130
 go_wp2_with (refine step_get rfl 26 _ rfl b 88 rfl Tryz.underlying26 rfl (.int .i8 c.m.f) HC.out.f ?_)
 go_ret
 exact ⟨rfl, rfl⟩
theorem af_to (b : Nat) (p : Nat → Int) (c : Ch) (w : World) (hC : CH w b p c) (hm : FitV c.m) : Calls Tryz.prog 129 #[.pointer (some ⟨b, 0, none⟩)] w (IntA c.m.t w) := by
 have HC := H_ hC
 have hr := hm.t
 clear hC hm
 go_enter Tryz.func129, Tryz.ntmps129
 go_wp2_with (refine step_get rfl 26 _ rfl b 89 rfl Tryz.underlying26 rfl (.int .i8 c.m.t) HC.out.t ?_)
 go_ret
 exact ⟨rfl, rfl⟩
theorem af_takes (b : Nat) (p : Nat → Int) (c : Ch) (w : World) (hC : CH w b p c) : Calls Tryz.prog 136 #[.pointer (some ⟨b, 0, none⟩)] w (BoA (!(c.k == -1)) w) := by
 have HC := H_ hC
 clear hC
 go_enter Tryz.func136, Tryz.ntmps136
 go_wp2_with (refine step_get rfl 3 _ rfl b 95 rfl Tryz.underlying3 rfl (.int .i64 c.k) HC.out.k ?_)
 go_ret
 exact ⟨rfl, rfl⟩
theorem af_put (b : Nat) (p : Nat → Int) (c : Ch) (s x : Int) (w : World) (hC : CH w b p c) (h0 : 0 ≤ x) (h1 : x ≤ 255) : Calls Tryz.prog 128 #[.pointer (some ⟨b, 0, none⟩), .int .i64 s, .int .u8 x] w (AfL b (putP p s x) c w) := by
 have HC := H_ hC
 have HB := H_ (Kept.refl (fun k => k = b) w)
 clear hC
 go_enter Tryz.func128, Tryz.ntmps128
 go_wp2_with (first
  | (refine ch_load rfl _ rfl rfl HC.out ?_)
  | (refine ch_store rfl _ _ rfl rfl (putP p s x) rfl HC.out ?_; intro wn U R; have HC := H_ R; have HB := H_ (kept_upd HB.out U); clear U R)
  | (go_at_call 159; refine (put_pos p s x _ h0 h1).mono ?_; rintro e w3 ⟨rfl, hb⟩; have HC := H_ (HC.out.later hb); have HB := H_ (kept_on HB.out hb); clear hb))
 refine bodyPost_end (results_none rfl _ _ _) rfl ?_
 exact ⟨⟨_, rfl⟩, HC.out, HB.out⟩
theorem af_of {k : IntKind} {n : Int} (h : (Lit.int k n).wf = true) : k.min ≤ n ∧ n ≤ k.max := by simpa [Lit.wf] using h
theorem af_wf {k : IntKind} {n : Int} (h : k.min ≤ n ∧ n ≤ k.max) : (Lit.int k n).wf = true := by simp [Lit.wf, h.1, h.2]
theorem pro_rng {p : Nat → Int} (h : WfP p) : 0 ≤ p 65 ∧ p 65 < 18446744073709551616 := by
 have := af_of (h 65 (by decide))
 have e : kAt 65 = .u64 := rfl
 rw [e] at this
 have a : IntKind.u64.min = 0 := by decide
 have b : IntKind.u64.max = 18446744073709551615 := by decide
 omega
theorem pro_lt {p : Nat → Int} (h : WfP p) : proN p < W64 := by
 have := pro_rng h
 show (p 65).toNat < 18446744073709551616
 omega
theorem pro_eq {p : Nat → Int} (h : WfP p) : p 65 = ((proN p : Nat) : Int) := by
 have := pro_rng h
 show p 65 = (((p 65).toNat : Nat) : Int)
 omega
theorem size4 : (Tryz.prog.info? 23).map (·.size) = some 1 := by kernel_rfl
theorem af_more (n : Int) (w : World) (h : -9223372036854775808 ≤ n ∧ n ≤ 9223372036854775807) : Calls Tryz.prog 143 #[.int .i64 n] w (IntA (oneZ n) w) := by
 unfold oneZ
 cases g : decide (10000 ≤ n)
 ·have hn := of_decide_eq_false g
  have hw : wrap64 (n + 1) = n + 1 := IntWalk.wrap64_in _ ⟨by omega, by omega⟩
  go_enter Tryz.func143, Tryz.ntmps143
  go_wp2
  go_ret
  exact ⟨by simp [hw], rfl⟩
 ·go_enter Tryz.func143, Tryz.ntmps143
  go_wp2
  go_ret
  exact ⟨rfl, rfl⟩
theorem af_mark (b : Nat) (p : Nat → Int) (c : Ch) (s : Int) (w : World) (hC : CH w b p c) (hw : WfP p) : Calls Tryz.prog 197 #[.pointer (some ⟨b, 0, none⟩), .int .i64 s] w (AfL b (markA p s) c w) := by
 have HC := H_ hC
 have hn := pro_lt hw
 have HE := H_ (pro_eq hw)
 have HB := H_ (Kept.refl (fun k => k = b) w)
 clear hC hw
 go_enter Tryz.func197, Tryz.ntmps197
 go_wp2_with (first
  | (refine step_get rfl 23 _ rfl b 65 rfl Tryz.underlying23 rfl (.int .u64 ((proN p : Nat) : Int)) (by rw [← HE.out]; exact HC.out.cell 65 (by decide)) ?_)
  | (refine ch_cell rfl 23 _ _ rfl 65 rfl .u64 _ rfl HC.out (by decide) rfl size4 ?_; intro wn U R; have HC := H_ R; have HB := H_ (kept_upd HB.out U); clear U R)
  | (go_at_call 198; refine (put_any _ _ _ hn).mono ?_; rintro e w3 ⟨rfl, rfl⟩))
 refine bodyPost_end (results_none rfl _ _ _) rfl ?_
 exact ⟨⟨_, rfl⟩, HC.out, HB.out⟩
theorem af_unm (b : Nat) (p : Nat → Int) (c : Ch) (s : Int) (w : World) (hC : CH w b p c) (hw : WfP p) : Calls Tryz.prog 196 #[.pointer (some ⟨b, 0, none⟩), .int .i64 s] w (AfL b (unmA p s) c w) := by
 have HC := H_ hC
 have hn := pro_lt hw
 have HE := H_ (pro_eq hw)
 have HB := H_ (Kept.refl (fun k => k = b) w)
 clear hC hw
 go_enter Tryz.func196, Tryz.ntmps196
 go_wp2_with (first
  | (refine step_get rfl 23 _ rfl b 65 rfl Tryz.underlying23 rfl (.int .u64 ((proN p : Nat) : Int)) (by rw [← HE.out]; exact HC.out.cell 65 (by decide)) ?_)
  | (refine ch_cell rfl 23 _ _ rfl 65 rfl .u64 _ rfl HC.out (by decide) rfl size4 ?_; intro wn U R; have HC := H_ R; have HB := H_ (kept_upd HB.out U); clear U R)
  | (go_at_call 217; refine (clear_any _ _ _ hn).mono ?_; rintro e w3 ⟨rfl, rfl⟩))
 refine bodyPost_end (results_none rfl _ _ _) rfl ?_
 exact ⟨⟨_, rfl⟩, HC.out, HB.out⟩
end Go.Proofs.YteblmnbagbdiiaaGreatDoor
/-
 Layer 16: what a move does, step by step, in plain terms.
-/
namespace Go.Proofs.YteblmnbagbdiiaaGreatDoor
open Go.RowKit
set_option linter.unusedVariables false
set_option linter.unusedSimpArgs false

def pawP (p : Nat → Int) : Nat := ofN p 0 1 ||| ofN p 1 1
theorem pawP_lt (p : Nat → Int) : pawP p < W64 := Nat.or_lt_two_pow (n := 64) (ofN_lt _ _ _) (ofN_lt _ _ _)
def blwN (p : Nat → Int) (s : Int) : Nat := putN (offN (kingN s &&& occN p) (pawP p)) s
def nearN (p : Nat → Int) (s : Int) : Nat := offN (kingN s &&& occN p) (pawP p)
theorem nearN_lt (p : Nat → Int) (s : Int) : nearN p s < W64 := offN_lt (Nat.lt_of_le_of_lt Nat.and_le_left (kingN_lt _))
def clrL (p : Nat → Int) : List Nat → Nat → Int
 | [] => p
 | s :: l => clrL (putP p (s : Int) 0) l
theorem clrL_snoc : ∀ (l : List Nat) (p : Nat → Int) (s : Nat), clrL p (l ++ [s]) = putP (clrL p l) (s : Int) 0
 | [], _, _ => rfl
 | a :: l, p, s => clrL_snoc l (putP p (a : Int) 0) s
def arrZ (p : Nat → Int) (c : Ch) : Int := bif c.m.pr == 0 then c.x else mkZ (p 78) c.m.pr
def sdA (p : Nat → Int) (c : Ch) : Int := sdC (p 78) c.m
def kgA (p : Nat → Int) (c : Ch) : Int := hmC (p 78) + gkC (sdA p c)
def rkA (p : Nat → Int) (c : Ch) : Int := hmC (p 78) + grC (sdA p c)
def casA (p : Nat → Int) (c : Ch) : Nat → Int := putP (putP (putP (putP p c.m.f 0) c.m.t 0) (kgA p c) c.x) (rkA p c) (mkZ (p 78) 4)
def menA (p : Nat → Int) (c : Ch) : Nat → Int :=
 bif c.m.ca then casA p c else bif c.m.dr == 0 then putP (putP (putP p c.k 0) c.m.f 0) c.m.t (arrZ p c) else putP (takP p (p 78) c.m.dr) c.m.t c.x
def kepZ (p : Nat → Int) (c : Ch) : Int := bif !(c.y == 0) && hasN (proN p) c.k then 1 else kndZ c.y
def carM (p : Nat → Int) (c : Ch) : Nat → Int := bif hasN (proN p) c.m.f || !(c.m.pr == 0) then markA (unmA (unmA p c.k) c.m.f) c.m.t else unmA (unmA p c.k) c.m.f
def carR (p : Nat → Int) (c : Ch) : Nat → Int := bif hasN (proN p) c.m.t then markA (unmA p c.m.t) (rkA p c) else p
def pocA (p : Nat → Int) (c : Ch) : Nat → Int :=
 bif p 0 == 2 then (bif c.m.dr == 0 then (bif c.m.ca then carR p c else carM (addP p (p 78) (kepZ p c)) c) else p) else p
def blaA (p : Nat → Int) (c : Ch) : Nat → Int := bif (p 0 == 3) && !(c.k == -1) then clrL p (listN (blwN p c.m.t)) else p
def kinH (p : Nat → Int) (c : Int) : Bool := decide (hmC c ≤ kingZ p c) && decide (kingZ p c < hmC c + 8)
def keeB (p : Nat → Int) (c f k : Int) : Bool := (decide (0 ≤ f) && decide (f < 8)) && (!(hmC c + f == k) && (kinH p c && (atZ p (hmC c + f) == mkZ c 4)))
def rgA (p : Nat → Int) (k c : Int) (i : Nat) : Nat → Int := bif keeB p c (p i) k then p else upd p i (-1)
def noR (p : Nat → Int) (t : Int) : Nat → Int := bif t == 0 then upd (upd p 79 (-1)) 80 (-1) else upd (upd p 81 (-1)) 82 (-1)
def noK (p : Nat → Int) (c : Ch) : Nat → Int := bif kndZ c.x == 6 then noR p (p 78) else p
def rigA (p : Nat → Int) (c : Ch) : Nat → Int := rgA (rgA (rgA (rgA (noK p c) c.k 0 79) c.k 0 80) c.k 1 81) c.k 1 82
def strB' (p : Nat → Int) (c : Ch) : Bool := (kndZ c.x == 1) && ((c.m.f / 8 == ahdZ (p 78)) && ((c.m.t - c.m.f == 16) || (c.m.t - c.m.f == -16)))
def pasB (p : Nat → Int) (c : Ch) : Bool := strB' p c && !((byN p ((c.m.f + c.m.t) / 2) (oth (p 78)) &&& ofN p (oth (p 78)) 1) == 0)
def pasA (p : Nat → Int) (c : Ch) : Nat → Int := bif pasB (upd p 83 (-1)) c then upd (upd p 83 (-1)) 83 ((c.m.f + c.m.t) / 2) else upd p 83 (-1)
def halA (p : Nat → Int) (c : Ch) : Nat → Int := bif (kndZ c.x == 1) || !(c.k == -1) then upd (upd p 86 (oneZ (p 86))) 86 0 else upd p 86 (oneZ (p 86))
def cloA (p : Nat → Int) (c : Ch) : Nat → Int := bif p 78 == 1 then upd (halA p c) 87 (oneZ (p 87)) else halA p c
def turA (p : Nat → Int) : Nat → Int :=
 bif (p 0 == 5) && chkB (upd p 78 (oth (p 78))) (oth (p 78)) then upd (upd p 78 (oth (p 78))) (84 + (p 78).toNat) (min (p (84 + (p 78).toNat)) 2 + 1) else upd p 78 (oth (p 78))
def stpA (p : Nat → Int) (c : Ch) : Nat → Int := turA (cloA (pasA (rigA (blaA (pocA (menA p c) c) c) c) c) c)
def begA (p : Nat → Int) (m : Mv) : Ch := ⟨m, bif m.dr == 0 then atZ p m.f else mkZ (p 78) m.dr, atZ p (takZ p m), takZ p m⟩
def sorL (p : Nat → Int) (m : Mv) : List Mv := bif m.ca then camL p else bif m.dr == 0 then (allL p).map pmM else drL p
def movB (p : Nat → Int) (m : Mv) : Bool := (sorL p m).any fun n => mvE m n
def movP (p : Nat → Int) (m : Mv) : Nat → Int := bif movB p m then stpA p (begA p m) else p
def afL (p : Nat → Int) : List Mv := (allL p).map pmM ++ camL p ++ drL p
end Go.Proofs.YteblmnbagbdiiaaGreatDoor
/-
 Layer 16: contracts of after's pawns and Blown.
-/
namespace Go.Proofs.YteblmnbagbdiiaaGreatDoor
open Go.RowKit Go.Shelf
set_option linter.unusedVariables false
set_option linter.unusedSimpArgs false
attribute [local go_sem] Oper.semAt_some

theorem af_pawns (p : Nat → Int) (w : World) (hp : BdR p) : Calls Tryz.prog 199 #[.agg (posA p)] w (U64L (pawP p) w) := by
 have HP := H_ hp
 have HOr := H_ (or_nat (ofN_lt p 0 1) (ofN_lt p 1 1))
 clear hp
 have HB := H_ (Below.refl w.heap.size w)
 go_enter Tryz.func199, Tryz.ntmps199
 go_wp2_with (guard_target = gB 1; refine step_box rfl _ rfl p rfl ?_; intro b1 w1 N R; have HG1 := H_ (nA HB.out N); have HB := H_ (below_on HB.out N.below); have HR1 := H_ R; clear N R)
 refine late_begin 6 (by kernel_rfl) ?_
 refine lv 0 rfl ⟨_, fun w' hl => (run_load _ rfl _ rfl (p) (HR1.out.later hl)), ?_⟩
 simp only [Act.put, pa, pb, pc]
 refine lv 2 rfl ⟨_, fun w' hl => (run_load _ rfl _ rfl (p) (HR1.out.later hl)), ?_⟩
 simp only [Act.put, pa, pb, pc]
 refine l1 1 rfl fun wn hl K hK => ?_
 have HR1 := H_ (HR1.out.later hl); have HB := H_ (below_on HB.out hl); clear hl
 refine we ?_
 refine (of_any p 0 1 _ HP.out).mono ?_; rintro e wm ⟨rfl, hb⟩; refine ⟨_, rfl, ?_⟩
 refine hK.out _ _ hb ?_
 have HR1 := H_ (HR1.out.later hb); have HB := H_ (below_on HB.out hb); clear hb
 clear hK K
 simp only [Act.put, pa, pb, pc]
 refine l1 3 rfl fun wn hl K hK => ?_
 have HR1 := H_ (HR1.out.later hl); have HB := H_ (below_on HB.out hl); clear hl
 refine we ?_
 refine (of_any p 1 1 _ HP.out).mono ?_; rintro e wm ⟨rfl, hb⟩; refine ⟨_, rfl, ?_⟩
 refine hK.out _ _ hb ?_
 have HR1 := H_ (HR1.out.later hb); have HB := H_ (below_on HB.out hb); clear hb
 clear hK K
 simp only [Act.put, pa, pb, pc]
 refine lw 4 rfl ?_
 simp only [Act.put, pa, pb, pc]
 refine lw 5 rfl ?_
 simp only [Act.put, pa, pb, pc]
 refine late_end (by kernel_rfl) (fun wn hl => ?_)
 have HR1 := H_ (HR1.out.later hl); have HB := H_ (below_on HB.out hl); clear hl
 go_wp2_with fail
 go_ret
 exact ⟨by unfold pawP; rw [← HOr.out]; rfl, HB.out⟩
theorem af_blown (p : Nat → Int) (s : Int) (w : World) (hp : BdR p) (hL : TabLead w) : Calls Tryz.prog 137 #[.agg (posA p), .int .i64 s] w (U64L (blwN p s) w) := by
 have HP := H_ hp
 have HL := H_ hL
 have HAnd := H_ (and_nat (kingN_lt s) (occN_lt p))
 have HOff := H_ (show bits .andNot .u64 (((kingN s &&& occN p : Nat)) : Int) ((pawP p : Nat) : Int) = ((nearN p s : Nat) : Int) from offN_bits (Nat.lt_of_le_of_lt Nat.and_le_left (kingN_lt s)) (pawP_lt p))
 have hnr := nearN_lt p s
 clear hp hL
 have HB := H_ (Below.refl w.heap.size w)
 go_enter Tryz.func137, Tryz.ntmps137
 go_wp2_with (guard_target = gB 2; refine step_box rfl _ rfl p rfl ?_; intro b2 w1 N R; have HG2 := H_ (nA HB.out N); have HB := H_ (below_on HB.out N.below); have HR2 := H_ R; clear N R)
 refine late_begin 11 (by kernel_rfl) ?_
 refine lw 0 rfl ?_
 simp only [Act.put, pa, pb, pc]
 refine lv 2 rfl ⟨_, fun w' hl => (run_load _ rfl _ rfl (p) (HR2.out.later hl)), ?_⟩
 simp only [Act.put, pa, pb, pc]
 refine lv 5 rfl ⟨_, fun w' hl => (run_load _ rfl _ rfl (p) (HR2.out.later hl)), ?_⟩
 simp only [Act.put, pa, pb, pc]
 refine lw 8 rfl ?_
 simp only [Act.put, pa, pb, pc]
 refine l1 1 rfl fun wn hl K hK => ?_
 have HR2 := H_ (HR2.out.later hl); have HB := H_ (below_on HB.out hl); clear hl
 refine we ?_
 refine (king_any s _ (HL.out.next HB.out)).mono ?_; rintro e wm ⟨rfl, hb⟩; refine ⟨_, rfl, ?_⟩
 refine hK.out _ _ hb ?_
 have HR2 := H_ (HR2.out.later hb); have HB := H_ (below_on HB.out hb); clear hb
 clear hK K
 simp only [Act.put, pa, pb, pc]
 refine l1 3 rfl fun wn hl K hK => ?_
 have HR2 := H_ (HR2.out.later hl); have HB := H_ (below_on HB.out hl); clear hl
 refine we ?_
 refine (all_set p _ HP.out).mono ?_; rintro e wm ⟨rfl, hb⟩; refine ⟨_, rfl, ?_⟩
 refine hK.out _ _ hb ?_
 have HR2 := H_ (HR2.out.later hb); have HB := H_ (below_on HB.out hb); clear hb
 clear hK K
 simp only [Act.put, pa, pb, pc]
 refine lv 4 rfl ⟨.int .u64 ((kingN s &&& occN p : Nat) : Int), fun w' hl => ?_, ?_⟩
 ·(go_simp; try exact HAnd.out)
 simp only [Act.put, pa, pb, pc]
 refine l1 6 rfl fun wn hl K hK => ?_
 have HR2 := H_ (HR2.out.later hl); have HB := H_ (below_on HB.out hl); clear hl
 refine we ?_
 refine (af_pawns p _ HP.out).mono ?_; rintro e wm ⟨rfl, hb⟩; refine ⟨_, rfl, ?_⟩
 refine hK.out _ _ hb ?_
 have HR2 := H_ (HR2.out.later hb); have HB := H_ (below_on HB.out hb); clear hb
 clear hK K
 simp only [Act.put, pa, pb, pc]
 refine lv 7 rfl ⟨.int .u64 ((nearN p s : Nat) : Int), fun w' hl => ?_, ?_⟩
 ·(go_simp; try exact HOff.out)
 simp only [Act.put, pa, pb, pc]
 refine l1 9 rfl fun wn hl K hK => ?_
 have HR2 := H_ (HR2.out.later hl); have HB := H_ (below_on HB.out hl); clear hl
 refine we ?_
 refine (put_any (nearN p s) s _ hnr).mono ?_; rintro e wm ⟨rfl, rfl⟩; refine ⟨_, rfl, ?_⟩
 refine hK.out _ _ (Later.refl _) ?_
 clear hK K
 simp only [Act.put, pa, pb, pc]
 refine lw 10 rfl ?_
 simp only [Act.put, pa, pb, pc]
 refine late_end (by kernel_rfl) (fun wn hl => ?_)
 have HR2 := H_ (HR2.out.later hl); have HB := H_ (below_on HB.out hl); clear hl
 go_wp2_with fail
 go_ret
 exact ⟨rfl, HB.out⟩
end Go.Proofs.YteblmnbagbdiiaaGreatDoor
