/-
 Layer 13: a position as who is to move sees it.
-/
import Derived.Test.YteblmnbagbdiiaaGreatDoorPsC
set_option maxRecDepth 100000
set_option maxHeartbeats 2000000
namespace Go.Proofs.YteblmnbagbdiiaaGreatDoor
open Go.RowKit Go.Shelf
set_option linter.unusedVariables false
set_option linter.unusedSimpArgs false

theorem zeroGr : (Tryz.prog.info? 110).map (fun i => (i.zero, i.size)) = some (some (.agg (grA zeroP 0 0)), 90) := by kernel_rfl
theorem built_gr (p : Nat → Int) (o t : Nat) : Tryz.prog.built 110 [(0, .agg (posA p)), (1, .int .u64 (o : Int)), (2, .int .u64 (t : Int))] = some (grA p o t) := by kernel_rfl
theorem grA_one (p : Nat → Int) (o t : Nat) : (grA p o t).all (·.oneCell') = true := by
 rw [Array.all_eq_true_iff_forall_mem]
 intro v hv
 unfold grA at hv
 rw [List.mem_toArray, List.mem_append] at hv
 rcases hv with h | h
 ·have := (Array.all_eq_true_iff_forall_mem.1 (partL_one p 0 88)) v (List.mem_toArray.2 h); exact this
 ·simp at h; rcases h with rfl | rfl <;> rfl
theorem ps_results {f : Func} {i : Tmp} (h : f.results = #[.cell i 110]) (tmps : Array Value) (w : World) (b : Nat) (p : Nat → Int) (o t : Nat) (hp : tmps.getD i undef = .pointer (some ⟨b, 0, none⟩)) (hr : GR w b p o t) :
  (results f tmps).run Tryz.prog w = .ok (.agg (grA p o t)) w :=
 results_blk h tmps w b (grA p o t) hp hr Tryz.underlying110 rfl sizeGr (grA_size p o t)
theorem late_storeGr {o : Oper} {a : Act} {w : World} {K : Act → World → Prop} {Q : Exit → Act → World → Prop} (x y : Operand) (ho : o.op = .store 110 x y) (b : Nat) (hx : a.eval x = .pointer (some ⟨b, 0, none⟩)) (p q : Nat → Int) (m n m' n' : Nat) (hy : a.eval y = .agg (grA q m' n')) (hr : GR w b p m n)
  (h : ∀ w', Upd b w w' → GR w' b q m' n' → K (a.put o.dst undef) w') : Wp Tryz.prog o a w K Q :=
 ⟨wp_store_mid 110 x y ho b 0 (grA q m' n') hx hy (Blk.there hr 0 _ (by rw [grA_size, grA_size]; omega)) (by rw [grA_size]; exact sizeGr) (grA_one q m' n') (h _ (Upd.setCells _ _ _ _) (Blk.whole hr (by rw [grA_size, grA_size])))⟩
theorem run_bldGr {op : Oper} {a : Act} {w : World} (x y z : Operand) (ho : op.op = .build 110 #[(0, x), (1, y), (2, z)]) (p : Nat → Int) (o t : Nat) (hx : a.eval x = .agg (posA p)) (hy : a.eval y = .int .u64 (o : Int)) (hz : a.eval z = .int .u64 (t : Int)) :
  (execOp a.eval op).run Tryz.prog w = .ok (.value (.agg (grA p o t))) w := by
 have e : (#[(0, x), (1, y), (2, z)].map fun (i, x) => (i, a.eval x)).toList = [(0, .agg (posA p)), (1, .int .u64 (o : Int)), (2, .int .u64 (t : Int))] := by simp [hx, hy, hz]
 unfold execOp
 simp only [ho, Sem.run_bind, run_build w 110 _ (grA p o t) (by rw [e]; exact built_gr p o t), Result.andThen_ok]
 rfl
section laws
variable {ops : Array Oper} {rest : List Oper} {op : Oper} {a : Act} {w : World} {Q : Exit → Act → World → Prop}
theorem gr_alloc (hw : Region.wanted op (yielded ops a.tmps) = true) (ho : op.op = .alloc 110)
  (h : ∀ b w', New b w w' → GR w' b zeroP 0 0 → wpList Tryz.prog ops Q rest (a.put op.dst (.pointer (some ⟨b, 0, none⟩))) w') : wpList Tryz.prog ops Q (op :: rest) a w :=
 blk_alloc hw 110 ho (grA zeroP 0 0) (by rw [grA_size]; exact zeroGr) h
theorem gr_store (hw : Region.wanted op (yielded ops a.tmps) = true) (x y : Operand) (ho : op.op = .store 110 x y) (b : Nat) (hx : a.eval x = .pointer (some ⟨b, 0, none⟩)) (p q : Nat → Int) (m n m' n' : Nat) (hy : a.eval y = .agg (grA q m' n')) (hr : GR w b p m n)
  (h : ∀ w', Upd b w w' → GR w' b q m' n' → wpList Tryz.prog ops Q rest (a.put op.dst undef) w') : wpList Tryz.prog ops Q (op :: rest) a w :=
 blk_store hw 110 x y ho b hx (grA p m n) (grA q m' n') hy hr (by rw [grA_size, grA_size]) (grA_one q m' n') (by rw [grA_size]; exact sizeGr) h
end laws
theorem ps_seen (p : Nat → Int) (w : World) (hp : PsR p) : Calls Tryz.prog 93 #[.agg (posA p)] w (AggL (grA p (ownN p) (theN p)) w) := by
 have HP := H_ hp
 have HB := H_ (Below.refl w.heap.size w)
 clear hp
 cases g : decide (9 ≤ p 0)
 ·have HS := H_ (show ownN p = ofN p (p 78) 0 ∧ theN p = ofN p (oth (p 78)) 0 by have : vrB p = true := decide_eq_true (by have := of_decide_eq_false g; omega); unfold ownN theN; rw [this]; exact ⟨rfl, rfl⟩)
  go_enter Tryz.func93, Tryz.ntmps93
  go_wp2_with (first
   | (refine step_box rfl _ rfl p rfl ?_; intro b1 wn N R; have HB := H_ (HB.out.trans (N.below.mono HB.out.size)); have HR := H_ R; clear N R)
   | (refine gr_alloc rfl rfl ?_; intro b2 wn N R; have HG2 := H_ (show w.heap.size ≤ b2 by have := N.at_; have := HB.out.size; omega); have HD := H_ (show b1 ≠ b2 by have := N.at_; have := HR.out.lt; omega); have HR := H_ (HR.out.later N.below); have HR2 := H_ R; have HB := H_ (below_on HB.out N.below); clear N R)
   | (refine step_get rfl 5 _ rfl b1 0 rfl Tryz.underlying5 rfl (.int .u8 (p 0)) ?_ ?_; exact HR.out.cell 0 (by decide))
   | (refine step_load rfl _ rfl b1 rfl p HR.out ?_))
  refine late_begin 11 (by kernel_rfl) ?_
  refine lv 0 rfl ⟨_, fun w' hl => (run_load _ rfl _ rfl (p) (HR.out.later hl)), ?_⟩
  simp only [Act.put, pa, pb, pc]
  refine lv 1 rfl ⟨_, fun w' hl => (run_load _ rfl _ rfl (p) (HR.out.later hl)), ?_⟩
  simp only [Act.put, pa, pb, pc]
  refine lw 2 rfl ?_
  simp only [Act.put, pa, pb, pc]
  refine lv 3 rfl ⟨_, fun w' hl => (run_get 5 _ rfl b1 78 rfl Tryz.underlying5 rfl (.int .u8 (p 78)) ((HR.out.later hl).cell 78 (by decide))), ?_⟩
  simp only [Act.put, pa, pb, pc]
  refine lv 5 rfl ⟨_, fun w' hl => (run_load _ rfl _ rfl (p) (HR.out.later hl)), ?_⟩
  simp only [Act.put, pa, pb, pc]
  refine lw 6 rfl ?_
  simp only [Act.put, pa, pb, pc]
  refine lv 7 rfl ⟨_, fun w' hl => (run_get 5 _ rfl b1 78 rfl Tryz.underlying5 rfl (.int .u8 (p 78)) ((HR.out.later hl).cell 78 (by decide))), ?_⟩
  simp only [Act.put, pa, pb, pc]
  refine l1 4 rfl fun wn hl K hK => ?_
  have HR := H_ (HR.out.later hl); have HR2 := H_ (HR2.out.later hl); have HB := H_ (below_on HB.out hl); clear hl
  refine we ?_
  refine (of_any p (p 78) 0 _ HP.out.bd).mono ?_; rintro e wm ⟨rfl, hb⟩; refine ⟨_, rfl, ?_⟩
  refine hK.out _ _ hb ?_
  have HR := H_ (HR.out.later hb); have HR2 := H_ (HR2.out.later hb); have HB := H_ (below_on HB.out hb); clear hb
  clear hK K
  simp only [Act.put, pa, pb, pc]
  refine ltk 8 (by kernel_rfl) (fun _ _ d _ _ h => by cases d <;> exact h) (fun o ho => ?_)
  simp only [qa, qb, qc, qd] at ho; subst ho
  refine ⟨.int .u8 (oth (p 78)), Or.inl ⟨by kernel_rfl, fun w' hl => Or.inr ⟨_, _, (by go_simp), (ps_oth (p 78) w').mono (by rintro e w2 ⟨rfl, rfl⟩; exact ⟨rfl, Later.refl _⟩)⟩⟩, ?_⟩
  simp only [Act.put, pa, pb, pc]
  refine l1 9 rfl fun wn hl K hK => ?_
  have HR := H_ (HR.out.later hl); have HR2 := H_ (HR2.out.later hl); have HB := H_ (below_on HB.out hl); clear hl
  refine we ?_
  refine (of_any p (oth (p 78)) 0 _ HP.out.bd).mono ?_; rintro e wm ⟨rfl, hb⟩; refine ⟨_, rfl, ?_⟩
  refine hK.out _ _ hb ?_
  have HR := H_ (HR.out.later hb); have HR2 := H_ (HR2.out.later hb); have HB := H_ (below_on HB.out hb); clear hb
  clear hK K
  simp only [Act.put, pa, pb, pc]
  refine lv 10 rfl ⟨_, fun w' hl => (run_bldGr _ _ _ rfl p (ofN p (p 78) 0) (ofN p (oth (p 78)) 0) rfl rfl rfl), ?_⟩
  simp only [Act.put, pa, pb, pc]
  refine late_last 11 (by kernel_rfl) (by kernel_rfl) (by kernel_rfl) (fun o ho => ?_)
  simp only [qa, qb, qc, qd] at ho; subst ho
  refine ⟨by kernel_rfl, fun wn hl K hK => ?_⟩
  have HR := H_ (HR.out.later hl); have HR2 := H_ (HR2.out.later hl); have HB := H_ (below_on HB.out hl); clear hl
  refine late_storeGr _ _ rfl b2 rfl zeroP p 0 0 _ _ rfl HR2.out ?_; intro w5 U R; have HR2 := H_ R; have HB := H_ (HB.out.trans (U.below HG2.out)); clear U R
  refine hK.out _ _ ?_
  clear hK K
  simp only [Act.put, pa, pb, pc]
  go_wp2_with fail
  refine bodyPost_ret (ps_results rfl _ _ b2 _ _ _ rfl HR2.out) rfl ?_
  exact ⟨by rw [HS.out.1, HS.out.2], HB.out⟩
 ·have HS := H_ (show ownN p = 0 ∧ theN p = 0 by have : vrB p = false := decide_eq_false (by have := of_decide_eq_true g; omega); unfold ownN theN; rw [this]; exact ⟨rfl, rfl⟩)
  go_enter Tryz.func93, Tryz.ntmps93
  go_wp2_with (first
   | (refine step_box rfl _ rfl p rfl ?_; intro b1 wn N R; have HB := H_ (HB.out.trans (N.below.mono HB.out.size)); have HR := H_ R; clear N R)
   | (refine gr_alloc rfl rfl ?_; intro b2 wn N R; have HG2 := H_ (show w.heap.size ≤ b2 by have := N.at_; have := HB.out.size; omega); have HD := H_ (show b1 ≠ b2 by have := N.at_; have := HR.out.lt; omega); have HR := H_ (HR.out.later N.below); have HR2 := H_ R; have HB := H_ (below_on HB.out N.below); clear N R)
   | (refine step_get rfl 5 _ rfl b1 0 rfl Tryz.underlying5 rfl (.int .u8 (p 0)) ?_ ?_; exact HR.out.cell 0 (by decide))
   | (refine step_load rfl _ rfl b1 rfl p HR.out ?_)
   | (refine step_build rfl 110 _ rfl (grA p 0 0) (by kernel_rfl) ?_)
   | (refine gr_store rfl _ _ rfl b2 rfl zeroP p 0 0 0 0 rfl HR2.out ?_; intro w5 U R; have HR2 := H_ R; have HB := H_ (HB.out.trans (U.below HG2.out)); clear U R))
  refine bodyPost_ret (ps_results rfl _ _ b2 _ _ _ rfl HR2.out) rfl ?_
  exact ⟨by rw [HS.out.1, HS.out.2], HB.out⟩
end Go.Proofs.YteblmnbagbdiiaaGreatDoor
