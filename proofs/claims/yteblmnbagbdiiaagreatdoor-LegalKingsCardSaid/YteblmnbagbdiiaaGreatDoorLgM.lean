/-
 Layer 17: regions that draw their order, with a call, a new block and a store into it.
-/
import Derived.Test.YteblmnbagbdiiaaGreatDoorLgGrE
import Derived.Test.YteblmnbagbdiiaaGreatDoorLgGrF
import Derived.Test.YteblmnbagbdiiaaGreatDoorAfBaseK
namespace Go.Proofs.YteblmnbagbdiiaaGreatDoor
open Go.RowKit Go.Shelf
set_option linter.unusedVariables false
set_option linter.unusedSimpArgs false

section
variable {X : Nat → Prop} {n : Nat} {P : Program} {ops : Array Oper} {Q : Exit → Act → World → Prop} {md : Region.Mode}
theorem mid_some (rs : List Nat) {k : Nat} {listed : Array Bool} {a : Act} {w : World} (hd : Wid.noDefer ops = true) (hr : Region.ready md ops listed = rs) (hne : rs ≠ []) (hz : rs.all (fun i => (ops[i]?).isSome) = true)
  (h : ∀ i, i ∈ rs → ∀ o : Oper, ops[i]? = some o → Region.wanted o (yielded ops a.tmps) = true ∧ ∀ w', Below w.heap.size w w' → ∀ K : Act → World → Prop, Shut (∀ a2 w2, Kept X w' w2 → Wid.Mid X n P md ops Q k (listed.setIfInBounds i true) a2 w2 → K a2 w2) → Wid.WpR n P o a w' K Q) : Wid.Mid X n P md ops Q (k + 1) listed a w := fun w' hw' =>
 ⟨fun h0 => (by rw [hr] at h0; exact absurd h0 hne), fun j hj => by
  rw [hr] at hj
  obtain ⟨o, ho⟩ := Option.isSome_iff_exists.1 (List.all_eq_true.1 hz j hj)
  obtain ⟨hw, h⟩ := h j hj o ho
  unfold wpOpIn
  rw [ho]
  simp only [hw, if_true]
  exact Wid.opIn_of (Wid.noDefer_spec hd _ _ · ho) (h w' hw' _ fun a2 w2 hl hk => ⟨hl, hk⟩).out⟩
end
theorem run_allocP {o : Oper} {a : Act} {w : World} (ho : o.op = .alloc 31) : (execOp a.eval o).run Tryz.prog w = .ok (.value (.pointer (some ⟨w.heap.size, 0, none⟩))) (w.alloc (.cells (posA zeroP) 31)) := by
 have hz : ∀ w, (zeroValue 31).run Tryz.prog w = .ok (.agg (posA zeroP)) w := fun w => by
  cases hq : Tryz.prog.info? 31 with
  | none => have := info31; simp [hq] at this
  | some i => have := info31; simp [hq] at this; simp [zeroValue, typeInfo, hq, this.1]
 unfold execOp
 simp only [ho, Instr.alloc, Sem.run_bind, Sem.run_pure, Result.andThen_ok, hz]
 rfl
theorem mid_allocP {o : Oper} {a : Act} {w : World} {n : Nat} {K : Act → World → Prop} {Q : Exit → Act → World → Prop} (ho : o.op = .alloc 31) (h : ∀ b w', New b w w' → Row w' b zeroP → K (a.put o.dst (.pointer (some ⟨b, 0, none⟩))) w') : Wid.WpR n Tryz.prog o a w K Q := ⟨by
 rw [run_allocP ho]
 exact h _ _ (New.alloc w _) (heap_alloc_new w (.cells (posA zeroP) 31))⟩
theorem mid_storeP {o : Oper} {a : Act} {w : World} {n : Nat} {K : Act → World → Prop} {Q : Exit → Act → World → Prop} (x y : Operand) (ho : o.op = .store 31 x y) (b : Nat) (hx : a.eval x = .pointer (some ⟨b, 0, none⟩)) (p q : Nat → Int) (hy : a.eval y = .agg (posA q)) (hr : Row w b p)
  (h : ∀ w', Upd b w w' → Row w' b q → K (a.put o.dst undef) w') : Wid.WpR n Tryz.prog o a w K Q := ⟨by
 have hrun := run_storeVar_mid (P := Tryz.prog) w b 0 31 (posA q) (by rw [posA_size]; exact hr.there 0 88 (by omega)) (by rw [posA_size]; exact size31) (posA_one q)
 have hk := h _ (Upd.setCells _ _ _ _) hr.whole
 unfold execOp
 simp only [ho, hx, hy, Instr.storeAt, Instr.sureAddr, Sem.run_bind, Sem.run_pure, Result.andThen_ok, hrun]
 exact hk⟩
theorem kept_updX {b B : Nat} {w w' : World} (h : Upd b w w') (hb : B ≤ b) : Kept (B ≤ ·) w w' := Kept.of_below (h.below hb)
theorem Mvs.keptX {L : List Mv} {g : Nat} {X : Nat → Prop} {w w' : World} (h : Mvs L (some ⟨g, 0, none⟩) w) (k : Kept X w w') (hx : ¬ X g) : Mvs L (some ⟨g, 0, none⟩) w' := fun i m hm => by
 obtain ⟨g', cur, e, hb, hc⟩ := h i m hm
 have : g = g' := by injection e with e; injection e
 subst this
 exact ⟨g, cur, rfl, k.obj (show w.heap[g]? = _ from hb) hx, hc⟩
end Go.Proofs.YteblmnbagbdiiaaGreatDoor
