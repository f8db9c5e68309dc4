/-
  A region that draws its order and writes, or makes memory: what yields its value under a condition on the world is taken first, the rest is carried out one by one.
-/
import Derived.Test.YtgodoipmnenohaaDoorBoLaw
import Derived.Deep.RegionHeld
namespace Go.Proofs.YtgodoipmnenohaaDoor
open Go.RowKit
set_option linter.unusedVariables false
theorem Row.drew {w : World} {b : Nat} {p : Nat → Int} (h : Row w b p) : Row w.drew b p := h
section
variable {ops : Array Oper} {Q : Exit → Act → World → Prop} {S : World → Prop} {fuel : Nat} {listed : Array Bool} {a : Act} {w : World} {o : Oper}
theorem held_take (i : Nat) (hs : Region.noSelect ops = true) (hf : Region.free .any ops listed i = true) (hr : (Region.ready .any ops listed).contains i = true) (hz : (ops[i]?).isSome = true)
    (hQ : ∀ c a d v w, Q (.panic c) (Act.put a d v) w → Q (.panic c) a w) (hS : S w)
    (h : ∀ o : Oper, ops[i]? = some o → ∃ v, YieldsIf Tryd.prog ops S o v a ∧ wpAnyH Tryd.prog .any ops Q S fuel (listed.setIfInBounds i true) (a.put o.dst v) w) : wpAnyH Tryd.prog .any ops Q S (fuel + 1) listed a w := by
  obtain ⟨o, ho⟩ := Option.isSome_iff_exists.1 hz
  obtain ⟨v, hy, h⟩ := h o ho
  exact wpAnyH_take ho hs hf hr (fun c a w => hQ c a o.dst v w) hy hS h
theorem y_load (hw : Region.wanted o (yielded ops a.tmps) = true) (x : Operand) (ho : o.op = .load 31 x) (b : Nat) (hx : a.eval x = .pointer (some ⟨b, 0, none⟩)) (p : Nat → Int) (hR : ∀ w', S w' → Row w' b p) :
    YieldsIf Tryd.prog ops S o (.agg (posA p)) a := Or.inl ⟨hw, fun w' hS' => by
  have hl := run_loadVar_row w' b 31 31 (posA p) (0, 0) _ (hR w' hS') Tryd.underlying31 rfl (by rw [posA_size]; exact size31)
  unfold execOp
  simp only [ho, hx, Instr.loadAt, Instr.sureAddr, Sem.run_bind, Sem.run_pure, Result.andThen_ok, hl]⟩
theorem y_read (hw : Region.wanted o (yielded ops a.tmps) = true) (ty : TypeId) (x : Operand) (ho : o.op = .load ty x) (b of n : Nat) (hx : a.eval x = .pointer (some ⟨b, of, none⟩)) (p : Nat → Int) (hR : ∀ w', S w' → Row w' b p) (hn : of + n ≤ 88)
    (d : TypeDesc) (hu : Tryd.prog.underlying ty = some d) (hd : d.isRow = true) (hz : (Tryd.prog.info? ty).map (·.size) = some n) : YieldsIf Tryd.prog ops S o (.agg (partL p of n).toArray) a :=
  yieldsIf_load_mid hw ty x ho b of hx (partL p of n) d (fun w' h' => (hR w' h').range of n hn) hu hd (by rw [partL_len]; exact hz)
theorem y_cell (hw : Region.wanted o (yielded ops a.tmps) = true) (x : Operand) (ho : o.op = .load 5 x) (b of : Nat) (hx : a.eval x = .pointer (some ⟨b, of, none⟩)) (p : Nat → Int) (hR : ∀ w', S w' → Row w' b p) (hn : of < 88) (hk : kAt of = .u8) :
    YieldsIf Tryd.prog ops S o (.int .u8 (p of)) a := Or.inl ⟨hw, fun w' hS' => by
  have hc := (hR w' hS').cell of hn
  rw [hk] at hc
  have ha : (isAgg 5).run Tryd.prog w' = .ok false w' := by
    unfold isAgg; rw [Sem.run_bind, run_underlying Tryd.underlying5 w']; simp
  unfold execOp
  simp only [ho, hx]
  simp [Instr.loadAt, Instr.sureAddr, loadVar, ha, hc, go_sem]⟩
theorem held_exec (i : Nat) (hi : ops[i]? = some o) (hr : Region.ready .any ops listed = [i]) (hw : Region.wanted o (yielded ops a.tmps) = true)
    (h : ∀ K : Act → World → Prop, Shut (∀ a w, S w → wpAnyH Tryd.prog .any ops Q S fuel (listed.setIfInBounds i true) a w → K a w) → Oper.wp Tryd.prog o a w K Q) : wpAnyH Tryd.prog .any ops Q S (fuel + 1) listed a w :=
  wpAnyH_ready (rs := [i]) hr (by simp) (AllReadyH.cons hi (fun K hK => by rw [if_pos hw]; exact h K (fun a w hS hW => hK.out a w hS (fun _ => hW))) AllReadyH.nil)
theorem held_two (i j : Nat) {o' : Oper} (hi : ops[i]? = some o) (hj : ops[j]? = some o') (hr : Region.ready .any ops listed = [i, j]) (hw : Region.wanted o (yielded ops a.tmps) = true) (hw' : Region.wanted o' (yielded ops a.tmps) = true)
    (h : ∀ K : Act → World → Prop, Shut (∀ a w, S w → wpAnyH Tryd.prog .any ops Q S fuel (listed.setIfInBounds i true) a w → K a w) → Oper.wp Tryd.prog o a w K Q)
    (h' : ∀ K : Act → World → Prop, Shut (∀ a w, S w → wpAnyH Tryd.prog .any ops Q S fuel (listed.setIfInBounds j true) a w → K a w) → Oper.wp Tryd.prog o' a w K Q) : wpAnyH Tryd.prog .any ops Q S (fuel + 1) listed a w :=
  wpAnyH_ready (rs := [i, j]) hr (by simp) (AllReadyH.cons hi (fun K hK => by rw [if_pos hw]; exact h K (fun a w hS hW => hK.out a w hS (fun _ => hW)))
    (AllReadyH.cons hj (fun K hK => by rw [if_pos hw']; exact h' K (fun a w hS hW => hK.out a w hS (fun _ => hW))) AllReadyH.nil))
theorem held_do (i : Nat) (hr : Region.ready .any ops listed = [i]) (hs : (ops[i]?).isSome = true)
    (h : ∀ o : Oper, ops[i]? = some o → Region.wanted o (yielded ops a.tmps) = true ∧ ∀ K : Act → World → Prop, Shut (∀ a w, S w → wpAnyH Tryd.prog .any ops Q S fuel (listed.setIfInBounds i true) a w → K a w) → Oper.wp Tryd.prog o a w K Q) : wpAnyH Tryd.prog .any ops Q S (fuel + 1) listed a w := by
  obtain ⟨o, ho⟩ := Option.isSome_iff_exists.1 hs
  exact held_exec i ho hr (h o ho).1 (h o ho).2
/-- A store of a part. -/
theorem wp_write {K : Act → World → Prop} (ty : TypeId) (x y : Operand) (ho : o.op = .store ty x y) (b of n : Nat) (hx : a.eval x = .pointer (some ⟨b, of, none⟩)) (p q : Nat → Int) (hy : a.eval y = .agg (partL q of n).toArray)
    (hr : Row w b p) (hn : of + n ≤ 88) (hi : (Tryd.prog.info? ty).map (·.size) = some n)
    (h : ∀ w', Upd b w w' → Row w' b (over p of n q) → K (a.put o.dst undef) w') : Oper.wp Tryd.prog o a w K Q :=
  wp_store_mid ty x y ho b of (partL q of n).toArray hx hy (by rw [List.size_toArray, partL_len]; exact hr.there of n hn) (by rw [List.size_toArray, partL_len]; exact hi) (partL_one q of n) (h _ (Upd.setCells _ _ _ _) (Row.sets n of w p q hr hn))
theorem wp_one {K : Act → World → Prop} (ty : TypeId) (x y : Operand) (ho : o.op = .store ty x y) (b i : Nat) (hx : a.eval x = .pointer (some ⟨b, i, none⟩)) (k : IntKind) (v : Int) (hy : a.eval y = .int k v)
    (p : Nat → Int) (hr : Row w b p) (hi : i < 88) (hk : kAt i = k) (hs : (Tryd.prog.info? ty).map (·.size) = some 1)
    (h : ∀ w', Upd b w w' → Row w' b (upd p i v) → K (a.put o.dst undef) w') : Oper.wp Tryd.prog o a w K Q := by
  subst hk
  have h1 := h _ (Upd.setCell w b i (.int (kAt i) v)) (hr.set i v hi)
  have hrun : (storeVar ty ⟨b, i, none⟩ (.int (kAt i) v)).run Tryd.prog w = .ok () (w.setCell ⟨b, i, none⟩ (.int (kAt i) v)) :=
    run_storeVar_mid w b i ty #[.int (kAt i) v] (hr.there i 1 (by omega)) hs (by simp [Value.oneCell'])
  unfold Oper.wp execOp
  simp only [ho, hx, hy, Instr.storeAt, Instr.sureAddr, Sem.run_bind, Sem.run_pure, Result.andThen_ok, hrun]
  exact h1
theorem wp_whole {K : Act → World → Prop} (x y : Operand) (ho : o.op = .store 31 x y) (b : Nat) (hx : a.eval x = .pointer (some ⟨b, 0, none⟩)) (p q : Nat → Int) (hy : a.eval y = .agg (posA q)) (hr : Row w b p)
    (h : ∀ w', Upd b w w' → Row w' b q → K (a.put o.dst undef) w') : Oper.wp Tryd.prog o a w K Q :=
  wp_store_mid 31 x y ho b 0 (posA q) hx hy (by rw [posA_size]; exact hr.there 0 88 (by omega)) (by rw [posA_size]; exact size31) (posA_one q) (h _ (Upd.setCells _ _ _ _) hr.whole)
theorem wp_alloc {K : Act → World → Prop} (ho : o.op = .alloc 31) (h : ∀ b w', New b w w' → Row w' b zeroP → K (a.put o.dst (.pointer (some ⟨b, 0, none⟩))) w') : Oper.wp Tryd.prog o a w K Q := by
  have hk := h _ _ (New.alloc w _) (heap_alloc_new w (.cells (posA zeroP) 31))
  have hz : ∀ w, (zeroValue 31).run Tryd.prog w = .ok (.agg (posA zeroP)) w := fun w => by
    cases hq : Tryd.prog.info? 31 with
    | none => have := info31; simp [hq] at this
    | some i => have := info31; simp [hq] at this; simp [zeroValue, typeInfo, hq, this.1]
  unfold Oper.wp execOp
  simp only [ho, Instr.alloc, Sem.run_bind, Sem.run_pure, Result.andThen_ok, hz]
  exact hk
end
end Go.Proofs.YtgodoipmnenohaaDoor
