/-
  Contracts of the reader of the document's own Parse (layer 10): next, take, need, piece.
-/
import Derived.Test.YtkcflknjnefhbaaGreatDoorFnBaseB
import Derived.Test.YtkcflknjnefhbaaGreatDoorFnBaseC
import Derived.Test.YtkcflknjnefhbaaGreatDoorKept
import Derived.Test.YtkcflknjnefhbaaGreatDoorFnBaseA
namespace Go.Proofs.YtkcflknjnefhbaaGreatDoor
open Go.RowKit
set_option linter.unusedVariables false
set_option linter.unusedSimpArgs false

/-- The byte at a place; 0: there is none. -/
def chA (t : ByteArray) (i : Nat) : Int := match t.data[i]? with | some b => (b.toNat : Int) | none => 0
/-- The next byte. -/
def nxA (t : ByteArray) (i : Nat) (d : Bool) : Int := bif d then 0 else chA t i
theorem chA_out {t : ByteArray} {i : Nat} (h : t.size ≤ i) : chA t i = 0 := by
  unfold chA; rw [Array.getElem?_eq_none (by exact h)]
theorem chA_in {t : ByteArray} {i : Nat} (h : i < t.size) : chA t i = (t[i].toNat : Int) := by
  unfold chA; rw [Array.getElem?_eq_getElem (by exact h)]; rfl
theorem chA_rng (t : ByteArray) (i : Nat) : 0 ≤ chA t i ∧ chA t i ≤ 255 := by
  unfold chA
  cases t.data[i]? with
  | none => exact ⟨by decide, by decide⟩
  | some b => have h : b.toNat < 256 := b.toNat_lt; exact ⟨Int.natCast_nonneg _, by show (b.toNat : Int) ≤ 255; omega⟩
theorem nxA_rng (t : ByteArray) (i : Nat) (d : Bool) : 0 ≤ nxA t i d ∧ nxA t i d ≤ 255 := by
  cases d
  · exact chA_rng t i
  · show (0 : Int) ≤ 0 ∧ (0 : Int) ≤ 255; decide
/-- A reader's block: the text, how far it is read, whether something else stood there. -/
def Cur (w : World) (b : Nat) (t : ByteArray) (i : Nat) (d : Bool) : Prop := ∃ T, Blk w b T #[.string t, .int .i64 (i : Int), .bool d]
section
variable {w w' : World} {b c i : Nat} {t : ByteArray} {d : Bool}
theorem Cur.lt (h : Cur w b t i d) : b < w.heap.size := h.elim fun _ h => h.lt
theorem Cur.later (h : Cur w b t i d) (hb : Below w.heap.size w w') : Cur w' b t i d := h.elim fun T h => ⟨T, h.later hb⟩
theorem Cur.cs (h : Cur w b t i d) : w.cell? ⟨b, 0, none⟩ = some (.string t) := h.elim fun _ h => h.cell 0
theorem Cur.ci (h : Cur w b t i d) : w.cell? ⟨b, 1, none⟩ = some (.int .i64 (i : Int)) := h.elim fun _ h => h.cell 1
theorem Cur.cd (h : Cur w b t i d) : w.cell? ⟨b, 2, none⟩ = some (.bool d) := h.elim fun _ h => h.cell 2
theorem Cur.kept {X : Nat → Prop} (h : Cur w b t i d) (k : Kept X w w') (hx : ¬ X b) : Cur w' b t i d := h.elim fun T h => ⟨T, k.obj h hx⟩
theorem Cur.lat (h : Cur w b t i d) (k : Later w w') : Cur w' b t i d := h.later k
end
section laws
variable {ops : Array Oper} {rest : List Oper} {op : Oper} {a : Act} {w : World} {Q : Exit → Act → World → Prop}
set_option maxRecDepth 100000 in
/-- A store of how far it is read. -/
theorem step_curi (hw : Region.wanted op (yielded ops a.tmps) = true) (x y : Operand) (ho : op.op = .store 3 x y) (b : Nat) (hx : a.eval x = .pointer (some ⟨b, 1, none⟩)) (j : Nat) (hy : a.eval y = .int .i64 (j : Int)) (t : ByteArray) (i : Nat) (d : Bool) (hr : Cur w b t i d)
    (h : ∀ w', Kept (· = b) w w' → Cur w' b t j d → wpList Tryz.prog ops Q rest (a.put op.dst undef) w') : wpList Tryz.prog ops Q (op :: rest) a w :=
  hr.elim fun T hr => wpList_want hw fun K' hK' => by
    have hk := hK' _ _ (h _ (Kept.setCell b 1 (.int .i64 (j : Int)) w) ⟨T, hr.set 1 _⟩)
    have hrun : (storeVar 3 ⟨b, 1, none⟩ (.int .i64 (j : Int))).run Tryz.prog w = .ok () (w.setCell ⟨b, 1, none⟩ (.int .i64 (j : Int))) :=
      run_storeVar_mid w b 1 3 #[.int .i64 (j : Int)] (hr.there 1 1 (by show 1 + 1 ≤ 3; decide)) rfl (by simp [Value.oneCell'])
    unfold Oper.wp execOp
    simp only [ho, hx, hy, Instr.storeAt, Instr.sureAddr, Sem.run_bind, Sem.run_pure, Result.andThen_ok, hrun]
    exact hk
set_option maxRecDepth 100000 in
/-- A store of whether something else stood there. -/
theorem step_curd (hw : Region.wanted op (yielded ops a.tmps) = true) (x y : Operand) (ho : op.op = .store 4 x y) (b : Nat) (hx : a.eval x = .pointer (some ⟨b, 2, none⟩)) (e : Bool) (hy : a.eval y = .bool e) (t : ByteArray) (i : Nat) (d : Bool) (hr : Cur w b t i d)
    (h : ∀ w', Kept (· = b) w w' → Cur w' b t i e → wpList Tryz.prog ops Q rest (a.put op.dst undef) w') : wpList Tryz.prog ops Q (op :: rest) a w :=
  hr.elim fun T hr => wpList_want hw fun K' hK' => by
    have hk := hK' _ _ (h _ (Kept.setCell b 2 (.bool e) w) ⟨T, hr.set 2 _⟩)
    have hrun : (storeVar 4 ⟨b, 2, none⟩ (.bool e)).run Tryz.prog w = .ok () (w.setCell ⟨b, 2, none⟩ (.bool e)) :=
      run_storeVar_mid w b 2 4 #[.bool e] (hr.there 2 1 (by show 2 + 1 ≤ 3; decide)) rfl (by simp [Value.oneCell'])
    unfold Oper.wp execOp
    simp only [ho, hx, hy, Instr.storeAt, Instr.sureAddr, Sem.run_bind, Sem.run_pure, Result.andThen_ok, hrun]
    exact hk
end laws
/-- What next, take leave. -/
def NxP (n : Int) (w : World) (e : Ending) (w' : World) : Prop := U8L n w e w'
def TkP (n : Int) (b : Nat) (t : ByteArray) (i : Nat) (d : Bool) (w : World) (e : Ending) (w' : World) : Prop := e = .returned (.int .u8 n) ∧ Kept (· = b) w w' ∧ Cur w' b t i d
set_option maxRecDepth 100000 in
set_option maxHeartbeats 4000000 in
theorem next_any (b : Nat) (t : ByteArray) (i : Nat) (d : Bool) (w : World) (hc : Cur w b t i d) : Calls Tryz.prog 24 #[.pointer (some ⟨b, 0, none⟩)] w (NxP (nxA t i d) w) := by
  have HCw := Lib.hid hc
  have HF := Lib.hid (by kernel_rfl : Tryz.prog.follows .mixedOrders = true)
  clear hc
  cases d
  · by_cases h : t.size ≤ i
    · have HZ := Lib.hid (chA_out h)
      go_enter Tryz.func24, Tryz.ntmps24
      go_wp2_with fail
      have HB := Lib.hid (Below.refl w.heap.size w)
      refine late_begin 16 (by kernel_rfl) ?_
      refine late_take 0 (by kernel_rfl) (by kernel_rfl) (by kernel_rfl) (by kernel_rfl) (by kernel_rfl) (fun _ _ d _ _ h => by cases d <;> exact h) (fun o ho => ?_)
      simp only [List.getElem?_toArray, List.getElem?_cons_zero, List.getElem?_cons_succ, Option.some.injEq] at ho; subst ho
      apply Exists.intro
      refine ⟨Or.inl ⟨by kernel_rfl, fun w' hl => Or.inl ?_⟩, ?_⟩
      · (go_simp; try with_reducible rfl)
      simp only [Act.put, List.setIfInBounds_toArray, List.set_cons_zero, List.set_cons_succ]
      refine late_take 1 (by kernel_rfl) (by kernel_rfl) (by kernel_rfl) (by kernel_rfl) (by kernel_rfl) (fun _ _ d _ _ h => by cases d <;> exact h) (fun o ho => ?_)
      simp only [List.getElem?_toArray, List.getElem?_cons_zero, List.getElem?_cons_succ, Option.some.injEq] at ho; subst ho
      apply Exists.intro
      refine ⟨Or.inl ⟨by kernel_rfl, fun w' hl => Or.inl ?_⟩, ?_⟩
      · (go_simp; try with_reducible rfl)
      simp only [Act.put, List.setIfInBounds_toArray, List.set_cons_zero, List.set_cons_succ]
      refine late_take 2 (by kernel_rfl) (by kernel_rfl) (by kernel_rfl) (by kernel_rfl) (by kernel_rfl) (fun _ _ d _ _ h => by cases d <;> exact h) (fun o ho => ?_)
      simp only [List.getElem?_toArray, List.getElem?_cons_zero, List.getElem?_cons_succ, Option.some.injEq] at ho; subst ho
      apply Exists.intro
      refine ⟨Or.inl ⟨by kernel_rfl, fun w' hl => Or.inl ?_⟩, ?_⟩
      · (go_simp; try with_reducible rfl)
      simp only [Act.put, List.setIfInBounds_toArray, List.set_cons_zero, List.set_cons_succ]
      refine late_take 3 (by kernel_rfl) (by kernel_rfl) (by kernel_rfl) (by kernel_rfl) (by kernel_rfl) (fun _ _ d _ _ h => by cases d <;> exact h) (fun o ho => ?_)
      simp only [List.getElem?_toArray, List.getElem?_cons_zero, List.getElem?_cons_succ, Option.some.injEq] at ho; subst ho
      refine ⟨.bool false, Or.inl ⟨by kernel_rfl, fun w' hl => Or.inl (run_get 4 _ rfl b 2 rfl Tryz.underlying4 rfl (.bool false) (HCw.out.lat hl).cd)⟩, ?_⟩
      simp only [Act.put, List.setIfInBounds_toArray, List.set_cons_zero, List.set_cons_succ]
      refine late_take 4 (by kernel_rfl) (by kernel_rfl) (by kernel_rfl) (by kernel_rfl) (by kernel_rfl) (fun _ _ d _ _ h => by cases d <;> exact h) (fun o ho => ?_)
      simp only [List.getElem?_toArray, List.getElem?_cons_zero, List.getElem?_cons_succ, Option.some.injEq] at ho; subst ho
      apply Exists.intro
      refine ⟨Or.inl ⟨by kernel_rfl, fun w' hl => Or.inl ?_⟩, ?_⟩
      · (go_simp; try with_reducible rfl)
      simp only [Act.put, List.setIfInBounds_toArray, List.set_cons_zero, List.set_cons_succ]
      refine late_take 5 (by kernel_rfl) (by kernel_rfl) (by kernel_rfl) (by kernel_rfl) (by kernel_rfl) (fun _ _ d _ _ h => by cases d <;> exact h) (fun o ho => ?_)
      simp only [List.getElem?_toArray, List.getElem?_cons_zero, List.getElem?_cons_succ, Option.some.injEq] at ho; subst ho
      apply Exists.intro
      refine ⟨Or.inl ⟨by kernel_rfl, fun w' hl => Or.inl ?_⟩, ?_⟩
      · (go_simp; try with_reducible rfl)
      simp only [Act.put, List.setIfInBounds_toArray, List.set_cons_zero, List.set_cons_succ]
      refine late_take 6 (by kernel_rfl) (by kernel_rfl) (by kernel_rfl) (by kernel_rfl) (by kernel_rfl) (fun _ _ d _ _ h => by cases d <;> exact h) (fun o ho => ?_)
      simp only [List.getElem?_toArray, List.getElem?_cons_zero, List.getElem?_cons_succ, Option.some.injEq] at ho; subst ho
      apply Exists.intro
      refine ⟨Or.inl ⟨by kernel_rfl, fun w' hl => Or.inl ?_⟩, ?_⟩
      · (go_simp; try with_reducible rfl)
      simp only [Act.put, List.setIfInBounds_toArray, List.set_cons_zero, List.set_cons_succ]
      refine late_take 7 (by kernel_rfl) (by kernel_rfl) (by kernel_rfl) (by kernel_rfl) (by kernel_rfl) (fun _ _ d _ _ h => by cases d <;> exact h) (fun o ho => ?_)
      simp only [List.getElem?_toArray, List.getElem?_cons_zero, List.getElem?_cons_succ, Option.some.injEq] at ho; subst ho
      apply Exists.intro
      refine ⟨Or.inl ⟨by kernel_rfl, fun w' hl => Or.inl ?_⟩, ?_⟩
      · (go_simp; try with_reducible rfl)
      simp only [Act.put, List.setIfInBounds_toArray, List.set_cons_zero, List.set_cons_succ]
      refine late_take 8 (by kernel_rfl) (by kernel_rfl) (by kernel_rfl) (by kernel_rfl) (by kernel_rfl) (fun _ _ d _ _ h => by cases d <;> exact h) (fun o ho => ?_)
      simp only [List.getElem?_toArray, List.getElem?_cons_zero, List.getElem?_cons_succ, Option.some.injEq] at ho; subst ho
      refine ⟨.int .i64 (i : Int), Or.inl ⟨by kernel_rfl, fun w' hl => Or.inl (run_get 3 _ rfl b 1 rfl Tryz.underlying3 rfl (.int .i64 (i : Int)) (HCw.out.lat hl).ci)⟩, ?_⟩
      simp only [Act.put, List.setIfInBounds_toArray, List.set_cons_zero, List.set_cons_succ]
      refine late_take 9 (by kernel_rfl) (by kernel_rfl) (by kernel_rfl) (by kernel_rfl) (by kernel_rfl) (fun _ _ d _ _ h => by cases d <;> exact h) (fun o ho => ?_)
      simp only [List.getElem?_toArray, List.getElem?_cons_zero, List.getElem?_cons_succ, Option.some.injEq] at ho; subst ho
      apply Exists.intro
      refine ⟨Or.inl ⟨by kernel_rfl, fun w' hl => Or.inl ?_⟩, ?_⟩
      · (go_simp; try with_reducible rfl)
      simp only [Act.put, List.setIfInBounds_toArray, List.set_cons_zero, List.set_cons_succ]
      refine late_take 10 (by kernel_rfl) (by kernel_rfl) (by kernel_rfl) (by kernel_rfl) (by kernel_rfl) (fun _ _ d _ _ h => by cases d <;> exact h) (fun o ho => ?_)
      simp only [List.getElem?_toArray, List.getElem?_cons_zero, List.getElem?_cons_succ, Option.some.injEq] at ho; subst ho
      apply Exists.intro
      refine ⟨Or.inl ⟨by kernel_rfl, fun w' hl => Or.inl ?_⟩, ?_⟩
      · (go_simp; try with_reducible rfl)
      simp only [Act.put, List.setIfInBounds_toArray, List.set_cons_zero, List.set_cons_succ]
      refine late_take 11 (by kernel_rfl) (by kernel_rfl) (by kernel_rfl) (by kernel_rfl) (by kernel_rfl) (fun _ _ d _ _ h => by cases d <;> exact h) (fun o ho => ?_)
      simp only [List.getElem?_toArray, List.getElem?_cons_zero, List.getElem?_cons_succ, Option.some.injEq] at ho; subst ho
      apply Exists.intro
      refine ⟨Or.inl ⟨by kernel_rfl, fun w' hl => Or.inl ?_⟩, ?_⟩
      · (go_simp; try with_reducible rfl)
      simp only [Act.put, List.setIfInBounds_toArray, List.set_cons_zero, List.set_cons_succ]
      refine late_take 12 (by kernel_rfl) (by kernel_rfl) (by kernel_rfl) (by kernel_rfl) (by kernel_rfl) (fun _ _ d _ _ h => by cases d <;> exact h) (fun o ho => ?_)
      simp only [List.getElem?_toArray, List.getElem?_cons_zero, List.getElem?_cons_succ, Option.some.injEq] at ho; subst ho
      refine ⟨.string t, Or.inl ⟨by kernel_rfl, fun w' hl => Or.inl (run_get 9 _ rfl b 0 rfl Tryz.underlying9 rfl (.string t) (HCw.out.lat hl).cs)⟩, ?_⟩
      simp only [Act.put, List.setIfInBounds_toArray, List.set_cons_zero, List.set_cons_succ]
      refine late_take 13 (by kernel_rfl) (by kernel_rfl) (by kernel_rfl) (by kernel_rfl) (by kernel_rfl) (fun _ _ d _ _ h => by cases d <;> exact h) (fun o ho => ?_)
      simp only [List.getElem?_toArray, List.getElem?_cons_zero, List.getElem?_cons_succ, Option.some.injEq] at ho; subst ho
      apply Exists.intro
      refine ⟨Or.inl ⟨by kernel_rfl, fun w' hl => Or.inl ?_⟩, ?_⟩
      · (go_simp; try with_reducible rfl)
      simp only [Act.put, List.setIfInBounds_toArray, List.set_cons_zero, List.set_cons_succ]
      refine late_take 14 (by kernel_rfl) (by kernel_rfl) (by kernel_rfl) (by kernel_rfl) (by kernel_rfl) (fun _ _ d _ _ h => by cases d <;> exact h) (fun o ho => ?_)
      simp only [List.getElem?_toArray, List.getElem?_cons_zero, List.getElem?_cons_succ, Option.some.injEq] at ho; subst ho
      refine ⟨.bool true, Or.inl ⟨by kernel_rfl, fun w' hl => Or.inl ?_⟩, ?_⟩
      · (go_simp; try omega)
      simp only [Act.put, List.setIfInBounds_toArray, List.set_cons_zero, List.set_cons_succ]
      refine late_take 15 (by kernel_rfl) (by kernel_rfl) (by kernel_rfl) (by kernel_rfl) (by kernel_rfl) (fun _ _ d _ _ h => by cases d <;> exact h) (fun o ho => ?_)
      simp only [List.getElem?_toArray, List.getElem?_cons_zero, List.getElem?_cons_succ, Option.some.injEq] at ho; subst ho
      apply Exists.intro
      refine ⟨Or.inl ⟨by kernel_rfl, fun w' hl => Or.inl ?_⟩, ?_⟩
      · (go_simp; try with_reducible rfl)
      simp only [Act.put, List.setIfInBounds_toArray, List.set_cons_zero, List.set_cons_succ]
      refine late_end (by kernel_rfl) (fun wn hl => ?_)
      have HCw := Lib.hid (HCw.out.later hl); have HB := Lib.hid (below_on HB.out hl); clear hl
      go_wp2_with fail
      go_ret
      exact ⟨by rw [show nxA t i false = 0 from HZ.out]; rfl, HB.out⟩
    · have HZ := Lib.hid (chA_in (show i < t.size by omega))
      have HI := Lib.hid (show i < t.size by omega)
      go_enter Tryz.func24, Tryz.ntmps24
      go_wp2_with fail
      have HB := Lib.hid (Below.refl w.heap.size w)
      refine late_begin 16 (by kernel_rfl) ?_
      refine late_take 0 (by kernel_rfl) (by kernel_rfl) (by kernel_rfl) (by kernel_rfl) (by kernel_rfl) (fun _ _ d _ _ h => by cases d <;> exact h) (fun o ho => ?_)
      simp only [List.getElem?_toArray, List.getElem?_cons_zero, List.getElem?_cons_succ, Option.some.injEq] at ho; subst ho
      apply Exists.intro
      refine ⟨Or.inl ⟨by kernel_rfl, fun w' hl => Or.inl ?_⟩, ?_⟩
      · (go_simp; try with_reducible rfl)
      simp only [Act.put, List.setIfInBounds_toArray, List.set_cons_zero, List.set_cons_succ]
      refine late_take 1 (by kernel_rfl) (by kernel_rfl) (by kernel_rfl) (by kernel_rfl) (by kernel_rfl) (fun _ _ d _ _ h => by cases d <;> exact h) (fun o ho => ?_)
      simp only [List.getElem?_toArray, List.getElem?_cons_zero, List.getElem?_cons_succ, Option.some.injEq] at ho; subst ho
      apply Exists.intro
      refine ⟨Or.inl ⟨by kernel_rfl, fun w' hl => Or.inl ?_⟩, ?_⟩
      · (go_simp; try with_reducible rfl)
      simp only [Act.put, List.setIfInBounds_toArray, List.set_cons_zero, List.set_cons_succ]
      refine late_take 2 (by kernel_rfl) (by kernel_rfl) (by kernel_rfl) (by kernel_rfl) (by kernel_rfl) (fun _ _ d _ _ h => by cases d <;> exact h) (fun o ho => ?_)
      simp only [List.getElem?_toArray, List.getElem?_cons_zero, List.getElem?_cons_succ, Option.some.injEq] at ho; subst ho
      apply Exists.intro
      refine ⟨Or.inl ⟨by kernel_rfl, fun w' hl => Or.inl ?_⟩, ?_⟩
      · (go_simp; try with_reducible rfl)
      simp only [Act.put, List.setIfInBounds_toArray, List.set_cons_zero, List.set_cons_succ]
      refine late_take 3 (by kernel_rfl) (by kernel_rfl) (by kernel_rfl) (by kernel_rfl) (by kernel_rfl) (fun _ _ d _ _ h => by cases d <;> exact h) (fun o ho => ?_)
      simp only [List.getElem?_toArray, List.getElem?_cons_zero, List.getElem?_cons_succ, Option.some.injEq] at ho; subst ho
      refine ⟨.bool false, Or.inl ⟨by kernel_rfl, fun w' hl => Or.inl (run_get 4 _ rfl b 2 rfl Tryz.underlying4 rfl (.bool false) (HCw.out.lat hl).cd)⟩, ?_⟩
      simp only [Act.put, List.setIfInBounds_toArray, List.set_cons_zero, List.set_cons_succ]
      refine late_take 4 (by kernel_rfl) (by kernel_rfl) (by kernel_rfl) (by kernel_rfl) (by kernel_rfl) (fun _ _ d _ _ h => by cases d <;> exact h) (fun o ho => ?_)
      simp only [List.getElem?_toArray, List.getElem?_cons_zero, List.getElem?_cons_succ, Option.some.injEq] at ho; subst ho
      apply Exists.intro
      refine ⟨Or.inl ⟨by kernel_rfl, fun w' hl => Or.inl ?_⟩, ?_⟩
      · (go_simp; try with_reducible rfl)
      simp only [Act.put, List.setIfInBounds_toArray, List.set_cons_zero, List.set_cons_succ]
      refine late_take 5 (by kernel_rfl) (by kernel_rfl) (by kernel_rfl) (by kernel_rfl) (by kernel_rfl) (fun _ _ d _ _ h => by cases d <;> exact h) (fun o ho => ?_)
      simp only [List.getElem?_toArray, List.getElem?_cons_zero, List.getElem?_cons_succ, Option.some.injEq] at ho; subst ho
      apply Exists.intro
      refine ⟨Or.inl ⟨by kernel_rfl, fun w' hl => Or.inl ?_⟩, ?_⟩
      · (go_simp; try with_reducible rfl)
      simp only [Act.put, List.setIfInBounds_toArray, List.set_cons_zero, List.set_cons_succ]
      refine late_take 6 (by kernel_rfl) (by kernel_rfl) (by kernel_rfl) (by kernel_rfl) (by kernel_rfl) (fun _ _ d _ _ h => by cases d <;> exact h) (fun o ho => ?_)
      simp only [List.getElem?_toArray, List.getElem?_cons_zero, List.getElem?_cons_succ, Option.some.injEq] at ho; subst ho
      apply Exists.intro
      refine ⟨Or.inl ⟨by kernel_rfl, fun w' hl => Or.inl ?_⟩, ?_⟩
      · (go_simp; try with_reducible rfl)
      simp only [Act.put, List.setIfInBounds_toArray, List.set_cons_zero, List.set_cons_succ]
      refine late_take 7 (by kernel_rfl) (by kernel_rfl) (by kernel_rfl) (by kernel_rfl) (by kernel_rfl) (fun _ _ d _ _ h => by cases d <;> exact h) (fun o ho => ?_)
      simp only [List.getElem?_toArray, List.getElem?_cons_zero, List.getElem?_cons_succ, Option.some.injEq] at ho; subst ho
      apply Exists.intro
      refine ⟨Or.inl ⟨by kernel_rfl, fun w' hl => Or.inl ?_⟩, ?_⟩
      · (go_simp; try with_reducible rfl)
      simp only [Act.put, List.setIfInBounds_toArray, List.set_cons_zero, List.set_cons_succ]
      refine late_take 8 (by kernel_rfl) (by kernel_rfl) (by kernel_rfl) (by kernel_rfl) (by kernel_rfl) (fun _ _ d _ _ h => by cases d <;> exact h) (fun o ho => ?_)
      simp only [List.getElem?_toArray, List.getElem?_cons_zero, List.getElem?_cons_succ, Option.some.injEq] at ho; subst ho
      refine ⟨.int .i64 (i : Int), Or.inl ⟨by kernel_rfl, fun w' hl => Or.inl (run_get 3 _ rfl b 1 rfl Tryz.underlying3 rfl (.int .i64 (i : Int)) (HCw.out.lat hl).ci)⟩, ?_⟩
      simp only [Act.put, List.setIfInBounds_toArray, List.set_cons_zero, List.set_cons_succ]
      refine late_take 9 (by kernel_rfl) (by kernel_rfl) (by kernel_rfl) (by kernel_rfl) (by kernel_rfl) (fun _ _ d _ _ h => by cases d <;> exact h) (fun o ho => ?_)
      simp only [List.getElem?_toArray, List.getElem?_cons_zero, List.getElem?_cons_succ, Option.some.injEq] at ho; subst ho
      apply Exists.intro
      refine ⟨Or.inl ⟨by kernel_rfl, fun w' hl => Or.inl ?_⟩, ?_⟩
      · (go_simp; try with_reducible rfl)
      simp only [Act.put, List.setIfInBounds_toArray, List.set_cons_zero, List.set_cons_succ]
      refine late_take 10 (by kernel_rfl) (by kernel_rfl) (by kernel_rfl) (by kernel_rfl) (by kernel_rfl) (fun _ _ d _ _ h => by cases d <;> exact h) (fun o ho => ?_)
      simp only [List.getElem?_toArray, List.getElem?_cons_zero, List.getElem?_cons_succ, Option.some.injEq] at ho; subst ho
      apply Exists.intro
      refine ⟨Or.inl ⟨by kernel_rfl, fun w' hl => Or.inl ?_⟩, ?_⟩
      · (go_simp; try with_reducible rfl)
      simp only [Act.put, List.setIfInBounds_toArray, List.set_cons_zero, List.set_cons_succ]
      refine late_take 11 (by kernel_rfl) (by kernel_rfl) (by kernel_rfl) (by kernel_rfl) (by kernel_rfl) (fun _ _ d _ _ h => by cases d <;> exact h) (fun o ho => ?_)
      simp only [List.getElem?_toArray, List.getElem?_cons_zero, List.getElem?_cons_succ, Option.some.injEq] at ho; subst ho
      apply Exists.intro
      refine ⟨Or.inl ⟨by kernel_rfl, fun w' hl => Or.inl ?_⟩, ?_⟩
      · (go_simp; try with_reducible rfl)
      simp only [Act.put, List.setIfInBounds_toArray, List.set_cons_zero, List.set_cons_succ]
      refine late_take 12 (by kernel_rfl) (by kernel_rfl) (by kernel_rfl) (by kernel_rfl) (by kernel_rfl) (fun _ _ d _ _ h => by cases d <;> exact h) (fun o ho => ?_)
      simp only [List.getElem?_toArray, List.getElem?_cons_zero, List.getElem?_cons_succ, Option.some.injEq] at ho; subst ho
      refine ⟨.string t, Or.inl ⟨by kernel_rfl, fun w' hl => Or.inl (run_get 9 _ rfl b 0 rfl Tryz.underlying9 rfl (.string t) (HCw.out.lat hl).cs)⟩, ?_⟩
      simp only [Act.put, List.setIfInBounds_toArray, List.set_cons_zero, List.set_cons_succ]
      refine late_take 13 (by kernel_rfl) (by kernel_rfl) (by kernel_rfl) (by kernel_rfl) (by kernel_rfl) (fun _ _ d _ _ h => by cases d <;> exact h) (fun o ho => ?_)
      simp only [List.getElem?_toArray, List.getElem?_cons_zero, List.getElem?_cons_succ, Option.some.injEq] at ho; subst ho
      apply Exists.intro
      refine ⟨Or.inl ⟨by kernel_rfl, fun w' hl => Or.inl ?_⟩, ?_⟩
      · (go_simp; try with_reducible rfl)
      simp only [Act.put, List.setIfInBounds_toArray, List.set_cons_zero, List.set_cons_succ]
      refine late_take 14 (by kernel_rfl) (by kernel_rfl) (by kernel_rfl) (by kernel_rfl) (by kernel_rfl) (fun _ _ d _ _ h => by cases d <;> exact h) (fun o ho => ?_)
      simp only [List.getElem?_toArray, List.getElem?_cons_zero, List.getElem?_cons_succ, Option.some.injEq] at ho; subst ho
      refine ⟨.bool false, Or.inl ⟨by kernel_rfl, fun w' hl => Or.inl ?_⟩, ?_⟩
      · (go_simp; try omega)
      simp only [Act.put, List.setIfInBounds_toArray, List.set_cons_zero, List.set_cons_succ]
      refine late_take 15 (by kernel_rfl) (by kernel_rfl) (by kernel_rfl) (by kernel_rfl) (by kernel_rfl) (fun _ _ d _ _ h => by cases d <;> exact h) (fun o ho => ?_)
      simp only [List.getElem?_toArray, List.getElem?_cons_zero, List.getElem?_cons_succ, Option.some.injEq] at ho; subst ho
      apply Exists.intro
      refine ⟨Or.inl ⟨by kernel_rfl, fun w' hl => Or.inl ?_⟩, ?_⟩
      · (go_simp; try with_reducible rfl)
      simp only [Act.put, List.setIfInBounds_toArray, List.set_cons_zero, List.set_cons_succ]
      refine late_end (by kernel_rfl) (fun wn hl => ?_)
      have HCw := Lib.hid (HCw.out.later hl); have HB := Lib.hid (below_on HB.out hl); clear hl
      go_wp2_with fail
      refine late_begin 10 (by kernel_rfl) ?_
      refine late_take 0 (by kernel_rfl) (by kernel_rfl) (by kernel_rfl) (by kernel_rfl) (by kernel_rfl) (fun _ _ d _ _ h => by cases d <;> exact h) (fun o ho => ?_)
      simp only [List.getElem?_toArray, List.getElem?_cons_zero, List.getElem?_cons_succ, Option.some.injEq] at ho; subst ho
      apply Exists.intro
      refine ⟨Or.inl ⟨by kernel_rfl, fun w' hl => Or.inl ?_⟩, ?_⟩
      · (go_simp; try with_reducible rfl)
      simp only [Act.put, List.setIfInBounds_toArray, List.set_cons_zero, List.set_cons_succ]
      refine late_take 1 (by kernel_rfl) (by kernel_rfl) (by kernel_rfl) (by kernel_rfl) (by kernel_rfl) (fun _ _ d _ _ h => by cases d <;> exact h) (fun o ho => ?_)
      simp only [List.getElem?_toArray, List.getElem?_cons_zero, List.getElem?_cons_succ, Option.some.injEq] at ho; subst ho
      apply Exists.intro
      refine ⟨Or.inl ⟨by kernel_rfl, fun w' hl => Or.inl ?_⟩, ?_⟩
      · (go_simp; try with_reducible rfl)
      simp only [Act.put, List.setIfInBounds_toArray, List.set_cons_zero, List.set_cons_succ]
      refine late_take 2 (by kernel_rfl) (by kernel_rfl) (by kernel_rfl) (by kernel_rfl) (by kernel_rfl) (fun _ _ d _ _ h => by cases d <;> exact h) (fun o ho => ?_)
      simp only [List.getElem?_toArray, List.getElem?_cons_zero, List.getElem?_cons_succ, Option.some.injEq] at ho; subst ho
      apply Exists.intro
      refine ⟨Or.inl ⟨by kernel_rfl, fun w' hl => Or.inl ?_⟩, ?_⟩
      · (go_simp; try with_reducible rfl)
      simp only [Act.put, List.setIfInBounds_toArray, List.set_cons_zero, List.set_cons_succ]
      refine late_take 3 (by kernel_rfl) (by kernel_rfl) (by kernel_rfl) (by kernel_rfl) (by kernel_rfl) (fun _ _ d _ _ h => by cases d <;> exact h) (fun o ho => ?_)
      simp only [List.getElem?_toArray, List.getElem?_cons_zero, List.getElem?_cons_succ, Option.some.injEq] at ho; subst ho
      refine ⟨.string t, Or.inl ⟨by kernel_rfl, fun w' hl => Or.inl (run_get 9 _ rfl b 0 rfl Tryz.underlying9 rfl (.string t) (HCw.out.lat hl).cs)⟩, ?_⟩
      simp only [Act.put, List.setIfInBounds_toArray, List.set_cons_zero, List.set_cons_succ]
      refine late_take 4 (by kernel_rfl) (by kernel_rfl) (by kernel_rfl) (by kernel_rfl) (by kernel_rfl) (fun _ _ d _ _ h => by cases d <;> exact h) (fun o ho => ?_)
      simp only [List.getElem?_toArray, List.getElem?_cons_zero, List.getElem?_cons_succ, Option.some.injEq] at ho; subst ho
      apply Exists.intro
      refine ⟨Or.inl ⟨by kernel_rfl, fun w' hl => Or.inl ?_⟩, ?_⟩
      · (go_simp; try with_reducible rfl)
      simp only [Act.put, List.setIfInBounds_toArray, List.set_cons_zero, List.set_cons_succ]
      refine late_take 5 (by kernel_rfl) (by kernel_rfl) (by kernel_rfl) (by kernel_rfl) (by kernel_rfl) (fun _ _ d _ _ h => by cases d <;> exact h) (fun o ho => ?_)
      simp only [List.getElem?_toArray, List.getElem?_cons_zero, List.getElem?_cons_succ, Option.some.injEq] at ho; subst ho
      apply Exists.intro
      refine ⟨Or.inl ⟨by kernel_rfl, fun w' hl => Or.inl ?_⟩, ?_⟩
      · (go_simp; try with_reducible rfl)
      simp only [Act.put, List.setIfInBounds_toArray, List.set_cons_zero, List.set_cons_succ]
      refine late_take 6 (by kernel_rfl) (by kernel_rfl) (by kernel_rfl) (by kernel_rfl) (by kernel_rfl) (fun _ _ d _ _ h => by cases d <;> exact h) (fun o ho => ?_)
      simp only [List.getElem?_toArray, List.getElem?_cons_zero, List.getElem?_cons_succ, Option.some.injEq] at ho; subst ho
      apply Exists.intro
      refine ⟨Or.inl ⟨by kernel_rfl, fun w' hl => Or.inl ?_⟩, ?_⟩
      · (go_simp; try with_reducible rfl)
      simp only [Act.put, List.setIfInBounds_toArray, List.set_cons_zero, List.set_cons_succ]
      refine late_take 7 (by kernel_rfl) (by kernel_rfl) (by kernel_rfl) (by kernel_rfl) (by kernel_rfl) (fun _ _ d _ _ h => by cases d <;> exact h) (fun o ho => ?_)
      simp only [List.getElem?_toArray, List.getElem?_cons_zero, List.getElem?_cons_succ, Option.some.injEq] at ho; subst ho
      refine ⟨.int .i64 (i : Int), Or.inl ⟨by kernel_rfl, fun w' hl => Or.inl (run_get 3 _ rfl b 1 rfl Tryz.underlying3 rfl (.int .i64 (i : Int)) (HCw.out.lat hl).ci)⟩, ?_⟩
      simp only [Act.put, List.setIfInBounds_toArray, List.set_cons_zero, List.set_cons_succ]
      refine late_take 8 (by kernel_rfl) (by kernel_rfl) (by kernel_rfl) (by kernel_rfl) (by kernel_rfl) (fun _ _ d _ _ h => by cases d <;> exact h) (fun o ho => ?_)
      simp only [List.getElem?_toArray, List.getElem?_cons_zero, List.getElem?_cons_succ, Option.some.injEq] at ho; subst ho
      refine ⟨.int .u8 (chA t i), Or.inl ⟨by kernel_rfl, fun w' hl => Or.inl ?_⟩, ?_⟩
      · (go_simp; have hi := HI.out; rw [dif_pos hi, HZ.out]; rfl)
      simp only [Act.put, List.setIfInBounds_toArray, List.set_cons_zero, List.set_cons_succ]
      refine late_take 9 (by kernel_rfl) (by kernel_rfl) (by kernel_rfl) (by kernel_rfl) (by kernel_rfl) (fun _ _ d _ _ h => by cases d <;> exact h) (fun o ho => ?_)
      simp only [List.getElem?_toArray, List.getElem?_cons_zero, List.getElem?_cons_succ, Option.some.injEq] at ho; subst ho
      apply Exists.intro
      refine ⟨Or.inl ⟨by kernel_rfl, fun w' hl => Or.inl ?_⟩, ?_⟩
      · (go_simp; try with_reducible rfl)
      simp only [Act.put, List.setIfInBounds_toArray, List.set_cons_zero, List.set_cons_succ]
      refine late_end (by kernel_rfl) (fun wn hl => ?_)
      have HCw := Lib.hid (HCw.out.later hl); have HB := Lib.hid (below_on HB.out hl); clear hl
      go_wp2_with fail
      go_ret
      exact ⟨rfl, HB.out⟩
  ·
    go_enter Tryz.func24, Tryz.ntmps24
    go_wp2_with fail
    have HB := Lib.hid (Below.refl w.heap.size w)
    refine late_begin 16 (by kernel_rfl) ?_
    refine late_take 0 (by kernel_rfl) (by kernel_rfl) (by kernel_rfl) (by kernel_rfl) (by kernel_rfl) (fun _ _ d _ _ h => by cases d <;> exact h) (fun o ho => ?_)
    simp only [List.getElem?_toArray, List.getElem?_cons_zero, List.getElem?_cons_succ, Option.some.injEq] at ho; subst ho
    apply Exists.intro
    refine ⟨Or.inl ⟨by kernel_rfl, fun w' hl => Or.inl ?_⟩, ?_⟩
    · (go_simp; try with_reducible rfl)
    simp only [Act.put, List.setIfInBounds_toArray, List.set_cons_zero, List.set_cons_succ]
    refine late_take 1 (by kernel_rfl) (by kernel_rfl) (by kernel_rfl) (by kernel_rfl) (by kernel_rfl) (fun _ _ d _ _ h => by cases d <;> exact h) (fun o ho => ?_)
    simp only [List.getElem?_toArray, List.getElem?_cons_zero, List.getElem?_cons_succ, Option.some.injEq] at ho; subst ho
    apply Exists.intro
    refine ⟨Or.inl ⟨by kernel_rfl, fun w' hl => Or.inl ?_⟩, ?_⟩
    · (go_simp; try with_reducible rfl)
    simp only [Act.put, List.setIfInBounds_toArray, List.set_cons_zero, List.set_cons_succ]
    refine late_take 2 (by kernel_rfl) (by kernel_rfl) (by kernel_rfl) (by kernel_rfl) (by kernel_rfl) (fun _ _ d _ _ h => by cases d <;> exact h) (fun o ho => ?_)
    simp only [List.getElem?_toArray, List.getElem?_cons_zero, List.getElem?_cons_succ, Option.some.injEq] at ho; subst ho
    apply Exists.intro
    refine ⟨Or.inl ⟨by kernel_rfl, fun w' hl => Or.inl ?_⟩, ?_⟩
    · (go_simp; try with_reducible rfl)
    simp only [Act.put, List.setIfInBounds_toArray, List.set_cons_zero, List.set_cons_succ]
    refine late_take 3 (by kernel_rfl) (by kernel_rfl) (by kernel_rfl) (by kernel_rfl) (by kernel_rfl) (fun _ _ d _ _ h => by cases d <;> exact h) (fun o ho => ?_)
    simp only [List.getElem?_toArray, List.getElem?_cons_zero, List.getElem?_cons_succ, Option.some.injEq] at ho; subst ho
    refine ⟨.bool true, Or.inl ⟨by kernel_rfl, fun w' hl => Or.inl (run_get 4 _ rfl b 2 rfl Tryz.underlying4 rfl (.bool true) (HCw.out.lat hl).cd)⟩, ?_⟩
    simp only [Act.put, List.setIfInBounds_toArray, List.set_cons_zero, List.set_cons_succ]
    refine late_take 4 (by kernel_rfl) (by kernel_rfl) (by kernel_rfl) (by kernel_rfl) (by kernel_rfl) (fun _ _ d _ _ h => by cases d <;> exact h) (fun o ho => ?_)
    simp only [List.getElem?_toArray, List.getElem?_cons_zero, List.getElem?_cons_succ, Option.some.injEq] at ho; subst ho
    apply Exists.intro
    refine ⟨Or.inl ⟨by kernel_rfl, fun w' hl => Or.inl ?_⟩, ?_⟩
    · (go_simp; try with_reducible rfl)
    simp only [Act.put, List.setIfInBounds_toArray, List.set_cons_zero, List.set_cons_succ]
    refine late_take 5 (by kernel_rfl) (by kernel_rfl) (by kernel_rfl) (by kernel_rfl) (by kernel_rfl) (fun _ _ d _ _ h => by cases d <;> exact h) (fun o ho => ?_)
    simp only [List.getElem?_toArray, List.getElem?_cons_zero, List.getElem?_cons_succ, Option.some.injEq] at ho; subst ho
    refine ⟨_, Or.inr ⟨by kernel_rfl, rfl⟩, ?_⟩
    simp only [Act.put, List.setIfInBounds_toArray, List.set_cons_zero, List.set_cons_succ]
    refine late_take 6 (by kernel_rfl) (by kernel_rfl) (by kernel_rfl) (by kernel_rfl) (by kernel_rfl) (fun _ _ d _ _ h => by cases d <;> exact h) (fun o ho => ?_)
    simp only [List.getElem?_toArray, List.getElem?_cons_zero, List.getElem?_cons_succ, Option.some.injEq] at ho; subst ho
    refine ⟨_, Or.inr ⟨by kernel_rfl, rfl⟩, ?_⟩
    simp only [Act.put, List.setIfInBounds_toArray, List.set_cons_zero, List.set_cons_succ]
    refine late_take 7 (by kernel_rfl) (by kernel_rfl) (by kernel_rfl) (by kernel_rfl) (by kernel_rfl) (fun _ _ d _ _ h => by cases d <;> exact h) (fun o ho => ?_)
    simp only [List.getElem?_toArray, List.getElem?_cons_zero, List.getElem?_cons_succ, Option.some.injEq] at ho; subst ho
    refine ⟨_, Or.inr ⟨by kernel_rfl, rfl⟩, ?_⟩
    simp only [Act.put, List.setIfInBounds_toArray, List.set_cons_zero, List.set_cons_succ]
    refine late_take 8 (by kernel_rfl) (by kernel_rfl) (by kernel_rfl) (by kernel_rfl) (by kernel_rfl) (fun _ _ d _ _ h => by cases d <;> exact h) (fun o ho => ?_)
    simp only [List.getElem?_toArray, List.getElem?_cons_zero, List.getElem?_cons_succ, Option.some.injEq] at ho; subst ho
    refine ⟨_, Or.inr ⟨by kernel_rfl, rfl⟩, ?_⟩
    simp only [Act.put, List.setIfInBounds_toArray, List.set_cons_zero, List.set_cons_succ]
    refine late_take 9 (by kernel_rfl) (by kernel_rfl) (by kernel_rfl) (by kernel_rfl) (by kernel_rfl) (fun _ _ d _ _ h => by cases d <;> exact h) (fun o ho => ?_)
    simp only [List.getElem?_toArray, List.getElem?_cons_zero, List.getElem?_cons_succ, Option.some.injEq] at ho; subst ho
    refine ⟨_, Or.inr ⟨by kernel_rfl, rfl⟩, ?_⟩
    simp only [Act.put, List.setIfInBounds_toArray, List.set_cons_zero, List.set_cons_succ]
    refine late_take 10 (by kernel_rfl) (by kernel_rfl) (by kernel_rfl) (by kernel_rfl) (by kernel_rfl) (fun _ _ d _ _ h => by cases d <;> exact h) (fun o ho => ?_)
    simp only [List.getElem?_toArray, List.getElem?_cons_zero, List.getElem?_cons_succ, Option.some.injEq] at ho; subst ho
    refine ⟨_, Or.inr ⟨by kernel_rfl, rfl⟩, ?_⟩
    simp only [Act.put, List.setIfInBounds_toArray, List.set_cons_zero, List.set_cons_succ]
    refine late_take 11 (by kernel_rfl) (by kernel_rfl) (by kernel_rfl) (by kernel_rfl) (by kernel_rfl) (fun _ _ d _ _ h => by cases d <;> exact h) (fun o ho => ?_)
    simp only [List.getElem?_toArray, List.getElem?_cons_zero, List.getElem?_cons_succ, Option.some.injEq] at ho; subst ho
    refine ⟨_, Or.inr ⟨by kernel_rfl, rfl⟩, ?_⟩
    simp only [Act.put, List.setIfInBounds_toArray, List.set_cons_zero, List.set_cons_succ]
    refine late_take 12 (by kernel_rfl) (by kernel_rfl) (by kernel_rfl) (by kernel_rfl) (by kernel_rfl) (fun _ _ d _ _ h => by cases d <;> exact h) (fun o ho => ?_)
    simp only [List.getElem?_toArray, List.getElem?_cons_zero, List.getElem?_cons_succ, Option.some.injEq] at ho; subst ho
    refine ⟨_, Or.inr ⟨by kernel_rfl, rfl⟩, ?_⟩
    simp only [Act.put, List.setIfInBounds_toArray, List.set_cons_zero, List.set_cons_succ]
    refine late_take 13 (by kernel_rfl) (by kernel_rfl) (by kernel_rfl) (by kernel_rfl) (by kernel_rfl) (fun _ _ d _ _ h => by cases d <;> exact h) (fun o ho => ?_)
    simp only [List.getElem?_toArray, List.getElem?_cons_zero, List.getElem?_cons_succ, Option.some.injEq] at ho; subst ho
    refine ⟨_, Or.inr ⟨by kernel_rfl, rfl⟩, ?_⟩
    simp only [Act.put, List.setIfInBounds_toArray, List.set_cons_zero, List.set_cons_succ]
    refine late_take 14 (by kernel_rfl) (by kernel_rfl) (by kernel_rfl) (by kernel_rfl) (by kernel_rfl) (fun _ _ d _ _ h => by cases d <;> exact h) (fun o ho => ?_)
    simp only [List.getElem?_toArray, List.getElem?_cons_zero, List.getElem?_cons_succ, Option.some.injEq] at ho; subst ho
    refine ⟨_, Or.inr ⟨by kernel_rfl, rfl⟩, ?_⟩
    simp only [Act.put, List.setIfInBounds_toArray, List.set_cons_zero, List.set_cons_succ]
    refine late_take 15 (by kernel_rfl) (by kernel_rfl) (by kernel_rfl) (by kernel_rfl) (by kernel_rfl) (fun _ _ d _ _ h => by cases d <;> exact h) (fun o ho => ?_)
    simp only [List.getElem?_toArray, List.getElem?_cons_zero, List.getElem?_cons_succ, Option.some.injEq] at ho; subst ho
    apply Exists.intro
    refine ⟨Or.inl ⟨by kernel_rfl, fun w' hl => Or.inl ?_⟩, ?_⟩
    · (go_simp; try with_reducible rfl)
    simp only [Act.put, List.setIfInBounds_toArray, List.set_cons_zero, List.set_cons_succ]
    refine late_end (by kernel_rfl) (fun wn hl => ?_)
    have HCw := Lib.hid (HCw.out.later hl); have HB := Lib.hid (below_on HB.out hl); clear hl
    go_wp2_with fail
    go_ret
    exact ⟨rfl, HB.out⟩
/-- Whether a byte is missing. -/
def tkD (t : ByteArray) (i : Nat) (d : Bool) : Bool := d || (nxA t i d == 0)
set_option maxRecDepth 100000 in
set_option maxHeartbeats 4000000 in
theorem take_any (b : Nat) (t : ByteArray) (i : Nat) (d : Bool) (w : World) (hc : Cur w b t i d) (hi : i < 1000000) : Calls Tryz.prog 26 #[.pointer (some ⟨b, 0, none⟩)] w (TkP (nxA t i d) b t (i + 1) (tkD t i d) w) := by
  have HCw := Lib.hid hc
  have hwr := Lib.hid (show wrap64 ((i : Int) + 1) = ((i + 1 : Nat) : Int) by rw [IntWalk.wrap64_in _ ⟨by omega, by omega⟩]; omega)
  clear hc hi
  obtain ⟨x, hx⟩ : ∃ x, nxA t i d = x := ⟨_, rfl⟩
  have HX := Lib.hid hx
  by_cases h0 : x = 0
  · subst h0
    have HD := Lib.hid (show tkD t i d = true by unfold tkD; rw [hx]; exact Bool.or_true _)
    clear hx
    go_enter Tryz.func26, Tryz.ntmps26
    go_wp2_with (first | (refine (next_any b t i d _ HCw.out).mono ?_; rintro e w1 ⟨rfl, hb1⟩; rw [HX.out]; have HC1 := Lib.hid (HCw.out.later hb1); have HB1 := Lib.hid hb1; have k1 := HC1.out.ci; clear hb1) | (refine step_curd (by rfl) _ _ rfl b rfl true rfl t i d HC1.out ?_; clear k1; intro w2 K2 C2; have HC2 := Lib.hid C2; have HK2 := Lib.hid K2; have k1 := C2.ci; clear C2 K2) | (refine step_curi (by rfl) _ _ rfl b rfl (i + 1) (by rw [← hwr.out]; rfl) t i true HC2.out ?_; clear k1; intro w3 K3 C3; have HC3 := Lib.hid C3; have HK3 := Lib.hid K3; clear C3 K3))
    go_ret
    rw [HX.out, HD.out]
    exact ⟨rfl, ((Kept.of_call _ HB1.out).trans HK2.out).trans HK3.out, HC3.out⟩
  · have g0 : (x == 0) = false := by simpa using h0
    have HD := Lib.hid (show tkD t i d = d by unfold tkD; rw [hx, g0]; exact Bool.or_false _)
    clear hx
    go_enter Tryz.func26, Tryz.ntmps26
    go_wp2_with (first | (refine (next_any b t i d _ HCw.out).mono ?_; rintro e w1 ⟨rfl, hb1⟩; rw [HX.out]; have HC1 := Lib.hid (HCw.out.later hb1); have HB1 := Lib.hid hb1; have k1 := HC1.out.ci; clear hb1) | (refine step_curd (by rfl) _ _ rfl b rfl true rfl t i d HC1.out ?_; clear k1; intro w2 K2 C2; have HC2 := Lib.hid C2; have HK2 := Lib.hid K2; have k1 := C2.ci; clear C2 K2) | (refine step_curi (by rfl) _ _ rfl b rfl (i + 1) (by rw [← hwr.out]; rfl) t i d HC1.out ?_; clear k1; intro w3 K3 C3; have HC3 := Lib.hid C3; have HK3 := Lib.hid K3; clear C3 K3))
    go_ret
    rw [HX.out, HD.out]
    exact ⟨rfl, (Kept.of_call _ HB1.out).trans HK3.out, HC3.out⟩
/-- What stands behind a byte that must be that one. -/
def ndD (t : ByteArray) (i : Nat) (d : Bool) (x : Int) : Bool := (nxA t i d != x) || tkD t i d
def NdP (b : Nat) (t : ByteArray) (i : Nat) (d : Bool) (w : World) (e : Ending) (w' : World) : Prop := e = .returned (.tuple #[]) ∧ Kept (· = b) w w' ∧ Cur w' b t i d
set_option maxRecDepth 100000 in
set_option maxHeartbeats 4000000 in
theorem need_any (b : Nat) (t : ByteArray) (i : Nat) (d : Bool) (x : Int) (w : World) (hc : Cur w b t i d) (hi : i < 1000000) : Calls Tryz.prog 23 #[.pointer (some ⟨b, 0, none⟩), .int .u8 x] w (NdP b t (i + 1) (ndD t i d x) w) := by
  have HCw := Lib.hid hc
  have HI := Lib.hid hi
  clear hc hi
  obtain ⟨v, hv⟩ : ∃ v, nxA t i d = v := ⟨_, rfl⟩
  obtain ⟨d2, hd2⟩ : ∃ d2, tkD t i d = d2 := ⟨_, rfl⟩
  have HX := Lib.hid hv
  have HD := Lib.hid hd2
  have HR := Lib.hid (show ndD t i d x = ((v != x) || d2) by unfold ndD; rw [hv, hd2])
  clear hv hd2
  cases g : (v != x)
  · go_enter Tryz.func23, Tryz.ntmps23
    go_wp2_with (first | (refine (take_any b t i d _ HCw.out HI.out).mono ?_; rintro e w1 ⟨rfl, hk, hc⟩; rw [HX.out]; rw [HD.out] at hc; have HC1 := Lib.hid hc; have HK1 := Lib.hid hk; have k1 := HC1.out.cd; clear hc hk) | (refine step_curd (by rfl) _ _ rfl b rfl d2 rfl t (i + 1) d2 HC1.out ?_; clear k1; intro w2 K2 C2; have HC2 := Lib.hid C2; have HK2 := Lib.hid K2; clear C2 K2))
    go_end0
    rw [HR.out, g]
    exact ⟨rfl, HK1.out.trans HK2.out, HC2.out⟩
  · go_enter Tryz.func23, Tryz.ntmps23
    go_wp2_with (first | (refine (take_any b t i d _ HCw.out HI.out).mono ?_; rintro e w1 ⟨rfl, hk, hc⟩; rw [HX.out]; rw [HD.out] at hc; have HC1 := Lib.hid hc; have HK1 := Lib.hid hk; have k1 := HC1.out.cd; clear hc hk) | (refine step_curd (by rfl) _ _ rfl b rfl true rfl t (i + 1) d2 HC1.out ?_; clear k1; intro w2 K2 C2; have HC2 := Lib.hid C2; have HK2 := Lib.hid K2; clear C2 K2))
    go_end0
    rw [HR.out, g]
    exact ⟨rfl, HK1.out.trans HK2.out, HC2.out⟩
/-- The piece whose letter a byte is. -/
def pcA (x : Int) : Int := prsZ (bz [byZ x])
set_option maxRecDepth 100000 in
set_option maxHeartbeats 4000000 in
theorem piece_of (x : Int) (w : World) : Calls Tryz.prog 25 #[.int .u8 x] w (U8L (pcA x) w) := by
  have hcv := conv1
  go_enter Tryz.func25, Tryz.ntmps25
  go_wp2_with (refine (rprs_any (bz [byZ x]) _).mono ?_; rintro e w1 ⟨rfl, hb1⟩; have HB1 := Lib.hid hb1; clear hb1)
  go_ret
  have hA := (Below.refl w.heap.size w).alloc (Nat.le_refl _) (.cells #[.int .u8 x] 5)
  exact ⟨rfl, hA.trans (HB1.out.mono hA.size)⟩
end Go.Proofs.YtkcflknjnefhbaaGreatDoor
