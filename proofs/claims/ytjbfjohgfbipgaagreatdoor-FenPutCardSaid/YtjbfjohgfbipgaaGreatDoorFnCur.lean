/-
  Contracts of the reader of the document's own Parse (layer 10): next, take, need, piece.
-/
import Derived.Test.YtjbfjohgfbipgaaGreatDoorFnBaseB
import Derived.Test.YtjbfjohgfbipgaaGreatDoorFnBaseC
import Derived.Test.YtjbfjohgfbipgaaGreatDoorKept
import Derived.Test.YtjbfjohgfbipgaaGreatDoorFnBaseA
namespace Go.Proofs.YtjbfjohgfbipgaaGreatDoor
open Go.RowKit
set_option linter.unusedVariables false
set_option linter.unusedSimpArgs false

/-- The byte at a place; 0: there is none. -/
def chA (t : ByteArray) (i : Nat) : Int := match t.data[i]? with | some b => (b.toNat : Int) | none => 0
/-- The next byte. -/
def nxA (t : ByteArray) (i : Nat) (d : Bool) : Int := bif d then 0 else chA t i
theorem chA_out {t : ByteArray} {i : Nat} (h : t.size ≤ i) : chA t i = 0 := by
  unfold chA; rw [Array.getElem?_eq_none (by exact h)]
theorem chA_in {t : ByteArray} {i : Nat} (h : i < t.size) : chA t i = (t[i].toNat : Int) := by
  unfold chA; rw [Array.getElem?_eq_getElem (by exact h)]; rfl
theorem chA_rng (t : ByteArray) (i : Nat) : 0 ≤ chA t i ∧ chA t i ≤ 255 := by
  unfold chA
  cases t.data[i]? with
  | none => exact ⟨by decide, by decide⟩
  | some b => have h : b.toNat < 256 := b.toNat_lt; exact ⟨Int.natCast_nonneg _, by show (b.toNat : Int) ≤ 255; omega⟩
theorem nxA_rng (t : ByteArray) (i : Nat) (d : Bool) : 0 ≤ nxA t i d ∧ nxA t i d ≤ 255 := by
  cases d
  · exact chA_rng t i
  · show (0 : Int) ≤ 0 ∧ (0 : Int) ≤ 255; decide
/-- A reader's block: the text, how far it is read, whether something else stood there. -/
def Cur (w : World) (b : Nat) (t : ByteArray) (i : Nat) (d : Bool) : Prop := ∃ T, Blk w b T #[.string t, .int .i64 (i : Int), .bool d]
section
variable {w w' : World} {b c i : Nat} {t : ByteArray} {d : Bool}
theorem Cur.lt (h : Cur w b t i d) : b < w.heap.size := h.elim fun _ h => h.lt
theorem Cur.later (h : Cur w b t i d) (hb : Below w.heap.size w w') : Cur w' b t i d := h.elim fun T h => ⟨T, h.later hb⟩
theorem Cur.cs (h : Cur w b t i d) : w.cell? ⟨b, 0, none⟩ = some (.string t) := h.elim fun _ h => h.cell 0
theorem Cur.ci (h : Cur w b t i d) : w.cell? ⟨b, 1, none⟩ = some (.int .i64 (i : Int)) := h.elim fun _ h => h.cell 1
theorem Cur.cd (h : Cur w b t i d) : w.cell? ⟨b, 2, none⟩ = some (.bool d) := h.elim fun _ h => h.cell 2
theorem Cur.kept {X : Nat → Prop} (h : Cur w b t i d) (k : Kept X w w') (hx : ¬ X b) : Cur w' b t i d := h.elim fun T h => ⟨T, k.obj h hx⟩
theorem Cur.lat (h : Cur w b t i d) (k : Later w w') : Cur w' b t i d := h.later k
end
section laws
variable {ops : Array Oper} {rest : List Oper} {op : Oper} {a : Act} {w : World} {Q : Exit → Act → World → Prop}
set_option maxRecDepth 100000 in
/-- A store of how far it is read. -/
theorem step_curi (hw : Region.wanted op (yielded ops a.tmps) = true) (x y : Operand) (ho : op.op = .store 3 x y) (b : Nat) (hx : a.eval x = .pointer (some ⟨b, 1, none⟩)) (j : Nat) (hy : a.eval y = .int .i64 (j : Int)) (t : ByteArray) (i : Nat) (d : Bool) (hr : Cur w b t i d)
    (h : ∀ w', Kept (· = b) w w' → Cur w' b t j d → wpList Tryz.prog ops Q rest (a.put op.dst undef) w') : wpList Tryz.prog ops Q (op :: rest) a w :=
  hr.elim fun T hr => wpList_want hw fun K' hK' => by
    have hk := hK' _ _ (h _ (Kept.setCell b 1 (.int .i64 (j : Int)) w) ⟨T, hr.set 1 _⟩)
    have hrun : (storeVar 3 ⟨b, 1, none⟩ (.int .i64 (j : Int))).run Tryz.prog w = .ok () (w.setCell ⟨b, 1, none⟩ (.int .i64 (j : Int))) :=
      run_storeVar_mid w b 1 3 #[.int .i64 (j : Int)] (hr.there 1 1 (by show 1 + 1 ≤ 3; decide)) rfl (by simp [Value.oneCell'])
    unfold Oper.wp execOp
    simp only [ho, hx, hy, Instr.storeAt, Instr.sureAddr, Sem.run_bind, Sem.run_pure, Result.andThen_ok, hrun]
    exact hk
set_option maxRecDepth 100000 in
/-- A store of whether something else stood there. -/
theorem step_curd (hw : Region.wanted op (yielded ops a.tmps) = true) (x y : Operand) (ho : op.op = .store 4 x y) (b : Nat) (hx : a.eval x = .pointer (some ⟨b, 2, none⟩)) (e : Bool) (hy : a.eval y = .bool e) (t : ByteArray) (i : Nat) (d : Bool) (hr : Cur w b t i d)
    (h : ∀ w', Kept (· = b) w w' → Cur w' b t i e → wpList Tryz.prog ops Q rest (a.put op.dst undef) w') : wpList Tryz.prog ops Q (op :: rest) a w :=
  hr.elim fun T hr => wpList_want hw fun K' hK' => by
    have hk := hK' _ _ (h _ (Kept.setCell b 2 (.bool e) w) ⟨T, hr.set 2 _⟩)
    have hrun : (storeVar 4 ⟨b, 2, none⟩ (.bool e)).run Tryz.prog w = .ok () (w.setCell ⟨b, 2, none⟩ (.bool e)) :=
      run_storeVar_mid w b 2 4 #[.bool e] (hr.there 2 1 (by show 2 + 1 ≤ 3; decide)) rfl (by simp [Value.oneCell'])
    unfold Oper.wp execOp
    simp only [ho, hx, hy, Instr.storeAt, Instr.sureAddr, Sem.run_bind, Sem.run_pure, Result.andThen_ok, hrun]
    exact hk
end laws
/-- What next, take leave. -/
def NxP (n : Int) (w : World) (e : Ending) (w' : World) : Prop := U8L n w e w'
def TkP (n : Int) (b : Nat) (t : ByteArray) (i : Nat) (d : Bool) (w : World) (e : Ending) (w' : World) : Prop := e = .returned (.int .u8 n) ∧ Kept (· = b) w w' ∧ Cur w' b t i d
/-- Whether a byte is missing. -/
def tkD (t : ByteArray) (i : Nat) (d : Bool) : Bool := d || (nxA t i d == 0)
/-- What stands behind a byte that must be that one. -/
def ndD (t : ByteArray) (i : Nat) (d : Bool) (x : Int) : Bool := (nxA t i d != x) || tkD t i d
def NdP (b : Nat) (t : ByteArray) (i : Nat) (d : Bool) (w : World) (e : Ending) (w' : World) : Prop := e = .returned (.tuple #[]) ∧ Kept (· = b) w w' ∧ Cur w' b t i d
/-- The piece whose letter a byte is. -/
def pcA (x : Int) : Int := prsZ (bz [byZ x])
end Go.Proofs.YtjbfjohgfbipgaaGreatDoor
