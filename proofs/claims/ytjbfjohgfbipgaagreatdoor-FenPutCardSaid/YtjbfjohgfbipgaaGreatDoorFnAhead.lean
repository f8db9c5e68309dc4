/-
  Contracts of what layer 10's statements ask of texts: a byte of a text; digits, ahead, space.
-/
import Derived.Test.YtjbfjohgfbipgaaGreatDoorFnSame
import Derived.Test.YtjbfjohgfbipgaaGreatDoorFnBaseB
import Derived.IntWalk
namespace Go.Proofs.YtjbfjohgfbipgaaGreatDoor
open Go.RowKit
set_option linter.unusedVariables false
set_option linter.unusedSimpArgs false

set_option maxRecDepth 100000 in
theorem step_at {ops : Array Oper} {rest : List Oper} {op : Oper} {a : Act} {w : World} {Q : Exit → Act → World → Prop} (hw : Region.wanted op (yielded ops a.tmps) = true) (x y : Operand) (ho : op.op = .index 9 x y) (t : ByteArray) (l : List UInt8) (K : IntKind) (k : Nat) (j : Int) (hj : j = (k : Int)) (hx : a.eval x = .string t) (hy : a.eval y = .int K j) (ht : t = bz l) (b : UInt8) (hb : l[k]? = some b)
    (h : wpList Tryz.prog ops Q rest (a.put op.dst (.int .u8 (b.toNat : Int))) w) : wpList Tryz.prog ops Q (op :: rest) a w :=
  wpList_want hw fun K' hK' => by
    have hk' := hK' _ _ h
    obtain ⟨h1, h2⟩ := List.getElem?_eq_some_iff.1 hb
    have hsz : t.size = l.length := by rw [ht, bz_size]
    have hr : (Instr.index 9 (.string t) (.int K j)).run Tryz.prog w = .ok (.int .u8 (b.toNat : Int)) w := by
      rw [run_index_string w 9 t K j Tryz.underlying9, dif_pos ⟨by omega, by omega⟩]
      have e : ∀ hb' : j.toNat < t.size, t[j.toNat]'hb' = b := by
        subst ht hj
        intro hb'
        rw [← h2]; rfl
      rw [e]
    unfold Oper.wp execOp
    simp only [ho, hx, hy, Sem.run_bind, hr, Result.andThen_ok]
    exact hk'
theorem fn_strS {a b : ByteArray} (h : a = b) : Ending.returned (.string a) = .returned (.string b) := by rw [h]
theorem take_bz (l : List UInt8) (k : Nat) : (bz l).extract 0 k = bz (l.take k) := by
  rw [← bz_of ((bz l).extract _ _)]
  congr 1
  rw [ByteArray.data_extract, Array.toList_extract, bz_data]
  simp [List.extract]
theorem goE_some {l : List UInt8} {e m : Nat} {b : UInt8} (hm : 0 < m) (hb : l[e]? = some b) : goE l (e + 1) m = bif b == 32 then goE l e (m - 1) else goE l e m := by
  rw [goE, show (m == 0) = false by simp; omega, List.getD_eq_getElem?_getD, hb]; rfl
end Go.Proofs.YtjbfjohgfbipgaaGreatDoor
