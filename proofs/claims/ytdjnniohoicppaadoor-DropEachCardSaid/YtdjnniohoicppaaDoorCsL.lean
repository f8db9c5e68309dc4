/-
  Lists of moves: where they lie, made by append, read by index; two that are held against one another.
-/
import Derived.Test.YtdjnniohoicppaaDoorMv0
import Derived.Test.YtdjnniohoicppaaDoorKept
import Derived.Test.YtdjnniohoicppaaDoorLater
import Derived.Test.YtdjnniohoicppaaDoorShort
import Derived.Maps.OwnIn
import Derived.Deep.Onto
import Derived.RangeFuncBox
import Derived.IntWalk
namespace Go.Proofs.YtdjnniohoicppaaDoor
open Go.RowKit Go.Shelf
set_option linter.unusedVariables false
set_option linter.unusedSimpArgs false
attribute [local go_sem] Oper.semAt_some

def cmL (l : List Mv) : List Value := l.flatMap fun m => (mvA m).toList
theorem cmL_snoc (l : List Mv) (m : Mv) : cmL (l ++ [m]) = cmL l ++ (mvA m).toList := by unfold cmL; simp
def MvsO (B : Nat) (L : List Mv) (v : Value) (w : World) : Prop := w.ownsRow B 45 5 v L.length (cmL L)
theorem MvsO.keep {B : Nat} {L : List Mv} {v : Value} {w w' : World} (h : MvsO B L v w) (hb : ∀ g, v.ownBlock = some g → w'.heap[g]? = w.heap[g]?) : MvsO B L v w' := by
  refine ⟨h.1, ?_⟩
  rcases h.2 with hn | ⟨g, cap, cur, hv, hB, hg, rest⟩
  · exact .inl hn
  · exact .inr ⟨g, cap, cur, hv, hB, (hb g (by rw [hv]; rfl)).trans hg, rest⟩
theorem infoMv : (Tryd.prog.info? 45).map (fun i => (i.zero, i.size, i.bytes)) = some (some (.agg (mvA mv0)), 5, 5) := by kernel_rfl
theorem mcells_new (W : World) (cs : Array Value) (t : TypeId) (j : Nat) (u : Value) (h : cs.toList[j]? = some u) : (W.alloc (.cells cs t)).cell? ((⟨W.heap.size, 0, none⟩ : Addr).add j) = some u := by
  have e : ((⟨W.heap.size, 0, none⟩ : Addr).add j) = ⟨W.heap.size, j, none⟩ := by simp [Addr.add]; try exact fun h => h.symm
  rw [e, cell_of_row _ _ _ _ _ _ (heap_alloc_new W (.cells cs t))]
  simpa using h
theorem mkept_grown {w w' : World} {row : Option Nat} (h : w.grownBy w' row) : Kept (fun k => row = some k) w w' := ⟨⟨h.os, h.tape, h.output, h.size, fun k hk => by omega⟩, fun k hk hx => h.block k hk fun e => hx e.symm⟩
def Mvs (L : List Mv) (a : Option Addr) (w : World) : Prop := ∀ (i : Nat) (m : Mv), L[i]? = some m → ∃ g cur, a = some ⟨g, 0, none⟩ ∧ Blk w g 45 cur ∧ ∀ j, j < 5 → cur[5 * i + j]? = (mvA m)[j]?
theorem Mvs.later {L : List Mv} {a : Option Addr} {w w' : World} (h : Mvs L a w) (hl : Below w.heap.size w w') : Mvs L a w' := fun i m hm => by
  obtain ⟨g, cur, e, hb, hc⟩ := h i m hm
  exact ⟨g, cur, e, hb.later hl, hc⟩
theorem cmL_get : ∀ (L : List Mv) (i : Nat) (m : Mv) (j : Nat), L[i]? = some m → j < 5 → (cmL L)[5 * i + j]? = (mvA m)[j]?
  | [], i, m, j, h, _ => by simp at h
  | x :: L, 0, m, j, h, hj => by
    obtain rfl : x = m := by simpa using h
    have hl : (mvA x).toList.length = 5 := rfl
    show ((mvA x).toList ++ cmL L)[5 * 0 + j]? = _
    rw [Nat.mul_zero, Nat.zero_add, List.getElem?_append_left (by rw [hl]; exact hj)]; simp
  | x :: L, i + 1, m, j, h, hj => by
    have hl : (mvA x).toList.length = 5 := rfl
    show ((mvA x).toList ++ cmL L)[5 * (i + 1) + j]? = _
    rw [List.getElem?_append_right (by rw [hl]; omega), hl, show 5 * (i + 1) + j - 5 = 5 * i + j by omega]
    exact cmL_get L i m j (by simpa using h) hj
theorem mvs_of {L : List Mv} {B : Nat} {v : Value} {w : World} (h : MvsO B L v w) : ∃ a cap, v = .slice a L.length cap ∧ Mvs L a w := by
  rcases h.2 with ⟨rfl, hn⟩ | ⟨g, cap, cur, rfl, hB, hg, h1, h2, h3, h4⟩
  · refine ⟨none, 0, by rw [hn], fun i x hx => ?_⟩
    have := List.length_eq_zero_iff.1 hn
    rw [this] at hx; cases hx
  · refine ⟨some ⟨g, 0, none⟩, cap, rfl, fun i x hx => ⟨g, cur, rfl, hg, fun j hj => ?_⟩⟩
    have hi := (List.getElem?_eq_some_iff.1 hx).1
    have := congrArg (·[5 * i + j]?) h4
    rw [List.getElem?_take_of_lt (by omega)] at this
    rw [← cmL_get L i x j hx hj, ← this]
    simp
theorem Mvs.at {L : List Mv} {a : Option Addr} {w : World} (h : Mvs L a w) {i : Nat} {m : Mv} (hm : L[i]? = some m) : ∃ g, a = some ⟨g, 0, none⟩ ∧ w.rangeAt g (5 * i) (mvA m).toList := by
  obtain ⟨g, cur, e, hb, hc⟩ := h i m hm
  refine ⟨g, e, fun j v hv => ?_⟩
  have hj : j < 5 := (List.getElem?_eq_some_iff.1 hv).1
  rw [hb.cell, hc j hj, ← hv]; simp
theorem Mvs.get {L : List Mv} {g : Nat} {w : World} (h : Mvs L (some ⟨g, 0, none⟩) w) {i : Nat} {m : Mv} (hm : L[i]? = some m) : w.rangeAt g (5 * i) (mvA m).toList := by
  obtain ⟨g', e, hr⟩ := h.at hm
  have : g = g' := by injection e with e; injection e
  subst this; exact hr
theorem Mvs.lt {L : List Mv} {g : Nat} {w : World} (h : Mvs L (some ⟨g, 0, none⟩) w) {m : Mv} {i : Nat} (hm : L[i]? = some m) : g < w.heap.size := by
  obtain ⟨g', cur, e, hb, _⟩ := h i m hm
  have : g = g' := by injection e with e; injection e
  subst this; exact Blk.lt hb
theorem Mvs.upd {L : List Mv} {g b : Nat} {w w' : World} (h : Mvs L (some ⟨g, 0, none⟩) w) (U : Upd b w w') (hn : g ≠ b) : Mvs L (some ⟨g, 0, none⟩) w' := fun i m hm => by
  obtain ⟨g', cur, e, hb, hc⟩ := h i m hm
  have : g = g' := by injection e with e; injection e
  subst this
  exact ⟨g, cur, rfl, Blk.apart hb U hn, hc⟩
theorem Mvs.cell {L : List Mv} {g : Nat} {w : World} (h : Mvs L (some ⟨g, 0, none⟩) w) {i : Nat} {m : Mv} (hm : L[i]? = some m) (j off : Nat) (hj : j < 5) (ho : off = i * 5 + j) : w.cell? ⟨g, off, none⟩ = (mvA m)[j]? := by
  subst ho
  have e : i * 5 + j = 5 * i + j := by omega
  have hs : j < (mvA m).toList.length := by show j < 5; exact hj
  have := h.get hm j _ (List.getElem?_eq_getElem hs)
  rw [e, this, ← List.getElem?_eq_getElem hs]; simp
theorem MvsO.grow {B : Nat} {L : List Mv} {v v' : Value} {w w' : World} {m : Mv} (h : MvsO B L v w) (hown : w'.ownsRow B 45 5 v' (L.length + 1) (cmL L ++ (mvA m).toList)) : MvsO B (L ++ [m]) v' w' := by
  unfold MvsO; rw [cmL_snoc, List.length_append]; exact hown
theorem MvsO.from {B : Nat} {L : List Mv} {v : Value} {w : World} (h : MvsO B L v w) {k : Nat} (hk : v.ownBlock = some k) : B ≤ k := by
  rcases h.2 with ⟨rfl, _⟩ | ⟨g, cap, cur, rfl, hB, _⟩
  · cases hk
  · simp [Value.ownBlock] at hk; omega
theorem MvsO.later {B : Nat} {L : List Mv} {v : Value} {w w' : World} (h : MvsO B L v w) (hb : Below w.heap.size w w') : MvsO B L v w' := by
  refine ⟨h.1, ?_⟩
  rcases h.2 with hn | ⟨g, cap, cur, hv, hB, hg, rest⟩
  · exact .inl hn
  · exact .inr ⟨g, cap, cur, hv, hB, (hb.block g (Array.getElem?_eq_some_iff.1 hg).1).trans hg, rest⟩
theorem run_mvK {o : Oper} {a : Act} {w : World} (x : Operand) (ho : o.op = .load 45 x) (g i off : Nat) (hx : a.eval x = .pointer (some ⟨g, off, none⟩)) (hi : off = 5 * i) (m : Mv) (hr : w.rangeAt g (5 * i) (mvA m).toList) : (execOp a.eval o).run Tryd.prog w = .ok (.value (.agg (mvA m))) w := by
  subst hi
  have hl := run_loadVar_mid (P := Tryd.prog) w g (5 * i) 45 (mvA m).toList _ hr Tryd.underlying45 rfl sizeMv
  unfold execOp
  simp only [ho, hx, Instr.loadAt, Instr.sureAddr, Sem.run_bind, Sem.run_pure, Result.andThen_ok, hl]
theorem step_mvI {ops : Array Oper} {rest : List Oper} {op : Oper} {a : Act} {w : World} {Q : Exit → Act → World → Prop} (hw : Region.wanted op (yielded ops a.tmps) = true) (x : Operand) (ho : op.op = .load 45 x) (g i off : Nat) (hx : a.eval x = .pointer (some ⟨g, off, none⟩)) (hi : off = 5 * i) (m : Mv) (hr : w.rangeAt g (5 * i) (mvA m).toList)
    (h : wpList Tryd.prog ops Q rest (a.put op.dst (.agg (mvA m))) w) : wpList Tryd.prog ops Q (op :: rest) a w := by
  subst hi
  exact wpList_want hw fun _ hK => wp_load_mid 45 x ho g (5 * i) hx (mvA m).toList _ hr Tryd.underlying45 rfl sizeMv (hK _ _ h)
theorem run_mvN {o : Oper} {a : Act} {w : World} (x y : Operand) (ho : o.op = .binOp .neq 45 x y 45) (m n : Mv) (hx : a.eval x = .agg (mvA m)) (hy : a.eval y = .agg (mvA n)) (hm : FitV m) (hn : FitV n) (b : Bool) (hb : mvE m n = b) :
    (execOp a.eval o).run Tryd.prog w = .ok (.value (.bool (!b))) w := by
  have hr : (binOp .neq 45 (.agg (mvA m)) (.agg (mvA n))).run Tryd.prog w = .ok (.bool (!b)) w := by
    rw [run_neq_struct, run_mveq hm hn, hb]; rfl
  unfold execOp
  simp only [ho, hx, hy, Sem.run_bind, run_eqGuard_agg w _ _ _ _ _ _ guardMv, Result.andThen_ok, hr]
  rfl
theorem run_mvQ {o : Oper} {a : Act} {w : World} (x y : Operand) (ho : o.op = .binOp .eql 45 x y 45) (m n : Mv) (hx : a.eval x = .agg (mvA m)) (hy : a.eval y = .agg (mvA n)) (hm : FitV m) (hn : FitV n) (b : Bool) (hb : mvE m n = b) :
    (execOp a.eval o).run Tryd.prog w = .ok (.value (.bool b)) w := by
  have hr : (binOp .eql 45 (.agg (mvA m)) (.agg (mvA n))).run Tryd.prog w = .ok (.bool b) w := by
    rw [run_eql_struct, run_mveq hm hn, hb]; rfl
  unfold execOp
  simp only [ho, hx, hy, Sem.run_bind, run_eqGuard_agg w _ _ _ _ _ _ guardMv, Result.andThen_ok, hr]
  rfl
end Go.Proofs.YtdjnniohoicppaaDoor
