/-
  Short words for regions that draw their order (tools/valib.py's 'short'; XVaMath declares the same ones).
-/
import Derived.Test.YtjbfjohgfbipgaaGreatDoorFnBaseC
namespace Go.Proofs.YtjbfjohgfbipgaaGreatDoor
open Go.RowKit
set_option linter.unusedVariables false
/-! Short words for regions that draw their order. -/
theorem qa {α : Type _} {l : List α} {i : Nat} : l.toArray[i]? = l[i]? := List.getElem?_toArray
theorem qb {α : Type _} {a : α} {l : List α} : (a :: l)[0]? = some a := List.getElem?_cons_zero
theorem qc {α : Type _} {a : α} {l : List α} {i : Nat} : (a :: l)[i + 1]? = l[i]? := List.getElem?_cons_succ
theorem qd {α : Type _} (a b : α) : (some a = some b) = (a = b) := Option.some.injEq a b
theorem pa {α : Type _} {l : List α} {i : Nat} {a : α} : l.toArray.setIfInBounds i a = (l.set i a).toArray := List.setIfInBounds_toArray ..
theorem pb {α : Type _} {x a : α} {l : List α} : (x :: l).set 0 a = a :: l := List.set_cons_zero
theorem pc {α : Type _} {x a : α} {l : List α} {i : Nat} : (x :: l).set (i + 1) a = x :: l.set i a := List.set_cons_succ
section
variable {L : Nat} {P : Program} {md : Region.Mode} {ops : Array Oper} {Q : Exit → Act → World → Prop}
theorem ltk (i : Nat) {n : Nat} {listed : Array Bool} {a : Act} {w : World} (hb : (waits md ops L i && (i != L && (Region.noSelect ops && (Region.free md ops listed i && ((Region.ready md ops listed).contains i && (ops[i]?).isSome))))) = true)
    (hQ : ∀ c a d v w, Q (.panic c) (Act.put a d v) w → Q (.panic c) a w)
    (h : ∀ o : Oper, ops[i]? = some o → ∃ v, LateIs P ops o v a w ∧ Late L P md ops Q n (listed.setIfInBounds i true) (a.put o.dst v) w) : Late L P md ops Q (n + 1) listed a w := by
  rw [Bool.and_eq_true, Bool.and_eq_true, Bool.and_eq_true, Bool.and_eq_true, Bool.and_eq_true] at hb
  exact late_take i (by rw [hb.1, hb.2.1]; rfl) hb.2.2.1 hb.2.2.2.1 hb.2.2.2.2.1 hb.2.2.2.2.2 hQ h
end
theorem of_drop {ops : Array Oper} {i : Nat} {o : Oper} {r : List Oper} (h : ops.toList.drop i = o :: r) : ops[i]? = some o := by
  have h1 : (ops.toList.drop i)[0]? = some o := by rw [h]; rfl
  rw [List.getElem?_drop, Nat.add_zero] at h1
  rwa [← Array.getElem?_toList]
section
variable {L : Nat} {P : Program} {md : Region.Mode} {ops : Array Oper} {Q : Exit → Act → World → Prop}
/-- An operation whose guard is not met. -/
theorem lo (i : Nat) {n : Nat} {listed : Array Bool} {a : Act} {w : World} {o : Oper} {r : List Oper} (ho : ops.toList.drop i = o :: r) (h : Late L P md ops Q n (listed.setIfInBounds i true) (a.put o.dst undef) w)
    (hb : (waits md ops L i && (i != L && (Region.noSelect ops && (Region.free md ops listed i && ((Region.ready md ops listed).contains i && (ops[i]?).isSome))))) = true := by kernel_rfl)
    (hw : Region.wanted o (yielded ops a.tmps) = false := by kernel_rfl) (hQ : ∀ c a d v w, Q (.panic c) (Act.put a d v) w → Q (.panic c) a w := by intro _ _ d _ _ h; cases d <;> exact h) : Late L P md ops Q (n + 1) listed a w :=
  ltk i hb hQ fun o' ho' => by
    obtain rfl := Option.some.inj ((of_drop ho).symm.trans ho')
    exact ⟨undef, Or.inr ⟨hw, rfl⟩, h⟩
/-- An operation that yields one value in every later world. -/
theorem lv (i : Nat) {n : Nat} {listed : Array Bool} {a : Act} {w : World} {o : Oper} {r : List Oper} (ho : ops.toList.drop i = o :: r)
    (h : ∃ v, (∀ w', Later w w' → (execOp a.eval o).run P w' = .ok (.value v) w') ∧ Late L P md ops Q n (listed.setIfInBounds i true) (a.put o.dst v) w)
    (hb : (waits md ops L i && (i != L && (Region.noSelect ops && (Region.free md ops listed i && ((Region.ready md ops listed).contains i && (ops[i]?).isSome))))) = true := by kernel_rfl)
    (hw : Region.wanted o (yielded ops a.tmps) = true := by kernel_rfl) (hQ : ∀ c a d v w, Q (.panic c) (Act.put a d v) w → Q (.panic c) a w := by intro _ _ d _ _ h; cases d <;> exact h) : Late L P md ops Q (n + 1) listed a w :=
  ltk i hb hQ fun o' ho' => by
    obtain rfl := Option.some.inj ((of_drop ho).symm.trans ho')
    obtain ⟨v, h1, h2⟩ := h
    exact ⟨v, Or.inl ⟨hw, fun w' hl => Or.inl (h1 w' hl)⟩, h2⟩
/-- The same, its value told by the walk. -/
theorem lw (i : Nat) {n : Nat} {listed : Array Bool} {a : Act} {w : World} {o : Oper} {r : List Oper} (ho : ops.toList.drop i = o :: r) {v : Value} (h2 : Late L P md ops Q n (listed.setIfInBounds i true) (a.put o.dst v) w)
    (h1 : ∀ w', Later w w' → (execOp a.eval o).run P w' = .ok (.value v) w' := by intro w' hl; go_simp; try with_reducible rfl)
    (hb : (waits md ops L i && (i != L && (Region.noSelect ops && (Region.free md ops listed i && ((Region.ready md ops listed).contains i && (ops[i]?).isSome))))) = true := by kernel_rfl)
    (hw : Region.wanted o (yielded ops a.tmps) = true := by kernel_rfl) (hQ : ∀ c a d v w, Q (.panic c) (Act.put a d v) w → Q (.panic c) a w := by intro _ _ d _ _ h; cases d <;> exact h) : Late L P md ops Q (n + 1) listed a w := lv i ho ⟨v, h1, h2⟩ hb hw hQ
/-- One operation that must come up. -/
theorem l1 (i : Nat) {n : Nat} {listed : Array Bool} {a : Act} {w : World} {o : Oper} {r : List Oper} (ho : ops.toList.drop i = o :: r)
    (h : ∀ w', Later w w' → ∀ K : Act → World → Prop, Shut (∀ a2 w2, Later w' w2 → Late L P md ops Q n (listed.setIfInBounds i true) a2 w2 → K a2 w2) → Wp P o a w' K Q)
    (hr : Region.ready md ops listed = [i] := by kernel_rfl) (hz : ((ops[i]?).isSome && i != L) = true := by kernel_rfl) (hw : Region.wanted o (yielded ops a.tmps) = true := by kernel_rfl) : Late L P md ops Q (n + 1) listed a w :=
  late_one i hr hz fun o' ho' => by
    obtain rfl := Option.some.inj ((of_drop ho).symm.trans ho')
    exact ⟨hw, h⟩
/-- A call. -/
theorem we {o : Oper} {a : Act} {w : World} {K : Act → World → Prop} {f : FuncId} {args : Array Value} (h : Calls P f args w (fun e w' => ∃ v, e = .returned v ∧ K (a.put o.dst v) w')) (he : (execOp a.eval o).run P w = .ok (.enter f args) w := by go_simp; exact ⟨rfl, rfl⟩) : Wp P o a w K Q := wp_enter f args he h
end
end Go.Proofs.YtjbfjohgfbipgaaGreatDoor
