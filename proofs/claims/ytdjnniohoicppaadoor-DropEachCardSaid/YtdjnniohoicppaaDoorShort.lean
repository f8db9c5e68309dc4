/-
  Short words for regions that draw their order (tools/valib.py's 'short'; XVaMath declares the same ones).
-/
import Derived.Test.YtdjnniohoicppaaDoorLater
import Derived.Test.YtdjnniohoicppaaDoorRuLater
namespace Go.Proofs.YtdjnniohoicppaaDoor
open Go.RowKit
set_option linter.unusedVariables false
/-! Short words for regions that draw their order. -/
theorem qa {α : Type _} {l : List α} {i : Nat} : l.toArray[i]? = l[i]? := List.getElem?_toArray
theorem qb {α : Type _} {a : α} {l : List α} : (a :: l)[0]? = some a := List.getElem?_cons_zero
theorem qc {α : Type _} {a : α} {l : List α} {i : Nat} : (a :: l)[i + 1]? = l[i]? := List.getElem?_cons_succ
theorem qd {α : Type _} (a b : α) : (some a = some b) = (a = b) := Option.some.injEq a b
theorem pa {α : Type _} {l : List α} {i : Nat} {a : α} : l.toArray.setIfInBounds i a = (l.set i a).toArray := List.setIfInBounds_toArray ..
theorem pb {α : Type _} {x a : α} {l : List α} : (x :: l).set 0 a = a :: l := List.set_cons_zero
theorem pc {α : Type _} {x a : α} {l : List α} {i : Nat} : (x :: l).set (i + 1) a = x :: l.set i a := List.set_cons_succ
section
variable {L : Nat} {P : Program} {md : Region.Mode} {ops : Array Oper} {Q : Exit → Act → World → Prop}
theorem ltk (i : Nat) {n : Nat} {listed : Array Bool} {a : Act} {w : World} (hb : (waits md ops L i && (i != L && (Region.noSelect ops && (Region.free md ops listed i && ((Region.ready md ops listed).contains i && (ops[i]?).isSome))))) = true)
    (hQ : ∀ c a d v w, Q (.panic c) (Act.put a d v) w → Q (.panic c) a w)
    (h : ∀ o : Oper, ops[i]? = some o → ∃ v, LateIs P ops o v a w ∧ Late L P md ops Q n (listed.setIfInBounds i true) (a.put o.dst v) w) : Late L P md ops Q (n + 1) listed a w := by
  rw [Bool.and_eq_true, Bool.and_eq_true, Bool.and_eq_true, Bool.and_eq_true, Bool.and_eq_true] at hb
  exact late_take i (by rw [hb.1, hb.2.1]; rfl) hb.2.2.1 hb.2.2.2.1 hb.2.2.2.2.1 hb.2.2.2.2.2 hQ h
end
end Go.Proofs.YtdjnniohoicppaaDoor
