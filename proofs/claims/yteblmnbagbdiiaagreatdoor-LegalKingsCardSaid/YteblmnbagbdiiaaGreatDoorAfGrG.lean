/-
 Several texts in one: AfU, AfV.
-/
import Derived.Test.YteblmnbagbdiiaaGreatDoorPsC
import Derived.Test.YteblmnbagbdiiaaGreatDoorVaBaseA
import Derived.Test.YteblmnbagbdiiaaGreatDoorAfGrE
import Derived.Test.YteblmnbagbdiiaaGreatDoorAfGrF
/-
 Layer 13's lawful.
-/
namespace Go.Proofs.YteblmnbagbdiiaaGreatDoor
open Go.RowKit
set_option linter.unusedVariables false
set_option linter.unusedSimpArgs false

end Go.Proofs.YteblmnbagbdiiaaGreatDoor
/-
 Layer 16: facts for AfterSquares: each move of the list may be made; its goals; which squares are named.
-/
namespace Go.Proofs.YteblmnbagbdiiaaGreatDoor
open Go.RowKit Go.Shelf
set_option linter.unusedVariables false
set_option linter.unusedSimpArgs false
attribute [local go_sem] Oper.semAt_some

theorem af_mem {p : Nat → Int} (hp : WfP p) {m : Mv} (h : m ∈ afL p) : m ∈ sorL p m := by
 unfold afL at h
 unfold sorL
 rcases List.mem_append.1 h with h | h
 ·rcases List.mem_append.1 h with h | h
  ·obtain ⟨a, b, k, _, _, _, _, _, rfl⟩ := all_is h
   exact h
  ·have e := (cam_at hp.dr.turn.1 h).2.2.2.1
   rw [e]; exact h
 ·obtain ⟨k, s, _, _, e, h4, _⟩ := drL_mem h
  have hk : k ≠ 0 := by
   rintro rfl
   have h0 := helC_0 p (p 78)
   rw [show ((0 : Nat) : Int) = 0 from rfl, h0] at h4
   cases h4
  have e1 : m.ca = false := by rw [e]; rfl
  have e2 : (m.dr == 0) = false := by rw [e]; exact beq_eq_false_iff_ne.2 (by show ((k : Nat) : Int) ≠ 0; omega)
  rw [e1, e2]; exact h
theorem af_fit {p : Nat → Int} (hp : WfP p) {m : Mv} (h : m ∈ afL p) : FitV m := by
 obtain ⟨i, hi⟩ := List.getElem?_of_mem (af_mem hp h)
 exact sor_fit hp m i m hi
theorem af_len (p : Nat → Int) : (afL p).length ≤ 1000000 := by
 have h0 := all_len p
 have h1 := cam_lenA p
 have h2 := drL_len p
 unfold afL
 rw [List.length_append, List.length_append, List.length_map]; omega
end Go.Proofs.YteblmnbagbdiiaaGreatDoor
