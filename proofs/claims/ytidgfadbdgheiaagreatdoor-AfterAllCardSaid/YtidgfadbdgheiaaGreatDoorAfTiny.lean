/-
 Several texts in one: RuRefA, RuOf, RuRefB, RuRef960, RuRefStart, RuEq, PsH, PsI, PsL, PsM, PsN.
-/
import Derived.Test.YtidgfadbdgheiaaGreatDoorVaBaseB
import Derived.Test.YtidgfadbdgheiaaGreatDoorVaBaseE
import Derived.IntWalk
import Derived.Great.BuildSlice
import Derived.Laws.BytesArg
import Derived.Test.YtidgfadbdgheiaaGreatDoorAfBaseK
import Derived.Test.YtidgfadbdgheiaaGreatDoorAfPsF
import Derived.Test.YtidgfadbdgheiaaGreatDoorVaBaseA
import Derived.Test.YtidgfadbdgheiaaGreatDoorAfSl
/-
 Contracts of the document's Letter and empties.
-/
set_option maxRecDepth 100000
namespace Go.Proofs.YtidgfadbdgheiaaGreatDoor
open Go.RowKit
set_option linter.unusedVariables false
set_option linter.unusedSimpArgs false
section laws
variable {ops : Array Oper} {rest : List Oper} {op : Oper} {a : Act} {w : World} {Q : Exit → Act → World → Prop}
end laws
end Go.Proofs.YtidgfadbdgheiaaGreatDoor
/-
 Contract of the document's Of: a position of eight rows of letters.
-/
namespace Go.Proofs.YtidgfadbdgheiaaGreatDoor
open Go.RowKit
set_option linter.unusedVariables false
set_option linter.unusedSimpArgs false
end Go.Proofs.YtidgfadbdgheiaaGreatDoor
/-
 Contract of the document's Start960.
-/
namespace Go.Proofs.YtidgfadbdgheiaaGreatDoor
open Go.RowKit
set_option linter.unusedVariables false
set_option linter.unusedSimpArgs false
theorem Lies.zero {K : IntKind} {e : TypeId} {B g cap : Nat} {cur : Array Value} {l : List Nat} {v : Value} {w : World} (h : Lies K e B l v g cap cur w) : Lies K e 0 l v g cap cur w := { h with base := Nat.zero_le _ }
def pawns : ByteArray := ⟨#[112, 112, 112, 112, 112, 112, 112, 112]⟩
end Go.Proofs.YtidgfadbdgheiaaGreatDoor
/-
 The walk of the document's Start960.
-/
namespace Go.Proofs.YtidgfadbdgheiaaGreatDoor
open Go.RowKit
set_option linter.unusedVariables false
set_option linter.unusedSimpArgs false
end Go.Proofs.YtidgfadbdgheiaaGreatDoor
/-
 Contract of the document's Start.
-/
namespace Go.Proofs.YtidgfadbdgheiaaGreatDoor
open Go.RowKit
set_option linter.unusedVariables false
set_option linter.unusedSimpArgs false
end Go.Proofs.YtidgfadbdgheiaaGreatDoor
/-
 That the program's first positions and the document's are the same; that their numbers fit their kinds.
-/
namespace Go.Proofs.YtidgfadbdgheiaaGreatDoor
open Go.RowKit
set_option linter.unusedVariables false
def bv (x : Int) : Nat := (UInt8.ofNat x.toNat).toNat
end Go.Proofs.YtidgfadbdgheiaaGreatDoor
/-
 Layer 13: what the examples come to, by the kernel.
-/
namespace Go.Proofs.YtidgfadbdgheiaaGreatDoor
open Go.RowKit
set_option linter.unusedVariables false
set_option linter.unusedSimpArgs false

end Go.Proofs.YtidgfadbdgheiaaGreatDoor
/-
 Layer 13's awake.
-/
namespace Go.Proofs.YtidgfadbdgheiaaGreatDoor
open Go.RowKit Go.Shelf
set_option linter.unusedVariables false
set_option linter.unusedSimpArgs false

theorem Pms.get {L : List Pm} {g : Nat} {w : World} (h : Pms L (some ⟨g, 0, none⟩) w) {i : Nat} {m : Pm} (hm : L[i]? = some m) : w.rangeAt g (5 * i) (pmA m).toList := by
 obtain ⟨g', e, hr⟩ := h.at hm
 have : g = g' := by injection e with e; injection e
 subst this; exact hr
theorem Pms.lt {L : List Pm} {g : Nat} {w : World} (h : Pms L (some ⟨g, 0, none⟩) w) {m : Pm} {i : Nat} (hm : L[i]? = some m) : g < w.heap.size := by
 obtain ⟨g', cur, e, hb, _⟩ := h i m hm
 have : g = g' := by injection e with e; injection e
 subst this; exact Blk.lt hb
theorem Pms.upd {L : List Pm} {g b : Nat} {w w' : World} (h : Pms L (some ⟨g, 0, none⟩) w) (U : Upd b w w') (hn : g ≠ b) : Pms L (some ⟨g, 0, none⟩) w' := fun i m hm => by
 obtain ⟨g', cur, e, hb, hc⟩ := h i m hm
 have : g = g' := by injection e with e; injection e
 subst this
 exact ⟨g, cur, rfl, Blk.apart hb U hn, hc⟩
end Go.Proofs.YtidgfadbdgheiaaGreatDoor
/-
 Layer 13's lawful.
-/
namespace Go.Proofs.YtidgfadbdgheiaaGreatDoor
open Go.RowKit
set_option linter.unusedVariables false
set_option linter.unusedSimpArgs false

end Go.Proofs.YtidgfadbdgheiaaGreatDoor
/-
 Layer 13: what each move of the list is, and that they come in their order, each once.
-/
namespace Go.Proofs.YtidgfadbdgheiaaGreatDoor
open Go.RowKit
set_option linter.unusedVariables false
set_option linter.unusedSimpArgs false

theorem ownN_testBit {p : Nat → Int} (hv : p 0 < 9) {i : Nat} (hi : i < 64) : (ownN p).testBit i = (pcB (p (1 + i)) && (colZ (p (1 + i)) == p 78)) := by
 have e : vrB p = true := decide_eq_true hv
 unfold ownN
 rw [e, cond_true, ofN_testBit _ _ _ _ hi]
 unfold ofB
 simp
theorem theN_testBit {p : Nat → Int} (hv : p 0 < 9) {i : Nat} (hi : i < 64) : (theN p).testBit i = (pcB (p (1 + i)) && (colZ (p (1 + i)) == oth (p 78))) := by
 have e : vrB p = true := decide_eq_true hv
 unfold theN
 rw [e, cond_true, ofN_testBit _ _ _ _ hi]
 unfold ofB
 simp
end Go.Proofs.YtidgfadbdgheiaaGreatDoor
/-
 Layer 13: what becomes of the list when a piece of who is to move is taken off, or goes where it may.
-/
namespace Go.Proofs.YtidgfadbdgheiaaGreatDoor
open Go.RowKit
set_option linter.unusedVariables false
set_option linter.unusedSimpArgs false

theorem knP_nat (p : Nat → Int) {i : Nat} (hi : i < 64) : knP p (i : Int) = kndZ (p (1 + i)) := kind_at p hi
theorem col_of {x : Int} (h : pcB x = true) : colZ x = x / 8 := by unfold colZ; rw [h, cond_true]
theorem knd_of {x : Int} (h : pcB x = true) : kndZ x = x % 8 := by unfold kndZ; rw [h, cond_true]
/-! There and back. -/
end Go.Proofs.YtidgfadbdgheiaaGreatDoor
