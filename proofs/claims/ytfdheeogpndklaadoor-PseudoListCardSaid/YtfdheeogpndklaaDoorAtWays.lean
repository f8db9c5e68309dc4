/-
  Contracts of the program's ways, other, each: how each kind attacks; the squares of a set, gone through.
-/
import Derived.Test.YtfdheeogpndklaaDoorSlides
import Derived.Test.YtfdheeogpndklaaDoorAtMath
import Derived.Test.YtfdheeogpndklaaDoorKept
import Derived.Test.YtfdheeogpndklaaDoorVaBaseB
namespace Go.Proofs.YtfdheeogpndklaaDoor
open Go.RowKit Go.Shelf
set_option linter.unusedVariables false

def U8S (n : Int) (w : World) (e : Ending) (w' : World) : Prop := e = .returned (.int .u8 n) ∧ w = w'
theorem oth_wrap (c : Int) : IntKind.u8.wrap (1 - c) = oth c := by
  unfold oth; rfl
def nilWays : Array Value := #[.nilFunc, .nilFunc, .nilFunc, .nilFunc, .nilFunc, .nilFunc, .nilFunc]
theorem clear_rest (r : Nat) (hr : r < W64) (h0 : r ≠ 0) : clearN r ((Lib.ctz 64 r : Nat) : Int) = restN r := by
  have hl := listN_rest r hr h0
  have hp := listN_sorted r
  have hm : ∀ i, i < 64 → ((restN r).testBit i = true ↔ r.testBit i = true ∧ i ≠ Lib.ctz 64 r) := fun i hi => by
    have e1 : r.testBit i = true ↔ i ∈ listN r := by rw [mem_listN]; simp [hi]
    have e2 : (restN r).testBit i = true ↔ i ∈ listN (restN r) := by rw [mem_listN]; simp [hi]
    rw [e1, e2, hl]
    rw [hl, List.pairwise_cons] at hp
    constructor
    · intro h; exact ⟨List.mem_cons_of_mem _ h, fun e => by have := hp.1 i h; omega⟩
    · rintro ⟨h, hne⟩; rcases List.mem_cons.1 h with h | h
      · exact absurd h hne
      · exact h
  have hc : Lib.ctz 64 r < 64 := by
    have : Lib.ctz 64 r ∈ listN r := by rw [hl]; exact List.mem_cons_self
    exact (mem_listN.1 this).1
  apply eq_of_bits (clearN_lt hr _) (restN_lt hr)
  intro i hi
  rw [Bool.eq_iff_iff, hm i hi, clearN_testBit, Bool.and_eq_true]
  have hs : sq ((Lib.ctz 64 r : Nat) : Int) = true := sq_true.2 (by omega)
  rw [hs, Bool.true_and]
  simp only [Bool.not_eq_true', decide_eq_false_iff_not]
  constructor
  · rintro ⟨h1, h2⟩; exact ⟨h1, fun e => h2 (by omega)⟩
  · rintro ⟨h1, h2⟩; exact ⟨h1, fun e => h2 (by omega)⟩

attribute [local go_sem] Oper.semAt_some
theorem snoc_pre {α : Type} {L pre : List α} {c : α} {t : List α} (h : L = pre ++ c :: t) : pre ++ [c] <+: L := ⟨t, by rw [h]; simp⟩
end Go.Proofs.YtfdheeogpndklaaDoor
