/-
 Several texts in one: CsF, CsJ, CsI.
-/
import Derived.Test.YtidgfadbdgheiaaGreatDoorAfCs
/-
 Layer 14's law: with, first, both.
-/
namespace Go.Proofs.YtidgfadbdgheiaaGreatDoor
open Go.RowKit Go.Shelf
set_option linter.unusedVariables false
set_option linter.unusedSimpArgs false
attribute [local go_sem] Oper.semAt_some

theorem Mvs.of {B : Nat} {L : List Mv} {v : Value} {w : World} (h : MvsO B L v w) : ∃ a cap, v = .slice a L.length cap ∧ Mvs L a w := mvs_of h
end Go.Proofs.YtidgfadbdgheiaaGreatDoor
/-
 What each castling that is told is.
-/
namespace Go.Proofs.YtidgfadbdgheiaaGreatDoor
open Go.RowKit Go.Shelf
set_option linter.unusedVariables false
set_option linter.unusedSimpArgs false
attribute [local go_sem] Oper.semAt_some

theorem CsR.of {p : Nat → Int} (h : WfP p) : CsR p := ⟨AtR.of h, fun i hi => by
 have hw := h (79 + i) (by omega)
 have e : kAt (79 + i) = .i8 := by rcases (by omega : i = 0 ∨ i = 1 ∨ i = 2 ∨ i = 3) with rfl | rfl | rfl | rfl <;> rfl
 rw [e] at hw
 simp only [Lit.wf, Bool.and_eq_true, decide_eq_true_eq] at hw
 exact hw⟩
theorem first_bit {b : Nat} (hb : b < W64) {k : Nat} (h : firstN b = (k : Int)) : k < 64 ∧ b.testBit k = true := by
 by_cases h0 : b = 0
 ·subst h0; rw [firstN_zero] at h; omega
 ·obtain ⟨e, he, e2, ht, _⟩ := first_spec h0 hb
  have : e = k := by rw [e2] at h; omega
  subst this; exact ⟨he, ht⟩
theorem of_at {p : Nat → Int} {c k : Int} (hk : k ≠ 0) {i : Nat} (hi : i < 64) (h : (ofN p c k).testBit i = true) : p (1 + i) = 8 * c + k := by
 rw [ofN_testBit _ _ _ _ hi] at h
 unfold ofB at h
 simp only [Bool.and_eq_true, Bool.or_eq_true, beq_iff_eq] at h
 obtain ⟨hp, hc, hd⟩ := h
 have hd : kndZ (p (1 + i)) = k := hd.resolve_left hk
 unfold colZ at hc
 unfold kndZ at hd
 rw [hp, cond_true] at hc hd
 omega
theorem sdC_yes' {c : Int} {m : Mv} (h0 : m.ca = true) (h1 : m.f ≠ m.t) (h2 : c ≤ 1) (h3 : hmC c ≤ m.f ∧ m.f < hmC c + 8) (h4 : hmC c ≤ m.t ∧ m.t < hmC c + 8) : sdC c m = bif decide (m.f < m.t) then 0 else 1 := by
 have a1 : atC c m.f = true := by unfold atC; simp only [Bool.and_eq_true, decide_eq_true_eq]; exact ⟨h2, h3⟩
 have a2 : atC c m.t = true := by unfold atC; simp only [Bool.and_eq_true, decide_eq_true_eq]; exact ⟨h2, h4⟩
 unfold sdC
 rw [h0, a1, a2, beq_eq_false_iff_ne.2 h1]; rfl
end Go.Proofs.YtidgfadbdgheiaaGreatDoor
/-
 The document's own Side and Goals of layer 14.
-/
namespace Go.Proofs.YtidgfadbdgheiaaGreatDoor
open Go.RowKit Go.Shelf
set_option linter.unusedVariables false
set_option linter.unusedSimpArgs false
attribute [local go_sem] Oper.semAt_some

def IntPL (a b : Int) (w : World) (e : Ending) (w' : World) : Prop := e = .returned (.tuple #[.int .i64 a, .int .i64 b]) ∧ w = w'
theorem cs_rgoals (n : Int) (w : World) : Calls Tryz.prog 101 #[.int .i64 n] w (IntPL (gkC n) (grC n) w) := by
 unfold gkC grC
 cases g : (n == 0)
 all_goals
  go_enter Tryz.func101, Tryz.ntmps101
  go_wp2
  go_ret2
  exact ⟨rfl, rfl⟩
end Go.Proofs.YtidgfadbdgheiaaGreatDoor
