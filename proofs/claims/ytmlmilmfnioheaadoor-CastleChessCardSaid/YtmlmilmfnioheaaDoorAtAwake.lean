/-
  Layer 8's none, awake, lawful; contracts at known answers.
-/
import Derived.Test.YtmlmilmfnioheaaDoorVaBaseA
import Derived.Test.YtmlmilmfnioheaaDoorAtRefC
import Derived.Test.YtmlmilmfnioheaaDoorVaBaseB
namespace Go.Proofs.YtmlmilmfnioheaaDoor
open Go.RowKit
set_option linter.unusedVariables false
set_option linter.unusedSimpArgs false
theorem AtR.of {p : Nat → Int} (h : WfP p) : AtR p := by
  have hu : ∀ j, j < 88 → kAt j = .u8 → 0 ≤ p j ∧ p j ≤ 255 := fun j hj hk => by
    have := h j hj; rw [hk] at this
    exact u8_rng this
  exact ⟨fun i hi => hu _ (by omega) (kAt_board (by omega) hi), hu 0 (by omega) rfl, hu 78 (by omega) rfl⟩
theorem wf_u8 {x : Int} (h : 0 ≤ x ∧ x ≤ 255) : (Lit.int .u8 x).wf = true := by
  have a : IntKind.u8.min = 0 := by decide
  have b : IntKind.u8.max = 255 := by decide
  simp [Lit.wf, a, b, h.1, h.2]
theorem AtR.put {p : Nat → Int} (h : AtR p) (i : Nat) (x : Int) (hx : 0 ≤ x ∧ x ≤ 255) : AtR (upd p i x) := by
  have key : ∀ j, (0 ≤ p j ∧ p j ≤ 255) → 0 ≤ upd p i x j ∧ upd p i x j ≤ 255 := fun j hj => by unfold upd; split; { exact hx }; { exact hj }
  exact ⟨fun j hj => key _ (h.bd j hj), key _ h.var, key _ h.turn⟩
theorem new_row {b c : Nat} {w w' : World} {p : Nat → Int} (h : New b w w') (hr : Row w c p) : Row w' c p := hr.later h.below
theorem new_ne {b c : Nat} {w w' : World} {p : Nat → Int} (h : New b w w') (hr : Row w c p) : c ≠ b := by have := hr.lt; have := h.at_; omega
def noneP : Nat → Int := upd (upd zeroP 83 (-1)) 87 1
theorem none_atR : AtR noneP := by
  have z : ∀ j, j ≠ 83 → j ≠ 87 → noneP j = 0 := fun j h1 h2 => by unfold noneP; rw [upd_other _ _ _ _ h2, upd_other _ _ _ _ h1]; rfl
  refine ⟨fun i hi => ?_, ?_, ?_⟩
  · rw [z _ (by omega) (by omega)]; decide
  · rw [z _ (by decide) (by decide)]; decide
  · rw [z _ (by decide) (by decide)]; decide
theorem check_k {p : Nat → Int} {c : Int} {b : Bool} (h : chkB p c = b) (w : World) (hp : AtR p) (hc : 0 ≤ c ∧ c ≤ 255) (hD : TabDb w) (hL : TabLead w) (hT : TabVar w) : Calls Tryd.prog 17 #[.agg (posA p), .int .u8 c] w (BoL b w) := h ▸ check_any p c w hp hc hD hL hT
theorem on_k {p : Nat → Int} {s c : Int} {b : Bool} (h : anyB p s c = b) (w : World) (hp : BdR p) (hc : 0 ≤ c) (hD : TabDb w) (hL : TabLead w) : Calls Tryd.prog 18 #[.agg (posA p), .int .i64 s, .int .u8 c] w (BoL b w) := h ▸ on_any p s c w hp hc hD hL
def awP : Nat → Int := upd (upd (upd (upd noneP 5 6) 1 4) 61 14) 37 12
def awQ : Nat → Int := upd (upd (upd (upd noneP 13 1) 15 1) 7 2) 2 2
theorem awP_at : AtR awP := (((none_atR.put 5 6 (by decide)).put 1 4 (by decide)).put 61 14 (by decide)).put 37 12 (by decide)
theorem awQ_at : AtR awQ := (((none_atR.put 13 1 (by decide)).put 15 1 (by decide)).put 7 2 (by decide)).put 2 2 (by decide)
theorem aw_1 : chkB awP 0 = true := by decide +kernel
theorem aw_2 : chkB awP 1 = false := by decide +kernel
theorem aw_3 : chksN awP = 68719476736 := by decide +kernel
theorem aw_4 : byN awQ 21 0 = 20544 := by decide +kernel
theorem aw_5 : anyB awQ 28 0 = false := by decide +kernel
theorem aw_6 : fromN awQ 1 = 329728 := by decide +kernel
end Go.Proofs.YtmlmilmfnioheaaDoor
