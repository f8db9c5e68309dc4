/-
  A board of 64 numbers as an argument: it is opened, and reads behind the call as it did.
-/
import Derived.Test.YtmlmilmfnioheaaDoorPosOpen
import Derived.Test.YtmlmilmfnioheaaDoorVaBaseB
namespace Go.Proofs.YtmlmilmfnioheaaDoor
open Go.ChangeShapes Go.WideShapes Go.RowKit
set_option linter.unusedVariables false
section
variable {H : Type} {enc : TypeId × Value → H} {w : World} {base : Nat} {spare : Nat → Bool} {held : Bool}
theorem okWide_arrC {P : Program} {t e : TypeId} {n : Nat} {r : Reach} {b0 : Nat} {v : Value} (ht : P.underlying t = some (.array n e)) (h : Value.okWide P w r b0 t v) : ∃ cs, v = .agg cs ∧ cs.size = P.cellsOf t := by
  simp only [Value.okWide, ht] at h
  obtain ⟨cs, h1, h2, _⟩ := h
  exact ⟨cs, h1, h2⟩
/-- The numbers are bytes. -/
def Wf64 (p : Nat → Int) : Prop := ∀ i, i < 64 → 0 ≤ p i ∧ p i ≤ 255
def zero64 : Nat → Int := fun _ => 0
set_option maxRecDepth 100000 in
theorem open_bd {r : Reach} {b0 : Nat} {v : Value} {d : DataW H} {ps : List MemPlace} (hv : Value.okWide Tryd.prog w r b0 22 v) (h : DataW.Trod enc Tryd.prog w base spare held 22 v d ps) :
    ∃ p : Nat → Int, v = .agg (arrA 64 .u8 p) ∧ ps = [] ∧ Wf64 p := by
  obtain ⟨cs, rfl, hsz⟩ := okWide_arrC Tryd.underlying22 hv
  obtain ⟨fuel, hf⟩ := h
  have c5 : Tryd.prog.cellsOf 5 = 1 := by kernel_rfl
  have c22 : Tryd.prog.cellsOf 22 = 64 := by kernel_rfl
  have l5 : Leafy enc w base spare held 5 (fun _ => .u8) := leafy_int Tryd.underlying5 c5
  have l22 : Leafy enc w base spare held 22 (fun _ => .u8) := leafy_array Tryd.underlying22 (by rw [c22, c5]) (by rw [c5]; decide) l5
  obtain ⟨h1, h2⟩ := l22 _ _ _ hf
  rw [c22] at h2 hsz
  have hg : ∀ j, j < 64 → ∃ n, cs[j]? = some (.int .u8 n) ∧ (Lit.int .u8 n).wf = true := fun j hj => by
    obtain ⟨n, hn, hw⟩ := h2 j hj
    exact ⟨n, by rw [← hn]; show cs[j]? = cs.toList[j]?; simp, hw⟩
  refine ⟨fun j => intOf (cs[j]?.getD (.bool false)), ?_, h1, fun j hj => ?_⟩
  · refine congrArg Value.agg ?_
    apply Array.ext_getElem?
    intro j
    by_cases hj : j < 64
    · obtain ⟨n, hn, _⟩ := hg j hj
      rw [arrA_get _ _ _ j hj, hn]; rfl
    · rw [Array.getElem?_eq_none (by omega), Array.getElem?_eq_none (by rw [arrA_size]; omega)]
  · obtain ⟨n, hn, hw⟩ := hg j hj
    simp only [hn]
    simp only [Lit.wf, Bool.and_eq_true, decide_eq_true_eq] at hw
    exact hw
end
set_option maxRecDepth 100000 in
theorem shut_bd {H : Type} {enc : TypeId × Value → H} {W W' : World} {v : Value} {d : DataW H} (h : DataW.Trod enc Tryd.prog W 0 (fun _ => true) true 22 v d []) (hb : Below W.heap.size W W') :
    DataW.Trod enc Tryd.prog W' 0 (fun b => decide (b < W.heap.size)) true 22 v d [] :=
  Below.trod laidOut6 (by kernel_rfl) (of_decide_eq_true (by kernel_rfl)) h hb (fun x hx => by cases hx)
end Go.Proofs.YtmlmilmfnioheaaDoor
