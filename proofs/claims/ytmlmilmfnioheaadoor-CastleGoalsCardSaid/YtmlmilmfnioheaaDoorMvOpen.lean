/-
  A move as an argument: it is opened to its five values, and reads behind the call as it did.
-/
import Derived.Test.YtmlmilmfnioheaaDoorPosOpen
import Derived.Test.YtmlmilmfnioheaaDoorMv0
namespace Go.Proofs.YtmlmilmfnioheaaDoor
open Go.ChangeShapes Go.WideShapes Go.RowKit
set_option linter.unusedVariables false
section
variable {H : Type} {enc : TypeId × Value → H} {w : World} {base : Nat} {spare : Nat → Bool} {held : Bool}
theorem wf_i8' {x : Int} (h : (Lit.int .i8 x).wf = true) : -128 ≤ x ∧ x ≤ 127 := by
  simp only [Lit.wf, Bool.and_eq_true, decide_eq_true_eq] at h; exact h
theorem wf_u8' {x : Int} (h : (Lit.int .u8 x).wf = true) : 0 ≤ x ∧ x ≤ 255 := by
  simp only [Lit.wf, Bool.and_eq_true, decide_eq_true_eq] at h; exact h
set_option maxRecDepth 100000 in
theorem open_mv {r : Reach} {b0 : Nat} {v : Value} {d : DataW H} {ps : List MemPlace} (hv : Value.okWide Tryd.prog w r b0 36 v) (h : DataW.Trod enc Tryd.prog w base spare held 36 v d ps) :
    ∃ m : Mv, v = .agg (mvA m) ∧ ps = [] ∧ FitV m := by
  obtain ⟨cs, rfl, hsz⟩ := okWide_struct Tryd.underlying36 hv
  obtain ⟨fuel, hf⟩ := h
  obtain ⟨xs, m, _, e, hl, hn, hi⟩ := DataW.trod_struct Tryd.underlying36 hf
  have hn' : xs.length = 5 := hn
  have c5 : Tryd.prog.cellsOf 5 = 1 := by kernel_rfl
  have c26 : Tryd.prog.cellsOf 26 = 1 := by kernel_rfl
  have c4 : Tryd.prog.cellsOf 4 = 1 := by kernel_rfl
  have l5 : Leafy enc w base spare held 5 (fun _ => .u8) := leafy_int Tryd.underlying5 c5
  have l26 : Leafy enc w base spare held 26 (fun _ => .i8) := leafy_int Tryd.underlying26 c26
  obtain ⟨n0, f0⟩ := leafy_field (fuel := fuel) (o := 0) l26 (hi 0 _ rfl) (by omega)
  obtain ⟨n1, f1⟩ := leafy_field (fuel := fuel) (o := 1) l26 (hi 1 _ rfl) (by omega)
  obtain ⟨n2, f2⟩ := leafy_field (fuel := fuel) (o := 2) l5 (hi 2 _ rfl) (by omega)
  obtain ⟨n3, f3⟩ := leafy_field (fuel := fuel) (o := 3) l5 (hi 3 _ rfl) (by omega)
  have h4 := hi 4 _ rfl
  rw [List.getElem?_eq_getElem (by omega)] at h4
  obtain ⟨bv, hb, hx⟩ := DataW.trod_bool Tryd.underlying4 h4
  have n4 : (xs[4]'(by omega)).2 = [] := by rw [hx]
  obtain ⟨x0, g0, w0⟩ := f0 0 (by omega) (by omega)
  obtain ⟨x1, g1, w1⟩ := f1 1 (by omega) (by omega)
  obtain ⟨x2, g2, w2⟩ := f2 2 (by omega) (by omega)
  obtain ⟨x3, g3, w3⟩ := f3 3 (by omega) (by omega)
  have g4 : cs.toList[4]? = some (.bool bv) := by
    have := sub_get (cs := cs.toList) (o := 4) (m := 1) (j := 0) (v := .bool bv) (by omega) (by
      have e2 : ((cs.toList.drop 4).take 1) = [Value.bool bv] := hb
      rw [e2]; rfl)
    exact this
  refine ⟨⟨x0, x1, x2, x3, bv⟩, ?_, ?_, ⟨wf_i8' w0, wf_i8' w1, wf_u8' w2, wf_u8' w3⟩⟩
  · refine congrArg Value.agg ?_
    have hs : cs.size = 5 := by
      have : Tryd.prog.cellsOf 36 = 5 := by kernel_rfl
      rw [this] at hsz; exact hsz
    have hl5 : cs.toList = [.int .i8 x0, .int .i8 x1, .int .u8 x2, .int .u8 x3, .bool bv] := by
      apply List.ext_getElem?
      intro j
      match j with
      | 0 => exact g0
      | 1 => exact g1
      | 2 => exact g2
      | 3 => exact g3
      | 4 => exact g4
      | j + 5 => rw [List.getElem?_eq_none (by simp [hs]), List.getElem?_eq_none (by simp)]
    exact Array.ext' hl5
  · obtain ⟨rfl, rfl⟩ := Prod.mk.inj e
    refine flat_nil fun y hy => ?_
    obtain ⟨i, hi', rfl⟩ := List.mem_iff_getElem.1 hy
    rw [hn'] at hi'
    match i, hi' with
    | 0, _ => exact n0
    | 1, _ => exact n1
    | 2, _ => exact n2
    | 3, _ => exact n3
    | 4, _ => exact n4
end
set_option maxRecDepth 100000 in
theorem shut_mv {H : Type} {enc : TypeId × Value → H} {W W' : World} {v : Value} {d : DataW H} (h : DataW.Trod enc Tryd.prog W 0 (fun _ => true) true 36 v d []) (hb : Below W.heap.size W W') :
    DataW.Trod enc Tryd.prog W' 0 (fun b => decide (b < W.heap.size)) true 36 v d [] :=
  Below.trod laidOut6 (by kernel_rfl) (of_decide_eq_true (by kernel_rfl)) h hb (fun x hx => by cases hx)
end Go.Proofs.YtmlmilmfnioheaaDoor
