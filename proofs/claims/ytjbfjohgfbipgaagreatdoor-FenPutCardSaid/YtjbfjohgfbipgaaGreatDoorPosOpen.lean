/-
  A position as an argument: it is opened to its 88 numbers, and reads behind the call as it did.
-/
import Derived.Test.YtjbfjohgfbipgaaGreatDoorFpBaseB
import Derived.Carry
import Derived.OpenShut
namespace Go.Proofs.YtjbfjohgfbipgaaGreatDoor
open Go.ChangeShapes Go.WideShapes Go.RowKit
set_option linter.unusedVariables false
section
variable {H : Type} {enc : TypeId × Value → H} {w : World} {base : Nat} {spare : Nat → Bool} {held : Bool}
/-- What is read as a t is numbers of these kinds, in no other place. -/
def Leafy (enc : TypeId × Value → H) (w : World) (base : Nat) (spare : Nat → Bool) (held : Bool) (t : TypeId) (K : Nat → IntKind) : Prop :=
  ∀ (fuel : Nat) (cs : List Value) (x : DataW H × List MemPlace), DataW.trod enc Tryz.prog w base spare held fuel t cs = some x → x.2 = [] ∧ ∀ j, j < Tryz.prog.cellsOf t → ∃ n, cs[j]? = some (.int (K j) n) ∧ (Lit.int (K j) n).wf = true
theorem leafy_int {t : TypeId} {k : IntKind} (hu : Tryz.prog.underlying t = some (.int k)) (hc : Tryz.prog.cellsOf t = 1) : Leafy enc w base spare held t (fun _ => k) := by
  intro fuel cs x h
  obtain ⟨n, rfl, rfl, hw⟩ := DataW.trod_int hu h
  refine ⟨rfl, fun j hj => ⟨n, ?_, hw⟩⟩
  rw [hc] at hj
  obtain rfl : j = 0 := by omega
  rfl
theorem sub_get {cs : List Value} {o m j : Nat} {v : Value} (hj : j < m) (h : ((cs.drop o).take m)[j]? = some v) : cs[o + j]? = some v := by
  rwa [List.getElem?_take_of_lt hj, List.getElem?_drop] at h
theorem flat_nil {xs : List (DataW H × List MemPlace)} (h : ∀ x ∈ xs, x.2 = []) : xs.flatMap (·.2) = [] := by
  rw [List.flatMap_eq_nil_iff]; exact h
theorem leafy_array {t e : TypeId} {n : Nat} {K : Nat → IntKind} (hu : Tryz.prog.underlying t = some (.array n e)) (hc : Tryz.prog.cellsOf t = n * Tryz.prog.cellsOf e) (h0 : 0 < Tryz.prog.cellsOf e) (h : Leafy enc w base spare held e K) :
    Leafy enc w base spare held t (fun j => K (j % Tryz.prog.cellsOf e)) := by
  intro fuel cs x hx
  obtain ⟨xs, m, _, rfl, hl, hn, hi⟩ := DataW.trod_array hu hx
  refine ⟨flat_nil fun y hy => ?_, fun j hj => ?_⟩
  · obtain ⟨i, hi', rfl⟩ := List.mem_iff_getElem.1 hy
    have := hi i (by omega)
    rw [List.getElem?_eq_getElem hi'] at this
    exact (h _ _ _ this).1
  · have hd : j / Tryz.prog.cellsOf e < n := by rw [Nat.div_lt_iff_lt_mul h0, ← hc]; exact hj
    have ht := hi _ hd
    rw [List.getElem?_eq_getElem (by omega)] at ht
    obtain ⟨v, hv, hw⟩ := (h _ _ _ ht).2 (j % Tryz.prog.cellsOf e) (Nat.mod_lt _ h0)
    refine ⟨v, ?_, hw⟩
    have := sub_get (Nat.mod_lt _ h0) hv
    rwa [Nat.mul_comm, Nat.div_add_mod] at this
theorem leafy_field {fuel : Nat} {cs : List Value} {xs : List (DataW H × List MemPlace)} {m i : Nat} {t : TypeId} {o : Nat} {K : Nat → IntKind} (h : Leafy enc w base spare held t K)
    (hx : DataW.trod enc Tryz.prog w base spare held m t ((cs.drop o).take (Tryz.prog.cellsOf t)) = xs[i]?) (hi : i < xs.length) :
    (xs[i]'hi).2 = [] ∧ ∀ j, o ≤ j → j < o + Tryz.prog.cellsOf t → ∃ n, cs[j]? = some (.int (K (j - o)) n) ∧ (Lit.int (K (j - o)) n).wf = true := by
  rw [List.getElem?_eq_getElem hi] at hx
  obtain ⟨h1, h2⟩ := h _ _ _ hx
  refine ⟨h1, fun j h3 h4 => ?_⟩
  obtain ⟨n, hn, hw⟩ := h2 (j - o) (by omega)
  refine ⟨n, ?_, hw⟩
  have := sub_get (by omega) hn
  rwa [show o + (j - o) = j by omega] at this
set_option maxRecDepth 100000 in
theorem leafy31 : Leafy enc w base spare held 31 kAt := by
  intro fuel cs x hx
  obtain ⟨xs, m, _, rfl, hl, hn, hi⟩ := DataW.trod_struct Tryz.underlying31 hx
  have hn' : xs.length = 10 := hn
  have c5 : Tryz.prog.cellsOf 5 = 1 := by kernel_rfl
  have c26 : Tryz.prog.cellsOf 26 = 1 := by kernel_rfl
  have c23 : Tryz.prog.cellsOf 23 = 1 := by kernel_rfl
  have c3 : Tryz.prog.cellsOf 3 = 1 := by kernel_rfl
  have c24 : Tryz.prog.cellsOf 24 = 6 := by kernel_rfl
  have c27 : Tryz.prog.cellsOf 27 = 2 := by kernel_rfl
  have c22 : Tryz.prog.cellsOf 22 = 64 := by kernel_rfl
  have c25 : Tryz.prog.cellsOf 25 = 12 := by kernel_rfl
  have c28 : Tryz.prog.cellsOf 28 = 4 := by kernel_rfl
  have c29 : Tryz.prog.cellsOf 29 = 2 := by kernel_rfl
  have l5 : Leafy enc w base spare held 5 (fun _ => .u8) := leafy_int Tryz.underlying5 c5
  have l26 : Leafy enc w base spare held 26 (fun _ => .i8) := leafy_int Tryz.underlying26 c26
  have l23 : Leafy enc w base spare held 23 (fun _ => .u64) := leafy_int Tryz.underlying23 c23
  have l3 : Leafy enc w base spare held 3 (fun _ => .i64) := leafy_int Tryz.underlying3 c3
  have l22 : Leafy enc w base spare held 22 (fun _ => .u8) := leafy_array Tryz.underlying22 (by rw [c22, c5]) (by rw [c5]; decide) l5
  have l24 : Leafy enc w base spare held 24 (fun _ => .u8) := leafy_array Tryz.underlying24 (by rw [c24, c5]) (by rw [c5]; decide) l5
  have l25 : Leafy enc w base spare held 25 (fun _ => .u8) := leafy_array Tryz.underlying25 (by rw [c25, c24]) (by rw [c24]; decide) l24
  have l27 : Leafy enc w base spare held 27 (fun _ => .i8) := leafy_array Tryz.underlying27 (by rw [c27, c26]) (by rw [c26]; decide) l26
  have l28 : Leafy enc w base spare held 28 (fun _ => .i8) := leafy_array Tryz.underlying28 (by rw [c28, c27]) (by rw [c27]; decide) l27
  have l29 : Leafy enc w base spare held 29 (fun _ => .u8) := leafy_array Tryz.underlying29 (by rw [c29, c5]) (by rw [c5]; decide) l5
  obtain ⟨n0, f0⟩ := leafy_field (fuel := fuel) (o := 0) l5 (hi 0 _ rfl) (by omega)
  obtain ⟨n1, f1⟩ := leafy_field (fuel := fuel) (o := 1) l22 (hi 1 _ rfl) (by omega)
  obtain ⟨n2, f2⟩ := leafy_field (fuel := fuel) (o := 65) l23 (hi 2 _ rfl) (by omega)
  obtain ⟨n3, f3⟩ := leafy_field (fuel := fuel) (o := 66) l25 (hi 3 _ rfl) (by omega)
  obtain ⟨n4, f4⟩ := leafy_field (fuel := fuel) (o := 78) l5 (hi 4 _ rfl) (by omega)
  obtain ⟨n5, f5⟩ := leafy_field (fuel := fuel) (o := 79) l28 (hi 5 _ rfl) (by omega)
  obtain ⟨n6, f6⟩ := leafy_field (fuel := fuel) (o := 83) l26 (hi 6 _ rfl) (by omega)
  obtain ⟨n7, f7⟩ := leafy_field (fuel := fuel) (o := 84) l29 (hi 7 _ rfl) (by omega)
  obtain ⟨n8, f8⟩ := leafy_field (fuel := fuel) (o := 86) l3 (hi 8 _ rfl) (by omega)
  obtain ⟨n9, f9⟩ := leafy_field (fuel := fuel) (o := 87) l3 (hi 9 _ rfl) (by omega)
  refine ⟨flat_nil fun y hy => ?_, fun j hj => ?_⟩
  · obtain ⟨i, hi', rfl⟩ := List.mem_iff_getElem.1 hy
    rw [hn'] at hi'
    match i, hi' with
    | 0, _ => exact n0
    | 1, _ => exact n1
    | 2, _ => exact n2
    | 3, _ => exact n3
    | 4, _ => exact n4
    | 5, _ => exact n5
    | 6, _ => exact n6
    | 7, _ => exact n7
    | 8, _ => exact n8
    | 9, _ => exact n9
  · rw [show Tryz.prog.cellsOf 31 = 88 by kernel_rfl] at hj
    simp only [c5, c22, c23, c25, c28, c26, c29, c3] at f0 f1 f2 f3 f4 f5 f6 f7 f8 f9
    by_cases a0 : j = 0
    · have := f0 j (by omega) (by omega); rwa [show kAt j = .u8 by subst a0; rfl]
    by_cases a1 : j < 65
    · have := f1 j (by omega) (by omega); rwa [show kAt j = .u8 by unfold kAt; rw [if_neg (by omega), if_neg (by omega), if_neg (by omega)]]
    by_cases a2 : j = 65
    · have := f2 j (by omega) (by omega); rwa [show kAt j = .u64 by subst a2; rfl]
    by_cases a3 : j < 78
    · have := f3 j (by omega) (by omega); rwa [show kAt j = .u8 by unfold kAt; rw [if_neg (by omega), if_neg (by omega), if_neg (by omega)]]
    by_cases a4 : j = 78
    · have := f4 j (by omega) (by omega); rwa [show kAt j = .u8 by subst a4; rfl]
    by_cases a5 : j < 83
    · have := f5 j (by omega) (by omega); rwa [show kAt j = .i8 by unfold kAt; rw [if_neg (by omega), if_pos (by omega)]]
    by_cases a6 : j = 83
    · have := f6 j (by omega) (by omega); rwa [show kAt j = .i8 by subst a6; rfl]
    by_cases a7 : j < 86
    · have := f7 j (by omega) (by omega); rwa [show kAt j = .u8 by unfold kAt; rw [if_neg (by omega), if_neg (by omega), if_neg (by omega)]]
    by_cases a8 : j = 86
    · have := f8 j (by omega) (by omega); rwa [show kAt j = .i64 by subst a8; rfl]
    · have := f9 j (by omega) (by omega); rwa [show kAt j = .i64 by unfold kAt; rw [if_neg (by omega), if_neg (by omega), if_pos (by omega)]]
set_option maxRecDepth 100000 in
theorem open_pos {r : Reach} {b0 : Nat} {v : Value} {d : DataW H} {ps : List MemPlace} (hv : Value.okWide Tryz.prog w r b0 31 v) (h : DataW.Trod enc Tryz.prog w base spare held 31 v d ps) :
    ∃ p : Nat → Int, v = .agg (posA p) ∧ ps = [] ∧ WfP p := by
  obtain ⟨cs, rfl, hsz⟩ := okWide_struct Tryz.underlying31 hv
  obtain ⟨fuel, hf⟩ := h
  obtain ⟨h1, h2⟩ := leafy31 _ _ _ hf
  rw [show Tryz.prog.cellsOf 31 = 88 by kernel_rfl] at h2 hsz
  have hg : ∀ j, j < 88 → ∃ n, cs[j]? = some (.int (kAt j) n) ∧ (Lit.int (kAt j) n).wf = true := fun j hj => by
    obtain ⟨n, hn, hw⟩ := h2 j hj
    exact ⟨n, by rw [← hn]; show cs[j]? = cs.toList[j]?; simp, hw⟩
  refine ⟨fun j => intOf (cs[j]?.getD (.bool false)), ?_, h1, fun j hj => ?_⟩
  · refine congrArg Value.agg ?_
    apply Array.ext_getElem?
    intro j
    by_cases hj : j < 88
    · obtain ⟨n, hn, _⟩ := hg j hj
      rw [posA_get _ j hj, hn]; rfl
    · rw [Array.getElem?_eq_none (by omega), Array.getElem?_eq_none (by rw [posA_size]; omega)]
  · obtain ⟨n, hn, hw⟩ := hg j hj
    simp only [hn]
    exact hw
end
theorem laidOut6 : laidOutB Tryz.prog = true := by kernel_rfl
set_option maxRecDepth 100000 in
theorem shut_pos {H : Type} {enc : TypeId × Value → H} {W W' : World} {v : Value} {d : DataW H} (h : DataW.Trod enc Tryz.prog W 0 (fun _ => true) true 31 v d []) (hb : Below W.heap.size W W') :
    DataW.Trod enc Tryz.prog W' 0 (fun b => decide (b < W.heap.size)) true 31 v d [] :=
  Below.trod laidOut6 (by kernel_rfl) (of_decide_eq_true (by kernel_rfl)) h hb (fun x hx => by cases hx)
end Go.Proofs.YtjbfjohgfbipgaaGreatDoor
