/-
  What layer 10's rows list, as our walks ask it; a position's numbers fit.
-/
import Derived.Test.YtokojkgfekbjdaaGreatDoorRows
import Derived.Test.YtokojkgfekbjdaaGreatDoorFpRooks
import Derived.Test.YtokojkgfekbjdaaGreatDoorPosEq
import Derived.Lay
import Derived.LaidMore
namespace Go.Proofs.YtokojkgfekbjdaaGreatDoor
open Go.RowKit
set_option linter.unusedVariables false

theorem tab_internal_strconv_uint64pow10 {W : World} {nm : String} {rest : List (String × DataW Unit)} (h : laidMet Tryz.prog ((nm, Rows.laid_internal_strconv_uint64pow10) :: rest) W) (hn : Tryz.prog.globalNamed nm = some 4) : TabPow W := by
  have h' : laidMet Tryz.prog ((nm, Lib.tabData .u64 Lib.pow10Tab) :: rest) W := h
  have t := Lib.tabIs_of_head (g := 4) hn (by kernel_rfl) Tryz.underlying182 Tryz.underlying23 (by kernel_rfl) (by kernel_rfl) h'
  unfold Lib.TabIs World.var? at t
  rw [hn] at t
  simp only [Option.bind_some] at t
  cases hh : W.heap[4]? with
  | none => rw [hh] at t; cases t
  | some o =>
    rw [hh] at t
    cases o with
    | cells cs ty x => exact ⟨ty, x, by rw [hh]; simp only [Option.some.injEq] at t; rw [t]⟩
    | _ => cases t
theorem tab_kibitzer_fen_corners {W : World} {nm : String} {rest : List (String × DataW Unit)} (h : laidMet Tryz.prog ((nm, Rows.laid_kibitzer_fen_corners) :: rest) W) (hn : Tryz.prog.globalNamed nm = some 0) : TabCorn W := by
  have t := cells_of_laid (g := 0) (t := 134) hn (by kernel_rfl) (by kernel_rfl) (by kernel_rfl) h
  have e : ((Rows.laid_kibitzer_fen_corners (H := Unit)).flat.map Lit.toCell) = ((List.range 2).map cornL).flatten := by kernel_rfl
  rw [e] at t
  intro d hd j x hx
  rw [t]
  exact flat_at cornL 2 (fun _ => rfl) 2 d j x hd hx
theorem ff_wf {k : IntKind} {x : Int} (h : (Lit.int k x).wf = true) : k.min ≤ x ∧ x ≤ k.max := by
  simpa only [Lit.wf, Bool.and_eq_true, decide_eq_true_eq] using h
theorem ff_u8 {o : Nat} {x : Int} (h : (Lit.int (kAt o) x).wf = true) (k : kAt o = .u8) : 0 ≤ x ∧ x ≤ 255 := by rw [k] at h; exact ff_wf h
theorem ff_i8 {o : Nat} {x : Int} (h : (Lit.int (kAt o) x).wf = true) (k : kAt o = .i8) : -128 ≤ x ∧ x ≤ 127 := by rw [k] at h; exact ff_wf h
theorem FitF.of {p : Nat → Int} (h : WfP p) : FitF p := by
  refine ⟨ff_u8 (h 0 (by omega)) rfl, fun i hi => ff_u8 (h (1 + i) (by omega)) (kAt_board (Nat.zero_le _) hi), ?_, fun i h1 h2 => ff_u8 (h i (by omega)) (kf_u8 (by omega)), ff_u8 (h 78 (by omega)) rfl, fun i h1 h2 => ff_i8 (h i (by omega)) (kf_i8 (by omega) (by omega)), ff_i8 (h 83 (by omega)) rfl, fun i h1 h2 => ff_u8 (h i (by omega)) (kf_u8 (by omega))⟩
  have := h 65 (by omega)
  rw [show kAt 65 = .u64 from rfl] at this
  have := ff_wf this
  have a : IntKind.u64.min = 0 := by decide
  have b : IntKind.u64.max = 18446744073709551615 := by decide
  unfold W64; omega
end Go.Proofs.YtokojkgfekbjdaaGreatDoor
