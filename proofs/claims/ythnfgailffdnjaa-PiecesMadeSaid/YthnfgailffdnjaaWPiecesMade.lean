/-
  The walk of PiecesMade.
-/
import Derived.Test.YthnfgailffdnjaaPcRefB
import Derived.WalkKit
import Derived.OpenShut
namespace Go.Proofs.Ythnfgailffdnjaa.piecesMade
open Go.RowKit
set_option linter.unusedVariables false
theorem walk (a0 a1 a2 : Int) (w0 : (Lit.int .u8 a0).wf = true) (w1 : (Lit.int .u8 a1).wf = true) (w2 : (Lit.int .u8 a2).wf = true) (w : World) :
    Calls Try.prog 3 #[.int .u8 a0, .int .u8 a1, .int .u8 a2] w fun e w' => e = .returned (.bool true) ∧ Below w.heap.size w w' := by
  have r0 := u8_rng w0
  have r1 := u8_rng w1
  obtain ⟨hp, hq⟩ := u8_rng w2
  clear w0 w1 w2
  go_enter Try.func3, Try.ntmps3
  go_wp2_with fail
  refine (mk_any _ _ _ r0.1 r1.1).mono ?_; rintro e w' ⟨rfl, rfl⟩
  go_wp2_with fail
  refine (rmk_any _ _ _ r0.1).mono ?_; rintro e w1 ⟨rfl, hb1⟩
  have HB1 := Lib.hid hb1; clear hb1
  go_wp2_with fail
  refine (is_any _ _ hp hq).mono ?_; rintro e w' ⟨rfl, rfl⟩
  go_wp2_with fail
  refine (ris_any _ _).mono ?_; rintro e w2 ⟨rfl, hb2⟩
  have HB2 := Lib.hid (HB1.out.trans (hb2.mono HB1.out.size)); clear hb2
  go_wp2_with fail
  refine (col_any _ _ hp hq).mono ?_; rintro e w' ⟨rfl, rfl⟩
  go_wp2_with fail
  refine (rcol_any _ _).mono ?_; rintro e w3 ⟨rfl, hb3⟩
  have HB3 := Lib.hid (HB2.out.trans (hb3.mono HB2.out.size)); clear hb3
  go_wp2_with fail
  refine (knd_any _ _ hp hq).mono ?_; rintro e w' ⟨rfl, rfl⟩
  go_wp2_with fail
  refine (rknd_any _ _).mono ?_; rintro e w4 ⟨rfl, hb4⟩
  have HB4 := Lib.hid (HB3.out.trans (hb4.mono HB3.out.size)); clear hb4
  go_wp2
  go_ret
  exact ⟨rfl, HB4.out⟩
end Go.Proofs.Ythnfgailffdnjaa.piecesMade
