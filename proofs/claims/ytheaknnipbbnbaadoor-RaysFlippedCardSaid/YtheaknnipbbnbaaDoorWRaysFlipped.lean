/-
  The walk of RaysFlipped.
-/
import Derived.Test.YtheaknnipbbnbaaDoorRayAwake
import Derived.Test.YtheaknnipbbnbaaDoorRayRefB
import Derived.Test.YtheaknnipbbnbaaDoorRayRefD
import Derived.WalkKit
import Derived.OpenShut
namespace Go.Proofs.YtheaknnipbbnbaaDoor.raysFlipped
open Go.RowKit
set_option linter.unusedVariables false
set_option maxRecDepth 100000 in
set_option maxHeartbeats 4000000 in
theorem walk (a0 : Int) (a1 : Int) (a2 : Int) (w0 : (Lit.int .i64 a0).wf = true) (w1 : (Lit.int .i64 a1).wf = true) (w2 : (Lit.int .i64 a2).wf = true) (w : World) (hT : TabLead w) :
    Calls Tryd.prog 9 #[.int .i64 a0, .int .i64 a1, .int .i64 a2] w fun e w' => e = .returned (.bool true) ∧ Below w.heap.size w w' := by
  have HT0 := Lib.hid hT
  have HB0 := Lib.hid (Below.refl w.heap.size w)
  clear hT
  clear w0 w1 w2
  obtain ⟨d, hd8, hd⟩ := dir8 a2
  have ht := turn8 d hd8
  obtain ⟨f1, f2, f3, f4⟩ := flipped1 a0 d hd8
  obtain ⟨f5, f6⟩ := flipped2 a0 a1
  generalize (12 - d) % 8 = t at ht f4
  go_enter Tryd.func9, Tryd.ntmps9
  go_wp2_with fail
  refine (ray_awake _ HT0.out).mono ?_; rintro e w1 ⟨rfl, hb1⟩
  have HB1 := Lib.hid (below_on HB0.out hb1); have HT1 := Lib.hid (HT0.out.next hb1); clear hb1
  go_wp2_with fail
  refine (sflip_any _ _).mono ?_; rintro e w' ⟨rfl, rfl⟩
  go_wp2_with fail
  refine (sflip_any _ _).mono ?_; rintro e w' ⟨rfl, rfl⟩
  go_wp2_with fail
  refine (king_any _ _ HT1.out).mono ?_; rintro e w2 ⟨rfl, hb2⟩
  have HB2 := Lib.hid (below_on HB1.out hb2); have HT2 := Lib.hid (HT1.out.next hb2); clear hb2
  go_wp2_with fail
  refine (flip_any _ _ (kingN_lt _)).mono ?_; rintro e w' ⟨rfl, rfl⟩
  go_wp2_with fail
  refine (king_any _ _ HT2.out).mono ?_; rintro e w3 ⟨rfl, hb3⟩
  have HB3 := Lib.hid (below_on HB2.out hb3); have HT3 := Lib.hid (HT2.out.next hb3); clear hb3
  go_wp2_with fail
  refine (knight_any _ _ HT3.out).mono ?_; rintro e w4 ⟨rfl, hb4⟩
  have HB4 := Lib.hid (below_on HB3.out hb4); have HT4 := Lib.hid (HT3.out.next hb4); clear hb4
  go_wp2_with fail
  refine (flip_any _ _ (knightN_lt _)).mono ?_; rintro e w' ⟨rfl, rfl⟩
  go_wp2_with fail
  refine (knight_any _ _ HT4.out).mono ?_; rintro e w5 ⟨rfl, hb5⟩
  have HB5 := Lib.hid (below_on HB4.out hb5); have HT5 := Lib.hid (HT4.out.next hb5); clear hb5
  go_wp2_with fail
  refine (pawn_any _ _ _ HT5.out (by decide)).mono ?_; rintro e w6 ⟨rfl, hb6⟩
  have HB6 := Lib.hid (below_on HB5.out hb6); have HT6 := Lib.hid (HT5.out.next hb6); clear hb6
  go_wp2_with fail
  refine (flip_any _ _ (pawnN_lt _ _)).mono ?_; rintro e w' ⟨rfl, rfl⟩
  go_wp2_with fail
  refine (pawn_any _ _ _ HT6.out (by decide)).mono ?_; rintro e w7 ⟨rfl, hb7⟩
  have HB7 := Lib.hid (below_on HB6.out hb7); have HT7 := Lib.hid (HT6.out.next hb7); clear hb7
  go_wp2_with fail
  refine (ray_any _ _ _ HT7.out).mono ?_; rintro e w8 ⟨rfl, hb8⟩
  have HB8 := Lib.hid (below_on HB7.out hb8); have HT8 := Lib.hid (HT7.out.next hb8); clear hb8
  go_wp2_with fail
  refine (flip_any _ _ (rayN_lt _ _)).mono ?_; rintro e w' ⟨rfl, rfl⟩
  go_wp2_with fail
  refine (ray_any _ _ _ HT8.out).mono ?_; rintro e w9 ⟨rfl, hb9⟩
  have HB9 := Lib.hid (below_on HB8.out hb9); have HT9 := Lib.hid (HT8.out.next hb9); clear hb9
  go_wp2_with fail
  refine (between_any _ _ _ HT9.out).mono ?_; rintro e w10 ⟨rfl, hb10⟩
  have HB10 := Lib.hid (below_on HB9.out hb10); have HT10 := Lib.hid (HT9.out.next hb10); clear hb10
  go_wp2_with fail
  refine (flip_any _ _ (betweenN_lt _ _)).mono ?_; rintro e w' ⟨rfl, rfl⟩
  go_wp2_with fail
  refine (between_any _ _ _ HT10.out).mono ?_; rintro e w11 ⟨rfl, hb11⟩
  have HB11 := Lib.hid (below_on HB10.out hb11); have HT11 := Lib.hid (HT10.out.next hb11); clear hb11
  go_wp2_with fail
  refine (line_any _ _ _ HT11.out).mono ?_; rintro e w12 ⟨rfl, hb12⟩
  have HB12 := Lib.hid (below_on HB11.out hb12); have HT12 := Lib.hid (HT11.out.next hb12); clear hb12
  go_wp2_with fail
  refine (flip_any _ _ (lineN_lt _ _)).mono ?_; rintro e w' ⟨rfl, rfl⟩
  go_wp2_with fail
  refine (line_any _ _ _ HT12.out).mono ?_; rintro e w13 ⟨rfl, hb13⟩
  have HB13 := Lib.hid (below_on HB12.out hb13); have HT13 := Lib.hid (HT12.out.next hb13); clear hb13
  go_wp2_with fail
  go_ret
  exact ⟨rfl, HB13.out⟩
end Go.Proofs.YtheaknnipbbnbaaDoor.raysFlipped
