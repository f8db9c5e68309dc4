/-
  The walk of RaysNone.
-/
import Derived.Test.YtheaknnipbbnbaaDoorRayAwake
import Derived.Test.YtheaknnipbbnbaaDoorRayRefB
import Derived.Test.YtheaknnipbbnbaaDoorRayRefD
import Derived.WalkKit
import Derived.OpenShut
namespace Go.Proofs.YtheaknnipbbnbaaDoor.raysNone
open Go.RowKit
set_option linter.unusedVariables false
set_option maxRecDepth 100000 in
set_option maxHeartbeats 4000000 in
theorem none_low (a0 : Int) (a1 : Int) (a2 : Int)  (w : World) (hT : TabLead w) (h : sq a0 = false) (hc : 0 ≤ a2 ∧ a2 ≤ 255) (d1 : decide (a0 < 0) = true) :
    Calls Tryd.prog 10 #[.int .i64 a0, .int .i64 a1, .int .u8 a2] w fun e w' => e = .returned (.bool true) ∧ Below w.heap.size w w' := by
  have HT0 := Lib.hid hT
  have HB0 := Lib.hid (Below.refl w.heap.size w)
  clear hT
  have k1 := Lib.hid (kingN_no h); have k2 := Lib.hid (knightN_no h); have k3 := Lib.hid (pawnN_no (c := a2) h); have k4 := Lib.hid (lineN_no (a := a0) (b := a1) (by simp [h])); have k5 := Lib.hid (betweenN_no (a := a1) (b := a0) (by simp [h])); have k6 := Lib.hid (rayN_no (s := a0) (d := 0) (by simp [h]))
  have hc' := Lib.hid hc.1
  clear h hc
  go_enter Tryd.func10, Tryd.ntmps10
  go_wp2_with fail
  refine (ray_awake _ HT0.out).mono ?_; rintro e w1 ⟨rfl, hb1⟩
  have HB1 := Lib.hid (below_on HB0.out hb1); have HT1 := Lib.hid (HT0.out.next hb1); clear hb1
  go_wp2_with fail
  refine (king_i (r := 0) _ HT1.out (by rw [k1.out]; rfl)).mono ?_; rintro e w2 ⟨rfl, hb2⟩
  have HB2 := Lib.hid (below_on HB1.out hb2); have HT2 := Lib.hid (HT1.out.next hb2); clear hb2
  go_wp2_with fail
  refine (knight_i (r := 0) _ HT2.out (by rw [k2.out]; rfl)).mono ?_; rintro e w3 ⟨rfl, hb3⟩
  have HB3 := Lib.hid (below_on HB2.out hb3); have HT3 := Lib.hid (HT2.out.next hb3); clear hb3
  go_wp2_with fail
  refine (pawn_i (r := 0) _ HT3.out hc'.out (by rw [k3.out]; rfl)).mono ?_; rintro e w4 ⟨rfl, hb4⟩
  have HB4 := Lib.hid (below_on HB3.out hb4); have HT4 := Lib.hid (HT3.out.next hb4); clear hb4
  go_wp2_with fail
  refine (line_i (r := 0) _ HT4.out (by rw [k4.out]; rfl)).mono ?_; rintro e w5 ⟨rfl, hb5⟩
  have HB5 := Lib.hid (below_on HB4.out hb5); have HT5 := Lib.hid (HT4.out.next hb5); clear hb5
  go_wp2_with fail
  refine (between_i (r := 0) _ HT5.out (by rw [k5.out]; rfl)).mono ?_; rintro e w6 ⟨rfl, hb6⟩
  have HB6 := Lib.hid (below_on HB5.out hb6); have HT6 := Lib.hid (HT5.out.next hb6); clear hb6
  go_wp2_with fail
  refine (ray_i (r := 0) _ HT6.out (by rw [k6.out]; rfl)).mono ?_; rintro e w7 ⟨rfl, hb7⟩
  have HB7 := Lib.hid (below_on HB6.out hb7); have HT7 := Lib.hid (HT6.out.next hb7); clear hb7
  go_wp2_with fail
  go_ret
  exact ⟨rfl, HB7.out⟩
set_option maxRecDepth 100000 in
set_option maxHeartbeats 4000000 in
theorem none_high (a0 : Int) (a1 : Int) (a2 : Int)  (w : World) (hT : TabLead w) (h : sq a0 = false) (hc : 0 ≤ a2 ∧ a2 ≤ 255) (d1 : decide (a0 < 0) = false) (d2 : decide (63 < a0) = true) :
    Calls Tryd.prog 10 #[.int .i64 a0, .int .i64 a1, .int .u8 a2] w fun e w' => e = .returned (.bool true) ∧ Below w.heap.size w w' := by
  have HT0 := Lib.hid hT
  have HB0 := Lib.hid (Below.refl w.heap.size w)
  clear hT
  have k1 := Lib.hid (kingN_no h); have k2 := Lib.hid (knightN_no h); have k3 := Lib.hid (pawnN_no (c := a2) h); have k4 := Lib.hid (lineN_no (a := a0) (b := a1) (by simp [h])); have k5 := Lib.hid (betweenN_no (a := a1) (b := a0) (by simp [h])); have k6 := Lib.hid (rayN_no (s := a0) (d := 0) (by simp [h]))
  have hc' := Lib.hid hc.1
  clear h hc
  go_enter Tryd.func10, Tryd.ntmps10
  go_wp2_with fail
  refine (ray_awake _ HT0.out).mono ?_; rintro e w1 ⟨rfl, hb1⟩
  have HB1 := Lib.hid (below_on HB0.out hb1); have HT1 := Lib.hid (HT0.out.next hb1); clear hb1
  go_wp2_with fail
  refine (king_i (r := 0) _ HT1.out (by rw [k1.out]; rfl)).mono ?_; rintro e w2 ⟨rfl, hb2⟩
  have HB2 := Lib.hid (below_on HB1.out hb2); have HT2 := Lib.hid (HT1.out.next hb2); clear hb2
  go_wp2_with fail
  refine (knight_i (r := 0) _ HT2.out (by rw [k2.out]; rfl)).mono ?_; rintro e w3 ⟨rfl, hb3⟩
  have HB3 := Lib.hid (below_on HB2.out hb3); have HT3 := Lib.hid (HT2.out.next hb3); clear hb3
  go_wp2_with fail
  refine (pawn_i (r := 0) _ HT3.out hc'.out (by rw [k3.out]; rfl)).mono ?_; rintro e w4 ⟨rfl, hb4⟩
  have HB4 := Lib.hid (below_on HB3.out hb4); have HT4 := Lib.hid (HT3.out.next hb4); clear hb4
  go_wp2_with fail
  refine (line_i (r := 0) _ HT4.out (by rw [k4.out]; rfl)).mono ?_; rintro e w5 ⟨rfl, hb5⟩
  have HB5 := Lib.hid (below_on HB4.out hb5); have HT5 := Lib.hid (HT4.out.next hb5); clear hb5
  go_wp2_with fail
  refine (between_i (r := 0) _ HT5.out (by rw [k5.out]; rfl)).mono ?_; rintro e w6 ⟨rfl, hb6⟩
  have HB6 := Lib.hid (below_on HB5.out hb6); have HT6 := Lib.hid (HT5.out.next hb6); clear hb6
  go_wp2_with fail
  refine (ray_i (r := 0) _ HT6.out (by rw [k6.out]; rfl)).mono ?_; rintro e w7 ⟨rfl, hb7⟩
  have HB7 := Lib.hid (below_on HB6.out hb7); have HT7 := Lib.hid (HT6.out.next hb7); clear hb7
  go_wp2_with fail
  go_ret
  exact ⟨rfl, HB7.out⟩
set_option maxRecDepth 100000 in
set_option maxHeartbeats 4000000 in
theorem none_col_has (a0 : Int) (a1 : Int) (a2 : Int)  (w : World) (hT : TabLead w) (h : sq a0 = true) (hc : 0 ≤ a2 ∧ a2 ≤ 255) (hcol : 1 < a2) (hk : hasN (knightN a0) a1 = true) (d1 : decide (a0 < 0) = false) (d2 : decide (63 < a0) = false) :
    Calls Tryd.prog 10 #[.int .i64 a0, .int .i64 a1, .int .u8 a2] w fun e w' => e = .returned (.bool true) ∧ Below w.heap.size w w' := by
  have HT0 := Lib.hid hT
  have HB0 := Lib.hid (Below.refl w.heap.size w)
  clear hT
  obtain ⟨n1, n2, n3, n4, n5, n6⟩ := none_sq h a1
  have dr := distZ_rng a0 a1
  have HK := Lib.hid (kingN_lt a0); have HN := Lib.hid (knightN_lt a0)
  have hc' := Lib.hid hc.1
  have c1 : decide (((listN (kingN a0)).length : Int) < 3) = false := by simp; omega
  have c2 : decide (8 < ((listN (kingN a0)).length : Int)) = false := by simp; omega
  have c3 : decide (((listN (knightN a0)).length : Int) < 2) = false := by simp; omega
  have c4 : decide (8 < ((listN (knightN a0)).length : Int)) = false := by simp; omega
  have kp := Lib.hid (pawnN_col (c := a2) (s := a0) (by simp; omega))
  have d3 : decide (1 < a2) = true := by simp; omega
  have d4 := hk
  have d5 : distZ a0 a1 = 2 := n6 hk
  have d6 : hasN (kingN a0) a1 = false := by rw [n5, d5]; rfl
  clear n1 n2 n3 n4 n6 h hc hcol
  go_enter Tryd.func10, Tryd.ntmps10
  go_wp2_with fail
  refine (ray_awake _ HT0.out).mono ?_; rintro e w1 ⟨rfl, hb1⟩
  have HB1 := Lib.hid (below_on HB0.out hb1); have HT1 := Lib.hid (HT0.out.next hb1); clear hb1
  go_wp2_with fail
  refine (king_any _ _ HT1.out).mono ?_; rintro e w2 ⟨rfl, hb2⟩
  have HB2 := Lib.hid (below_on HB1.out hb2); have HT2 := Lib.hid (HT1.out.next hb2); clear hb2
  go_wp2_with fail
  refine (knight_any _ _ HT2.out).mono ?_; rintro e w3 ⟨rfl, hb3⟩
  have HB3 := Lib.hid (below_on HB2.out hb3); have HT3 := Lib.hid (HT2.out.next hb3); clear hb3
  go_wp2_with fail
  refine (count_any _ _ HK.out).mono ?_; rintro e w' ⟨rfl, rfl⟩
  go_wp2_with fail
  refine (count_any _ _ HK.out).mono ?_; rintro e w' ⟨rfl, rfl⟩
  go_wp2_with fail
  refine (count_any _ _ HN.out).mono ?_; rintro e w' ⟨rfl, rfl⟩
  go_wp2_with fail
  refine (count_any _ _ HN.out).mono ?_; rintro e w' ⟨rfl, rfl⟩
  go_wp2_with fail
  refine (pawn_i (r := 0) _ HT3.out hc'.out (by rw [kp.out]; rfl)).mono ?_; rintro e w4 ⟨rfl, hb4⟩
  have HB4 := Lib.hid (below_on HB3.out hb4); have HT4 := Lib.hid (HT3.out.next hb4); clear hb4
  go_wp2_with fail
  refine (has_any _ _ _ HK.out).mono ?_; rintro e w' ⟨rfl, rfl⟩
  go_wp2_with fail
  refine (dist_any _ _ _).mono ?_; rintro e w5 ⟨rfl, hb5⟩
  have HB5 := Lib.hid (below_on HB4.out hb5); have HT5 := Lib.hid (HT4.out.next hb5); clear hb5
  go_wp2_with fail
  refine (has_any _ _ _ HN.out).mono ?_; rintro e w' ⟨rfl, rfl⟩
  go_wp2_with fail
  refine (dist_any _ _ _).mono ?_; rintro e w6 ⟨rfl, hb6⟩
  have HB6 := Lib.hid (below_on HB5.out hb6); have HT6 := Lib.hid (HT5.out.next hb6); clear hb6
  go_wp2_with fail
  go_ret
  exact ⟨rfl, HB6.out⟩
set_option maxRecDepth 100000 in
set_option maxHeartbeats 4000000 in
theorem none_col_not (a0 : Int) (a1 : Int) (a2 : Int)  (w : World) (hT : TabLead w) (h : sq a0 = true) (hc : 0 ≤ a2 ∧ a2 ≤ 255) (hcol : 1 < a2) (hk : hasN (knightN a0) a1 = false) (d1 : decide (a0 < 0) = false) (d2 : decide (63 < a0) = false) :
    Calls Tryd.prog 10 #[.int .i64 a0, .int .i64 a1, .int .u8 a2] w fun e w' => e = .returned (.bool true) ∧ Below w.heap.size w w' := by
  have HT0 := Lib.hid hT
  have HB0 := Lib.hid (Below.refl w.heap.size w)
  clear hT
  obtain ⟨n1, n2, n3, n4, n5, n6⟩ := none_sq h a1
  have dr := distZ_rng a0 a1
  have HK := Lib.hid (kingN_lt a0); have HN := Lib.hid (knightN_lt a0)
  have hc' := Lib.hid hc.1
  have c1 : decide (((listN (kingN a0)).length : Int) < 3) = false := by simp; omega
  have c2 : decide (8 < ((listN (kingN a0)).length : Int)) = false := by simp; omega
  have c3 : decide (((listN (knightN a0)).length : Int) < 2) = false := by simp; omega
  have c4 : decide (8 < ((listN (knightN a0)).length : Int)) = false := by simp; omega
  have kp := Lib.hid (pawnN_col (c := a2) (s := a0) (by simp; omega))
  have d3 : decide (1 < a2) = true := by simp; omega
  clear n1 n2 n3 n4 n6 h hc hcol
  go_enter Tryd.func10, Tryd.ntmps10
  go_wp2_with fail
  refine (ray_awake _ HT0.out).mono ?_; rintro e w1 ⟨rfl, hb1⟩
  have HB1 := Lib.hid (below_on HB0.out hb1); have HT1 := Lib.hid (HT0.out.next hb1); clear hb1
  go_wp2_with fail
  refine (king_any _ _ HT1.out).mono ?_; rintro e w2 ⟨rfl, hb2⟩
  have HB2 := Lib.hid (below_on HB1.out hb2); have HT2 := Lib.hid (HT1.out.next hb2); clear hb2
  go_wp2_with fail
  refine (knight_any _ _ HT2.out).mono ?_; rintro e w3 ⟨rfl, hb3⟩
  have HB3 := Lib.hid (below_on HB2.out hb3); have HT3 := Lib.hid (HT2.out.next hb3); clear hb3
  go_wp2_with fail
  refine (count_any _ _ HK.out).mono ?_; rintro e w' ⟨rfl, rfl⟩
  go_wp2_with fail
  refine (count_any _ _ HK.out).mono ?_; rintro e w' ⟨rfl, rfl⟩
  go_wp2_with fail
  refine (count_any _ _ HN.out).mono ?_; rintro e w' ⟨rfl, rfl⟩
  go_wp2_with fail
  refine (count_any _ _ HN.out).mono ?_; rintro e w' ⟨rfl, rfl⟩
  go_wp2_with fail
  refine (pawn_i (r := 0) _ HT3.out hc'.out (by rw [kp.out]; rfl)).mono ?_; rintro e w4 ⟨rfl, hb4⟩
  have HB4 := Lib.hid (below_on HB3.out hb4); have HT4 := Lib.hid (HT3.out.next hb4); clear hb4
  go_wp2_with fail
  refine (has_any _ _ _ HK.out).mono ?_; rintro e w' ⟨rfl, rfl⟩
  go_wp2_with fail
  refine (dist_any _ _ _).mono ?_; rintro e w5 ⟨rfl, hb5⟩
  have HB5 := Lib.hid (below_on HB4.out hb5); have HT5 := Lib.hid (HT4.out.next hb5); clear hb5
  go_wp2_with fail
  refine (has_any _ _ _ HN.out).mono ?_; rintro e w' ⟨rfl, rfl⟩
  go_wp2_with fail
  go_ret
  exact ⟨rfl, HB5.out⟩
set_option maxRecDepth 100000 in
set_option maxHeartbeats 4000000 in
theorem none_pawn_has (a0 : Int) (a1 : Int) (a2 : Int)  (w : World) (hT : TabLead w) (h : sq a0 = true) (hc : 0 ≤ a2 ∧ a2 ≤ 255) (hcol : a2 ≤ 1) (hk : hasN (knightN a0) a1 = true) (d1 : decide (a0 < 0) = false) (d2 : decide (63 < a0) = false) :
    Calls Tryd.prog 10 #[.int .i64 a0, .int .i64 a1, .int .u8 a2] w fun e w' => e = .returned (.bool true) ∧ Below w.heap.size w w' := by
  have HT0 := Lib.hid hT
  have HB0 := Lib.hid (Below.refl w.heap.size w)
  clear hT
  obtain ⟨n1, n2, n3, n4, n5, n6⟩ := none_sq h a1
  have dr := distZ_rng a0 a1
  have HK := Lib.hid (kingN_lt a0); have HN := Lib.hid (knightN_lt a0)
  have hc' := Lib.hid hc.1
  have c1 : decide (((listN (kingN a0)).length : Int) < 3) = false := by simp; omega
  have c2 : decide (8 < ((listN (kingN a0)).length : Int)) = false := by simp; omega
  have c3 : decide (((listN (knightN a0)).length : Int) < 2) = false := by simp; omega
  have c4 : decide (8 < ((listN (knightN a0)).length : Int)) = false := by simp; omega
  have d3 : decide (1 < a2) = false := by simp; omega
  have d4 := hk
  have d5 : distZ a0 a1 = 2 := n6 hk
  have d6 : hasN (kingN a0) a1 = false := by rw [n5, d5]; rfl
  clear n1 n2 n3 n4 n6 h hc hcol
  go_enter Tryd.func10, Tryd.ntmps10
  go_wp2_with fail
  refine (ray_awake _ HT0.out).mono ?_; rintro e w1 ⟨rfl, hb1⟩
  have HB1 := Lib.hid (below_on HB0.out hb1); have HT1 := Lib.hid (HT0.out.next hb1); clear hb1
  go_wp2_with fail
  refine (king_any _ _ HT1.out).mono ?_; rintro e w2 ⟨rfl, hb2⟩
  have HB2 := Lib.hid (below_on HB1.out hb2); have HT2 := Lib.hid (HT1.out.next hb2); clear hb2
  go_wp2_with fail
  refine (knight_any _ _ HT2.out).mono ?_; rintro e w3 ⟨rfl, hb3⟩
  have HB3 := Lib.hid (below_on HB2.out hb3); have HT3 := Lib.hid (HT2.out.next hb3); clear hb3
  go_wp2_with fail
  refine (count_any _ _ HK.out).mono ?_; rintro e w' ⟨rfl, rfl⟩
  go_wp2_with fail
  refine (count_any _ _ HK.out).mono ?_; rintro e w' ⟨rfl, rfl⟩
  go_wp2_with fail
  refine (count_any _ _ HN.out).mono ?_; rintro e w' ⟨rfl, rfl⟩
  go_wp2_with fail
  refine (count_any _ _ HN.out).mono ?_; rintro e w' ⟨rfl, rfl⟩
  go_wp2_with fail
  refine (has_any _ _ _ HK.out).mono ?_; rintro e w' ⟨rfl, rfl⟩
  go_wp2_with fail
  refine (dist_any _ _ _).mono ?_; rintro e w4 ⟨rfl, hb4⟩
  have HB4 := Lib.hid (below_on HB3.out hb4); have HT4 := Lib.hid (HT3.out.next hb4); clear hb4
  go_wp2_with fail
  refine (has_any _ _ _ HN.out).mono ?_; rintro e w' ⟨rfl, rfl⟩
  go_wp2_with fail
  refine (dist_any _ _ _).mono ?_; rintro e w5 ⟨rfl, hb5⟩
  have HB5 := Lib.hid (below_on HB4.out hb5); have HT5 := Lib.hid (HT4.out.next hb5); clear hb5
  go_wp2_with fail
  go_ret
  exact ⟨rfl, HB5.out⟩
set_option maxRecDepth 100000 in
set_option maxHeartbeats 4000000 in
theorem none_pawn_not (a0 : Int) (a1 : Int) (a2 : Int)  (w : World) (hT : TabLead w) (h : sq a0 = true) (hc : 0 ≤ a2 ∧ a2 ≤ 255) (hcol : a2 ≤ 1) (hk : hasN (knightN a0) a1 = false) (d1 : decide (a0 < 0) = false) (d2 : decide (63 < a0) = false) :
    Calls Tryd.prog 10 #[.int .i64 a0, .int .i64 a1, .int .u8 a2] w fun e w' => e = .returned (.bool true) ∧ Below w.heap.size w w' := by
  have HT0 := Lib.hid hT
  have HB0 := Lib.hid (Below.refl w.heap.size w)
  clear hT
  obtain ⟨n1, n2, n3, n4, n5, n6⟩ := none_sq h a1
  have dr := distZ_rng a0 a1
  have HK := Lib.hid (kingN_lt a0); have HN := Lib.hid (knightN_lt a0)
  have hc' := Lib.hid hc.1
  have c1 : decide (((listN (kingN a0)).length : Int) < 3) = false := by simp; omega
  have c2 : decide (8 < ((listN (kingN a0)).length : Int)) = false := by simp; omega
  have c3 : decide (((listN (knightN a0)).length : Int) < 2) = false := by simp; omega
  have c4 : decide (8 < ((listN (knightN a0)).length : Int)) = false := by simp; omega
  have d3 : decide (1 < a2) = false := by simp; omega
  clear n1 n2 n3 n4 n6 h hc hcol
  go_enter Tryd.func10, Tryd.ntmps10
  go_wp2_with fail
  refine (ray_awake _ HT0.out).mono ?_; rintro e w1 ⟨rfl, hb1⟩
  have HB1 := Lib.hid (below_on HB0.out hb1); have HT1 := Lib.hid (HT0.out.next hb1); clear hb1
  go_wp2_with fail
  refine (king_any _ _ HT1.out).mono ?_; rintro e w2 ⟨rfl, hb2⟩
  have HB2 := Lib.hid (below_on HB1.out hb2); have HT2 := Lib.hid (HT1.out.next hb2); clear hb2
  go_wp2_with fail
  refine (knight_any _ _ HT2.out).mono ?_; rintro e w3 ⟨rfl, hb3⟩
  have HB3 := Lib.hid (below_on HB2.out hb3); have HT3 := Lib.hid (HT2.out.next hb3); clear hb3
  go_wp2_with fail
  refine (count_any _ _ HK.out).mono ?_; rintro e w' ⟨rfl, rfl⟩
  go_wp2_with fail
  refine (count_any _ _ HK.out).mono ?_; rintro e w' ⟨rfl, rfl⟩
  go_wp2_with fail
  refine (count_any _ _ HN.out).mono ?_; rintro e w' ⟨rfl, rfl⟩
  go_wp2_with fail
  refine (count_any _ _ HN.out).mono ?_; rintro e w' ⟨rfl, rfl⟩
  go_wp2_with fail
  refine (has_any _ _ _ HK.out).mono ?_; rintro e w' ⟨rfl, rfl⟩
  go_wp2_with fail
  refine (dist_any _ _ _).mono ?_; rintro e w4 ⟨rfl, hb4⟩
  have HB4 := Lib.hid (below_on HB3.out hb4); have HT4 := Lib.hid (HT3.out.next hb4); clear hb4
  go_wp2_with fail
  refine (has_any _ _ _ HN.out).mono ?_; rintro e w' ⟨rfl, rfl⟩
  go_wp2_with fail
  go_ret
  exact ⟨rfl, HB4.out⟩
theorem walk (a0 : Int) (a1 : Int) (a2 : Int) (w0 : (Lit.int .i64 a0).wf = true) (w1 : (Lit.int .i64 a1).wf = true) (w2 : (Lit.int .u8 a2).wf = true) (w : World) (hT : TabLead w) :
    Calls Tryd.prog 10 #[.int .i64 a0, .int .i64 a1, .int .u8 a2] w fun e w' => e = .returned (.bool true) ∧ Below w.heap.size w w' := by
  have hc := u8_rng w2
  cases h : sq a0
  · by_cases h0 : a0 < 0
    · exact none_low a0 a1 a2 w hT h hc (by simpa using h0)
    · exact none_high a0 a1 a2 w hT h hc (by simpa using h0) (by rw [sq_false] at h; simp; omega)
  · have h' := sq_true.1 h
    have d1 : decide (a0 < 0) = false := by simp; omega
    have d2 : decide (63 < a0) = false := by simp; omega
    by_cases hcol : 1 < a2
    · cases hk : hasN (knightN a0) a1
      · exact none_col_not a0 a1 a2 w hT h hc hcol hk d1 d2
      · exact none_col_has a0 a1 a2 w hT h hc hcol hk d1 d2
    · cases hk : hasN (knightN a0) a1
      · exact none_pawn_not a0 a1 a2 w hT h hc (by omega) hk d1 d2
      · exact none_pawn_has a0 a1 a2 w hT h hc (by omega) hk d1 d2
end Go.Proofs.YtheaknnipbbnbaaDoor.raysNone
