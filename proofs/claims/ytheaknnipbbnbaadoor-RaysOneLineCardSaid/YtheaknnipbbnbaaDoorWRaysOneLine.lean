/-
  The walk of RaysOneLine.
-/
import Derived.Test.YtheaknnipbbnbaaDoorRayAwake
import Derived.Test.YtheaknnipbbnbaaDoorRayRefB
import Derived.Test.YtheaknnipbbnbaaDoorRayRefD
import Derived.WalkKit
import Derived.OpenShut
namespace Go.Proofs.YtheaknnipbbnbaaDoor.raysOneLine
open Go.RowKit
set_option linter.unusedVariables false
set_option maxRecDepth 100000 in
set_option maxHeartbeats 4000000 in
theorem one_zero (a0 : Int) (a1 : Int) (a2 : Int)  (w : World) (hT : TabLead w) (h : lineN a0 a1 = 0) :
    Calls Tryd.prog 7 #[.int .i64 a0, .int .i64 a1, .int .i64 a2] w fun e w' => e = .returned (.bool true) ∧ Below w.heap.size w w' := by
  have HT0 := Lib.hid hT
  have HB0 := Lib.hid (Below.refl w.heap.size w)
  clear hT
  have k1 := Lib.hid h; have k2 := Lib.hid (one_none h)
  clear h
  go_enter Tryd.func7, Tryd.ntmps7
  go_wp2_with fail
  refine (ray_awake _ HT0.out).mono ?_; rintro e w1 ⟨rfl, hb1⟩
  have HB1 := Lib.hid (below_on HB0.out hb1); have HT1 := Lib.hid (HT0.out.next hb1); clear hb1
  go_wp2_with fail
  refine (line_i (r := 0) _ HT1.out (by rw [k1.out]; rfl)).mono ?_; rintro e w2 ⟨rfl, hb2⟩
  have HB2 := Lib.hid (below_on HB1.out hb2); have HT2 := Lib.hid (HT1.out.next hb2); clear hb2
  go_wp2_with fail
  refine (between_i (r := 0) _ HT2.out (by rw [k2.out]; rfl)).mono ?_; rintro e w3 ⟨rfl, hb3⟩
  have HB3 := Lib.hid (below_on HB2.out hb3); have HT3 := Lib.hid (HT2.out.next hb3); clear hb3
  go_wp2_with fail
  go_ret
  exact ⟨rfl, HB3.out⟩
set_option maxRecDepth 100000 in
set_option maxHeartbeats 4000000 in
theorem one_off (a0 : Int) (a1 : Int) (a2 : Int)  (w : World) (hT : TabLead w) (h : lineN a0 a1 ≠ 0) (hc : hasN (lineN a0 a1) a2 = false) :
    Calls Tryd.prog 7 #[.int .i64 a0, .int .i64 a1, .int .i64 a2] w fun e w' => e = .returned (.bool true) ∧ Below w.heap.size w w' := by
  have HT0 := Lib.hid hT
  have HB0 := Lib.hid (Below.refl w.heap.size w)
  clear hT
  obtain ⟨s1, s2, s3, s4, s5, s6, s7⟩ := one_some h
  have dr := distZ_rng a0 a1
  have HL := Lib.hid (lineN_lt a0 a1); have HM := Lib.hid (betweenN_lt a0 a1)
  have z0 : (((lineN a0 a1 : Nat) : Int) == 0) = false := by simp; omega
  have z1 : bits BinOp.andNot IntKind.u64 ((betweenN a0 a1 : Nat) : Int) ((lineN a0 a1 : Nat) : Int) = 0 := by rw [andNot_nat HM.out HL.out, s3]; rfl
  clear h s3 s7
  go_enter Tryd.func7, Tryd.ntmps7
  go_wp2_with fail
  refine (ray_awake _ HT0.out).mono ?_; rintro e w1 ⟨rfl, hb1⟩
  have HB1 := Lib.hid (below_on HB0.out hb1); have HT1 := Lib.hid (HT0.out.next hb1); clear hb1
  go_wp2_with fail
  refine (line_any _ _ _ HT1.out).mono ?_; rintro e w2 ⟨rfl, hb2⟩
  have HB2 := Lib.hid (below_on HB1.out hb2); have HT2 := Lib.hid (HT1.out.next hb2); clear hb2
  go_wp2_with fail
  refine (between_any _ _ _ HT2.out).mono ?_; rintro e w3 ⟨rfl, hb3⟩
  have HB3 := Lib.hid (below_on HB2.out hb3); have HT3 := Lib.hid (HT2.out.next hb3); clear hb3
  go_wp2_with fail
  refine (has_any _ _ _ HL.out).mono ?_; rintro e w' ⟨rfl, rfl⟩
  go_wp2_with fail
  refine (has_any _ _ _ HL.out).mono ?_; rintro e w' ⟨rfl, rfl⟩
  go_wp2_with fail
  refine (has_any _ _ _ HM.out).mono ?_; rintro e w' ⟨rfl, rfl⟩
  go_wp2_with fail
  refine (has_any _ _ _ HM.out).mono ?_; rintro e w' ⟨rfl, rfl⟩
  go_wp2_with fail
  refine (count_any _ _ HM.out).mono ?_; rintro e w' ⟨rfl, rfl⟩
  go_wp2_with fail
  refine (dist_any _ _ _).mono ?_; rintro e w4 ⟨rfl, hb4⟩
  have HB4 := Lib.hid (below_on HB3.out hb4); have HT4 := Lib.hid (HT3.out.next hb4); clear hb4
  go_wp2_with fail
  refine (has_any _ _ _ HL.out).mono ?_; rintro e w' ⟨rfl, rfl⟩
  go_wp2_with fail
  go_ret
  exact ⟨rfl, HB4.out⟩
set_option maxRecDepth 100000 in
set_option maxHeartbeats 4000000 in
theorem one_own (a0 : Int) (a1 : Int) (a2 : Int)  (w : World) (hT : TabLead w) (h : lineN a0 a1 ≠ 0) (hc : hasN (lineN a0 a1) a2 = true) (hca : (a2 == a0) = true) :
    Calls Tryd.prog 7 #[.int .i64 a0, .int .i64 a1, .int .i64 a2] w fun e w' => e = .returned (.bool true) ∧ Below w.heap.size w w' := by
  have HT0 := Lib.hid hT
  have HB0 := Lib.hid (Below.refl w.heap.size w)
  clear hT
  obtain ⟨s1, s2, s3, s4, s5, s6, s7⟩ := one_some h
  have dr := distZ_rng a0 a1
  have HL := Lib.hid (lineN_lt a0 a1); have HM := Lib.hid (betweenN_lt a0 a1)
  have z0 : (((lineN a0 a1 : Nat) : Int) == 0) = false := by simp; omega
  have z1 : bits BinOp.andNot IntKind.u64 ((betweenN a0 a1 : Nat) : Int) ((lineN a0 a1 : Nat) : Int) = 0 := by rw [andNot_nat HM.out HL.out, s3]; rfl
  clear h s3 s7
  go_enter Tryd.func7, Tryd.ntmps7
  go_wp2_with fail
  refine (ray_awake _ HT0.out).mono ?_; rintro e w1 ⟨rfl, hb1⟩
  have HB1 := Lib.hid (below_on HB0.out hb1); have HT1 := Lib.hid (HT0.out.next hb1); clear hb1
  go_wp2_with fail
  refine (line_any _ _ _ HT1.out).mono ?_; rintro e w2 ⟨rfl, hb2⟩
  have HB2 := Lib.hid (below_on HB1.out hb2); have HT2 := Lib.hid (HT1.out.next hb2); clear hb2
  go_wp2_with fail
  refine (between_any _ _ _ HT2.out).mono ?_; rintro e w3 ⟨rfl, hb3⟩
  have HB3 := Lib.hid (below_on HB2.out hb3); have HT3 := Lib.hid (HT2.out.next hb3); clear hb3
  go_wp2_with fail
  refine (has_any _ _ _ HL.out).mono ?_; rintro e w' ⟨rfl, rfl⟩
  go_wp2_with fail
  refine (has_any _ _ _ HL.out).mono ?_; rintro e w' ⟨rfl, rfl⟩
  go_wp2_with fail
  refine (has_any _ _ _ HM.out).mono ?_; rintro e w' ⟨rfl, rfl⟩
  go_wp2_with fail
  refine (has_any _ _ _ HM.out).mono ?_; rintro e w' ⟨rfl, rfl⟩
  go_wp2_with fail
  refine (count_any _ _ HM.out).mono ?_; rintro e w' ⟨rfl, rfl⟩
  go_wp2_with fail
  refine (dist_any _ _ _).mono ?_; rintro e w4 ⟨rfl, hb4⟩
  have HB4 := Lib.hid (below_on HB3.out hb4); have HT4 := Lib.hid (HT3.out.next hb4); clear hb4
  go_wp2_with fail
  refine (has_any _ _ _ HL.out).mono ?_; rintro e w' ⟨rfl, rfl⟩
  go_wp2_with fail
  go_ret
  exact ⟨rfl, HB4.out⟩
set_option maxRecDepth 100000 in
set_option maxHeartbeats 4000000 in
theorem one_line (a0 : Int) (a1 : Int) (a2 : Int)  (w : World) (hT : TabLead w) (h : lineN a0 a1 ≠ 0) (hc : hasN (lineN a0 a1) a2 = true) (hca : (a2 == a0) = false) (hm : hasN (betweenN a0 a1) a2 = false) :
    Calls Tryd.prog 7 #[.int .i64 a0, .int .i64 a1, .int .i64 a2] w fun e w' => e = .returned (.bool true) ∧ Below w.heap.size w w' := by
  have HT0 := Lib.hid hT
  have HB0 := Lib.hid (Below.refl w.heap.size w)
  clear hT
  obtain ⟨s1, s2, s3, s4, s5, s6, s7⟩ := one_some h
  have dr := distZ_rng a0 a1
  have HL := Lib.hid (lineN_lt a0 a1); have HM := Lib.hid (betweenN_lt a0 a1)
  have z0 : (((lineN a0 a1 : Nat) : Int) == 0) = false := by simp; omega
  have z1 : bits BinOp.andNot IntKind.u64 ((betweenN a0 a1 : Nat) : Int) ((lineN a0 a1 : Nat) : Int) = 0 := by rw [andNot_nat HM.out HL.out, s3]; rfl
  obtain ⟨t1, t2⟩ := s7 a2 hc (by rintro rfl; simp at hca)
  clear t2
  clear h s3 s7
  go_enter Tryd.func7, Tryd.ntmps7
  go_wp2_with fail
  refine (ray_awake _ HT0.out).mono ?_; rintro e w1 ⟨rfl, hb1⟩
  have HB1 := Lib.hid (below_on HB0.out hb1); have HT1 := Lib.hid (HT0.out.next hb1); clear hb1
  go_wp2_with fail
  refine (line_any _ _ _ HT1.out).mono ?_; rintro e w2 ⟨rfl, hb2⟩
  have HB2 := Lib.hid (below_on HB1.out hb2); have HT2 := Lib.hid (HT1.out.next hb2); clear hb2
  go_wp2_with fail
  refine (between_any _ _ _ HT2.out).mono ?_; rintro e w3 ⟨rfl, hb3⟩
  have HB3 := Lib.hid (below_on HB2.out hb3); have HT3 := Lib.hid (HT2.out.next hb3); clear hb3
  go_wp2_with fail
  refine (has_any _ _ _ HL.out).mono ?_; rintro e w' ⟨rfl, rfl⟩
  go_wp2_with fail
  refine (has_any _ _ _ HL.out).mono ?_; rintro e w' ⟨rfl, rfl⟩
  go_wp2_with fail
  refine (has_any _ _ _ HM.out).mono ?_; rintro e w' ⟨rfl, rfl⟩
  go_wp2_with fail
  refine (has_any _ _ _ HM.out).mono ?_; rintro e w' ⟨rfl, rfl⟩
  go_wp2_with fail
  refine (count_any _ _ HM.out).mono ?_; rintro e w' ⟨rfl, rfl⟩
  go_wp2_with fail
  refine (dist_any _ _ _).mono ?_; rintro e w4 ⟨rfl, hb4⟩
  have HB4 := Lib.hid (below_on HB3.out hb4); have HT4 := Lib.hid (HT3.out.next hb4); clear hb4
  go_wp2_with fail
  refine (has_any _ _ _ HL.out).mono ?_; rintro e w' ⟨rfl, rfl⟩
  go_wp2_with fail
  refine (line_any _ _ _ HT4.out).mono ?_; rintro e w5 ⟨rfl, hb5⟩
  have HB5 := Lib.hid (below_on HB4.out hb5); have HT5 := Lib.hid (HT4.out.next hb5); clear hb5
  go_wp2_with fail
  refine (has_any _ _ _ HM.out).mono ?_; rintro e w' ⟨rfl, rfl⟩
  go_wp2_with fail
  go_ret
  exact ⟨rfl, HB5.out⟩
set_option maxRecDepth 100000 in
set_option maxHeartbeats 4000000 in
theorem one_both (a0 : Int) (a1 : Int) (a2 : Int)  (w : World) (hT : TabLead w) (h : lineN a0 a1 ≠ 0) (hc : hasN (lineN a0 a1) a2 = true) (hca : (a2 == a0) = false) (hm : hasN (betweenN a0 a1) a2 = true) :
    Calls Tryd.prog 7 #[.int .i64 a0, .int .i64 a1, .int .i64 a2] w fun e w' => e = .returned (.bool true) ∧ Below w.heap.size w w' := by
  have HT0 := Lib.hid hT
  have HB0 := Lib.hid (Below.refl w.heap.size w)
  clear hT
  obtain ⟨s1, s2, s3, s4, s5, s6, s7⟩ := one_some h
  have dr := distZ_rng a0 a1
  have HL := Lib.hid (lineN_lt a0 a1); have HM := Lib.hid (betweenN_lt a0 a1)
  have z0 : (((lineN a0 a1 : Nat) : Int) == 0) = false := by simp; omega
  have z1 : bits BinOp.andNot IntKind.u64 ((betweenN a0 a1 : Nat) : Int) ((lineN a0 a1 : Nat) : Int) = 0 := by rw [andNot_nat HM.out HL.out, s3]; rfl
  obtain ⟨t1, t2⟩ := s7 a2 hc (by rintro rfl; simp at hca)
  have HC := Lib.hid (or_nat (betweenN_lt a0 a2) (betweenN_lt a2 a1))
  have t3 : bits BinOp.or IntKind.u64 ((betweenN a0 a2 : Nat) : Int) ((betweenN a2 a1 : Nat) : Int) = ((clearN (betweenN a0 a1) a2 : Nat) : Int) := by rw [HC.out, t2 hm]
  clear t2
  clear h s3 s7
  go_enter Tryd.func7, Tryd.ntmps7
  go_wp2_with fail
  refine (ray_awake _ HT0.out).mono ?_; rintro e w1 ⟨rfl, hb1⟩
  have HB1 := Lib.hid (below_on HB0.out hb1); have HT1 := Lib.hid (HT0.out.next hb1); clear hb1
  go_wp2_with fail
  refine (line_any _ _ _ HT1.out).mono ?_; rintro e w2 ⟨rfl, hb2⟩
  have HB2 := Lib.hid (below_on HB1.out hb2); have HT2 := Lib.hid (HT1.out.next hb2); clear hb2
  go_wp2_with fail
  refine (between_any _ _ _ HT2.out).mono ?_; rintro e w3 ⟨rfl, hb3⟩
  have HB3 := Lib.hid (below_on HB2.out hb3); have HT3 := Lib.hid (HT2.out.next hb3); clear hb3
  go_wp2_with fail
  refine (has_any _ _ _ HL.out).mono ?_; rintro e w' ⟨rfl, rfl⟩
  go_wp2_with fail
  refine (has_any _ _ _ HL.out).mono ?_; rintro e w' ⟨rfl, rfl⟩
  go_wp2_with fail
  refine (has_any _ _ _ HM.out).mono ?_; rintro e w' ⟨rfl, rfl⟩
  go_wp2_with fail
  refine (has_any _ _ _ HM.out).mono ?_; rintro e w' ⟨rfl, rfl⟩
  go_wp2_with fail
  refine (count_any _ _ HM.out).mono ?_; rintro e w' ⟨rfl, rfl⟩
  go_wp2_with fail
  refine (dist_any _ _ _).mono ?_; rintro e w4 ⟨rfl, hb4⟩
  have HB4 := Lib.hid (below_on HB3.out hb4); have HT4 := Lib.hid (HT3.out.next hb4); clear hb4
  go_wp2_with fail
  refine (has_any _ _ _ HL.out).mono ?_; rintro e w' ⟨rfl, rfl⟩
  go_wp2_with fail
  refine (line_any _ _ _ HT4.out).mono ?_; rintro e w5 ⟨rfl, hb5⟩
  have HB5 := Lib.hid (below_on HB4.out hb5); have HT5 := Lib.hid (HT4.out.next hb5); clear hb5
  go_wp2_with fail
  refine (has_any _ _ _ HM.out).mono ?_; rintro e w' ⟨rfl, rfl⟩
  go_wp2_with fail
  refine (between_any _ _ _ HT5.out).mono ?_; rintro e w6 ⟨rfl, hb6⟩
  have HB6 := Lib.hid (below_on HB5.out hb6); have HT6 := Lib.hid (HT5.out.next hb6); clear hb6
  go_wp2_with fail
  refine (between_any _ _ _ HT6.out).mono ?_; rintro e w7 ⟨rfl, hb7⟩
  have HB7 := Lib.hid (below_on HB6.out hb7); have HT7 := Lib.hid (HT6.out.next hb7); clear hb7
  go_wp2_with fail
  refine (clear_any _ _ _ HM.out).mono ?_; rintro e w' ⟨rfl, rfl⟩
  go_wp2_with fail
  go_ret
  exact ⟨rfl, HB7.out⟩
theorem walk (a0 : Int) (a1 : Int) (a2 : Int) (w0 : (Lit.int .i64 a0).wf = true) (w1 : (Lit.int .i64 a1).wf = true) (w2 : (Lit.int .i64 a2).wf = true) (w : World) (hT : TabLead w) :
    Calls Tryd.prog 7 #[.int .i64 a0, .int .i64 a1, .int .i64 a2] w fun e w' => e = .returned (.bool true) ∧ Below w.heap.size w w' := by
  by_cases h : lineN a0 a1 = 0
  · exact one_zero a0 a1 a2 w hT h
  · cases hc : hasN (lineN a0 a1) a2
    · exact one_off a0 a1 a2 w hT h hc
    · cases hca : (a2 == a0)
      · cases hm : hasN (betweenN a0 a1) a2
        · exact one_line a0 a1 a2 w hT h hc hca hm
        · exact one_both a0 a1 a2 w hT h hc hca hm
      · exact one_own a0 a1 a2 w hT h hc hca
end Go.Proofs.YtheaknnipbbnbaaDoor.raysOneLine
