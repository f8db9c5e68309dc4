/-
  The walk of SlidesBack.
-/
import Derived.Test.YtomhacepoeecjaaDoorSlAwake
import Derived.Test.YtomhacepoeecjaaDoorSlRef
import Derived.Test.YtomhacepoeecjaaDoorSlLaw
import Derived.WalkKit
import Derived.OpenShut
namespace Go.Proofs.YtomhacepoeecjaaDoor.slidesBack
open Go.RowKit
set_option linter.unusedVariables false
set_option maxRecDepth 100000 in
set_option maxHeartbeats 4000000 in
theorem back_none (a0 : Int) (a1 : Int) (o : Nat) (ho : o < W64) (w : World) (hD : TabDb w) (hT : TabLead w) (hl : lineN a0 a1 = 0) :
    Calls Tryd.prog 5 #[.int .i64 a0, .int .i64 a1, .int .u64 (o : Int)] w fun e w' => e = .returned (.bool true) ∧ Below w.heap.size w w' := by
  have HT0 := Lib.hid hT
  have HD0 := Lib.hid hD
  have HB0 := Lib.hid (Below.refl w.heap.size w)
  have HO := Lib.hid ho
  clear hT hD ho
  have h1 : hasN (queenN a0 o) a1 = false := by rw [has_queen]; simp [hl]
  have h2 : hasN (queenN a1 o) a0 = false := by rw [seen_back]; exact h1
  have h3 : hasN (queenN a0 (putN o a1)) a1 = false := by rw [seen_put]; exact h1
  have h4 : hasN (queenN a0 (clearN o a0)) a1 = false := by rw [seen_clear]; exact h1
  have t5 := rook_back a0 a1 o
  have HQ1 := Lib.hid (queenN_lt a0 o); have HQ2 := Lib.hid (queenN_lt a1 o); have HQ3 := Lib.hid (queenN_lt a0 (putN o a1)); have HQ4 := Lib.hid (queenN_lt a0 (clearN o a0)); have HR1 := Lib.hid (rookN_lt a0 o); have HR2 := Lib.hid (rookN_lt a1 o)
  have HP := Lib.hid (putN_lt HO.out a1); have HC := Lib.hid (clearN_lt HO.out a0)
  have HZ := Lib.hid hl
  clear hl
  go_enter Tryd.func5, Tryd.ntmps5
  go_wp2_with fail
  refine (sl_awake _ HD0.out HT0.out).mono ?_; rintro e w1 ⟨rfl, hb1⟩
  have HB1 := Lib.hid (below_on HB0.out hb1); have HT1 := Lib.hid (HT0.out.next hb1); have HD1 := Lib.hid (HD0.out.next hb1); clear hb1
  go_wp2_with fail
  refine (queen_any _ _ _ HO.out HD1.out HT1.out).mono ?_; rintro e w2 ⟨rfl, hb2⟩
  have HB2 := Lib.hid (below_on HB1.out hb2); have HT2 := Lib.hid (HT1.out.next hb2); have HD2 := Lib.hid (HD1.out.next hb2); clear hb2
  go_wp2_with fail
  refine (has_any _ _ _ HQ1.out).mono ?_; rintro e w' ⟨rfl, rfl⟩
  go_wp2_with fail
  refine (queen_any _ _ _ HO.out HD2.out HT2.out).mono ?_; rintro e w3 ⟨rfl, hb3⟩
  have HB3 := Lib.hid (below_on HB2.out hb3); have HT3 := Lib.hid (HT2.out.next hb3); have HD3 := Lib.hid (HD2.out.next hb3); clear hb3
  go_wp2_with fail
  refine (has_any _ _ _ HQ2.out).mono ?_; rintro e w' ⟨rfl, rfl⟩
  go_wp2_with fail
  refine (put_any _ _ _ HO.out).mono ?_; rintro e w' ⟨rfl, rfl⟩
  go_wp2_with fail
  refine (queen_any _ _ _ HP.out HD3.out HT3.out).mono ?_; rintro e w4 ⟨rfl, hb4⟩
  have HB4 := Lib.hid (below_on HB3.out hb4); have HT4 := Lib.hid (HT3.out.next hb4); have HD4 := Lib.hid (HD3.out.next hb4); clear hb4
  go_wp2_with fail
  refine (has_any _ _ _ HQ3.out).mono ?_; rintro e w' ⟨rfl, rfl⟩
  go_wp2_with fail
  refine (clear_any _ _ _ HO.out).mono ?_; rintro e w' ⟨rfl, rfl⟩
  go_wp2_with fail
  refine (queen_any _ _ _ HC.out HD4.out HT4.out).mono ?_; rintro e w5 ⟨rfl, hb5⟩
  have HB5 := Lib.hid (below_on HB4.out hb5); have HT5 := Lib.hid (HT4.out.next hb5); have HD5 := Lib.hid (HD4.out.next hb5); clear hb5
  go_wp2_with fail
  refine (has_any _ _ _ HQ4.out).mono ?_; rintro e w' ⟨rfl, rfl⟩
  go_wp2_with fail
  refine (line_i (r := 0) _ HT5.out (by rw [HZ.out]; rfl)).mono ?_; rintro e w6 ⟨rfl, hb6⟩
  have HB6 := Lib.hid (below_on HB5.out hb6); have HT6 := Lib.hid (HT5.out.next hb6); have HD6 := Lib.hid (HD5.out.next hb6); clear hb6
  go_wp2_with fail
  refine (rook_any _ _ _ HO.out HD6.out HT6.out).mono ?_; rintro e w7 ⟨rfl, hb7⟩
  have HB7 := Lib.hid (below_on HB6.out hb7); have HT7 := Lib.hid (HT6.out.next hb7); have HD7 := Lib.hid (HD6.out.next hb7); clear hb7
  go_wp2_with fail
  refine (has_any _ _ _ HR1.out).mono ?_; rintro e w' ⟨rfl, rfl⟩
  go_wp2_with fail
  refine (rook_any _ _ _ HO.out HD7.out HT7.out).mono ?_; rintro e w8 ⟨rfl, hb8⟩
  have HB8 := Lib.hid (below_on HB7.out hb8); have HT8 := Lib.hid (HT7.out.next hb8); have HD8 := Lib.hid (HD7.out.next hb8); clear hb8
  go_wp2_with fail
  refine (has_any _ _ _ HR2.out).mono ?_; rintro e w' ⟨rfl, rfl⟩
  go_wp2_with fail
  go_ret
  exact ⟨rfl, HB8.out⟩
set_option maxRecDepth 100000 in
set_option maxHeartbeats 4000000 in
theorem back_hid (a0 : Int) (a1 : Int) (o : Nat) (ho : o < W64) (w : World) (hD : TabDb w) (hT : TabLead w) (hl : lineN a0 a1 ≠ 0) (hf : freeB o a0 a1 = false) :
    Calls Tryd.prog 5 #[.int .i64 a0, .int .i64 a1, .int .u64 (o : Int)] w fun e w' => e = .returned (.bool true) ∧ Below w.heap.size w w' := by
  have HT0 := Lib.hid hT
  have HD0 := Lib.hid hD
  have HB0 := Lib.hid (Below.refl w.heap.size w)
  have HO := Lib.hid ho
  clear hT hD ho
  have h1 : hasN (queenN a0 o) a1 = false := by rw [has_queen]; simp [hl, hf]
  have h2 : hasN (queenN a1 o) a0 = false := by rw [seen_back]; exact h1
  have h3 : hasN (queenN a0 (putN o a1)) a1 = false := by rw [seen_put]; exact h1
  have h4 : hasN (queenN a0 (clearN o a0)) a1 = false := by rw [seen_clear]; exact h1
  have t5 := rook_back a0 a1 o
  have HQ1 := Lib.hid (queenN_lt a0 o); have HQ2 := Lib.hid (queenN_lt a1 o); have HQ3 := Lib.hid (queenN_lt a0 (putN o a1)); have HQ4 := Lib.hid (queenN_lt a0 (clearN o a0)); have HR1 := Lib.hid (rookN_lt a0 o); have HR2 := Lib.hid (rookN_lt a1 o)
  have HP := Lib.hid (putN_lt HO.out a1); have HC := Lib.hid (clearN_lt HO.out a0)
  have z0 : (((lineN a0 a1 : Nat) : Int) != 0) = true := by simp; omega
  have z1 : (bits BinOp.and IntKind.u64 ((betweenN a0 a1 : Nat) : Int) (o : Int) == 0) = false := by rw [and_nat (betweenN_lt a0 a1) HO.out]; unfold freeB at hf; simpa using hf
  clear hl hf
  go_enter Tryd.func5, Tryd.ntmps5
  go_wp2_with fail
  refine (sl_awake _ HD0.out HT0.out).mono ?_; rintro e w1 ⟨rfl, hb1⟩
  have HB1 := Lib.hid (below_on HB0.out hb1); have HT1 := Lib.hid (HT0.out.next hb1); have HD1 := Lib.hid (HD0.out.next hb1); clear hb1
  go_wp2_with fail
  refine (queen_any _ _ _ HO.out HD1.out HT1.out).mono ?_; rintro e w2 ⟨rfl, hb2⟩
  have HB2 := Lib.hid (below_on HB1.out hb2); have HT2 := Lib.hid (HT1.out.next hb2); have HD2 := Lib.hid (HD1.out.next hb2); clear hb2
  go_wp2_with fail
  refine (has_any _ _ _ HQ1.out).mono ?_; rintro e w' ⟨rfl, rfl⟩
  go_wp2_with fail
  refine (queen_any _ _ _ HO.out HD2.out HT2.out).mono ?_; rintro e w3 ⟨rfl, hb3⟩
  have HB3 := Lib.hid (below_on HB2.out hb3); have HT3 := Lib.hid (HT2.out.next hb3); have HD3 := Lib.hid (HD2.out.next hb3); clear hb3
  go_wp2_with fail
  refine (has_any _ _ _ HQ2.out).mono ?_; rintro e w' ⟨rfl, rfl⟩
  go_wp2_with fail
  refine (put_any _ _ _ HO.out).mono ?_; rintro e w' ⟨rfl, rfl⟩
  go_wp2_with fail
  refine (queen_any _ _ _ HP.out HD3.out HT3.out).mono ?_; rintro e w4 ⟨rfl, hb4⟩
  have HB4 := Lib.hid (below_on HB3.out hb4); have HT4 := Lib.hid (HT3.out.next hb4); have HD4 := Lib.hid (HD3.out.next hb4); clear hb4
  go_wp2_with fail
  refine (has_any _ _ _ HQ3.out).mono ?_; rintro e w' ⟨rfl, rfl⟩
  go_wp2_with fail
  refine (clear_any _ _ _ HO.out).mono ?_; rintro e w' ⟨rfl, rfl⟩
  go_wp2_with fail
  refine (queen_any _ _ _ HC.out HD4.out HT4.out).mono ?_; rintro e w5 ⟨rfl, hb5⟩
  have HB5 := Lib.hid (below_on HB4.out hb5); have HT5 := Lib.hid (HT4.out.next hb5); have HD5 := Lib.hid (HD4.out.next hb5); clear hb5
  go_wp2_with fail
  refine (has_any _ _ _ HQ4.out).mono ?_; rintro e w' ⟨rfl, rfl⟩
  go_wp2_with fail
  refine (line_any _ _ _ HT5.out).mono ?_; rintro e w6 ⟨rfl, hb6⟩
  have HB6 := Lib.hid (below_on HB5.out hb6); have HT6 := Lib.hid (HT5.out.next hb6); have HD6 := Lib.hid (HD5.out.next hb6); clear hb6
  go_wp2_with fail
  refine (between_any _ _ _ HT6.out).mono ?_; rintro e w7 ⟨rfl, hb7⟩
  have HB7 := Lib.hid (below_on HB6.out hb7); have HT7 := Lib.hid (HT6.out.next hb7); have HD7 := Lib.hid (HD6.out.next hb7); clear hb7
  go_wp2_with fail
  refine (rook_any _ _ _ HO.out HD7.out HT7.out).mono ?_; rintro e w8 ⟨rfl, hb8⟩
  have HB8 := Lib.hid (below_on HB7.out hb8); have HT8 := Lib.hid (HT7.out.next hb8); have HD8 := Lib.hid (HD7.out.next hb8); clear hb8
  go_wp2_with fail
  refine (has_any _ _ _ HR1.out).mono ?_; rintro e w' ⟨rfl, rfl⟩
  go_wp2_with fail
  refine (rook_any _ _ _ HO.out HD8.out HT8.out).mono ?_; rintro e w9 ⟨rfl, hb9⟩
  have HB9 := Lib.hid (below_on HB8.out hb9); have HT9 := Lib.hid (HT8.out.next hb9); have HD9 := Lib.hid (HD8.out.next hb9); clear hb9
  go_wp2_with fail
  refine (has_any _ _ _ HR2.out).mono ?_; rintro e w' ⟨rfl, rfl⟩
  go_wp2_with fail
  go_ret
  exact ⟨rfl, HB9.out⟩
set_option maxRecDepth 100000 in
set_option maxHeartbeats 4000000 in
theorem back_seen (a0 : Int) (a1 : Int) (o : Nat) (ho : o < W64) (w : World) (hD : TabDb w) (hT : TabLead w) (hl : lineN a0 a1 ≠ 0) (hf : freeB o a0 a1 = true) :
    Calls Tryd.prog 5 #[.int .i64 a0, .int .i64 a1, .int .u64 (o : Int)] w fun e w' => e = .returned (.bool true) ∧ Below w.heap.size w w' := by
  have HT0 := Lib.hid hT
  have HD0 := Lib.hid hD
  have HB0 := Lib.hid (Below.refl w.heap.size w)
  have HO := Lib.hid ho
  clear hT hD ho
  have h1 : hasN (queenN a0 o) a1 = true := by rw [has_queen]; simp [hl, hf]
  have h2 : hasN (queenN a1 o) a0 = true := by rw [seen_back]; exact h1
  have h3 : hasN (queenN a0 (putN o a1)) a1 = true := by rw [seen_put]; exact h1
  have h4 : hasN (queenN a0 (clearN o a0)) a1 = true := by rw [seen_clear]; exact h1
  have t5 := rook_back a0 a1 o
  have HQ1 := Lib.hid (queenN_lt a0 o); have HQ2 := Lib.hid (queenN_lt a1 o); have HQ3 := Lib.hid (queenN_lt a0 (putN o a1)); have HQ4 := Lib.hid (queenN_lt a0 (clearN o a0)); have HR1 := Lib.hid (rookN_lt a0 o); have HR2 := Lib.hid (rookN_lt a1 o)
  have HP := Lib.hid (putN_lt HO.out a1); have HC := Lib.hid (clearN_lt HO.out a0)
  have z0 : (((lineN a0 a1 : Nat) : Int) != 0) = true := by simp; omega
  have z1 : (bits BinOp.and IntKind.u64 ((betweenN a0 a1 : Nat) : Int) (o : Int) == 0) = true := by rw [and_nat (betweenN_lt a0 a1) HO.out]; unfold freeB at hf; simpa using hf
  clear hl hf
  go_enter Tryd.func5, Tryd.ntmps5
  go_wp2_with fail
  refine (sl_awake _ HD0.out HT0.out).mono ?_; rintro e w1 ⟨rfl, hb1⟩
  have HB1 := Lib.hid (below_on HB0.out hb1); have HT1 := Lib.hid (HT0.out.next hb1); have HD1 := Lib.hid (HD0.out.next hb1); clear hb1
  go_wp2_with fail
  refine (queen_any _ _ _ HO.out HD1.out HT1.out).mono ?_; rintro e w2 ⟨rfl, hb2⟩
  have HB2 := Lib.hid (below_on HB1.out hb2); have HT2 := Lib.hid (HT1.out.next hb2); have HD2 := Lib.hid (HD1.out.next hb2); clear hb2
  go_wp2_with fail
  refine (has_any _ _ _ HQ1.out).mono ?_; rintro e w' ⟨rfl, rfl⟩
  go_wp2_with fail
  refine (queen_any _ _ _ HO.out HD2.out HT2.out).mono ?_; rintro e w3 ⟨rfl, hb3⟩
  have HB3 := Lib.hid (below_on HB2.out hb3); have HT3 := Lib.hid (HT2.out.next hb3); have HD3 := Lib.hid (HD2.out.next hb3); clear hb3
  go_wp2_with fail
  refine (has_any _ _ _ HQ2.out).mono ?_; rintro e w' ⟨rfl, rfl⟩
  go_wp2_with fail
  refine (put_any _ _ _ HO.out).mono ?_; rintro e w' ⟨rfl, rfl⟩
  go_wp2_with fail
  refine (queen_any _ _ _ HP.out HD3.out HT3.out).mono ?_; rintro e w4 ⟨rfl, hb4⟩
  have HB4 := Lib.hid (below_on HB3.out hb4); have HT4 := Lib.hid (HT3.out.next hb4); have HD4 := Lib.hid (HD3.out.next hb4); clear hb4
  go_wp2_with fail
  refine (has_any _ _ _ HQ3.out).mono ?_; rintro e w' ⟨rfl, rfl⟩
  go_wp2_with fail
  refine (clear_any _ _ _ HO.out).mono ?_; rintro e w' ⟨rfl, rfl⟩
  go_wp2_with fail
  refine (queen_any _ _ _ HC.out HD4.out HT4.out).mono ?_; rintro e w5 ⟨rfl, hb5⟩
  have HB5 := Lib.hid (below_on HB4.out hb5); have HT5 := Lib.hid (HT4.out.next hb5); have HD5 := Lib.hid (HD4.out.next hb5); clear hb5
  go_wp2_with fail
  refine (has_any _ _ _ HQ4.out).mono ?_; rintro e w' ⟨rfl, rfl⟩
  go_wp2_with fail
  refine (line_any _ _ _ HT5.out).mono ?_; rintro e w6 ⟨rfl, hb6⟩
  have HB6 := Lib.hid (below_on HB5.out hb6); have HT6 := Lib.hid (HT5.out.next hb6); have HD6 := Lib.hid (HD5.out.next hb6); clear hb6
  go_wp2_with fail
  refine (between_any _ _ _ HT6.out).mono ?_; rintro e w7 ⟨rfl, hb7⟩
  have HB7 := Lib.hid (below_on HB6.out hb7); have HT7 := Lib.hid (HT6.out.next hb7); have HD7 := Lib.hid (HD6.out.next hb7); clear hb7
  go_wp2_with fail
  refine (rook_any _ _ _ HO.out HD7.out HT7.out).mono ?_; rintro e w8 ⟨rfl, hb8⟩
  have HB8 := Lib.hid (below_on HB7.out hb8); have HT8 := Lib.hid (HT7.out.next hb8); have HD8 := Lib.hid (HD7.out.next hb8); clear hb8
  go_wp2_with fail
  refine (has_any _ _ _ HR1.out).mono ?_; rintro e w' ⟨rfl, rfl⟩
  go_wp2_with fail
  refine (rook_any _ _ _ HO.out HD8.out HT8.out).mono ?_; rintro e w9 ⟨rfl, hb9⟩
  have HB9 := Lib.hid (below_on HB8.out hb9); have HT9 := Lib.hid (HT8.out.next hb9); have HD9 := Lib.hid (HD8.out.next hb9); clear hb9
  go_wp2_with fail
  refine (has_any _ _ _ HR2.out).mono ?_; rintro e w' ⟨rfl, rfl⟩
  go_wp2_with fail
  go_ret
  exact ⟨rfl, HB9.out⟩
theorem walk (a0 : Int) (a1 : Int) (a2 : Int) (w0 : (Lit.int .i64 a0).wf = true) (w1 : (Lit.int .i64 a1).wf = true) (w2 : (Lit.int .u64 a2).wf = true) (w : World) (hD : TabDb w) (hT : TabLead w) :
    Calls Tryd.prog 5 #[.int .i64 a0, .int .i64 a1, .int .u64 a2] w fun e w' => e = .returned (.bool true) ∧ Below w.heap.size w w' := by
  obtain ⟨o, rfl⟩ := Int.eq_ofNat_of_zero_le (a := a2) (bounds_u64 w2).1
  have ho : o < W64 := by have := (bounds_u64 w2).2; unfold W64; omega
  by_cases hl : lineN a0 a1 = 0
  · exact back_none a0 a1 o ho w hD hT hl
  · cases hf : freeB o a0 a1
    · exact back_hid a0 a1 o ho w hD hT hl hf
    · exact back_seen a0 a1 o ho w hD hT hl hf
end Go.Proofs.YtomhacepoeecjaaDoor.slidesBack
