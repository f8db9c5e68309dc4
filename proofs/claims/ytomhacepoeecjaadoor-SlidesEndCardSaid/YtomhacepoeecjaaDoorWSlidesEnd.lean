/-
  The walk of SlidesEnd.
-/
import Derived.Test.YtomhacepoeecjaaDoorSlAwake
import Derived.Test.YtomhacepoeecjaaDoorSlRef
import Derived.Test.YtomhacepoeecjaaDoorSlLaw
import Derived.WalkKit
import Derived.OpenShut
namespace Go.Proofs.YtomhacepoeecjaaDoor.slidesEnd
open Go.RowKit
set_option linter.unusedVariables false
set_option maxRecDepth 100000 in
set_option maxHeartbeats 4000000 in
theorem end_edge (a0 : Int) (a1 : Int) (o : Nat) (ho : o < W64) (w : World) (hD : TabDb w) (hT : TabLead w) (d : Nat) (hd8 : d < 8) (hd : wrap64 ((IntKind.u64.wrap a1).tmod 8) = (d : Int)) (h0 : seenN a0 (d : Int) o &&& o = 0) (h1 : shiftN (seenN a0 (d : Int) o) (d : Int) ^^^ (shiftN (seenN a0 (d : Int) o) (d : Int) &&& seenN a0 (d : Int) o) = 0) :
    Calls Tryd.prog 10 #[.int .i64 a0, .int .i64 a1, .int .u64 (o : Int)] w fun e w' => e = .returned (.bool true) ∧ Below w.heap.size w w' := by
  have HT0 := Lib.hid hT
  have HD0 := Lib.hid hD
  have HB0 := Lib.hid (Below.refl w.heap.size w)
  have HO := Lib.hid ho
  clear hT hD ho
  have HS := Lib.hid (seenN_lt a0 (d : Int) o)
  have HA := Lib.hid (and_nat HS.out HO.out)
  have HAl := Lib.hid (show seenN a0 (d : Int) o &&& o < W64 from and_lt HO.out)
  have z0 : (bits BinOp.and IntKind.u64 ((seenN a0 (d : Int) o : Nat) : Int) (o : Int)) = 0 := by rw [HA.out, h0]; rfl
  have z1 : bits BinOp.andNot IntKind.u64 ((shiftN (seenN a0 (d : Int) o) (d : Int) : Nat) : Int) ((seenN a0 (d : Int) o : Nat) : Int) = 0 := by rw [andNot_nat (shiftN_lt _ _) HS.out, h1]; rfl
  clear h0 h1
  go_enter Tryd.func10, Tryd.ntmps10
  go_wp2_with fail
  refine (sl_awake _ HD0.out HT0.out).mono ?_; rintro e w1 ⟨rfl, hb1⟩
  have HB1 := Lib.hid (below_on HB0.out hb1); have HT1 := Lib.hid (HT0.out.next hb1); have HD1 := Lib.hid (HD0.out.next hb1); clear hb1
  go_wp2_with fail
  refine (dir_any _ _ _ _ HO.out HD1.out HT1.out).mono ?_; rintro e w2 ⟨rfl, hb2⟩
  have HB2 := Lib.hid (below_on HB1.out hb2); have HT2 := Lib.hid (HT1.out.next hb2); have HD2 := Lib.hid (HD1.out.next hb2); clear hb2
  go_wp2_with fail
  refine (count_k (r := 0) 0 rfl (by decide) (by decide) _).mono ?_; rintro e w' ⟨rfl, rfl⟩
  go_wp2_with fail
  refine (shift_any _ _ _ HS.out HT2.out).mono ?_; rintro e w' ⟨rfl, rfl⟩
  go_wp2_with fail
  go_ret
  exact ⟨rfl, HB2.out⟩
set_option maxRecDepth 100000 in
set_option maxHeartbeats 4000000 in
theorem end_hit (a0 : Int) (a1 : Int) (o : Nat) (ho : o < W64) (w : World) (hD : TabDb w) (hT : TabLead w) (d : Nat) (hd8 : d < 8) (hd : wrap64 ((IntKind.u64.wrap a1).tmod 8) = (d : Int)) (h0 : seenN a0 (d : Int) o &&& o ≠ 0) (hc : (listN (seenN a0 (d : Int) o &&& o)).length = 1) (h1 : shiftN (seenN a0 (d : Int) o) (d : Int) ^^^ (shiftN (seenN a0 (d : Int) o) (d : Int) &&& seenN a0 (d : Int) o) = shiftN (seenN a0 (d : Int) o &&& o) (d : Int)) :
    Calls Tryd.prog 10 #[.int .i64 a0, .int .i64 a1, .int .u64 (o : Int)] w fun e w' => e = .returned (.bool true) ∧ Below w.heap.size w w' := by
  have HT0 := Lib.hid hT
  have HD0 := Lib.hid hD
  have HB0 := Lib.hid (Below.refl w.heap.size w)
  have HO := Lib.hid ho
  clear hT hD ho
  have HS := Lib.hid (seenN_lt a0 (d : Int) o)
  have HA := Lib.hid (and_nat HS.out HO.out)
  have HAl := Lib.hid (show seenN a0 (d : Int) o &&& o < W64 from and_lt HO.out)
  have z0 : (bits BinOp.and IntKind.u64 ((seenN a0 (d : Int) o : Nat) : Int) (o : Int) == 0) = false := by rw [HA.out]; simpa using h0
  have z1 : bits BinOp.andNot IntKind.u64 ((shiftN (seenN a0 (d : Int) o) (d : Int) : Nat) : Int) ((seenN a0 (d : Int) o : Nat) : Int) = ((shiftN (seenN a0 (d : Int) o &&& o) (d : Int) : Nat) : Int) := by rw [andNot_nat (shiftN_lt _ _) HS.out, h1]
  have HC := Lib.hid hc
  clear h0 h1 hc
  go_enter Tryd.func10, Tryd.ntmps10
  go_wp2_with fail
  refine (sl_awake _ HD0.out HT0.out).mono ?_; rintro e w1 ⟨rfl, hb1⟩
  have HB1 := Lib.hid (below_on HB0.out hb1); have HT1 := Lib.hid (HT0.out.next hb1); have HD1 := Lib.hid (HD0.out.next hb1); clear hb1
  go_wp2_with fail
  refine (dir_any _ _ _ _ HO.out HD1.out HT1.out).mono ?_; rintro e w2 ⟨rfl, hb2⟩
  have HB2 := Lib.hid (below_on HB1.out hb2); have HT2 := Lib.hid (HT1.out.next hb2); have HD2 := Lib.hid (HD1.out.next hb2); clear hb2
  go_wp2_with fail
  refine (count_k (r := 1) (seenN a0 (d : Int) o &&& o) HA.out.symm HAl.out (by rw [HC.out]; rfl) _).mono ?_; rintro e w' ⟨rfl, rfl⟩
  go_wp2_with fail
  refine (shift_any _ _ _ HS.out HT2.out).mono ?_; rintro e w' ⟨rfl, rfl⟩
  go_wp2_with fail
  rw [HA.out]
  refine (shift_any _ _ _ HAl.out HT2.out).mono ?_; rintro e w' ⟨rfl, rfl⟩
  go_wp2_with fail
  go_ret
  exact ⟨rfl, HB2.out⟩
theorem walk (a0 : Int) (a1 : Int) (a2 : Int) (w0 : (Lit.int .i64 a0).wf = true) (w1 : (Lit.int .i64 a1).wf = true) (w2 : (Lit.int .u64 a2).wf = true) (w : World) (hD : TabDb w) (hT : TabLead w) :
    Calls Tryd.prog 10 #[.int .i64 a0, .int .i64 a1, .int .u64 a2] w fun e w' => e = .returned (.bool true) ∧ Below w.heap.size w w' := by
  obtain ⟨o, rfl⟩ := Int.eq_ofNat_of_zero_le (a := a2) (bounds_u64 w2).1
  have ho : o < W64 := by have := (bounds_u64 w2).2; unfold W64; omega
  obtain ⟨d, hd8, hd⟩ := dir8 a1
  rcases seen_end a0 d hd8 o with ⟨h0, h1⟩ | ⟨h0, hc, h1⟩
  · exact end_edge a0 a1 o ho w hD hT d hd8 hd h0 h1
  · exact end_hit a0 a1 o ho w hD hT d hd8 hd h0 hc h1
end Go.Proofs.YtomhacepoeecjaaDoor.slidesEnd
