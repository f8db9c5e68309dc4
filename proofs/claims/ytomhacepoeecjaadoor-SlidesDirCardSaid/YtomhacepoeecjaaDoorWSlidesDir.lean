/-
  The walk of SlidesDir.
-/
import Derived.Test.YtomhacepoeecjaaDoorSlAwake
import Derived.Test.YtomhacepoeecjaaDoorSlRef
import Derived.Test.YtomhacepoeecjaaDoorSlLaw
import Derived.WalkKit
import Derived.OpenShut
namespace Go.Proofs.YtomhacepoeecjaaDoor.slidesDir
open Go.RowKit
set_option linter.unusedVariables false
set_option maxRecDepth 100000 in
set_option maxHeartbeats 4000000 in
theorem inner (a0 : Int) (a1 : Int) (o : Nat) (ho : o < W64) (w : World) (hD : TabDb w) (hT : TabLead w) :
    Calls Tryd.prog 3 #[.int .i64 a0, .int .i64 a1, .int .u64 (o : Int)] w fun e w' => e = .returned (.bool true) ∧ Below w.heap.size w w' := by
  have HT0 := Lib.hid hT
  have HD0 := Lib.hid hD
  have HB0 := Lib.hid (Below.refl w.heap.size w)
  have HO := Lib.hid ho
  clear hT hD ho
  go_enter Tryd.func3, Tryd.ntmps3
  go_wp2_with fail
  refine (dir_any _ _ _ _ HO.out HD0.out HT0.out).mono ?_; rintro e w1 ⟨rfl, hb1⟩
  have HB1 := Lib.hid (below_on HB0.out hb1); have HT1 := Lib.hid (HT0.out.next hb1); have HD1 := Lib.hid (HD0.out.next hb1); clear hb1
  go_wp2_with fail
  refine (rdir_any _ _ _ _ HO.out).mono ?_; rintro e w2 ⟨rfl, hb2⟩
  have HB2 := Lib.hid (below_on HB1.out hb2); have HT2 := Lib.hid (HT1.out.next hb2); have HD2 := Lib.hid (HD1.out.next hb2); clear hb2
  go_wp2_with fail
  go_ret
  exact ⟨rfl, HB2.out⟩
theorem walk (a0 : Int) (a1 : Int) (a2 : Int) (w0 : (Lit.int .i64 a0).wf = true) (w1 : (Lit.int .i64 a1).wf = true) (w2 : (Lit.int .u64 a2).wf = true) (w : World) (hD : TabDb w) (hT : TabLead w) :
    Calls Tryd.prog 3 #[.int .i64 a0, .int .i64 a1, .int .u64 a2] w fun e w' => e = .returned (.bool true) ∧ Below w.heap.size w w' := by
  obtain ⟨o, rfl⟩ := Int.eq_ofNat_of_zero_le (a := a2) (bounds_u64 w2).1
  have ho : o < W64 := by have := (bounds_u64 w2).2; unfold W64; omega
  exact inner a0 a1 o ho w hD hT
end Go.Proofs.YtomhacepoeecjaaDoor.slidesDir
