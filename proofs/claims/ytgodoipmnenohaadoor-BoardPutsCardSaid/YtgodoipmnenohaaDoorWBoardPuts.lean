/-
  The walk of BoardPuts.
-/
import Derived.Test.YtgodoipmnenohaaDoorBoMirRef
import Derived.WalkKit
import Derived.OpenShut
namespace Go.Proofs.YtgodoipmnenohaaDoor.boardPuts
open Go.RowKit
set_option linter.unusedVariables false
set_option maxRecDepth 100000 in
set_option maxHeartbeats 4000000 in
theorem walk (p : Nat → Int) (a1 a2 : Int) (hp : WfP p) (w1 : (Lit.int .i64 a1).wf = true) (w2 : (Lit.int .u8 a2).wf = true) (w : World) (hD : TabDb w) :
    Calls Tryd.prog 4 #[.agg (posA p), .int .i64 a1, .int .u8 a2] w fun e w' => e = .returned (.bool true) ∧ Below w.heap.size w w' := by
  obtain ⟨x0, x1⟩ := u8_rng w2
  have HWp := Lib.hid (hp.put a1 a2 ⟨x0, x1⟩)
  have HWm := Lib.hid hp.mir
  have HW := Lib.hid hp
  have HP := Lib.hid hp.R
  have HT := Lib.hid hD
  clear hp hD
  go_enter Tryd.func4, Tryd.ntmps4
  go_wp2_with (first | (refine step_box rfl _ rfl p rfl ?_; intro b1 wn N R; have HR1 := Lib.hid R; have HB := Lib.hid N.below; have HG1 := Lib.hid (Nat.le_of_eq N.at_.symm); clear N R))
  refine wp_region_up (by kernel_rfl) (by kernel_rfl) ?_
  first | go_big_quiet_skip | (go_big_quiet_want; refine up_load _ rfl _ rfl p HR1.out ?_; simp only [Act.put, List.setIfInBounds_toArray, List.set_cons_zero, List.set_cons_succ]; go_big_quiet_on)
  first | go_big_quiet_skip | (go_big_quiet_want; go_big_quiet_op; go_big_quiet_on)
  first | go_big_quiet_skip | (go_big_quiet_want; go_big_quiet_op; go_big_quiet_on)
  go_big_quiet_want; go_big_quiet_op; apply Exists.intro; refine ⟨fun xu => ?_, ?_⟩; exact up_c (put_pos p _ _ _ x0 x1); go_big_quiet_on
  first | go_big_quiet_skip | (go_big_quiet_want; refine up_load _ rfl _ rfl p HR1.out ?_; simp only [Act.put, List.setIfInBounds_toArray, List.set_cons_zero, List.set_cons_succ]; go_big_quiet_on)
  first | go_big_quiet_skip | (go_big_quiet_want; go_big_quiet_op; go_big_quiet_on)
  first | go_big_quiet_skip | (go_big_quiet_want; go_big_quiet_op; go_big_quiet_on)
  go_big_quiet_want; go_big_quiet_op; apply Exists.intro; refine ⟨fun xu => ?_, ?_⟩; exact up_c (rput_pos p _ _ _ x0 x1); go_big_quiet_on
  go_big_quiet_want; refine up_same _ _ rfl (putP p a1 a2) (putP p a1 a2) rfl rfl HWp.out rfl ?_; simp only [Act.put, List.setIfInBounds_toArray, List.set_cons_zero, List.set_cons_succ]; go_big_quiet_on
  first | go_big_quiet_skip | (go_big_quiet_want; go_big_quiet_op; go_big_quiet_on)
  first | go_big_quiet_skip | (go_big_quiet_want; refine up_load _ rfl _ rfl p HR1.out ?_; simp only [Act.put, List.setIfInBounds_toArray, List.set_cons_zero, List.set_cons_succ]; go_big_quiet_on)
  go_big_quiet_want; go_big_quiet_op; apply Exists.intro; refine ⟨fun xu => ?_, ?_⟩; exact up_c (mirror_any p _ HP.out (HT.out.on (below_on HB.out xu.above))); go_big_quiet_on
  first | go_big_quiet_skip | (go_big_quiet_want; refine up_load _ rfl _ rfl p HR1.out ?_; simp only [Act.put, List.setIfInBounds_toArray, List.set_cons_zero, List.set_cons_succ]; go_big_quiet_on)
  go_big_quiet_want; go_big_quiet_op; apply Exists.intro; refine ⟨fun xu => ?_, ?_⟩; exact up_c (rmirror_any p _ HP.out); go_big_quiet_on
  go_big_quiet_want; refine up_same _ _ rfl (mirP p) (mirP p) rfl rfl HWm.out rfl ?_; simp only [Act.put, List.setIfInBounds_toArray, List.set_cons_zero, List.set_cons_succ]; go_big_quiet_on
  first | go_big_quiet_skip | (go_big_quiet_want; go_big_quiet_op; go_big_quiet_on)
  first | go_big_quiet_skip | (go_big_quiet_want; go_big_quiet_op; go_big_quiet_on)
  refine wpQuiet_nil ?_
  intro wq hwq
  obtain ⟨⟨wn, hb⟩, rfl⟩ := hwq
  have HR1 := Lib.hid (HR1.out.later hb); have HB := Lib.hid (below_on HB.out hb); clear hb
  go_wp2_with fail
  go_ret
  exact ⟨rfl, HB.out⟩
end Go.Proofs.YtgodoipmnenohaaDoor.boardPuts
