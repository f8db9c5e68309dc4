/-
  The walk of HashRights.
-/
import Derived.Test.YtboopdmgphhemaaDoorHaRefB
import Derived.WalkKit
import Derived.OpenShut
namespace Go.Proofs.YtboopdmgphhemaaDoor.hashRights
open Go.RowKit
set_option linter.unusedVariables false
set_option linter.unusedSimpArgs false
set_option maxRecDepth 100000 in
set_option maxHeartbeats 2000000 in
theorem walk (a0 a1 a2 a3 a4 a5 : Int) (w0 : (Lit.int .u8 a0).wf = true) (w1 : (Lit.int .u8 a1).wf = true) (w2 : (Lit.int .u8 a2).wf = true) (w3 : (Lit.int .i64 a3).wf = true) (w4 : (Lit.int .i64 a4).wf = true) (w5 : (Lit.int .u64 a5).wf = true) (w : World) (hT : TabMix w) :
    Calls Tryd.prog 4 #[.int .u8 a0, .int .u8 a1, .int .u8 a2, .int .i64 a3, .int .i64 a4, .int .u64 a5] w fun e w' => e = .returned (.bool true) ∧ Below w.heap.size w w' := by
  have HT := Lib.hid hT
  have HB := Lib.hid (Below.refl w.heap.size w)
  obtain ⟨c0, c1⟩ := fit_u8 w0 rfl
  obtain ⟨n0, n1⟩ := fit_u8 w2 rfl
  obtain ⟨m, hm, rfl⟩ := fit_u64 w5
  have HM := Lib.hid hm
  clear hT w0 w1 w2 w3 w4 w5 hm c1
  go_enter Tryd.func4, Tryd.ntmps4
  go_wp2_with (first
    | (go_at_call 18; refine (rook_nany _ _ _ _ c0 (HT.out.on HB.out)).mono ?_; rintro e wn ⟨rfl, hb9⟩; have HB := Lib.hid (below_on HB.out hb9); clear hb9)
    | (go_at_call 19; refine (rrook_nany _ _ _ _ c0).mono ?_; rintro e wn ⟨rfl, rfl⟩)
    | (go_at_call 20; refine (pocket_any _ _ _ _ c0 n0 n1 (HT.out.on HB.out)).mono ?_; rintro e wn ⟨rfl, hb9⟩; have HB := Lib.hid (below_on HB.out hb9); clear hb9)
    | (go_at_call 21; refine (rpocket_any _ _ _ _ c0 n0 n1).mono ?_; rintro e wn ⟨rfl, rfl⟩)
    | (go_at_call 22; refine (checks_nany _ _ _ c0 n0 n1 (HT.out.on HB.out)).mono ?_; rintro e wn ⟨rfl, hb9⟩; have HB := Lib.hid (below_on HB.out hb9); clear hb9)
    | (go_at_call 23; refine (rchecks_nany _ _ _ c0 n0 n1).mono ?_; rintro e wn ⟨rfl, rfl⟩)
    | (go_at_call 24; refine (promoted_any _ _ HM.out (HT.out.on HB.out)).mono ?_; rintro e wn ⟨rfl, hb9⟩; have HB := Lib.hid (below_on HB.out hb9); clear hb9)
    | (go_at_call 25; refine (rpromoted_any _ _ HM.out).mono ?_; rintro e wn ⟨rfl, hb9⟩; have HB := Lib.hid (below_on HB.out hb9); clear hb9))
  go_ret
  exact ⟨rfl, HB.out⟩
end Go.Proofs.YtboopdmgphhemaaDoor.hashRights
