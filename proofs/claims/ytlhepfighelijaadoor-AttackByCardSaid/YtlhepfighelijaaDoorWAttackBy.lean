/-
  The walk of AttackBy.
-/
import Derived.Test.YtlhepfighelijaaDoorAtAwake
import Derived.WalkKit
import Derived.OpenShut
namespace Go.Proofs.YtlhepfighelijaaDoor.attackBy
open Go.RowKit
set_option linter.unusedVariables false
set_option linter.unusedSimpArgs false
set_option maxRecDepth 100000 in
set_option maxHeartbeats 4000000 in
theorem walk (p : Nat → Int) (a1 a2 : Int) (hp : WfP p) (w1 : (Lit.int .i64 a1).wf = true) (w2 : (Lit.int .u8 a2).wf = true) (w : World) (hD : TabDb w) (hL : TabLead w) (hT : TabVar w) :
    Calls Tryd.prog 3 #[.agg (posA p), .int .i64 a1, .int .u8 a2] w fun e w' => e = .returned (.bool true) ∧ Below w.heap.size w w' := by
  have HP := Lib.hid (AtR.of hp)
  have HD := Lib.hid hD
  have HL := Lib.hid hL
  have HT := Lib.hid hT
  have HC := Lib.hid (u8_rng w2)
  have HX := Lib.hid (show anyB p a1 a2 = (((byN p a1 a2 : Nat) : Int) != 0) by unfold anyB; rw [bne_nat])
  clear hp hD hL hT
  cases g1 : decide (1 < a2)
  · go_enter Tryd.func3, Tryd.ntmps3
    go_wp2_with (first | (refine step_box rfl _ rfl p rfl ?_; intro b1 w1 N R; have HB := Lib.hid N.below; have HR1 := Lib.hid R; clear N R) | (refine step_load (by rfl) _ rfl _ rfl p HR1.out ?_))
    refine (rby_any p a1 a2 _ HP.out.bd HC.out.1).mono ?_; rintro e wn ⟨rfl, hb9⟩; have HR1 := Lib.hid (HR1.out.later hb9); have HB := Lib.hid (below_on HB.out hb9); clear hb9
    go_wp2_with (refine step_load (by rfl) _ rfl _ rfl p HR1.out ?_)
    refine (by_any p a1 a2 _ HP.out.bd HC.out.1 (HD.out.next HB.out) (HL.out.next HB.out)).mono ?_; rintro e wn ⟨rfl, hb9⟩; have HR1 := Lib.hid (HR1.out.later hb9); have HB := Lib.hid (below_on HB.out hb9); clear hb9
    go_wp2_with (refine step_load (by rfl) _ rfl _ rfl p HR1.out ?_)
    refine (on_any p a1 a2 _ HP.out.bd HC.out.1 (HD.out.next HB.out) (HL.out.next HB.out)).mono ?_; rintro e wn ⟨rfl, hb9⟩; have HR1 := Lib.hid (HR1.out.later hb9); have HB := Lib.hid (below_on HB.out hb9); clear hb9
    rw [HX.out]
    go_wp2_with fail
    refine (at_awake _ (HD.out.next HB.out) (HL.out.next HB.out) (HT.out.on HB.out)).mono ?_; rintro e wn ⟨rfl, hb9⟩; have HB := Lib.hid (below_on HB.out hb9); clear hb9
    go_wp2_with fail
    go_ret
    exact ⟨rfl, HB.out⟩
  · have HN := Lib.hid (show byN p a1 a2 = 0 from byN_col p a1 (by have := of_decide_eq_true g1; omega))
    go_enter Tryd.func3, Tryd.ntmps3
    go_wp2_with (first | (refine step_box rfl _ rfl p rfl ?_; intro b1 w1 N R; have HB := Lib.hid N.below; have HR1 := Lib.hid R; clear N R) | (refine step_load (by rfl) _ rfl _ rfl p HR1.out ?_))
    refine (rby_any p a1 a2 _ HP.out.bd HC.out.1).mono ?_; rintro e wn ⟨rfl, hb9⟩; have HR1 := Lib.hid (HR1.out.later hb9); have HB := Lib.hid (below_on HB.out hb9); clear hb9
    go_wp2_with (refine step_load (by rfl) _ rfl _ rfl p HR1.out ?_)
    refine (by_any p a1 a2 _ HP.out.bd HC.out.1 (HD.out.next HB.out) (HL.out.next HB.out)).mono ?_; rintro e wn ⟨rfl, hb9⟩; have HR1 := Lib.hid (HR1.out.later hb9); have HB := Lib.hid (below_on HB.out hb9); clear hb9
    rw [HN.out]
    go_wp2_with (refine step_load (by rfl) _ rfl _ rfl p HR1.out ?_)
    refine (on_any p a1 a2 _ HP.out.bd HC.out.1 (HD.out.next HB.out) (HL.out.next HB.out)).mono ?_; rintro e wn ⟨rfl, hb9⟩; have HR1 := Lib.hid (HR1.out.later hb9); have HB := Lib.hid (below_on HB.out hb9); clear hb9
    rw [HX.out, HN.out]
    go_wp2_with fail
    refine (at_awake _ (HD.out.next HB.out) (HL.out.next HB.out) (HT.out.on HB.out)).mono ?_; rintro e wn ⟨rfl, hb9⟩; have HB := Lib.hid (below_on HB.out hb9); clear hb9
    go_wp2_with fail
    go_ret
    exact ⟨rfl, HB.out⟩
end Go.Proofs.YtlhepfighelijaaDoor.attackBy
