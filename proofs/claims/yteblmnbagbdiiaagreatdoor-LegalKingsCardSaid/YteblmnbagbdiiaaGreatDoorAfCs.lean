/-
 Several texts in one: CsA, CsB, CsC, CsD, CsE.
-/
import Derived.Test.YteblmnbagbdiiaaGreatDoorCsMath
import Derived.Test.YteblmnbagbdiiaaGreatDoorAtMake
import Derived.Test.YteblmnbagbdiiaaGreatDoorAfAtt
import Derived.Test.YteblmnbagbdiiaaGreatDoorAfBaseK
import Derived.Test.YteblmnbagbdiiaaGreatDoorVaBaseB
/-
 Contracts of castle's home, atHome, other, Side, isRook, isSheltered, Goals.
-/
set_option maxRecDepth 100000
set_option maxHeartbeats 8000000
namespace Go.Proofs.YteblmnbagbdiiaaGreatDoor
open Go.RowKit Go.Shelf
set_option linter.unusedVariables false
set_option linter.unusedSimpArgs false
attribute [local go_sem] Oper.semAt_some

theorem cs_home (c : Int) (w : World) : Calls Tryz.prog 155 #[.int .u8 c] w (fun e w' => e = .returned (.int .i64 (hmC c)) ∧ w = w') := by
 unfold hmC
 cases g : (c == 0)
 all_goals
  go_enter Tryz.func155, Tryz.ntmps155
  go_wp2
  go_ret
  exact ⟨rfl, rfl⟩
theorem cs_other (c : Int) (w : World) : Calls Tryz.prog 220 #[.int .u8 c] w (fun e w' => e = .returned (.int .u8 (oth c)) ∧ w = w') := by
 go_enter Tryz.func220, Tryz.ntmps220
 go_wp2
 go_ret
 exact ⟨rfl, rfl⟩
theorem cs_at (c s : Int) (w : World) : Calls Tryz.prog 218 #[.int .u8 c, .int .i64 s] w (fun e w' => e = .returned (.bool (atC c s)) ∧ w = w') := by
 have hr := hmC_rng c
 cases g1 : decide (c ≤ 1)
 ·have HS := H_ (show atC c s = false by unfold atC; rw [g1]; rfl)
  go_enter Tryz.func218, Tryz.ntmps218
  go_wp2_with fail
  go_ret
  exact ⟨by rw [HS.out]; rfl, rfl⟩
 ·cases g2 : decide (hmC c ≤ s)
  ·have HS := H_ (show atC c s = false by unfold atC; rw [g1, g2]; rfl)
   go_enter Tryz.func218, Tryz.ntmps218
   go_wp2_with (go_at_call 155; refine (cs_home c _).mono ?_; rintro e w3 ⟨rfl, rfl⟩)
   go_ret
   exact ⟨by rw [HS.out]; rfl, rfl⟩
  ·have HS := H_ (show atC c s = decide (s < hmC c + 8) by unfold atC; rw [g1, g2]; rfl)
   go_enter Tryz.func218, Tryz.ntmps218
   go_wp2_with (go_at_call 155; refine (cs_home c _).mono ?_; rintro e w3 ⟨rfl, rfl⟩)
   go_ret
   exact ⟨by rw [HS.out]; rfl, rfl⟩
theorem cs_side (p : Nat → Int) (m : Mv) (w : World) (hm : FitV m) : Calls Tryz.prog 157 #[.agg (posA p), .agg (mvA m)] w (IntL (sdC (p 78) m) w) := by
 have hf := hm.f
 have ht := hm.t
 clear hm
 have HB := H_ (Below.refl w.heap.size w)
 obtain ⟨a1, ha1⟩ : ∃ a, atC (p 78) m.f = a := ⟨_, rfl⟩
 obtain ⟨a2, ha2⟩ : ∃ a, atC (p 78) m.t = a := ⟨_, rfl⟩
 have HAf := H_ ha1
 have HAt := H_ ha2
 cases g1 : m.ca
 ·have g5 := g1
  have HS := H_ (show sdC (p 78) m = -1 by unfold sdC; rw [g1]; rfl)
  go_enter Tryz.func157, Tryz.ntmps157
  go_wp2_with (first
   | (guard_target = gB 2; refine step_box rfl _ rfl p rfl ?_; intro b2 w1 N R; have HG2 := H_ (nA HB.out N); have HB := H_ (below_on HB.out N.below); have HR2 := H_ R; clear N R)
   | (guard_target = gB 3; refine blk_box rfl 40 _ rfl (mvA m) rfl ?_; intro b3 w1 N R; have HG3 := H_ (nA HB.out N); have HR2 := H_ (HR2.out.later N.below); have HB := H_ (below_on HB.out N.below); have HR3 := H_ R; clear N R)
   | (guard_target = gL 6; refine step_get rfl 4 _ rfl b3 4 rfl Tryz.underlying4 rfl (.bool m.ca) ?_ ?_; exact (HR3.out.cell 4).trans rfl)
   | (guard_target = gL 9; refine step_get rfl 26 _ rfl b3 0 rfl Tryz.underlying26 rfl (.int .i8 m.f) ?_ ?_; exact (HR3.out.cell 0).trans rfl)
   | (guard_target = gL 16; refine step_get rfl 26 _ rfl b3 0 rfl Tryz.underlying26 rfl (.int .i8 m.f) ?_ ?_; exact (HR3.out.cell 0).trans rfl)
   | (guard_target = gL 31; refine step_get rfl 26 _ rfl b3 0 rfl Tryz.underlying26 rfl (.int .i8 m.f) ?_ ?_; exact (HR3.out.cell 0).trans rfl)
   | (guard_target = gL 11; refine step_get rfl 26 _ rfl b3 1 rfl Tryz.underlying26 rfl (.int .i8 m.t) ?_ ?_; exact (HR3.out.cell 1).trans rfl)
   | (guard_target = gL 23; refine step_get rfl 26 _ rfl b3 1 rfl Tryz.underlying26 rfl (.int .i8 m.t) ?_ ?_; exact (HR3.out.cell 1).trans rfl)
   | (guard_target = gL 29; refine step_get rfl 26 _ rfl b3 1 rfl Tryz.underlying26 rfl (.int .i8 m.t) ?_ ?_; exact (HR3.out.cell 1).trans rfl)
   | (guard_target = gL 14; refine gU rfl 5 _ rfl Tryz.underlying5 HR2.out 78 (by decide) rfl rfl ?_)
   | (guard_target = gL 21; refine gU rfl 5 _ rfl Tryz.underlying5 HR2.out 78 (by decide) rfl rfl ?_)
   | (go_at_call 218; guard_target = Go.Calls _ _ #[_, Go.Value.int _ (m.f)] _ _; refine (cs_at (p 78) (m.f) _).mono ?_; rintro e w3 ⟨rfl, rfl⟩; rw [HAf.out])
   | (go_at_call 218; guard_target = Go.Calls _ _ #[_, Go.Value.int _ (m.t)] _ _; refine (cs_at (p 78) (m.t) _).mono ?_; rintro e w3 ⟨rfl, rfl⟩; rw [HAt.out]))
  go_ret
  exact ⟨by rw [HS.out]; rfl, HB.out⟩
 ·cases g2 : (m.f == m.t)
  ·cases a1
   ·clear ha2
    have HS := H_ (show sdC (p 78) m = -1 by unfold sdC; rw [g1, g2, ha1]; rfl)
    go_enter Tryz.func157, Tryz.ntmps157
    go_wp2_with (first
     | (guard_target = gB 2; refine step_box rfl _ rfl p rfl ?_; intro b2 w1 N R; have HG2 := H_ (nA HB.out N); have HB := H_ (below_on HB.out N.below); have HR2 := H_ R; clear N R)
     | (guard_target = gB 3; refine blk_box rfl 40 _ rfl (mvA m) rfl ?_; intro b3 w1 N R; have HG3 := H_ (nA HB.out N); have HR2 := H_ (HR2.out.later N.below); have HB := H_ (below_on HB.out N.below); have HR3 := H_ R; clear N R)
     | (guard_target = gL 6; refine step_get rfl 4 _ rfl b3 4 rfl Tryz.underlying4 rfl (.bool m.ca) ?_ ?_; exact (HR3.out.cell 4).trans rfl)
     | (guard_target = gL 9; refine step_get rfl 26 _ rfl b3 0 rfl Tryz.underlying26 rfl (.int .i8 m.f) ?_ ?_; exact (HR3.out.cell 0).trans rfl)
     | (guard_target = gL 16; refine step_get rfl 26 _ rfl b3 0 rfl Tryz.underlying26 rfl (.int .i8 m.f) ?_ ?_; exact (HR3.out.cell 0).trans rfl)
     | (guard_target = gL 31; refine step_get rfl 26 _ rfl b3 0 rfl Tryz.underlying26 rfl (.int .i8 m.f) ?_ ?_; exact (HR3.out.cell 0).trans rfl)
     | (guard_target = gL 11; refine step_get rfl 26 _ rfl b3 1 rfl Tryz.underlying26 rfl (.int .i8 m.t) ?_ ?_; exact (HR3.out.cell 1).trans rfl)
     | (guard_target = gL 23; refine step_get rfl 26 _ rfl b3 1 rfl Tryz.underlying26 rfl (.int .i8 m.t) ?_ ?_; exact (HR3.out.cell 1).trans rfl)
     | (guard_target = gL 29; refine step_get rfl 26 _ rfl b3 1 rfl Tryz.underlying26 rfl (.int .i8 m.t) ?_ ?_; exact (HR3.out.cell 1).trans rfl)
     | (guard_target = gL 14; refine gU rfl 5 _ rfl Tryz.underlying5 HR2.out 78 (by decide) rfl rfl ?_)
     | (guard_target = gL 21; refine gU rfl 5 _ rfl Tryz.underlying5 HR2.out 78 (by decide) rfl rfl ?_)
     | (go_at_call 218; guard_target = Go.Calls _ _ #[_, Go.Value.int _ (m.f)] _ _; refine (cs_at (p 78) (m.f) _).mono ?_; rintro e w3 ⟨rfl, rfl⟩; rw [HAf.out])
     | (go_at_call 218; guard_target = Go.Calls _ _ #[_, Go.Value.int _ (m.t)] _ _; refine (cs_at (p 78) (m.t) _).mono ?_; rintro e w3 ⟨rfl, rfl⟩; rw [HAt.out]))
    go_ret
    exact ⟨by rw [HS.out]; rfl, HB.out⟩
   ·cases a2
    ·have HS := H_ (show sdC (p 78) m = -1 by unfold sdC; rw [g1, g2, ha1, ha2]; rfl)
     go_enter Tryz.func157, Tryz.ntmps157
     go_wp2_with (first
      | (guard_target = gB 2; refine step_box rfl _ rfl p rfl ?_; intro b2 w1 N R; have HG2 := H_ (nA HB.out N); have HB := H_ (below_on HB.out N.below); have HR2 := H_ R; clear N R)
      | (guard_target = gB 3; refine blk_box rfl 40 _ rfl (mvA m) rfl ?_; intro b3 w1 N R; have HG3 := H_ (nA HB.out N); have HR2 := H_ (HR2.out.later N.below); have HB := H_ (below_on HB.out N.below); have HR3 := H_ R; clear N R)
      | (guard_target = gL 6; refine step_get rfl 4 _ rfl b3 4 rfl Tryz.underlying4 rfl (.bool m.ca) ?_ ?_; exact (HR3.out.cell 4).trans rfl)
      | (guard_target = gL 9; refine step_get rfl 26 _ rfl b3 0 rfl Tryz.underlying26 rfl (.int .i8 m.f) ?_ ?_; exact (HR3.out.cell 0).trans rfl)
      | (guard_target = gL 16; refine step_get rfl 26 _ rfl b3 0 rfl Tryz.underlying26 rfl (.int .i8 m.f) ?_ ?_; exact (HR3.out.cell 0).trans rfl)
      | (guard_target = gL 31; refine step_get rfl 26 _ rfl b3 0 rfl Tryz.underlying26 rfl (.int .i8 m.f) ?_ ?_; exact (HR3.out.cell 0).trans rfl)
      | (guard_target = gL 11; refine step_get rfl 26 _ rfl b3 1 rfl Tryz.underlying26 rfl (.int .i8 m.t) ?_ ?_; exact (HR3.out.cell 1).trans rfl)
      | (guard_target = gL 23; refine step_get rfl 26 _ rfl b3 1 rfl Tryz.underlying26 rfl (.int .i8 m.t) ?_ ?_; exact (HR3.out.cell 1).trans rfl)
      | (guard_target = gL 29; refine step_get rfl 26 _ rfl b3 1 rfl Tryz.underlying26 rfl (.int .i8 m.t) ?_ ?_; exact (HR3.out.cell 1).trans rfl)
      | (guard_target = gL 14; refine gU rfl 5 _ rfl Tryz.underlying5 HR2.out 78 (by decide) rfl rfl ?_)
      | (guard_target = gL 21; refine gU rfl 5 _ rfl Tryz.underlying5 HR2.out 78 (by decide) rfl rfl ?_)
      | (go_at_call 218; guard_target = Go.Calls _ _ #[_, Go.Value.int _ (m.f)] _ _; refine (cs_at (p 78) (m.f) _).mono ?_; rintro e w3 ⟨rfl, rfl⟩; rw [HAf.out])
      | (go_at_call 218; guard_target = Go.Calls _ _ #[_, Go.Value.int _ (m.t)] _ _; refine (cs_at (p 78) (m.t) _).mono ?_; rintro e w3 ⟨rfl, rfl⟩; rw [HAt.out]))
     go_ret
     exact ⟨by rw [HS.out]; rfl, HB.out⟩
    ·cases g3 : decide (m.f < m.t)
     ·have HS := H_ (show sdC (p 78) m = 1 by unfold sdC; rw [g1, g2, ha1, ha2, g3]; rfl)
      go_enter Tryz.func157, Tryz.ntmps157
      go_wp2_with (first
       | (guard_target = gB 2; refine step_box rfl _ rfl p rfl ?_; intro b2 w1 N R; have HG2 := H_ (nA HB.out N); have HB := H_ (below_on HB.out N.below); have HR2 := H_ R; clear N R)
       | (guard_target = gB 3; refine blk_box rfl 40 _ rfl (mvA m) rfl ?_; intro b3 w1 N R; have HG3 := H_ (nA HB.out N); have HR2 := H_ (HR2.out.later N.below); have HB := H_ (below_on HB.out N.below); have HR3 := H_ R; clear N R)
       | (guard_target = gL 6; refine step_get rfl 4 _ rfl b3 4 rfl Tryz.underlying4 rfl (.bool m.ca) ?_ ?_; exact (HR3.out.cell 4).trans rfl)
       | (guard_target = gL 9; refine step_get rfl 26 _ rfl b3 0 rfl Tryz.underlying26 rfl (.int .i8 m.f) ?_ ?_; exact (HR3.out.cell 0).trans rfl)
       | (guard_target = gL 16; refine step_get rfl 26 _ rfl b3 0 rfl Tryz.underlying26 rfl (.int .i8 m.f) ?_ ?_; exact (HR3.out.cell 0).trans rfl)
       | (guard_target = gL 31; refine step_get rfl 26 _ rfl b3 0 rfl Tryz.underlying26 rfl (.int .i8 m.f) ?_ ?_; exact (HR3.out.cell 0).trans rfl)
       | (guard_target = gL 11; refine step_get rfl 26 _ rfl b3 1 rfl Tryz.underlying26 rfl (.int .i8 m.t) ?_ ?_; exact (HR3.out.cell 1).trans rfl)
       | (guard_target = gL 23; refine step_get rfl 26 _ rfl b3 1 rfl Tryz.underlying26 rfl (.int .i8 m.t) ?_ ?_; exact (HR3.out.cell 1).trans rfl)
       | (guard_target = gL 29; refine step_get rfl 26 _ rfl b3 1 rfl Tryz.underlying26 rfl (.int .i8 m.t) ?_ ?_; exact (HR3.out.cell 1).trans rfl)
       | (guard_target = gL 14; refine gU rfl 5 _ rfl Tryz.underlying5 HR2.out 78 (by decide) rfl rfl ?_)
       | (guard_target = gL 21; refine gU rfl 5 _ rfl Tryz.underlying5 HR2.out 78 (by decide) rfl rfl ?_)
       | (go_at_call 218; guard_target = Go.Calls _ _ #[_, Go.Value.int _ (m.f)] _ _; refine (cs_at (p 78) (m.f) _).mono ?_; rintro e w3 ⟨rfl, rfl⟩; rw [HAf.out])
       | (go_at_call 218; guard_target = Go.Calls _ _ #[_, Go.Value.int _ (m.t)] _ _; refine (cs_at (p 78) (m.t) _).mono ?_; rintro e w3 ⟨rfl, rfl⟩; rw [HAt.out]))
      go_ret
      exact ⟨by rw [HS.out]; rfl, HB.out⟩
     ·have HS := H_ (show sdC (p 78) m = 0 by unfold sdC; rw [g1, g2, ha1, ha2, g3]; rfl)
      go_enter Tryz.func157, Tryz.ntmps157
      go_wp2_with (first
       | (guard_target = gB 2; refine step_box rfl _ rfl p rfl ?_; intro b2 w1 N R; have HG2 := H_ (nA HB.out N); have HB := H_ (below_on HB.out N.below); have HR2 := H_ R; clear N R)
       | (guard_target = gB 3; refine blk_box rfl 40 _ rfl (mvA m) rfl ?_; intro b3 w1 N R; have HG3 := H_ (nA HB.out N); have HR2 := H_ (HR2.out.later N.below); have HB := H_ (below_on HB.out N.below); have HR3 := H_ R; clear N R)
       | (guard_target = gL 6; refine step_get rfl 4 _ rfl b3 4 rfl Tryz.underlying4 rfl (.bool m.ca) ?_ ?_; exact (HR3.out.cell 4).trans rfl)
       | (guard_target = gL 9; refine step_get rfl 26 _ rfl b3 0 rfl Tryz.underlying26 rfl (.int .i8 m.f) ?_ ?_; exact (HR3.out.cell 0).trans rfl)
       | (guard_target = gL 16; refine step_get rfl 26 _ rfl b3 0 rfl Tryz.underlying26 rfl (.int .i8 m.f) ?_ ?_; exact (HR3.out.cell 0).trans rfl)
       | (guard_target = gL 31; refine step_get rfl 26 _ rfl b3 0 rfl Tryz.underlying26 rfl (.int .i8 m.f) ?_ ?_; exact (HR3.out.cell 0).trans rfl)
       | (guard_target = gL 11; refine step_get rfl 26 _ rfl b3 1 rfl Tryz.underlying26 rfl (.int .i8 m.t) ?_ ?_; exact (HR3.out.cell 1).trans rfl)
       | (guard_target = gL 23; refine step_get rfl 26 _ rfl b3 1 rfl Tryz.underlying26 rfl (.int .i8 m.t) ?_ ?_; exact (HR3.out.cell 1).trans rfl)
       | (guard_target = gL 29; refine step_get rfl 26 _ rfl b3 1 rfl Tryz.underlying26 rfl (.int .i8 m.t) ?_ ?_; exact (HR3.out.cell 1).trans rfl)
       | (guard_target = gL 14; refine gU rfl 5 _ rfl Tryz.underlying5 HR2.out 78 (by decide) rfl rfl ?_)
       | (guard_target = gL 21; refine gU rfl 5 _ rfl Tryz.underlying5 HR2.out 78 (by decide) rfl rfl ?_)
       | (go_at_call 218; guard_target = Go.Calls _ _ #[_, Go.Value.int _ (m.f)] _ _; refine (cs_at (p 78) (m.f) _).mono ?_; rintro e w3 ⟨rfl, rfl⟩; rw [HAf.out])
       | (go_at_call 218; guard_target = Go.Calls _ _ #[_, Go.Value.int _ (m.t)] _ _; refine (cs_at (p 78) (m.t) _).mono ?_; rintro e w3 ⟨rfl, rfl⟩; rw [HAt.out]))
      go_ret
      exact ⟨by rw [HS.out]; rfl, HB.out⟩
  ·have HS := H_ (show sdC (p 78) m = -1 by unfold sdC; rw [g1, g2]; rfl)
   go_enter Tryz.func157, Tryz.ntmps157
   go_wp2_with (first
    | (guard_target = gB 2; refine step_box rfl _ rfl p rfl ?_; intro b2 w1 N R; have HG2 := H_ (nA HB.out N); have HB := H_ (below_on HB.out N.below); have HR2 := H_ R; clear N R)
    | (guard_target = gB 3; refine blk_box rfl 40 _ rfl (mvA m) rfl ?_; intro b3 w1 N R; have HG3 := H_ (nA HB.out N); have HR2 := H_ (HR2.out.later N.below); have HB := H_ (below_on HB.out N.below); have HR3 := H_ R; clear N R)
    | (guard_target = gL 6; refine step_get rfl 4 _ rfl b3 4 rfl Tryz.underlying4 rfl (.bool m.ca) ?_ ?_; exact (HR3.out.cell 4).trans rfl)
    | (guard_target = gL 9; refine step_get rfl 26 _ rfl b3 0 rfl Tryz.underlying26 rfl (.int .i8 m.f) ?_ ?_; exact (HR3.out.cell 0).trans rfl)
    | (guard_target = gL 16; refine step_get rfl 26 _ rfl b3 0 rfl Tryz.underlying26 rfl (.int .i8 m.f) ?_ ?_; exact (HR3.out.cell 0).trans rfl)
    | (guard_target = gL 31; refine step_get rfl 26 _ rfl b3 0 rfl Tryz.underlying26 rfl (.int .i8 m.f) ?_ ?_; exact (HR3.out.cell 0).trans rfl)
    | (guard_target = gL 11; refine step_get rfl 26 _ rfl b3 1 rfl Tryz.underlying26 rfl (.int .i8 m.t) ?_ ?_; exact (HR3.out.cell 1).trans rfl)
    | (guard_target = gL 23; refine step_get rfl 26 _ rfl b3 1 rfl Tryz.underlying26 rfl (.int .i8 m.t) ?_ ?_; exact (HR3.out.cell 1).trans rfl)
    | (guard_target = gL 29; refine step_get rfl 26 _ rfl b3 1 rfl Tryz.underlying26 rfl (.int .i8 m.t) ?_ ?_; exact (HR3.out.cell 1).trans rfl)
    | (guard_target = gL 14; refine gU rfl 5 _ rfl Tryz.underlying5 HR2.out 78 (by decide) rfl rfl ?_)
    | (guard_target = gL 21; refine gU rfl 5 _ rfl Tryz.underlying5 HR2.out 78 (by decide) rfl rfl ?_)
    | (go_at_call 218; guard_target = Go.Calls _ _ #[_, Go.Value.int _ (m.f)] _ _; refine (cs_at (p 78) (m.f) _).mono ?_; rintro e w3 ⟨rfl, rfl⟩; rw [HAf.out])
    | (go_at_call 218; guard_target = Go.Calls _ _ #[_, Go.Value.int _ (m.t)] _ _; refine (cs_at (p 78) (m.t) _).mono ?_; rintro e w3 ⟨rfl, rfl⟩; rw [HAt.out]))
   go_ret
   exact ⟨by rw [HS.out]; rfl, HB.out⟩
theorem cs_rook (p : Nat → Int) (s : Int) (w : World) (hp : BdR p) : Calls Tryz.prog 156 #[.agg (posA p), .int .i64 s] w (BoL (hasN (ofN p (p 78) 4) s) w) := by
 have HP := H_ hp
 clear hp
 have HB := H_ (Below.refl w.heap.size w)
 go_enter Tryz.func156, Tryz.ntmps156
 go_wp2_with (first
   | (guard_target = gB 2; refine step_box rfl _ rfl p rfl ?_; intro b2 w1 N R; have HG2 := H_ (nA HB.out N); have HB := H_ (below_on HB.out N.below); have HR2 := H_ R; clear N R)
   | (guard_target = gL 2; refine step_load rfl _ rfl b2 rfl p HR2.out ?_)
   | (guard_target = gL 6; refine gU rfl 5 _ rfl Tryz.underlying5 HR2.out 78 (by decide) rfl rfl ?_)
   | (go_at_call 72; refine (of_any p _ _ _ HP.out).mono ?_; rintro e w3 ⟨rfl, hb⟩; have HR2 := H_ (HR2.out.later hb); have HB := H_ (below_on HB.out hb); clear hb)
   | (go_at_call 179; refine (has_any _ _ _ (ofN_lt _ _ _)).mono ?_; rintro e w3 ⟨rfl, rfl⟩))
 go_ret
 exact ⟨rfl, HB.out⟩
theorem cs_shel (p : Nat → Int) (s : Int) (w : World) (hp : BdR p) (hL : TabLead w) : Calls Tryz.prog 221 #[.agg (posA p), .int .i64 s] w (BoL (shelB p s (p 78)) w) := by
 have HP := H_ hp
 have HL := H_ hL
 clear hp hL
 have HB := H_ (Below.refl w.heap.size w)
 have HAnd := H_ (show (bits .and .u64 ((kingN s : Nat) : Int) ((ofN p (oth (p 78)) 6 : Nat) : Int) != 0) = (kingN s &&& ofN p (oth (p 78)) 6 != 0) by rw [and_nat (kingN_lt s) (ofN_lt p (oth (p 78)) 6), Bool.eq_iff_iff, bne_iff_ne, bne_iff_ne]; omega)
 cases g : (p 0 == 3)
 ·have HS := H_ (show shelB p s (p 78) = false by unfold shelB; rw [g]; rfl)
  go_enter Tryz.func221, Tryz.ntmps221
  go_wp2_with (guard_target = gB 2; refine step_box rfl _ rfl p rfl ?_; intro b2 w1 N R; have HG2 := H_ (nA HB.out N); have HB := H_ (below_on HB.out N.below); have HR2 := H_ R; clear N R)
  refine late_begin 15 (by kernel_rfl) ?_
  refine lw 0 rfl ?_
  simp only [Act.put, pa, pb, pc]
  refine lv 1 rfl ⟨.int .u8 (p 0), fun w' hl => (run_get 5 _ rfl b2 0 rfl Tryz.underlying5 rfl (.int .u8 (p 0)) ((HR2.out.later hl).cell 0 (by decide))), ?_⟩
  simp only [Act.put, pa, pb, pc]
  refine lw 2 rfl ?_
  simp only [Act.put, pa, pb, pc]
  refine lw 3 rfl ?_
  simp only [Act.put, pa, pb, pc]
  refine lo 4 rfl ?_
  simp only [Act.put, pa, pb, pc]
  refine lo 5 rfl ?_
  simp only [Act.put, pa, pb, pc]
  refine lo 6 rfl ?_
  simp only [Act.put, pa, pb, pc]
  refine lo 7 rfl ?_
  simp only [Act.put, pa, pb, pc]
  refine lo 8 rfl ?_
  simp only [Act.put, pa, pb, pc]
  refine lo 9 rfl ?_
  simp only [Act.put, pa, pb, pc]
  refine lo 10 rfl ?_
  simp only [Act.put, pa, pb, pc]
  refine lo 11 rfl ?_
  simp only [Act.put, pa, pb, pc]
  refine lo 12 rfl ?_
  simp only [Act.put, pa, pb, pc]
  refine lw 13 rfl ?_
  simp only [Act.put, pa, pb, pc]
  refine lw 14 rfl ?_
  simp only [Act.put, pa, pb, pc]
  refine late_end (by kernel_rfl) (fun wn hl => ?_)
  have HR2 := H_ (HR2.out.later hl); have HB := H_ (below_on HB.out hl); clear hl
  go_wp2_with fail
  go_ret
  exact ⟨by rw [HS.out]; rfl, HB.out⟩
 ·have HS := H_ (show shelB p s (p 78) = (kingN s &&& ofN p (oth (p 78)) 6 != 0) by unfold shelB; rw [g]; rfl)
  go_enter Tryz.func221, Tryz.ntmps221
  go_wp2_with (guard_target = gB 2; refine step_box rfl _ rfl p rfl ?_; intro b2 w1 N R; have HG2 := H_ (nA HB.out N); have HB := H_ (below_on HB.out N.below); have HR2 := H_ R; clear N R)
  refine late_begin 15 (by kernel_rfl) ?_
  refine lw 0 rfl ?_
  simp only [Act.put, pa, pb, pc]
  refine lv 1 rfl ⟨.int .u8 (p 0), fun w' hl => (run_get 5 _ rfl b2 0 rfl Tryz.underlying5 rfl (.int .u8 (p 0)) ((HR2.out.later hl).cell 0 (by decide))), ?_⟩
  simp only [Act.put, pa, pb, pc]
  refine lw 2 rfl ?_
  simp only [Act.put, pa, pb, pc]
  refine lw 3 rfl ?_
  simp only [Act.put, pa, pb, pc]
  refine lw 4 rfl ?_
  simp only [Act.put, pa, pb, pc]
  refine lv 6 rfl ⟨_, fun w' hl => (run_load _ rfl _ rfl (p) (HR2.out.later hl)), ?_⟩
  simp only [Act.put, pa, pb, pc]
  refine lw 7 rfl ?_
  simp only [Act.put, pa, pb, pc]
  refine lv 8 rfl ⟨.int .u8 (p 78), fun w' hl => (run_get 5 _ rfl b2 78 rfl Tryz.underlying5 rfl (.int .u8 (p 78)) ((HR2.out.later hl).cell 78 (by decide))), ?_⟩
  simp only [Act.put, pa, pb, pc]
  refine l1 5 rfl fun wn hl K hK => ?_
  have HR2 := H_ (HR2.out.later hl); have HB := H_ (below_on HB.out hl); clear hl
  refine we ?_
  refine (king_any s _ (HL.out.next HB.out)).mono ?_; rintro e wm ⟨rfl, hb⟩; refine ⟨_, rfl, ?_⟩
  refine hK.out _ _ hb ?_
  have HR2 := H_ (HR2.out.later hb); have HB := H_ (below_on HB.out hb); clear hb
  clear hK K
  simp only [Act.put, pa, pb, pc]
  refine l1 9 rfl fun wn hl K hK => ?_
  have HR2 := H_ (HR2.out.later hl); have HB := H_ (below_on HB.out hl); clear hl
  refine we ?_
  refine (cs_other (p 78) _).mono ?_; rintro e wm ⟨rfl, rfl⟩; refine ⟨_, rfl, ?_⟩
  refine hK.out _ _ (Later.refl _) ?_
  clear hK K
  simp only [Act.put, pa, pb, pc]
  refine l1 10 rfl fun wn hl K hK => ?_
  have HR2 := H_ (HR2.out.later hl); have HB := H_ (below_on HB.out hl); clear hl
  refine we ?_
  refine (of_any p _ _ _ HP.out).mono ?_; rintro e wm ⟨rfl, hb⟩; refine ⟨_, rfl, ?_⟩
  refine hK.out _ _ hb ?_
  have HR2 := H_ (HR2.out.later hb); have HB := H_ (below_on HB.out hb); clear hb
  clear hK K
  simp only [Act.put, pa, pb, pc]
  refine lw 11 rfl ?_
  simp only [Act.put, pa, pb, pc]
  refine lw 12 rfl ?_
  simp only [Act.put, pa, pb, pc]
  refine lw 13 rfl ?_
  simp only [Act.put, pa, pb, pc]
  refine lw 14 rfl ?_
  simp only [Act.put, pa, pb, pc]
  refine late_end (by kernel_rfl) (fun wn hl => ?_)
  have HR2 := H_ (HR2.out.later hl); have HB := H_ (below_on HB.out hl); clear hl
  go_wp2_with fail
  go_ret
  exact ⟨by rw [HS.out, ← HAnd.out]; rfl, HB.out⟩
def GoalL (k r : Int) (b : Bool) (w : World) (e : Ending) (w' : World) : Prop := e = .returned (.tuple #[.int .i64 k, .int .i64 r, .bool b]) ∧ Below w.heap.size w w'
theorem gk_rng (n : Int) : 2 ≤ gkC n ∧ gkC n ≤ 6 := by unfold gkC; cases n == 0 <;> simp
theorem gr_rng (n : Int) : 3 ≤ grC n ∧ grC n ≤ 5 := by unfold grC; cases n == 0 <;> simp
theorem cs_goals (p : Nat → Int) (m : Mv) (n : Nat) (hn : n < 2) (w : World) (hm : FitV m) (hs : sdC (p 78) m = (n : Int)) (hG : TabGl w) : Calls Tryz.prog 158 #[.agg (posA p), .agg (mvA m)] w (GoalL (hmC (p 78) + gkC (n : Int)) (hmC (p 78) + grC (n : Int)) true w) := by
 have HM := H_ hm
 have HD := H_ hs
 have HN := H_ hn
 have HG := H_ hG
 have h1 := hmC_rng (p 78)
 have h2 := gk_rng (n : Int)
 have h3 := gr_rng (n : Int)
 have hne : ((n : Int) == -1) = false := beq_eq_false_iff_ne.2 (by omega)
 clear hm hs hG
 have HB := H_ (Below.refl w.heap.size w)
 go_enter Tryz.func158, Tryz.ntmps158
 go_wp2_with (first
   | (guard_target = gB 2; refine step_box rfl _ rfl p rfl ?_; intro b2 w1 N R; have HG2 := H_ (nA HB.out N); have HB := H_ (below_on HB.out N.below); have HR2 := H_ R; clear N R)
   | (guard_target = gB 3; refine blk_box rfl 40 _ rfl (mvA m) rfl ?_; intro b3 w1 N R; have HG3 := H_ (nA HB.out N); have HR2 := H_ (HR2.out.later N.below); have HB := H_ (below_on HB.out N.below); have HR3 := H_ R; clear N R)
   | (guard_target = gL 2; refine step_load rfl _ rfl b2 rfl p HR2.out ?_)
   | (guard_target = gL 3; refine blk_load rfl 40 _ rfl b3 rfl (mvA m) HR3.out _ Tryz.underlying40 rfl sizeMv ?_)
   | (go_at_call 157; refine (cs_side p m _ HM.out).mono ?_; rintro e w3 ⟨rfl, hb⟩; rw [HD.out]; have HR2 := H_ (HR2.out.later hb); have HB := H_ (below_on HB.out hb); clear hb))
 refine late_begin 19 (by kernel_rfl) ?_
 refine lw 0 rfl ?_
 simp only [Act.put, pa, pb, pc]
 refine lv 1 rfl ⟨.int .u8 (p 78), fun w' hl => (run_get 5 _ rfl b2 78 rfl Tryz.underlying5 rfl (.int .u8 (p 78)) ((HR2.out.later hl).cell 78 (by decide))), ?_⟩
 simp only [Act.put, pa, pb, pc]
 refine lw 3 rfl ?_
 simp only [Act.put, pa, pb, pc]
 refine lv 4 rfl ⟨.pointer (some ⟨3, n * 2, none⟩), fun w' hl => ?_, ?_⟩
 ·(go_simp <;> (intro hbad; omega))
 simp only [Act.put, pa, pb, pc]
 refine lv 5 rfl ⟨.pointer (some ⟨3, n * 2, none⟩), fun w' hl => ?_, ?_⟩
 ·(go_simp <;> (intro hbad; omega))
 simp only [Act.put, pa, pb, pc]
 refine lv 6 rfl ⟨.int .i64 (gkC (n : Int)), fun w' hl => (run_get 3 _ rfl 3 (n * 2) rfl Tryz.underlying3 rfl (.int .i64 (gkC (n : Int))) (((HG.out.on HB.out).on hl).king HN.out)), ?_⟩
 simp only [Act.put, pa, pb, pc]
 refine lw 8 rfl ?_
 simp only [Act.put, pa, pb, pc]
 refine lv 9 rfl ⟨.int .u8 (p 78), fun w' hl => (run_get 5 _ rfl b2 78 rfl Tryz.underlying5 rfl (.int .u8 (p 78)) ((HR2.out.later hl).cell 78 (by decide))), ?_⟩
 simp only [Act.put, pa, pb, pc]
 refine lw 11 rfl ?_
 simp only [Act.put, pa, pb, pc]
 refine lv 12 rfl ⟨.pointer (some ⟨3, n * 2, none⟩), fun w' hl => ?_, ?_⟩
 ·(go_simp <;> (intro hbad; omega))
 simp only [Act.put, pa, pb, pc]
 refine lv 13 rfl ⟨.pointer (some ⟨3, n * 2 + 1, none⟩), fun w' hl => ?_, ?_⟩
 ·(go_simp <;> (intro hbad; omega))
 simp only [Act.put, pa, pb, pc]
 refine lv 14 rfl ⟨.int .i64 (grC (n : Int)), fun w' hl => (run_get 3 _ rfl 3 (n * 2 + 1) rfl Tryz.underlying3 rfl (.int .i64 (grC (n : Int))) (((HG.out.on HB.out).on hl).rook HN.out)), ?_⟩
 simp only [Act.put, pa, pb, pc]
 refine l1 2 rfl fun wn hl K hK => ?_
 have HR2 := H_ (HR2.out.later hl); have HB := H_ (below_on HB.out hl); clear hl
 refine we ?_
 refine (cs_home (p 78) _).mono ?_; rintro e wm ⟨rfl, rfl⟩; refine ⟨_, rfl, ?_⟩
 refine hK.out _ _ (Later.refl _) ?_
 clear hK K
 simp only [Act.put, pa, pb, pc]
 refine lv 7 rfl ⟨.int .i64 (hmC (p 78) + gkC (n : Int)), fun w' hl => ?_, ?_⟩
 ·(go_simp <;> (rw [IntKind.wrap_i64]; omega))
 simp only [Act.put, pa, pb, pc]
 refine l1 10 rfl fun wn hl K hK => ?_
 have HR2 := H_ (HR2.out.later hl); have HB := H_ (below_on HB.out hl); clear hl
 refine we ?_
 refine (cs_home (p 78) _).mono ?_; rintro e wm ⟨rfl, rfl⟩; refine ⟨_, rfl, ?_⟩
 refine hK.out _ _ (Later.refl _) ?_
 clear hK K
 simp only [Act.put, pa, pb, pc]
 refine lv 15 rfl ⟨.int .i64 (hmC (p 78) + grC (n : Int)), fun w' hl => ?_, ?_⟩
 ·(go_simp <;> (rw [IntKind.wrap_i64]; omega))
 simp only [Act.put, pa, pb, pc]
 refine lw 16 rfl ?_
 simp only [Act.put, pa, pb, pc]
 refine lw 17 rfl ?_
 simp only [Act.put, pa, pb, pc]
 refine lw 18 rfl ?_
 simp only [Act.put, pa, pb, pc]
 refine late_end (by kernel_rfl) (fun wn hl => ?_)
 have HR2 := H_ (HR2.out.later hl); have HB := H_ (below_on HB.out hl); clear hl
 go_wp2_with fail
 go_ret3
 exact ⟨rfl, HB.out⟩
end Go.Proofs.YteblmnbagbdiiaaGreatDoor
/-
 The squares from the one to the other one, as an iterator: castle's span.
-/
namespace Go.Proofs.YteblmnbagbdiiaaGreatDoor
open Go.RowKit Go.Shelf
set_option linter.unusedVariables false
set_option linter.unusedSimpArgs false
attribute [local go_sem] Oper.semAt_some

theorem take_next {α : Type} {L : List α} {i : Nat} {x : α} (h : L[i]? = some x) : L.take (i + 1) = L.take i ++ [x] := by rw [List.take_add_one, h]; rfl
theorem take_pre {α : Type} (L : List α) (i : Nat) : L.take i <+: L := List.take_prefix i L
def i64V (s : Int) : Value := .int .i64 s
theorem span_box (x y : Int) (w : World) : Calls Tryz.prog 219 #[.int .i64 x, .int .i64 y] w fun e w' => e = .returned (.func (.func 243) #[] #[.pointer (some ⟨w.heap.size, 0, none⟩), .pointer (some ⟨w.heap.size + 1, 0, none⟩)]) ∧ w' = (w.alloc (.cells #[.int .i64 x] 3)).alloc (.cells #[.int .i64 y] 3) := by
 go_enter Tryz.func219, Tryz.ntmps219
 go_wp2_with fail
 go_ret
 exact ⟨by simp, rfl⟩
theorem span_seq (n b c : Nat) (x y : Int) (hn : 1 ≤ n) (Y : Nat → Prop) (w : World) (hx : -1000 ≤ x ∧ x ≤ 1000) (hy : -1000 ≤ y ∧ y ≤ 1000) (hb : w.cell? ⟨b, 0, none⟩ = some (.int .i64 x)) (hc : w.cell? ⟨c, 0, none⟩ = some (.int .i64 y)) (hYb : ¬ Y b) (hYc : ¬ Y c) :
  SeqV i64V n 243 #[.pointer (some ⟨b, 0, none⟩), .pointer (some ⟨c, 0, none⟩)] Y (spL x y) w := by
 intro l J Jx W hW hJ hJx hyd h0
 have hcb : W.cell? ⟨b, 0, none⟩ = some (.int .i64 x) := (hW.cell (p := ⟨b, 0, none⟩) (cell_block hb)).trans hb
 have hcc : W.cell? ⟨c, 0, none⟩ = some (.int .i64 y) := (hW.cell (p := ⟨c, 0, none⟩) (cell_block hc)).trans hc
 have hXb : ¬ Xs Y w W b := by rintro (h | h); { exact hYb h }; { have := cell_block hb; simp at this; omega }
 have hXc : ¬ Xs Y w W c := by rintro (h | h); { exact hYc h }; { have := cell_block hc; simp at this; omega }
 simp only [i64V] at hyd
 have HY := H_ hyd
 have HXb := H_ hXb
 have HXc := H_ hXc
 have HJ := H_ h0
 obtain ⟨lo, hlo⟩ : ∃ lo, min x y = lo := ⟨_, rfl⟩
 obtain ⟨hi, hhi⟩ : ∃ hi, max x y = hi := ⟨_, rfl⟩
 have h1 : -1000 ≤ lo := by omega
 have h2 : lo ≤ hi := by omega
 have h3 : hi ≤ 1000 := by omega
 have HL := H_ (show ((spL x y).length : Int) = hi - lo + 1 by rw [spL_len, hlo, hhi])
 have HG := H_ (show ∀ i : Nat, (i : Int) < hi - lo + 1 → (spL x y)[i]? = some (lo + (i : Int)) by rw [← hlo, ← hhi]; exact fun i h => spL_get h)
 obtain ⟨L, hL⟩ : ∃ L, spL x y = L := ⟨_, rfl⟩
 rw [hL] at HL HG HY
 rw [hL]
 have hmin : (if x ≤ y then x else y) = lo := by split <;> omega
 have hmax : (if x ≤ y then y else x) = hi := by split <;> omega
 clear hyd h0 hb hc hW hJ hJx hXb hXc hYb hYc hL
 show CallsIn Fence.wide n Tryz.prog _ #[.func (.yield l) #[] #[], .pointer (some ⟨b, 0, none⟩), .pointer (some ⟨c, 0, none⟩)] W _
 refine callsIn_of_wp Tryz.func243 rfl trivial ?_ rfl
 simp only [Tryz.ntmps243, List.size_toArray, List.length_cons, List.length_nil, Nat.reduceAdd, Nat.reduceSub, Array.replicate_succ, Array.replicate_zero, List.push_toArray, List.append_toArray, List.nil_append, List.cons_append]
 gi_wp2
 gi_loopw [4] (fun p wr => ∃ i : Nat, p = .int .i64 (lo + (i : Int)) ∧ (i : Int) ≤ hi - lo + 1 ∧ wr.cell? ⟨b, 0, none⟩ = some (.int .i64 x) ∧ wr.cell? ⟨c, 0, none⟩ = some (.int .i64 y) ∧ J (L.take i) wr) (fun p _ => (hi + 1 - intOf p).toNat)
 case atStart => exact ⟨0, by simp, by simp; omega, hcb, hcc, by simpa using HJ.out⟩
 case round =>
  clear hcb hcc
  obtain ⟨i, rfl, hi1, hcb, hcc, hj⟩ := hrel
  by_cases h0 : (i : Int) ≤ hi - lo
  ·have hg := HG.out i (by omega)
   have ht := take_next hg
   have hp : L.take i ++ [lo + (i : Int)] <+: L := by rw [← ht]; exact take_pre _ _
   obtain ⟨fn, tmps, assign, body, hyy, hR⟩ := HY.out (L.take i) _ wr hj hp
   have hR : RoundIn Fence.wide (n - 1) Tryz.prog l fn tmps assign body wr _ := ⟨trivial, fun c cs _ => hR.2 c cs (room_wide _)⟩
   have gle : decide (lo + (i : Int) ≤ hi) = true := decide_eq_true (by omega)
   have hw1 : wrap64 (lo + (i : Int) + 1) = lo + (i : Int) + 1 := IntWalk.wrap64_in _ ⟨by omega, by omega⟩
   have HRr := H_ hR
   have HT := H_ ht
   have HP := H_ hp
   have HI := H_ hi1
   have H0 := H_ h0
   have HCb := H_ hcb
   have HCc := H_ hcc
   clear hg ht hp hR hj hi1 h0
   gi_wp2
   refine HRr.out.mono ?_
   rintro e W3 ⟨bb, rfl, hk, hJ3⟩
   cases bb
   ·rw [if_neg (by simp)] at hJ3
    have Hj := H_ hJ3
    clear hJ3 hk
    gi_wp2
    refine bodyPost_ret (results_none rfl _ _ _) rfl ?_
    exact ⟨⟨_, rfl⟩, .inr ⟨L.take i ++ [lo + (i : Int)], by simp, HP.out, Hj.out⟩⟩
   ·rw [if_pos rfl] at hJ3
    have Hj := H_ hJ3
    have Hb3 := H_ (hk.cell HCb.out HXb.out)
    have Hc3 := H_ (hk.cell HCc.out HXc.out)
    clear hJ3 hk hcb hcc
    gi_wp2
    go_roundw
    case rel => exact ⟨i + 1, by congr 1; have := H0.out; first | omega | (push_cast; omega), by have := H0.out; omega, Hb3.out, Hc3.out, by rw [HT.out]; exact Hj.out⟩
    case measure => simp only [intOf]; have := H0.out; omega
  ·have gle : decide (lo + (i : Int) ≤ hi) = false := decide_eq_false (by omega)
   have Hj := H_ (show J L wr by have e : L.take i = L := List.take_of_length_le (by have := HL.out; omega); rw [← e]; exact hj)
   clear hj
   gi_wp2
   go_end0
   exact ⟨⟨_, rfl⟩, .inl Hj.out⟩
end Go.Proofs.YteblmnbagbdiiaaGreatDoor
/-
 Contracts of castle's isFree, isSafe: loops over the squares from the one to the other one.
-/
namespace Go.Proofs.YteblmnbagbdiiaaGreatDoor
open Go.RowKit Go.Shelf
set_option linter.unusedVariables false
set_option linter.unusedSimpArgs false
attribute [local go_sem] Oper.semAt_some

def CellI (w : World) (b : Nat) (x : Int) : Prop := w.cell? ⟨b, 0, none⟩ = some (.int .i64 x)
theorem span_any (x y : Int) (w : World) : Calls Tryz.prog 219 #[.int .i64 x, .int .i64 y] w fun e w' => ∃ b c, e = .returned (.func (.func 243) #[] #[.pointer (some ⟨b, 0, none⟩), .pointer (some ⟨c, 0, none⟩)]) ∧ Below w.heap.size w w' ∧ w.heap.size ≤ b ∧ b < w'.heap.size ∧ w.heap.size ≤ c ∧ c < w'.heap.size ∧ CellI w' b x ∧ CellI w' c y := by
 refine (span_box x y w).mono ?_
 rintro e w' ⟨rfl, rfl⟩
 have e1 : (w.alloc (.cells #[.int .i64 x] 3)).heap.size = w.heap.size + 1 := by simp
 have hb : Below w.heap.size w ((w.alloc (.cells #[.int .i64 x] 3)).alloc (.cells #[.int .i64 y] 3)) := below_on (box_below _ _) (box_below _ _)
 refine ⟨w.heap.size, w.heap.size + 1, rfl, hb, Nat.le_refl _, by simp; omega, by omega, by simp, ?_, ?_⟩
 ·have h1 : (w.alloc (.cells #[.int .i64 x] 3)).cell? ⟨w.heap.size, 0, none⟩ = some (.int .i64 x) := cell_new w _ _
  exact ((box_below (w.alloc (.cells #[.int .i64 x] 3)) (.cells #[.int .i64 y] 3)).cell (p := ⟨w.heap.size, 0, none⟩) (by rw [e1]; simp)).trans h1
 ·have h2 := cell_new (w.alloc (.cells #[.int .i64 x] 3)) (.int .i64 y) 3
  rw [e1] at h2; exact h2
theorem stepRc {r n : Nat} {P : Program} {ops : Array Oper} {Q : Exit → Act → World → Prop} {rest : List Oper} {o : Oper} {a : Act} {w w' : World} {v : Value} (hg : o.guard = none) (hd : ∀ c, o.op ≠ .defer c) (hr : (execOp a.eval o).run P w = .ok (.value v) w')
  (h : wpListIn (Fence.wide.inRound r) n P ops Q rest (a.put o.dst v) w') : wpListIn (Fence.wide.inRound r) n P ops Q (o :: rest) a w :=
 wpListIn_plain hg fun K hK => opIn_of hd (by rw [hr]; exact hK _ _ h)
theorem row_kept {w w' : World} {X : Nat → Prop} {b : Nat} {p : Nat → Int} (h : Row w b p) (k : Kept X w w') (hx : ¬ X b) : Row w' b p := k.obj (show w.heap[b]? = _ from h) hx
theorem all_snoc {α : Type} {f : α → Bool} {l : List α} {x : α} (h : l.all f = true) (hx : f x = true) : (l ++ [x]).all f = true := by rw [List.all_append, h]; simp [hx]
theorem all_stop {α : Type} {f : α → Bool} {l pre : List α} {x : α} (hp : pre ++ [x] <+: l) (hx : f x = false) : l.all f = false := by
 have hm : x ∈ l := hp.subset (by simp)
 cases g : l.all f
 ·rfl
 ·rw [List.all_eq_true] at g; rw [g x hm] at hx; cases hx
theorem ps_atZc {p : Nat → Int} (hp : BdR p) (s : Int) : 0 ≤ atZ p s ∧ atZ p s ≤ 255 := by
 unfold atZ
 by_cases h : sq s = true
 ·rw [if_pos h]
  obtain ⟨n, hn, rfl⟩ := nat_of_sq h
  rw [Int.toNat_natCast]
  by_cases g : pcB (p (1 + n)) = true
  ·rw [if_pos g]; exact hp n hn
  ·rw [if_neg g]; omega
 ·rw [if_neg h]; omega
theorem cs_free_in (p : Nat → Int) (x y : Int) (w : World) (hp : AtR p) (hx : -1000 ≤ x ∧ x ≤ 1000) (hy : -1000 ≤ y ∧ y ≤ 1000) (hT : CsT w) : CallsIn Fence.wide 7 Tryz.prog 160 #[.agg (posA p), .int .i64 x, .int .i64 y] w (BoL (freeC p x y) w) := by
 have HP := H_ hp
 have HT := H_ hT
 clear hp hT
 refine callsIn_of_wp_marks Tryz.func160 rfl trivial ?_ rfl
 simp only [Tryz.ntmps160, List.size_toArray, List.length_cons, List.length_nil, Nat.reduceAdd, Nat.reduceSub, Array.replicate_succ, Array.replicate_zero, List.push_toArray, List.append_toArray, List.nil_append, List.cons_append]
 have HR := H_ (row_old (row_new w p) (.cells #[.bool false] 4))
 gi_wp2_with (first
  | (refine stepIn2 rfl (run_boxP _ rfl p rfl) ?_)
  | (refine stepIn rfl (run_load _ rfl _ rfl p HR.out) ?_)
  | (refine ⟨trivial, ?_⟩; gi_at_call 219; refine (callsIn_wide.2 (span_any x y _)).mono ?_; rintro e w2 ⟨b, c, rfl, hb, hb0, hb1', hc0, hc1, hcb, hcc⟩))
 obtain ⟨w1, hw1⟩ : ∃ w1, w1 = (w.alloc (.cells (posA p) 31)).alloc (.cells #[.bool false] 4) := ⟨_, rfl⟩
 have hx1 : Boxed w1 (w.heap.size + 1) 4 (.bool false) := by rw [hw1, ← size_new w (.cells (posA p) 31)]; exact Boxed.new _ _ _
 have hr1 : Row w1 w.heap.size p := by rw [hw1]; exact HR.out
 have hs1 : w1.heap.size = w.heap.size + 2 := by rw [hw1, size_new, size_new]
 have hb1 : Below w.heap.size w w1 := by rw [hw1]; exact below_on (box_below _ _) (box_below _ _)
 rw [← hw1] at hb hb0 hc0
 clear hw1
 have hb2 := below_on hb1 hb
 have hx2 : Boxed w2 (w.heap.size + 1) 4 (.bool false) := boxed_kept hx1 (Kept.of_call (fun _ => False) hb) id
 have hr2 : Row w2 w.heap.size p := row_kept hr1 (Kept.of_call (fun _ => False) hb) id
 have l3 := hb.size
 have HS := H_ (show w.heap.size + 2 ≤ w2.heap.size by omega)
 have hA' := span_seq 6 b c x y (by omega) (· = w.heap.size + 1) w2 hx hy hcb hcc (by omega) (by omega)
 clear HR hb hb0 hx1 hs1 hb1 hr1 hcb hcc hc0 hc1 hb1' l3
 have HB2 := H_ hb2
 obtain ⟨gd, HGd⟩ : ∃ gd : Int → Bool, Hid (∀ s, gd s = (atZ p s == 0)) := ⟨_, H_ fun _ => rfl⟩
 have HV := H_ (show freeC p x y = (spL x y).all gd by unfold freeC; rw [show gd = fun s => (atZ p s == 0) from funext HGd.out])
 obtain ⟨L, hL⟩ : ∃ L, spL x y = L := ⟨_, rfl⟩
 rw [hL] at HV hA'
 clear hL
 refine range_seq (n := 7) rfl (enters_of Tryz.func243 (by kernel_rfl) rfl) (· = w.heap.size + 1) (fun k e => by have := HS.out; omega) L hA'
  (fun pre A => pre.all gd = true ∧ Boxed A (w.heap.size + 1) 4 (.bool false) ∧ Row A w.heap.size p ∧ Below w.heap.size w A) (fun pre A => L.all gd = false ∧ Boxed A (w.heap.size + 1) 4 (.bool false) ∧ Below w.heap.size w A) ?hI ?hIx ⟨rfl, hx2, hr2, hb2⟩
  (fun s => { tmps := #[.agg (posA p), .int .i64 x, .int .i64 y, .pointer (some ⟨w.heap.size, 0, none⟩), undef, undef, .pointer (some ⟨w.heap.size + 1, 0, none⟩), .int .i64 s, .int .i64 x, .int .i64 y, .func (.func 243) #[] #[.pointer (some ⟨b, 0, none⟩), .pointer (some ⟨c, 0, none⟩)], .int .i64 s, undef, undef, undef, undef], defers := [] }) ?assign ?body ?done ?stop
 case hI => exact fun q A A' h k => ⟨h.1, boxed_kept h.2.1 k (by have := HS.out; omega), row_kept h.2.2.1 k (by have := HS.out; omega), h.2.2.2.trans (k.below (fun i hi => by have := HS.out; omega) h.2.2.2.size)⟩
 case hIx => exact fun q A A' h k => ⟨h.1, boxed_kept h.2.1 k (by have := HS.out; omega), h.2.2.trans (k.below (fun i hi => by have := HS.out; omega) h.2.2.size)⟩
 case assign =>
  intro l s W K hK
  gi_wp2
  exact hK
 case body =>
  rintro l pre s A ⟨hall, hv, hrw, hB⟩ hpre
  have Hv := H_ hv
  have HR := H_ hrw
  have HB := H_ hB
  have HA := H_ hall
  have HPre := H_ hpre
  clear hx2 hb2 hA' hr2 hv hB hpre hrw hall
  have HQ := H_ (Kept.refl (· = w.heap.size + 1) A)
  have hz := ps_atZc HP.out.bd s
  cases g : (atZ p s == 0)
  ·have HGs := H_ (show gd s = false by rw [HGd.out, g])
   gi_wp2_with (first
    | (refine stepRc rfl (fun c h => by cases h) (run_load _ rfl _ rfl p HR.out) ?_)
    | (refine ⟨trivial, ?_⟩; gi_at_call 62; refine (CallsIn.inRound l (callsIn_wide.2 (at_any p s _ HP.out.bd))).mono ?_; rintro e w3 ⟨rfl, hb⟩; have HQ := H_ (HQ.out.trans (Kept.of_call _ hb)); have Hv := H_ (boxed_kept Hv.out (Kept.of_call (fun _ => False) hb) id); have HB := H_ (HB.out.trans (hb.mono HB.out.size)); have hcv := Hv.out.cell; have hfv := Hv.out.frozen; clear hb))
   exact ⟨(HQ.out.trans (Kept.setCell _ _ _ _)), all_stop HPre.out HGs.out, Hv.out.set _, HB.out.setCell (p := ⟨w.heap.size + 1, 0, none⟩) (by simp) _⟩
  ·have HGs := H_ (show gd s = true by rw [HGd.out, g])
   gi_wp2_with (first
    | (refine stepRc rfl (fun c h => by cases h) (run_load _ rfl _ rfl p HR.out) ?_)
    | (refine ⟨trivial, ?_⟩; gi_at_call 62; refine (CallsIn.inRound l (callsIn_wide.2 (at_any p s _ HP.out.bd))).mono ?_; rintro e w3 ⟨rfl, hb⟩; have HQ := H_ (HQ.out.trans (Kept.of_call _ hb)); have Hv := H_ (boxed_kept Hv.out (Kept.of_call (fun _ => False) hb) id); have HR := H_ (row_kept HR.out (Kept.of_call (fun _ => False) hb) id); have HB := H_ (HB.out.trans (hb.mono HB.out.size)); clear hb))
   exact ⟨HQ.out, all_snoc HA.out HGs.out, Hv.out, HR.out, HB.out⟩
 case done =>
  rintro W ⟨hall, hv, hrw, hB⟩ hK
  have hcv := hv.cell
  have hfv := hv.frozen
  have Hv := H_ hv
  have HB := H_ hB
  have HK := H_ hK
  have HN := H_ hall
  clear hx2 hb2 hA' hr2 hv hB hK hall hrw
  gi_wp2_with fail
  have hK' := (Kept.setCell (w.heap.size + 1) 0 (.bool true) W).obj HK.out (by have := HS.out; omega)
  refine marks_leave (lo := w2.heap.size) (hi := w2.heap.size + 1) ⟨w2.heap.size, rfl, Nat.le_refl _, by omega, hK', trivial⟩ (fun w' hk => ?_)
  have hx := boxed_kept (Hv.out.set (.bool true)) hk (by have := HS.out; omega)
  have hc5 := hx.cell
  refine ⟨.bool true, ?_, by rw [HV.out, HN.out], (HB.out.setCell (p := ⟨w.heap.size + 1, 0, none⟩) (by simp) _).trans (hk.below (fun i hi => by have := HS.out; omega) (by have := HB.out.size; simp [World.setCell]; omega))⟩
  simp [results, Tryz.f160, go_sem, hc5]
 case stop =>
  rintro pre W hne hpre ⟨hN, hv, hB⟩ hK
  have Hv := H_ hv
  have HB := H_ hB
  have HK := H_ hK
  have HN := H_ hN
  clear hx2 hb2 hA' hr2 hv hB hK hne hpre hN
  gi_wp2_with fail
  refine marks_leave (lo := w2.heap.size) (hi := w2.heap.size + 1) ⟨w2.heap.size, rfl, Nat.le_refl _, by omega, HK.out, trivial⟩ (fun w' hk => ?_)
  have hc5 := (boxed_kept Hv.out hk (by have := HS.out; omega)).cell
  refine ⟨.bool false, ?_, by rw [HV.out, HN.out], HB.out.trans (hk.below (fun i hi => by have := HS.out; omega) HB.out.size)⟩
  simp [results, Tryz.f160, go_sem, hc5]
theorem cs_free_any (p : Nat → Int) (x y : Int) (w : World) (hp : AtR p) (hx : -1000 ≤ x ∧ x ≤ 1000) (hy : -1000 ≤ y ∧ y ≤ 1000) (hT : CsT w) : Calls Tryz.prog 160 #[.agg (posA p), .int .i64 x, .int .i64 y] w (BoL (freeC p x y) w) :=
 callsIn_wide.1 (cs_free_in p x y w hp hx hy hT)
theorem cs_safe_in (p : Nat → Int) (x y : Int) (w : World) (hp : AtR p) (hx : -1000 ≤ x ∧ x ≤ 1000) (hy : -1000 ≤ y ∧ y ≤ 1000) (hT : CsT w) : CallsIn Fence.wide 7 Tryz.prog 161 #[.agg (posA p), .int .i64 x, .int .i64 y] w (BoL (safeC p x y) w) := by
 have HP := H_ hp
 have HT := H_ hT
 clear hp hT
 refine callsIn_of_wp_marks Tryz.func161 rfl trivial ?_ rfl
 simp only [Tryz.ntmps161, List.size_toArray, List.length_cons, List.length_nil, Nat.reduceAdd, Nat.reduceSub, Array.replicate_succ, Array.replicate_zero, List.push_toArray, List.append_toArray, List.nil_append, List.cons_append]
 have HR := H_ (row_old (row_new w p) (.cells #[.bool false] 4))
 gi_wp2_with (first
  | (refine stepIn2 rfl (run_boxP _ rfl p rfl) ?_)
  | (refine stepIn rfl (run_load _ rfl _ rfl p HR.out) ?_)
  | (refine ⟨trivial, ?_⟩; gi_at_call 219; refine (callsIn_wide.2 (span_any x y _)).mono ?_; rintro e w2 ⟨b, c, rfl, hb, hb0, hb1', hc0, hc1, hcb, hcc⟩))
 obtain ⟨w1, hw1⟩ : ∃ w1, w1 = (w.alloc (.cells (posA p) 31)).alloc (.cells #[.bool false] 4) := ⟨_, rfl⟩
 have hx1 : Boxed w1 (w.heap.size + 1) 4 (.bool false) := by rw [hw1, ← size_new w (.cells (posA p) 31)]; exact Boxed.new _ _ _
 have hr1 : Row w1 w.heap.size p := by rw [hw1]; exact HR.out
 have hs1 : w1.heap.size = w.heap.size + 2 := by rw [hw1, size_new, size_new]
 have hb1 : Below w.heap.size w w1 := by rw [hw1]; exact below_on (box_below _ _) (box_below _ _)
 rw [← hw1] at hb hb0 hc0
 clear hw1
 have hb2 := below_on hb1 hb
 have hx2 : Boxed w2 (w.heap.size + 1) 4 (.bool false) := boxed_kept hx1 (Kept.of_call (fun _ => False) hb) id
 have hr2 : Row w2 w.heap.size p := row_kept hr1 (Kept.of_call (fun _ => False) hb) id
 have l3 := hb.size
 have HS := H_ (show w.heap.size + 2 ≤ w2.heap.size by omega)
 have hA' := span_seq 6 b c x y (by omega) (· = w.heap.size + 1) w2 hx hy hcb hcc (by omega) (by omega)
 clear HR hb hb0 hx1 hs1 hb1 hr1 hcb hcc hc0 hc1 hb1' l3
 have HB2 := H_ hb2
 obtain ⟨gd, HGd⟩ : ∃ gd : Int → Bool, Hid (∀ s, gd s = (!bdC p s)) := ⟨_, H_ fun _ => rfl⟩
 have HV := H_ (show safeC p x y = (spL x y).all gd by unfold safeC; rw [show gd = fun s => (!bdC p s) from funext HGd.out])
 obtain ⟨L, hL⟩ : ∃ L, spL x y = L := ⟨_, rfl⟩
 rw [hL] at HV hA'
 clear hL
 refine range_seq (n := 7) rfl (enters_of Tryz.func243 (by kernel_rfl) rfl) (· = w.heap.size + 1) (fun k e => by have := HS.out; omega) L hA'
  (fun pre A => pre.all gd = true ∧ Boxed A (w.heap.size + 1) 4 (.bool false) ∧ Row A w.heap.size p ∧ Below w.heap.size w A) (fun pre A => L.all gd = false ∧ Boxed A (w.heap.size + 1) 4 (.bool false) ∧ Below w.heap.size w A) ?hI ?hIx ⟨rfl, hx2, hr2, hb2⟩
  (fun s => { tmps := #[.agg (posA p), .int .i64 x, .int .i64 y, .pointer (some ⟨w.heap.size, 0, none⟩), undef, undef, .pointer (some ⟨w.heap.size + 1, 0, none⟩), .int .i64 s, .int .i64 x, .int .i64 y, .func (.func 243) #[] #[.pointer (some ⟨b, 0, none⟩), .pointer (some ⟨c, 0, none⟩)], .int .i64 s, undef, undef, undef, undef, undef, undef, undef, undef, undef, undef, undef, undef], defers := [] }) ?assign ?body ?done ?stop
 case hI => exact fun q A A' h k => ⟨h.1, boxed_kept h.2.1 k (by have := HS.out; omega), row_kept h.2.2.1 k (by have := HS.out; omega), h.2.2.2.trans (k.below (fun i hi => by have := HS.out; omega) h.2.2.2.size)⟩
 case hIx => exact fun q A A' h k => ⟨h.1, boxed_kept h.2.1 k (by have := HS.out; omega), h.2.2.trans (k.below (fun i hi => by have := HS.out; omega) h.2.2.size)⟩
 case assign =>
  intro l s W K hK
  gi_wp2
  exact hK
 case body =>
  rintro l pre s A ⟨hall, hv, hrw, hB⟩ hpre
  have Hv := H_ hv
  have HR := H_ hrw
  have HB := H_ hB
  have HA := H_ hall
  have HPre := H_ hpre
  clear hx2 hb2 hA' hr2 hv hB hpre hrw hall
  have HQ := H_ (Kept.refl (· = w.heap.size + 1) A)
  have HF := H_ (show Tryz.prog.follows .mixedOrders = true by kernel_rfl)
  have HO := H_ (show 0 ≤ oth (p 78) by unfold oth; omega)
  cases g1 : anyB p s (oth (p 78))
  ·have HGs := H_ (show gd s = true by rw [HGd.out]; unfold bdC; rw [g1]; rfl)
   have HOn := H_ g1
   clear g1
   gi_wp2_with fail
   refine mid_begin (X := (· = w.heap.size + 1)) HF.out ?_
   refine mid_take 0 (by kernel_rfl) (by kernel_rfl) (by kernel_rfl) (by kernel_rfl) (by kernel_rfl) (fun _ _ d _ _ h => by cases d <;> exact h) (fun o ho => ?_)
   simp only [qa, qb, qc, qd] at ho; subst ho
   refine ⟨_, Or.inl ⟨by kernel_rfl, fun w' hl => run_load _ rfl _ rfl p (row_kept HR.out hl (by omega))⟩, ?_⟩
   simp only [Act.put, pa, pb, pc]
   refine mid_take 1 (by kernel_rfl) (by kernel_rfl) (by kernel_rfl) (by kernel_rfl) (by kernel_rfl) (fun _ _ d _ _ h => by cases d <;> exact h) (fun o ho => ?_)
   simp only [qa, qb, qc, qd] at ho; subst ho
   apply Exists.intro
   refine ⟨Or.inl ⟨by kernel_rfl, fun w' hl => ?_⟩, ?_⟩
   ·(go_simp; try with_reducible rfl)
   simp only [Act.put, pa, pb, pc]
   refine mid_take 2 (by kernel_rfl) (by kernel_rfl) (by kernel_rfl) (by kernel_rfl) (by kernel_rfl) (fun _ _ d _ _ h => by cases d <;> exact h) (fun o ho => ?_)
   simp only [qa, qb, qc, qd] at ho; subst ho
   apply Exists.intro
   refine ⟨Or.inl ⟨by kernel_rfl, fun w' hl => ?_⟩, ?_⟩
   ·(go_simp; try with_reducible rfl)
   simp only [Act.put, pa, pb, pc]
   refine mid_take 3 (by kernel_rfl) (by kernel_rfl) (by kernel_rfl) (by kernel_rfl) (by kernel_rfl) (fun _ _ d _ _ h => by cases d <;> exact h) (fun o ho => ?_)
   simp only [qa, qb, qc, qd] at ho; subst ho
   refine ⟨_, Or.inl ⟨by kernel_rfl, fun w' hl => run_get 5 _ rfl w.heap.size 78 rfl Tryz.underlying5 rfl (.int .u8 (p 78)) ((row_kept HR.out hl (by omega)).cell 78 (by decide))⟩, ?_⟩
   simp only [Act.put, pa, pb, pc]
   refine mid_one 4 (by kernel_rfl) (by kernel_rfl) (by kernel_rfl) (fun o ho => ?_)
   simp only [qa, qb, qc, qd] at ho; subst ho
   refine ⟨by kernel_rfl, fun wq hl K2 hK2 => ?_⟩
   have HQ := H_ (HQ.out.trans (Kept.of_call _ hl)); have Hv := H_ (boxed_kept Hv.out (Kept.of_call (fun _ => False) hl) id); have HR := H_ (row_kept HR.out (Kept.of_call (fun _ => False) hl) id); have HB := H_ (HB.out.trans (hl.mono HB.out.size)); clear hl
   refine mid_call _ _ (by go_simp; exact ⟨rfl, rfl⟩) ?_
   refine (cs_other (p 78) _).mono ?_; rintro e w3 ⟨rfl, rfl⟩; refine ⟨_, rfl, ?_⟩
   refine hK2.out _ _ (Kept.refl _ _) ?_
   clear hK2 K2
   simp only [Act.put, pa, pb, pc]
   refine mid_one 5 (by kernel_rfl) (by kernel_rfl) (by kernel_rfl) (fun o ho => ?_)
   simp only [qa, qb, qc, qd] at ho; subst ho
   refine ⟨by kernel_rfl, fun wq hl K2 hK2 => ?_⟩
   have HQ := H_ (HQ.out.trans (Kept.of_call _ hl)); have Hv := H_ (boxed_kept Hv.out (Kept.of_call (fun _ => False) hl) id); have HR := H_ (row_kept HR.out (Kept.of_call (fun _ => False) hl) id); have HB := H_ (HB.out.trans (hl.mono HB.out.size)); clear hl
   refine mid_call _ _ (by go_simp; exact ⟨rfl, rfl⟩) ?_
   refine (on_any p s (oth (p 78)) _ HP.out.bd (HO.out) (HT.out.on HB.out).db (HT.out.on HB.out).lead).mono ?_; rintro e w3 ⟨rfl, hb⟩; rw [HOn.out]; refine ⟨_, rfl, ?_⟩
   refine hK2.out _ _ (Kept.of_call _ hb) ?_
   have HQ := H_ (HQ.out.trans (Kept.of_call _ hb)); have Hv := H_ (boxed_kept Hv.out (Kept.of_call (fun _ => False) hb) id); have HR := H_ (row_kept HR.out (Kept.of_call (fun _ => False) hb) id); have HB := H_ (HB.out.trans (hb.mono HB.out.size)); clear hb
   clear hK2 K2
   simp only [Act.put, pa, pb, pc]
   refine mid_take 6 (by kernel_rfl) (by kernel_rfl) (by kernel_rfl) (by kernel_rfl) (by kernel_rfl) (fun _ _ d _ _ h => by cases d <;> exact h) (fun o ho => ?_)
   simp only [qa, qb, qc, qd] at ho; subst ho
   apply Exists.intro
   refine ⟨Or.inl ⟨by kernel_rfl, fun w' hl => ?_⟩, ?_⟩
   ·(go_simp; try with_reducible rfl)
   simp only [Act.put, pa, pb, pc]
   refine mid_take 7 (by kernel_rfl) (by kernel_rfl) (by kernel_rfl) (by kernel_rfl) (by kernel_rfl) (fun _ _ d _ _ h => by cases d <;> exact h) (fun o ho => ?_)
   simp only [qa, qb, qc, qd] at ho; subst ho
   refine ⟨_, Or.inr ⟨by kernel_rfl, rfl⟩, ?_⟩
   simp only [Act.put, pa, pb, pc]
   refine mid_take 8 (by kernel_rfl) (by kernel_rfl) (by kernel_rfl) (by kernel_rfl) (by kernel_rfl) (fun _ _ d _ _ h => by cases d <;> exact h) (fun o ho => ?_)
   simp only [qa, qb, qc, qd] at ho; subst ho
   refine ⟨_, Or.inr ⟨by kernel_rfl, rfl⟩, ?_⟩
   simp only [Act.put, pa, pb, pc]
   refine mid_take 9 (by kernel_rfl) (by kernel_rfl) (by kernel_rfl) (by kernel_rfl) (by kernel_rfl) (fun _ _ d _ _ h => by cases d <;> exact h) (fun o ho => ?_)
   simp only [qa, qb, qc, qd] at ho; subst ho
   refine ⟨_, Or.inr ⟨by kernel_rfl, rfl⟩, ?_⟩
   simp only [Act.put, pa, pb, pc]
   refine mid_take 10 (by kernel_rfl) (by kernel_rfl) (by kernel_rfl) (by kernel_rfl) (by kernel_rfl) (fun _ _ d _ _ h => by cases d <;> exact h) (fun o ho => ?_)
   simp only [qa, qb, qc, qd] at ho; subst ho
   refine ⟨_, Or.inr ⟨by kernel_rfl, rfl⟩, ?_⟩
   simp only [Act.put, pa, pb, pc]
   refine mid_take 11 (by kernel_rfl) (by kernel_rfl) (by kernel_rfl) (by kernel_rfl) (by kernel_rfl) (fun _ _ d _ _ h => by cases d <;> exact h) (fun o ho => ?_)
   simp only [qa, qb, qc, qd] at ho; subst ho
   apply Exists.intro
   refine ⟨Or.inl ⟨by kernel_rfl, fun w' hl => ?_⟩, ?_⟩
   ·(go_simp; try with_reducible rfl)
   simp only [Act.put, pa, pb, pc]
   refine mid_end (by kernel_rfl) (fun wz hz => ?_)
   have HQ := H_ (HQ.out.trans (Kept.of_call _ hz)); have Hv := H_ (boxed_kept Hv.out (Kept.of_call (fun _ => False) hz) id); have HR := H_ (row_kept HR.out (Kept.of_call (fun _ => False) hz) id); have HB := H_ (HB.out.trans (hz.mono HB.out.size)); clear hz
   have hcv := Hv.out.cell
   have hfv := Hv.out.frozen
   gi_wp2_with fail
   exact ⟨HQ.out, all_snoc HA.out HGs.out, Hv.out, HR.out, HB.out⟩
  ·cases g2 : shelB p s (p 78)
   ·have HGs := H_ (show gd s = false by rw [HGd.out]; unfold bdC; rw [g1, g2]; rfl)
    have HOn := H_ g1
    have HSh := H_ g2
    clear g1 g2
    gi_wp2_with fail
    refine mid_begin (X := (· = w.heap.size + 1)) HF.out ?_
    refine mid_take 0 (by kernel_rfl) (by kernel_rfl) (by kernel_rfl) (by kernel_rfl) (by kernel_rfl) (fun _ _ d _ _ h => by cases d <;> exact h) (fun o ho => ?_)
    simp only [qa, qb, qc, qd] at ho; subst ho
    refine ⟨_, Or.inl ⟨by kernel_rfl, fun w' hl => run_load _ rfl _ rfl p (row_kept HR.out hl (by omega))⟩, ?_⟩
    simp only [Act.put, pa, pb, pc]
    refine mid_take 1 (by kernel_rfl) (by kernel_rfl) (by kernel_rfl) (by kernel_rfl) (by kernel_rfl) (fun _ _ d _ _ h => by cases d <;> exact h) (fun o ho => ?_)
    simp only [qa, qb, qc, qd] at ho; subst ho
    apply Exists.intro
    refine ⟨Or.inl ⟨by kernel_rfl, fun w' hl => ?_⟩, ?_⟩
    ·(go_simp; try with_reducible rfl)
    simp only [Act.put, pa, pb, pc]
    refine mid_take 2 (by kernel_rfl) (by kernel_rfl) (by kernel_rfl) (by kernel_rfl) (by kernel_rfl) (fun _ _ d _ _ h => by cases d <;> exact h) (fun o ho => ?_)
    simp only [qa, qb, qc, qd] at ho; subst ho
    apply Exists.intro
    refine ⟨Or.inl ⟨by kernel_rfl, fun w' hl => ?_⟩, ?_⟩
    ·(go_simp; try with_reducible rfl)
    simp only [Act.put, pa, pb, pc]
    refine mid_take 3 (by kernel_rfl) (by kernel_rfl) (by kernel_rfl) (by kernel_rfl) (by kernel_rfl) (fun _ _ d _ _ h => by cases d <;> exact h) (fun o ho => ?_)
    simp only [qa, qb, qc, qd] at ho; subst ho
    refine ⟨_, Or.inl ⟨by kernel_rfl, fun w' hl => run_get 5 _ rfl w.heap.size 78 rfl Tryz.underlying5 rfl (.int .u8 (p 78)) ((row_kept HR.out hl (by omega)).cell 78 (by decide))⟩, ?_⟩
    simp only [Act.put, pa, pb, pc]
    refine mid_one 4 (by kernel_rfl) (by kernel_rfl) (by kernel_rfl) (fun o ho => ?_)
    simp only [qa, qb, qc, qd] at ho; subst ho
    refine ⟨by kernel_rfl, fun wq hl K2 hK2 => ?_⟩
    have HQ := H_ (HQ.out.trans (Kept.of_call _ hl)); have Hv := H_ (boxed_kept Hv.out (Kept.of_call (fun _ => False) hl) id); have HR := H_ (row_kept HR.out (Kept.of_call (fun _ => False) hl) id); have HB := H_ (HB.out.trans (hl.mono HB.out.size)); clear hl
    refine mid_call _ _ (by go_simp; exact ⟨rfl, rfl⟩) ?_
    refine (cs_other (p 78) _).mono ?_; rintro e w3 ⟨rfl, rfl⟩; refine ⟨_, rfl, ?_⟩
    refine hK2.out _ _ (Kept.refl _ _) ?_
    clear hK2 K2
    simp only [Act.put, pa, pb, pc]
    refine mid_one 5 (by kernel_rfl) (by kernel_rfl) (by kernel_rfl) (fun o ho => ?_)
    simp only [qa, qb, qc, qd] at ho; subst ho
    refine ⟨by kernel_rfl, fun wq hl K2 hK2 => ?_⟩
    have HQ := H_ (HQ.out.trans (Kept.of_call _ hl)); have Hv := H_ (boxed_kept Hv.out (Kept.of_call (fun _ => False) hl) id); have HR := H_ (row_kept HR.out (Kept.of_call (fun _ => False) hl) id); have HB := H_ (HB.out.trans (hl.mono HB.out.size)); clear hl
    refine mid_call _ _ (by go_simp; exact ⟨rfl, rfl⟩) ?_
    refine (on_any p s (oth (p 78)) _ HP.out.bd (HO.out) (HT.out.on HB.out).db (HT.out.on HB.out).lead).mono ?_; rintro e w3 ⟨rfl, hb⟩; rw [HOn.out]; refine ⟨_, rfl, ?_⟩
    refine hK2.out _ _ (Kept.of_call _ hb) ?_
    have HQ := H_ (HQ.out.trans (Kept.of_call _ hb)); have Hv := H_ (boxed_kept Hv.out (Kept.of_call (fun _ => False) hb) id); have HR := H_ (row_kept HR.out (Kept.of_call (fun _ => False) hb) id); have HB := H_ (HB.out.trans (hb.mono HB.out.size)); clear hb
    clear hK2 K2
    simp only [Act.put, pa, pb, pc]
    refine mid_take 6 (by kernel_rfl) (by kernel_rfl) (by kernel_rfl) (by kernel_rfl) (by kernel_rfl) (fun _ _ d _ _ h => by cases d <;> exact h) (fun o ho => ?_)
    simp only [qa, qb, qc, qd] at ho; subst ho
    apply Exists.intro
    refine ⟨Or.inl ⟨by kernel_rfl, fun w' hl => ?_⟩, ?_⟩
    ·(go_simp; try with_reducible rfl)
    simp only [Act.put, pa, pb, pc]
    refine mid_take 7 (by kernel_rfl) (by kernel_rfl) (by kernel_rfl) (by kernel_rfl) (by kernel_rfl) (fun _ _ d _ _ h => by cases d <;> exact h) (fun o ho => ?_)
    simp only [qa, qb, qc, qd] at ho; subst ho
    refine ⟨_, Or.inl ⟨by kernel_rfl, fun w' hl => run_load _ rfl _ rfl p (row_kept HR.out hl (by omega))⟩, ?_⟩
    simp only [Act.put, pa, pb, pc]
    refine mid_take 8 (by kernel_rfl) (by kernel_rfl) (by kernel_rfl) (by kernel_rfl) (by kernel_rfl) (fun _ _ d _ _ h => by cases d <;> exact h) (fun o ho => ?_)
    simp only [qa, qb, qc, qd] at ho; subst ho
    apply Exists.intro
    refine ⟨Or.inl ⟨by kernel_rfl, fun w' hl => ?_⟩, ?_⟩
    ·(go_simp; try with_reducible rfl)
    simp only [Act.put, pa, pb, pc]
    refine mid_one 9 (by kernel_rfl) (by kernel_rfl) (by kernel_rfl) (fun o ho => ?_)
    simp only [qa, qb, qc, qd] at ho; subst ho
    refine ⟨by kernel_rfl, fun wq hl K2 hK2 => ?_⟩
    have HQ := H_ (HQ.out.trans (Kept.of_call _ hl)); have Hv := H_ (boxed_kept Hv.out (Kept.of_call (fun _ => False) hl) id); have HR := H_ (row_kept HR.out (Kept.of_call (fun _ => False) hl) id); have HB := H_ (HB.out.trans (hl.mono HB.out.size)); clear hl
    refine mid_call _ _ (by go_simp; exact ⟨rfl, rfl⟩) ?_
    refine (cs_shel p s _ HP.out.bd (HT.out.on HB.out).lead).mono ?_; rintro e w3 ⟨rfl, hb⟩; rw [HSh.out]; refine ⟨_, rfl, ?_⟩
    refine hK2.out _ _ (Kept.of_call _ hb) ?_
    have HQ := H_ (HQ.out.trans (Kept.of_call _ hb)); have Hv := H_ (boxed_kept Hv.out (Kept.of_call (fun _ => False) hb) id); have HR := H_ (row_kept HR.out (Kept.of_call (fun _ => False) hb) id); have HB := H_ (HB.out.trans (hb.mono HB.out.size)); clear hb
    clear hK2 K2
    simp only [Act.put, pa, pb, pc]
    refine mid_take 10 (by kernel_rfl) (by kernel_rfl) (by kernel_rfl) (by kernel_rfl) (by kernel_rfl) (fun _ _ d _ _ h => by cases d <;> exact h) (fun o ho => ?_)
    simp only [qa, qb, qc, qd] at ho; subst ho
    apply Exists.intro
    refine ⟨Or.inl ⟨by kernel_rfl, fun w' hl => ?_⟩, ?_⟩
    ·(go_simp; try with_reducible rfl)
    simp only [Act.put, pa, pb, pc]
    refine mid_take 11 (by kernel_rfl) (by kernel_rfl) (by kernel_rfl) (by kernel_rfl) (by kernel_rfl) (fun _ _ d _ _ h => by cases d <;> exact h) (fun o ho => ?_)
    simp only [qa, qb, qc, qd] at ho; subst ho
    apply Exists.intro
    refine ⟨Or.inl ⟨by kernel_rfl, fun w' hl => ?_⟩, ?_⟩
    ·(go_simp; try with_reducible rfl)
    simp only [Act.put, pa, pb, pc]
    refine mid_end (by kernel_rfl) (fun wz hz => ?_)
    have HQ := H_ (HQ.out.trans (Kept.of_call _ hz)); have Hv := H_ (boxed_kept Hv.out (Kept.of_call (fun _ => False) hz) id); have HR := H_ (row_kept HR.out (Kept.of_call (fun _ => False) hz) id); have HB := H_ (HB.out.trans (hz.mono HB.out.size)); clear hz
    have hcv := Hv.out.cell
    have hfv := Hv.out.frozen
    gi_wp2_with fail
    exact ⟨(HQ.out.trans (Kept.setCell _ _ _ _)), all_stop HPre.out HGs.out, Hv.out.set _, HB.out.setCell (p := ⟨w.heap.size + 1, 0, none⟩) (by simp) _⟩
   ·have HGs := H_ (show gd s = true by rw [HGd.out]; unfold bdC; rw [g1, g2]; rfl)
    have HOn := H_ g1
    have HSh := H_ g2
    clear g1 g2
    gi_wp2_with fail
    refine mid_begin (X := (· = w.heap.size + 1)) HF.out ?_
    refine mid_take 0 (by kernel_rfl) (by kernel_rfl) (by kernel_rfl) (by kernel_rfl) (by kernel_rfl) (fun _ _ d _ _ h => by cases d <;> exact h) (fun o ho => ?_)
    simp only [qa, qb, qc, qd] at ho; subst ho
    refine ⟨_, Or.inl ⟨by kernel_rfl, fun w' hl => run_load _ rfl _ rfl p (row_kept HR.out hl (by omega))⟩, ?_⟩
    simp only [Act.put, pa, pb, pc]
    refine mid_take 1 (by kernel_rfl) (by kernel_rfl) (by kernel_rfl) (by kernel_rfl) (by kernel_rfl) (fun _ _ d _ _ h => by cases d <;> exact h) (fun o ho => ?_)
    simp only [qa, qb, qc, qd] at ho; subst ho
    apply Exists.intro
    refine ⟨Or.inl ⟨by kernel_rfl, fun w' hl => ?_⟩, ?_⟩
    ·(go_simp; try with_reducible rfl)
    simp only [Act.put, pa, pb, pc]
    refine mid_take 2 (by kernel_rfl) (by kernel_rfl) (by kernel_rfl) (by kernel_rfl) (by kernel_rfl) (fun _ _ d _ _ h => by cases d <;> exact h) (fun o ho => ?_)
    simp only [qa, qb, qc, qd] at ho; subst ho
    apply Exists.intro
    refine ⟨Or.inl ⟨by kernel_rfl, fun w' hl => ?_⟩, ?_⟩
    ·(go_simp; try with_reducible rfl)
    simp only [Act.put, pa, pb, pc]
    refine mid_take 3 (by kernel_rfl) (by kernel_rfl) (by kernel_rfl) (by kernel_rfl) (by kernel_rfl) (fun _ _ d _ _ h => by cases d <;> exact h) (fun o ho => ?_)
    simp only [qa, qb, qc, qd] at ho; subst ho
    refine ⟨_, Or.inl ⟨by kernel_rfl, fun w' hl => run_get 5 _ rfl w.heap.size 78 rfl Tryz.underlying5 rfl (.int .u8 (p 78)) ((row_kept HR.out hl (by omega)).cell 78 (by decide))⟩, ?_⟩
    simp only [Act.put, pa, pb, pc]
    refine mid_one 4 (by kernel_rfl) (by kernel_rfl) (by kernel_rfl) (fun o ho => ?_)
    simp only [qa, qb, qc, qd] at ho; subst ho
    refine ⟨by kernel_rfl, fun wq hl K2 hK2 => ?_⟩
    have HQ := H_ (HQ.out.trans (Kept.of_call _ hl)); have Hv := H_ (boxed_kept Hv.out (Kept.of_call (fun _ => False) hl) id); have HR := H_ (row_kept HR.out (Kept.of_call (fun _ => False) hl) id); have HB := H_ (HB.out.trans (hl.mono HB.out.size)); clear hl
    refine mid_call _ _ (by go_simp; exact ⟨rfl, rfl⟩) ?_
    refine (cs_other (p 78) _).mono ?_; rintro e w3 ⟨rfl, rfl⟩; refine ⟨_, rfl, ?_⟩
    refine hK2.out _ _ (Kept.refl _ _) ?_
    clear hK2 K2
    simp only [Act.put, pa, pb, pc]
    refine mid_one 5 (by kernel_rfl) (by kernel_rfl) (by kernel_rfl) (fun o ho => ?_)
    simp only [qa, qb, qc, qd] at ho; subst ho
    refine ⟨by kernel_rfl, fun wq hl K2 hK2 => ?_⟩
    have HQ := H_ (HQ.out.trans (Kept.of_call _ hl)); have Hv := H_ (boxed_kept Hv.out (Kept.of_call (fun _ => False) hl) id); have HR := H_ (row_kept HR.out (Kept.of_call (fun _ => False) hl) id); have HB := H_ (HB.out.trans (hl.mono HB.out.size)); clear hl
    refine mid_call _ _ (by go_simp; exact ⟨rfl, rfl⟩) ?_
    refine (on_any p s (oth (p 78)) _ HP.out.bd (HO.out) (HT.out.on HB.out).db (HT.out.on HB.out).lead).mono ?_; rintro e w3 ⟨rfl, hb⟩; rw [HOn.out]; refine ⟨_, rfl, ?_⟩
    refine hK2.out _ _ (Kept.of_call _ hb) ?_
    have HQ := H_ (HQ.out.trans (Kept.of_call _ hb)); have Hv := H_ (boxed_kept Hv.out (Kept.of_call (fun _ => False) hb) id); have HR := H_ (row_kept HR.out (Kept.of_call (fun _ => False) hb) id); have HB := H_ (HB.out.trans (hb.mono HB.out.size)); clear hb
    clear hK2 K2
    simp only [Act.put, pa, pb, pc]
    refine mid_take 6 (by kernel_rfl) (by kernel_rfl) (by kernel_rfl) (by kernel_rfl) (by kernel_rfl) (fun _ _ d _ _ h => by cases d <;> exact h) (fun o ho => ?_)
    simp only [qa, qb, qc, qd] at ho; subst ho
    apply Exists.intro
    refine ⟨Or.inl ⟨by kernel_rfl, fun w' hl => ?_⟩, ?_⟩
    ·(go_simp; try with_reducible rfl)
    simp only [Act.put, pa, pb, pc]
    refine mid_take 7 (by kernel_rfl) (by kernel_rfl) (by kernel_rfl) (by kernel_rfl) (by kernel_rfl) (fun _ _ d _ _ h => by cases d <;> exact h) (fun o ho => ?_)
    simp only [qa, qb, qc, qd] at ho; subst ho
    refine ⟨_, Or.inl ⟨by kernel_rfl, fun w' hl => run_load _ rfl _ rfl p (row_kept HR.out hl (by omega))⟩, ?_⟩
    simp only [Act.put, pa, pb, pc]
    refine mid_take 8 (by kernel_rfl) (by kernel_rfl) (by kernel_rfl) (by kernel_rfl) (by kernel_rfl) (fun _ _ d _ _ h => by cases d <;> exact h) (fun o ho => ?_)
    simp only [qa, qb, qc, qd] at ho; subst ho
    apply Exists.intro
    refine ⟨Or.inl ⟨by kernel_rfl, fun w' hl => ?_⟩, ?_⟩
    ·(go_simp; try with_reducible rfl)
    simp only [Act.put, pa, pb, pc]
    refine mid_one 9 (by kernel_rfl) (by kernel_rfl) (by kernel_rfl) (fun o ho => ?_)
    simp only [qa, qb, qc, qd] at ho; subst ho
    refine ⟨by kernel_rfl, fun wq hl K2 hK2 => ?_⟩
    have HQ := H_ (HQ.out.trans (Kept.of_call _ hl)); have Hv := H_ (boxed_kept Hv.out (Kept.of_call (fun _ => False) hl) id); have HR := H_ (row_kept HR.out (Kept.of_call (fun _ => False) hl) id); have HB := H_ (HB.out.trans (hl.mono HB.out.size)); clear hl
    refine mid_call _ _ (by go_simp; exact ⟨rfl, rfl⟩) ?_
    refine (cs_shel p s _ HP.out.bd (HT.out.on HB.out).lead).mono ?_; rintro e w3 ⟨rfl, hb⟩; rw [HSh.out]; refine ⟨_, rfl, ?_⟩
    refine hK2.out _ _ (Kept.of_call _ hb) ?_
    have HQ := H_ (HQ.out.trans (Kept.of_call _ hb)); have Hv := H_ (boxed_kept Hv.out (Kept.of_call (fun _ => False) hb) id); have HR := H_ (row_kept HR.out (Kept.of_call (fun _ => False) hb) id); have HB := H_ (HB.out.trans (hb.mono HB.out.size)); clear hb
    clear hK2 K2
    simp only [Act.put, pa, pb, pc]
    refine mid_take 10 (by kernel_rfl) (by kernel_rfl) (by kernel_rfl) (by kernel_rfl) (by kernel_rfl) (fun _ _ d _ _ h => by cases d <;> exact h) (fun o ho => ?_)
    simp only [qa, qb, qc, qd] at ho; subst ho
    apply Exists.intro
    refine ⟨Or.inl ⟨by kernel_rfl, fun w' hl => ?_⟩, ?_⟩
    ·(go_simp; try with_reducible rfl)
    simp only [Act.put, pa, pb, pc]
    refine mid_take 11 (by kernel_rfl) (by kernel_rfl) (by kernel_rfl) (by kernel_rfl) (by kernel_rfl) (fun _ _ d _ _ h => by cases d <;> exact h) (fun o ho => ?_)
    simp only [qa, qb, qc, qd] at ho; subst ho
    apply Exists.intro
    refine ⟨Or.inl ⟨by kernel_rfl, fun w' hl => ?_⟩, ?_⟩
    ·(go_simp; try with_reducible rfl)
    simp only [Act.put, pa, pb, pc]
    refine mid_end (by kernel_rfl) (fun wz hz => ?_)
    have HQ := H_ (HQ.out.trans (Kept.of_call _ hz)); have Hv := H_ (boxed_kept Hv.out (Kept.of_call (fun _ => False) hz) id); have HR := H_ (row_kept HR.out (Kept.of_call (fun _ => False) hz) id); have HB := H_ (HB.out.trans (hz.mono HB.out.size)); clear hz
    have hcv := Hv.out.cell
    have hfv := Hv.out.frozen
    gi_wp2_with fail
    exact ⟨HQ.out, all_snoc HA.out HGs.out, Hv.out, HR.out, HB.out⟩
 case done =>
  rintro W ⟨hall, hv, hrw, hB⟩ hK
  have hcv := hv.cell
  have hfv := hv.frozen
  have Hv := H_ hv
  have HB := H_ hB
  have HK := H_ hK
  have HN := H_ hall
  clear hx2 hb2 hA' hr2 hv hB hK hall hrw
  gi_wp2_with fail
  have hK' := (Kept.setCell (w.heap.size + 1) 0 (.bool true) W).obj HK.out (by have := HS.out; omega)
  refine marks_leave (lo := w2.heap.size) (hi := w2.heap.size + 1) ⟨w2.heap.size, rfl, Nat.le_refl _, by omega, hK', trivial⟩ (fun w' hk => ?_)
  have hx := boxed_kept (Hv.out.set (.bool true)) hk (by have := HS.out; omega)
  have hc5 := hx.cell
  refine ⟨.bool true, ?_, by rw [HV.out, HN.out], (HB.out.setCell (p := ⟨w.heap.size + 1, 0, none⟩) (by simp) _).trans (hk.below (fun i hi => by have := HS.out; omega) (by have := HB.out.size; simp [World.setCell]; omega))⟩
  simp [results, Tryz.f161, go_sem, hc5]
 case stop =>
  rintro pre W hne hpre ⟨hN, hv, hB⟩ hK
  have Hv := H_ hv
  have HB := H_ hB
  have HK := H_ hK
  have HN := H_ hN
  clear hx2 hb2 hA' hr2 hv hB hK hne hpre hN
  gi_wp2_with fail
  refine marks_leave (lo := w2.heap.size) (hi := w2.heap.size + 1) ⟨w2.heap.size, rfl, Nat.le_refl _, by omega, HK.out, trivial⟩ (fun w' hk => ?_)
  have hc5 := (boxed_kept Hv.out hk (by have := HS.out; omega)).cell
  refine ⟨.bool false, ?_, by rw [HV.out, HN.out], HB.out.trans (hk.below (fun i hi => by have := HS.out; omega) HB.out.size)⟩
  simp [results, Tryz.f161, go_sem, hc5]
theorem cs_safe_any (p : Nat → Int) (x y : Int) (w : World) (hp : AtR p) (hx : -1000 ≤ x ∧ x ≤ 1000) (hy : -1000 ≤ y ∧ y ≤ 1000) (hT : CsT w) : Calls Tryz.prog 161 #[.agg (posA p), .int .i64 x, .int .i64 y] w (BoL (safeC p x y) w) :=
 callsIn_wide.1 (cs_safe_in p x y w hp hx hy hT)
end Go.Proofs.YteblmnbagbdiiaaGreatDoor
/-
 Contracts of castle's mayGo, named.
-/
namespace Go.Proofs.YteblmnbagbdiiaaGreatDoor
open Go.RowKit Go.Shelf
set_option linter.unusedVariables false
set_option linter.unusedSimpArgs false
attribute [local go_sem] Oper.semAt_some

structure CsR (p : Nat → Int) : Prop where
 at_ : AtR p
 rk : ∀ i, i < 4 → -128 ≤ p (79 + i) ∧ p (79 + i) ≤ 127
theorem results_cm2 {fn : Func} {i j : Tmp} (h : fn.results = #[.cell i 40, .tmp j]) (tmps : Array Value) (w : World) (b : Nat) (m : Mv) (x : Value) (hp : tmps.getD i undef = .pointer (some ⟨b, 0, none⟩)) (hx : tmps.getD j undef = x) (hr : Blk w b 40 (mvA m)) :
  (results fn tmps).run Tryz.prog w = .ok (.tuple #[.agg (mvA m), x]) w := by
 have hl := run_loadVar_row w b 40 40 (mvA m) (0, 0) _ hr Tryz.underlying40 rfl sizeMv
 have hp' : tmps[i]?.getD undef = .pointer (some ⟨b, 0, none⟩) := by simpa using hp
 have hx' : tmps[j]?.getD undef = x := by simpa using hx
 simp [results, h, hp', hx', asAddr, hl]
theorem run_posC {o : Oper} {a : Act} {w : World} (x : Operand) (ho : o.op = .load 31 x) (b : Nat) (hx : a.eval x = .pointer (some ⟨b, 0, none⟩)) (p : Nat → Int) (hr : Row w b p) : (execOp a.eval o).run Tryz.prog w = .ok (.value (.agg (posA p))) w := run_load x ho b hx p hr
theorem cs_may (p : Nat → Int) (m : Mv) (n : Nat) (hn : n < 2) (w : World) (hp : AtR p) (hm : FitV m) (hs : sdC (p 78) m = (n : Int)) (hT : CsT w) : Calls Tryz.prog 80 #[.agg (posA p), .agg (mvA m)] w (BoL (mayC p m) w) := by
 have HM := H_ hm
 have HN := H_ hn
 have HT := H_ hT
 have HSd := H_ hs
 obtain ⟨_, _, _, hf0, hf1, ht0, ht1⟩ := sdC_at (c := p 78) (m := m) (by rw [hs]; omega)
 have h1 := hmC_rng (p 78)
 have h2 := gk_rng (n : Int)
 have h3 := gr_rng (n : Int)
 obtain ⟨K, hK⟩ : ∃ K, hmC (p 78) + gkC (n : Int) = K := ⟨_, rfl⟩
 obtain ⟨R, hR⟩ : ∃ R, hmC (p 78) + grC (n : Int) = R := ⟨_, rfl⟩
 have HKg := H_ hK
 have HRg := H_ hR
 obtain ⟨P1, hP1⟩ : ∃ P1, putP p m.f 0 = P1 := ⟨_, rfl⟩
 obtain ⟨P2, hP2⟩ : ∃ P2, putP P1 m.t 0 = P2 := ⟨_, rfl⟩
 have HP1 := H_ hP1
 have HP2 := H_ hP2
 have hbr : bareC p m.f m.t = P2 := by unfold bareC; rw [hP1, hP2]
 have HA2 := H_ (show AtR P2 by rw [← hbr]; exact hp.bare _ _)
 have hwf : IntKind.i64.wrap m.f = m.f := by rw [IntKind.wrap_i64]; omega
 have hwt : IntKind.i64.wrap m.t = m.t := by rw [IntKind.wrap_i64]; omega
 have hf2 : 0 ≤ m.f ∧ m.f ≤ 63 := by omega
 have ht2 : 0 ≤ m.t ∧ m.t ≤ 63 := by omega
 have hK2 : 0 ≤ K ∧ K ≤ 63 := by omega
 have hR2 : 0 ≤ R ∧ R ≤ 63 := by omega
 obtain ⟨f1, hf1'⟩ : ∃ f1, freeC P2 m.f K = f1 := ⟨_, rfl⟩
 obtain ⟨f2, hf2'⟩ : ∃ f2, freeC P2 m.t R = f2 := ⟨_, rfl⟩
 obtain ⟨f3, hf3'⟩ : ∃ f3, safeC P2 m.f K = f3 := ⟨_, rfl⟩
 have HF1 := H_ hf1'
 have HF2 := H_ hf2'
 have HF3 := H_ hf3'
 have HS := H_ (show mayC p m = (f1 && (f2 && f3)) by unfold mayC; rw [hs, hK, hR, hbr, hf1', hf2', hf3'])
 clear hm hn hT hs hp hK hR hP1 hP2 hbr hf1' hf2' hf3' hf0 hf1 ht0 ht1 h1 h2 h3
 have HB := H_ (Below.refl w.heap.size w)
 go_enter Tryz.func80, Tryz.ntmps80
 go_wp2_with (first
   | (guard_target = gB 2; refine step_box rfl _ rfl p rfl ?_; intro b2 w1 N R; have HG2 := H_ (nA HB.out N); have HB := H_ (below_on HB.out N.below); have HR2 := H_ R; clear N R)
   | (guard_target = gB 3; refine blk_box rfl 40 _ rfl (mvA m) rfl ?_; intro b3 w1 N R; have HG3 := H_ (nA HB.out N); have HR2 := H_ (HR2.out.later N.below); have HB := H_ (below_on HB.out N.below); have HR3 := H_ R; clear N R))
 refine late_begin 8 (by kernel_rfl) ?_
 refine lw 0 rfl ?_
 simp only [Act.put, pa, pb, pc]
 refine lv 1 rfl ⟨.int .i8 m.f, fun w' hl => (run_get 26 _ rfl b3 0 rfl Tryz.underlying26 rfl (.int .i8 m.f) (((HR3.out.later hl).cell 0).trans rfl)), ?_⟩
 simp only [Act.put, pa, pb, pc]
 refine lv 2 rfl ⟨.int .i64 m.f, fun w' hl => ?_, ?_⟩
 ·(go_simp <;> rw [hwf])
 simp only [Act.put, pa, pb, pc]
 refine lw 3 rfl ?_
 simp only [Act.put, pa, pb, pc]
 refine lv 4 rfl ⟨.int .i8 m.t, fun w' hl => (run_get 26 _ rfl b3 1 rfl Tryz.underlying26 rfl (.int .i8 m.t) (((HR3.out.later hl).cell 1).trans rfl)), ?_⟩
 simp only [Act.put, pa, pb, pc]
 refine lv 5 rfl ⟨.int .i64 m.t, fun w' hl => ?_, ?_⟩
 ·(go_simp <;> rw [hwt])
 simp only [Act.put, pa, pb, pc]
 refine lw 6 rfl ?_
 simp only [Act.put, pa, pb, pc]
 refine lw 7 rfl ?_
 simp only [Act.put, pa, pb, pc]
 refine late_end (by kernel_rfl) (fun wn hl => ?_)
 have HR2 := H_ (HR2.out.later hl); have HR3 := H_ (HR3.out.later hl); have HB := H_ (below_on HB.out hl); clear hl
 cases f1
 ·go_wp2_with (first
   | (guard_target = gL 2; refine step_load rfl _ rfl b2 rfl p HR2.out ?_)
   | (guard_target = gL 3; refine blk_load rfl 40 _ rfl b3 rfl (mvA m) HR3.out _ Tryz.underlying40 rfl sizeMv ?_)
   | (go_at_call 158; refine (cs_goals p m n HN.out _ HM.out HSd.out (HT.out.on HB.out).gl).mono ?_; rintro e w3 ⟨rfl, hb⟩; rw [HKg.out, HRg.out]; have HR2 := H_ (HR2.out.later hb); have HB := H_ (below_on HB.out hb); clear hb)
   | (go_at_call 159; guard_target = Go.Calls _ _ #[Go.Value.agg (posA p), _, _] _ _; refine (put_pos p m.f 0 _ (by decide) (by decide)).mono ?_; rintro e w3 ⟨rfl, hb⟩; rw [HP1.out]; have HB := H_ (below_on HB.out hb); clear hb)
   | (go_at_call 159; guard_target = Go.Calls _ _ #[Go.Value.agg (posA P1), _, _] _ _; refine (put_pos P1 m.t 0 _ (by decide) (by decide)).mono ?_; rintro e w3 ⟨rfl, hb⟩; rw [HP2.out]; have HB := H_ (below_on HB.out hb); clear hb)
   | (guard_target = gA 10; refine step_alloc (op := ⟨some 10, _, _, _, _, _⟩) rfl rfl ?_; intro b10 wn N R; have HG10 := H_ (nA HB.out N); have HR10 := H_ R; have HB := H_ (below_on HB.out N.below); clear N R)
   | (guard_target = gS 10; refine step_store (op := ⟨none, .store _ (.tmp 10) _, _, _, _, _⟩) rfl _ _ rfl b10 rfl zeroP P2 rfl HR10.out ?_; intro wn U R; have HR10 := H_ R; have HB := H_ (HB.out.trans (U.below HG10.out)); clear U R)
   | (guard_target = gL 10; refine step_load rfl _ rfl b10 rfl P2 HR10.out ?_)
   | (go_at_call 160; guard_target = Go.Calls _ _ #[_, Go.Value.int _ (m.f), _] _ _; refine (cs_free_any P2 (m.f) K _ HA2.out (by omega) (by omega) (HT.out.on HB.out)).mono ?_; rintro e w3 ⟨rfl, hb⟩; rw [HF1.out]; have HR10 := H_ (HR10.out.later hb); have HB := H_ (below_on HB.out hb); clear hb)
   | (go_at_call 160; guard_target = Go.Calls _ _ #[_, Go.Value.int _ (m.t), _] _ _; refine (cs_free_any P2 (m.t) R _ HA2.out (by omega) (by omega) (HT.out.on HB.out)).mono ?_; rintro e w3 ⟨rfl, hb⟩; rw [HF2.out]; have HR10 := H_ (HR10.out.later hb); have HB := H_ (below_on HB.out hb); clear hb)
   | (go_at_call 161; refine (cs_safe_any P2 m.f K _ HA2.out (by omega) (by omega) (HT.out.on HB.out)).mono ?_; rintro e w3 ⟨rfl, hb⟩; rw [HF3.out]; have HR10 := H_ (HR10.out.later hb); have HB := H_ (below_on HB.out hb); clear hb))
  go_ret
  exact ⟨by rw [HS.out]; rfl, HB.out⟩
 ·cases f2
  ·go_wp2_with (first
   | (guard_target = gL 2; refine step_load rfl _ rfl b2 rfl p HR2.out ?_)
   | (guard_target = gL 3; refine blk_load rfl 40 _ rfl b3 rfl (mvA m) HR3.out _ Tryz.underlying40 rfl sizeMv ?_)
   | (go_at_call 158; refine (cs_goals p m n HN.out _ HM.out HSd.out (HT.out.on HB.out).gl).mono ?_; rintro e w3 ⟨rfl, hb⟩; rw [HKg.out, HRg.out]; have HR2 := H_ (HR2.out.later hb); have HB := H_ (below_on HB.out hb); clear hb)
   | (go_at_call 159; guard_target = Go.Calls _ _ #[Go.Value.agg (posA p), _, _] _ _; refine (put_pos p m.f 0 _ (by decide) (by decide)).mono ?_; rintro e w3 ⟨rfl, hb⟩; rw [HP1.out]; have HB := H_ (below_on HB.out hb); clear hb)
   | (go_at_call 159; guard_target = Go.Calls _ _ #[Go.Value.agg (posA P1), _, _] _ _; refine (put_pos P1 m.t 0 _ (by decide) (by decide)).mono ?_; rintro e w3 ⟨rfl, hb⟩; rw [HP2.out]; have HB := H_ (below_on HB.out hb); clear hb)
   | (guard_target = gA 10; refine step_alloc (op := ⟨some 10, _, _, _, _, _⟩) rfl rfl ?_; intro b10 wn N R; have HG10 := H_ (nA HB.out N); have HR10 := H_ R; have HB := H_ (below_on HB.out N.below); clear N R)
   | (guard_target = gS 10; refine step_store (op := ⟨none, .store _ (.tmp 10) _, _, _, _, _⟩) rfl _ _ rfl b10 rfl zeroP P2 rfl HR10.out ?_; intro wn U R; have HR10 := H_ R; have HB := H_ (HB.out.trans (U.below HG10.out)); clear U R)
   | (guard_target = gL 10; refine step_load rfl _ rfl b10 rfl P2 HR10.out ?_)
   | (go_at_call 160; guard_target = Go.Calls _ _ #[_, Go.Value.int _ (m.f), _] _ _; refine (cs_free_any P2 (m.f) K _ HA2.out (by omega) (by omega) (HT.out.on HB.out)).mono ?_; rintro e w3 ⟨rfl, hb⟩; rw [HF1.out]; have HR10 := H_ (HR10.out.later hb); have HB := H_ (below_on HB.out hb); clear hb)
   | (go_at_call 160; guard_target = Go.Calls _ _ #[_, Go.Value.int _ (m.t), _] _ _; refine (cs_free_any P2 (m.t) R _ HA2.out (by omega) (by omega) (HT.out.on HB.out)).mono ?_; rintro e w3 ⟨rfl, hb⟩; rw [HF2.out]; have HR10 := H_ (HR10.out.later hb); have HB := H_ (below_on HB.out hb); clear hb)
   | (go_at_call 161; refine (cs_safe_any P2 m.f K _ HA2.out (by omega) (by omega) (HT.out.on HB.out)).mono ?_; rintro e w3 ⟨rfl, hb⟩; rw [HF3.out]; have HR10 := H_ (HR10.out.later hb); have HB := H_ (below_on HB.out hb); clear hb))
   go_ret
   exact ⟨by rw [HS.out]; rfl, HB.out⟩
  ·go_wp2_with (first
   | (guard_target = gL 2; refine step_load rfl _ rfl b2 rfl p HR2.out ?_)
   | (guard_target = gL 3; refine blk_load rfl 40 _ rfl b3 rfl (mvA m) HR3.out _ Tryz.underlying40 rfl sizeMv ?_)
   | (go_at_call 158; refine (cs_goals p m n HN.out _ HM.out HSd.out (HT.out.on HB.out).gl).mono ?_; rintro e w3 ⟨rfl, hb⟩; rw [HKg.out, HRg.out]; have HR2 := H_ (HR2.out.later hb); have HB := H_ (below_on HB.out hb); clear hb)
   | (go_at_call 159; guard_target = Go.Calls _ _ #[Go.Value.agg (posA p), _, _] _ _; refine (put_pos p m.f 0 _ (by decide) (by decide)).mono ?_; rintro e w3 ⟨rfl, hb⟩; rw [HP1.out]; have HB := H_ (below_on HB.out hb); clear hb)
   | (go_at_call 159; guard_target = Go.Calls _ _ #[Go.Value.agg (posA P1), _, _] _ _; refine (put_pos P1 m.t 0 _ (by decide) (by decide)).mono ?_; rintro e w3 ⟨rfl, hb⟩; rw [HP2.out]; have HB := H_ (below_on HB.out hb); clear hb)
   | (guard_target = gA 10; refine step_alloc (op := ⟨some 10, _, _, _, _, _⟩) rfl rfl ?_; intro b10 wn N R; have HG10 := H_ (nA HB.out N); have HR10 := H_ R; have HB := H_ (below_on HB.out N.below); clear N R)
   | (guard_target = gS 10; refine step_store (op := ⟨none, .store _ (.tmp 10) _, _, _, _, _⟩) rfl _ _ rfl b10 rfl zeroP P2 rfl HR10.out ?_; intro wn U R; have HR10 := H_ R; have HB := H_ (HB.out.trans (U.below HG10.out)); clear U R)
   | (guard_target = gL 10; refine step_load rfl _ rfl b10 rfl P2 HR10.out ?_)
   | (go_at_call 160; guard_target = Go.Calls _ _ #[_, Go.Value.int _ (m.f), _] _ _; refine (cs_free_any P2 (m.f) K _ HA2.out (by omega) (by omega) (HT.out.on HB.out)).mono ?_; rintro e w3 ⟨rfl, hb⟩; rw [HF1.out]; have HR10 := H_ (HR10.out.later hb); have HB := H_ (below_on HB.out hb); clear hb)
   | (go_at_call 160; guard_target = Go.Calls _ _ #[_, Go.Value.int _ (m.t), _] _ _; refine (cs_free_any P2 (m.t) R _ HA2.out (by omega) (by omega) (HT.out.on HB.out)).mono ?_; rintro e w3 ⟨rfl, hb⟩; rw [HF2.out]; have HR10 := H_ (HR10.out.later hb); have HB := H_ (below_on HB.out hb); clear hb)
   | (go_at_call 161; refine (cs_safe_any P2 m.f K _ HA2.out (by omega) (by omega) (HT.out.on HB.out)).mono ?_; rintro e w3 ⟨rfl, hb⟩; rw [HF3.out]; have HR10 := H_ (HR10.out.later hb); have HB := H_ (below_on HB.out hb); clear hb))
   go_ret
   exact ⟨by rw [HS.out]; rfl, HB.out⟩
theorem wrap_i8c {n : Int} (h : -128 ≤ n ∧ n ≤ 127) : IntKind.i8.wrap n = n := by
 exact IntWalk.i8_in n h
def NamL (m : Mv) (b : Bool) (w : World) (e : Ending) (w' : World) : Prop := e = .returned (.tuple #[.agg (mvA m), .bool b]) ∧ Below w.heap.size w w'
theorem kAt_rk {c n : Nat} (hc : c < 2) (hn : n < 2) : kAt (79 + c * 2 + n) = .i8 := by
 rcases (by omega : c = 0 ∨ c = 1) with rfl | rfl <;> rcases (by omega : n = 0 ∨ n = 1) with rfl | rfl <;> rfl
theorem homeK {c h : Int} (e : hmC c = h) (w : World) : Calls Tryz.prog 155 #[.int .u8 c] w (fun e w' => e = .returned (.int .i64 h) ∧ w = w') := e ▸ cs_home c w
theorem fndK {p : Nat → Int} {c k : Int} (e : kingZ p c = k) (w : World) (hp : BdR p) (hD : TabDb w) : Calls Tryz.prog 31 #[.agg (posA p), .int .u8 c, .int .u8 6] w (IntL k w) := e ▸ find_set p c 6 w hp hD
theorem cs_named (p : Nat → Int) (c n : Nat) (hc : c < 2) (hn : n < 2) (w : World) (hp : CsR p) (h78 : p 78 = (c : Int)) (hT : CsT w) : Calls Tryz.prog 79 #[.agg (posA p), .int .i64 (n : Int)] w (NamL (bif namC p n then mvC p n else mv0) (namC p n) w) := by
 have HP := H_ hp.at_.bd
 have HT := H_ hT
 have HC := H_ h78
 have HC2 := H_ hc
 have HN := H_ hn
 obtain ⟨r, hr⟩ : ∃ r, flC p n = r := ⟨_, rfl⟩
 have hr' : p (79 + c * 2 + n) = r := by rw [← hr]; unfold flC; rw [h78, Int.toNat_natCast]
 have HRr := H_ hr'
 have hrr : -128 ≤ r ∧ r ≤ 127 := by rw [← hr']; have := hp.rk (c * 2 + n) (by omega); rwa [show 79 + c * 2 + n = 79 + (c * 2 + n) by omega]
 obtain ⟨hm, hhm⟩ : ∃ hm, hmC (c : Int) = hm := ⟨_, rfl⟩
 obtain ⟨kz, hkz⟩ : ∃ kz, kingZ p (c : Int) = kz := ⟨_, rfl⟩
 have hkr : -1 ≤ kz ∧ kz ≤ 63 := by rw [← hkz]; exact king_rng _ _
 have hmr : 0 ≤ hm ∧ hm ≤ 56 := by rw [← hhm]; exact hmC_rng _
 have HHm := H_ hhm
 have HKz := H_ hkz
 have hmv : mvC p n = ⟨kz, hm + r, 0, 0, true⟩ := by unfold mvC; rw [h78, hkz, hhm, hr]
 have HMv := H_ hmv
 obtain ⟨g3, hg3⟩ : ∃ g3, hasN (ofN p (p 78) 4) (hm + r) = g3 := ⟨_, rfl⟩
 obtain ⟨sd, hsd⟩ : ∃ sd, sdC (p 78) ⟨kz, hm + r, 0, 0, true⟩ = sd := ⟨_, rfl⟩
 have HHr := H_ hg3
 have HSd := H_ hsd
 have hnam : namC p n = ((decide (0 ≤ r) && decide (r < 8)) && (g3 && (sd == (n : Int)))) := by unfold namC flB; rw [hmv, hsd, hr, show hmC (p 78) = hm by rw [h78]; exact hhm, hg3]
 clear hp hT h78 hr hr' hhm hkz hmv hg3 hsd
 have HB := H_ (Below.refl w.heap.size w)
 by_cases g1 : r < 0
 ·have q1 : decide (r < 0) = true := decide_eq_true g1
  have HS := H_ (show namC p n = false by rw [hnam, decide_eq_false (show ¬ 0 ≤ r by omega)]; rfl)
  clear hnam g1
  go_enter Tryz.func79, Tryz.ntmps79
  go_wp2_with (first
   | (guard_target = gB 2; refine step_box rfl _ rfl p rfl ?_; intro b2 w1 N R; have HG2 := H_ (nA HB.out N); have HB := H_ (below_on HB.out N.below); have HR2 := H_ R; clear N R)
   | (guard_target = gA 4; refine blk_alloc rfl 40 rfl (mvA mv0) zeroMv ?_; intro b4 wn N R; have HG4 := H_ (nA HB.out N); have HY4 := H_ (show b2 ≠ b4 from Nat.ne_of_lt (by have h1 := HR2.out.lt; have := N.at_; omega)); have HR2 := H_ (HR2.out.later N.below); have HR4 := H_ R; have HB := H_ (below_on HB.out N.below); clear N R)
   | (guard_target = gL 10; refine step_get rfl 5 _ rfl b2 78 rfl Tryz.underlying5 rfl (.int .u8 (c : Int)) ?_ ?_; exact (HR2.out.cell 78 (by decide)).trans (by rw [HC.out]; rfl))
   | (guard_target = gL 26; refine step_get rfl 5 _ rfl b2 78 rfl Tryz.underlying5 rfl (.int .u8 (c : Int)) ?_ ?_; exact (HR2.out.cell 78 (by decide)).trans (by rw [HC.out]; rfl))
   | (guard_target = gL 29; refine step_get rfl 5 _ rfl b2 78 rfl Tryz.underlying5 rfl (.int .u8 (c : Int)) ?_ ?_; exact (HR2.out.cell 78 (by decide)).trans (by rw [HC.out]; rfl))
   | (guard_target = gL2 16 15; refine step_get rfl 26 _ rfl b2 (79 + c * 2 + n) rfl Tryz.underlying26 rfl (.int .i8 r) ?_ ?_; exact (HR2.out.cell (79 + c * 2 + n) (by omega)).trans (by rw [kAt_rk HC2.out HN.out, HRr.out]))
   | (guard_target = gD 24; refine step_build (op := ⟨some 24, .build _ _, _, _, _, _⟩) rfl 40 _ rfl (mvA mv0) (by kernel_rfl) ?_)
   | (guard_target = gS 4; refine blk_store rfl 40 _ _ rfl b4 rfl (mvA mv0) (mvA mv0) rfl HR4.out rfl (mv_one _) sizeMv ?_; intro wn U R; have HR4 := H_ R; have HB := H_ (HB.out.trans (U.below HG4.out)); clear U R))
  exact bodyPost_ret (results_cm2 rfl _ _ _ mv0 _ rfl rfl HR4.out) rfl ⟨by rw [HS.out]; rfl, HB.out⟩
 ·by_cases g2 : 8 ≤ r
  ·have q1 : decide (r < 0) = false := decide_eq_false g1
   have q2 : decide (8 ≤ r) = true := decide_eq_true g2
   have HS := H_ (show namC p n = false by rw [hnam, decide_eq_false (show ¬ r < 8 by omega)]; simp)
   clear hnam g1 g2
   go_enter Tryz.func79, Tryz.ntmps79
   go_wp2_with (first
   | (guard_target = gB 2; refine step_box rfl _ rfl p rfl ?_; intro b2 w1 N R; have HG2 := H_ (nA HB.out N); have HB := H_ (below_on HB.out N.below); have HR2 := H_ R; clear N R)
   | (guard_target = gA 4; refine blk_alloc rfl 40 rfl (mvA mv0) zeroMv ?_; intro b4 wn N R; have HG4 := H_ (nA HB.out N); have HY4 := H_ (show b2 ≠ b4 from Nat.ne_of_lt (by have h1 := HR2.out.lt; have := N.at_; omega)); have HR2 := H_ (HR2.out.later N.below); have HR4 := H_ R; have HB := H_ (below_on HB.out N.below); clear N R)
   | (guard_target = gL 10; refine step_get rfl 5 _ rfl b2 78 rfl Tryz.underlying5 rfl (.int .u8 (c : Int)) ?_ ?_; exact (HR2.out.cell 78 (by decide)).trans (by rw [HC.out]; rfl))
   | (guard_target = gL 26; refine step_get rfl 5 _ rfl b2 78 rfl Tryz.underlying5 rfl (.int .u8 (c : Int)) ?_ ?_; exact (HR2.out.cell 78 (by decide)).trans (by rw [HC.out]; rfl))
   | (guard_target = gL 29; refine step_get rfl 5 _ rfl b2 78 rfl Tryz.underlying5 rfl (.int .u8 (c : Int)) ?_ ?_; exact (HR2.out.cell 78 (by decide)).trans (by rw [HC.out]; rfl))
   | (guard_target = gL2 16 15; refine step_get rfl 26 _ rfl b2 (79 + c * 2 + n) rfl Tryz.underlying26 rfl (.int .i8 r) ?_ ?_; exact (HR2.out.cell (79 + c * 2 + n) (by omega)).trans (by rw [kAt_rk HC2.out HN.out, HRr.out]))
   | (guard_target = gD 24; refine step_build (op := ⟨some 24, .build _ _, _, _, _, _⟩) rfl 40 _ rfl (mvA mv0) (by kernel_rfl) ?_)
   | (guard_target = gS 4; refine blk_store rfl 40 _ _ rfl b4 rfl (mvA mv0) (mvA mv0) rfl HR4.out rfl (mv_one _) sizeMv ?_; intro wn U R; have HR4 := H_ R; have HB := H_ (HB.out.trans (U.below HG4.out)); clear U R))
   exact bodyPost_ret (results_cm2 rfl _ _ _ mv0 _ rfl rfl HR4.out) rfl ⟨by rw [HS.out]; rfl, HB.out⟩
  ·have q1 : decide (r < 0) = false := decide_eq_false g1
   have q2 : decide (8 ≤ r) = false := decide_eq_false g2
   have hnam' : namC p n = (g3 && (sd == (n : Int))) := by rw [hnam, decide_eq_true (show 0 ≤ r by omega), decide_eq_true (show r < 8 by omega)]; rfl
   have hw1 : IntKind.i8.wrap kz = kz := wrap_i8c (by omega)
   have hw2 : IntKind.i8.wrap (hm + r) = hm + r := wrap_i8c (by omega)
   have HFm := H_ (show FitV ⟨kz, hm + r, 0, 0, true⟩ from ⟨by show -128 ≤ kz ∧ kz ≤ 127; omega, by show -128 ≤ hm + r ∧ hm + r ≤ 127; omega, by show (0 : Int) ≤ 0 ∧ (0 : Int) ≤ 255; omega, by show (0 : Int) ≤ 0 ∧ (0 : Int) ≤ 255; omega⟩)
   have hr0 : 0 ≤ r ∧ r ≤ 7 := by omega
   clear hnam g1 g2 hrr
   go_enter Tryz.func79, Tryz.ntmps79
   go_wp2_with (first
   | (guard_target = gB 2; refine step_box rfl _ rfl p rfl ?_; intro b2 w1 N R; have HG2 := H_ (nA HB.out N); have HB := H_ (below_on HB.out N.below); have HR2 := H_ R; clear N R)
   | (guard_target = gA 4; refine blk_alloc rfl 40 rfl (mvA mv0) zeroMv ?_; intro b4 wn N R; have HG4 := H_ (nA HB.out N); have HY4 := H_ (show b2 ≠ b4 from Nat.ne_of_lt (by have h1 := HR2.out.lt; have := N.at_; omega)); have HR2 := H_ (HR2.out.later N.below); have HR4 := H_ R; have HB := H_ (below_on HB.out N.below); clear N R)
   | (guard_target = gL 10; refine step_get rfl 5 _ rfl b2 78 rfl Tryz.underlying5 rfl (.int .u8 (c : Int)) ?_ ?_; exact (HR2.out.cell 78 (by decide)).trans (by rw [HC.out]; rfl))
   | (guard_target = gL 26; refine step_get rfl 5 _ rfl b2 78 rfl Tryz.underlying5 rfl (.int .u8 (c : Int)) ?_ ?_; exact (HR2.out.cell 78 (by decide)).trans (by rw [HC.out]; rfl))
   | (guard_target = gL 29; refine step_get rfl 5 _ rfl b2 78 rfl Tryz.underlying5 rfl (.int .u8 (c : Int)) ?_ ?_; exact (HR2.out.cell 78 (by decide)).trans (by rw [HC.out]; rfl))
   | (guard_target = gL2 16 15; refine step_get rfl 26 _ rfl b2 (79 + c * 2 + n) rfl Tryz.underlying26 rfl (.int .i8 r) ?_ ?_; exact (HR2.out.cell (79 + c * 2 + n) (by omega)).trans (by rw [kAt_rk HC2.out HN.out, HRr.out])))
   refine late_begin 11 (by kernel_rfl) ?_
   refine lv 0 rfl ⟨.agg (posA p), fun w' hl => (run_posC _ rfl b2 rfl p (HR2.out.later hl)), ?_⟩
   simp only [Act.put, pa, pb, pc]
   refine lw 1 rfl ?_
   simp only [Act.put, pa, pb, pc]
   refine lv 2 rfl ⟨.int .u8 (c : Int), fun w' hl => (run_get 5 _ rfl b2 78 rfl Tryz.underlying5 rfl (.int .u8 (c : Int)) (((HR2.out.later hl).cell 78 (by decide)).trans (by rw [HC.out]; rfl))), ?_⟩
   simp only [Act.put, pa, pb, pc]
   refine lw 4 rfl ?_
   simp only [Act.put, pa, pb, pc]
   refine lv 5 rfl ⟨.int .u8 (c : Int), fun w' hl => (run_get 5 _ rfl b2 78 rfl Tryz.underlying5 rfl (.int .u8 (c : Int)) (((HR2.out.later hl).cell 78 (by decide)).trans (by rw [HC.out]; rfl))), ?_⟩
   simp only [Act.put, pa, pb, pc]
   refine lw 7 rfl ?_
   simp only [Act.put, pa, pb, pc]
   refine l1 3 rfl fun wn hl K hK => ?_
   have HR2 := H_ (HR2.out.later hl); have HR4 := H_ (HR4.out.later hl); have HB := H_ (below_on HB.out hl); clear hl
   refine we ?_
   refine (fndK HKz.out _ HP.out (HT.out.on HB.out).db).mono ?_; rintro e wm ⟨rfl, hb⟩; refine ⟨_, rfl, ?_⟩
   refine hK.out _ _ hb ?_
   have HR2 := H_ (HR2.out.later hb); have HR4 := H_ (HR4.out.later hb); have HB := H_ (below_on HB.out hb); clear hb
   clear hK K
   simp only [Act.put, pa, pb, pc]
   refine l1 6 rfl fun wn hl K hK => ?_
   have HR2 := H_ (HR2.out.later hl); have HR4 := H_ (HR4.out.later hl); have HB := H_ (below_on HB.out hl); clear hl
   refine we ?_
   refine (homeK HHm.out _).mono ?_; rintro e wm ⟨rfl, rfl⟩; refine ⟨_, rfl, ?_⟩
   refine hK.out _ _ (Later.refl _) ?_
   clear hK K
   simp only [Act.put, pa, pb, pc]
   refine lv 8 rfl ⟨.int .i64 (hm + r), fun w' hl => ?_, ?_⟩
   ·(go_simp <;> (rw [IntKind.wrap_i64]; omega))
   simp only [Act.put, pa, pb, pc]
   refine lw 9 rfl ?_
   simp only [Act.put, pa, pb, pc]
   refine lw 10 rfl ?_
   simp only [Act.put, pa, pb, pc]
   refine late_end (by kernel_rfl) (fun wn hl => ?_)
   have HR2 := H_ (HR2.out.later hl); have HR4 := H_ (HR4.out.later hl); have HB := H_ (below_on HB.out hl); clear hl
   cases g3
   ·have HS := H_ (show namC p n = false by rw [hnam']; rfl)
    clear hnam'
    go_wp2_with (first
     | (guard_target = gD 38; refine step_build (op := ⟨some 38, .build _ _, _, _, _, _⟩) rfl 40 _ rfl (mvA ⟨kz, hm + r, 0, 0, true⟩) (by kernel_rfl) ?_)
     | (guard_target = gA 9; refine blk_alloc rfl 40 rfl (mvA mv0) zeroMv ?_; intro b9 wn N R; have HG9 := H_ (nA HB.out N); have HY9 := H_ (show b2 ≠ b9 from Nat.ne_of_lt (by have h1 := HR2.out.lt; have := N.at_; omega)); have HZ9 := H_ (show b4 ≠ b9 from Nat.ne_of_lt (by have h1 := Blk.lt HR4.out; have := N.at_; omega)); have HR2 := H_ (HR2.out.later N.below); have HR4 := H_ (HR4.out.later N.below); have HR9 := H_ R; have HB := H_ (below_on HB.out N.below); clear N R)
     | (guard_target = gS 9; refine blk_store rfl 40 _ _ rfl b9 rfl (mvA mv0) (mvA ⟨kz, hm + r, 0, 0, true⟩) rfl HR9.out rfl (mv_one _) sizeMv ?_; intro wn U R; have HR2 := H_ (HR2.out.apart U HY9.out); have HR4 := H_ (HR4.out.apart U HZ9.out); have HR9 := H_ R; have HB := H_ (HB.out.trans (U.below HG9.out)); clear U R)
     | (guard_target = gL 2; refine step_load rfl _ rfl b2 rfl p HR2.out ?_)
     | (go_at_call 156; refine (cs_rook p (hm + r) _ HP.out).mono ?_; rintro e w3 ⟨rfl, hb⟩; rw [HHr.out]; have HR2 := H_ (HR2.out.later hb); have HR4 := H_ (HR4.out.later hb); have HR9 := H_ (HR9.out.later hb); have HB := H_ (below_on HB.out hb); clear hb)
     | (guard_target = gL 9; refine blk_load rfl 40 _ rfl b9 rfl (mvA ⟨kz, hm + r, 0, 0, true⟩) HR9.out _ Tryz.underlying40 rfl sizeMv ?_)
     | (go_at_call 157; refine (cs_side p ⟨kz, hm + r, 0, 0, true⟩ _ HFm.out).mono ?_; rintro e w3 ⟨rfl, hb⟩; rw [HSd.out]; have HR2 := H_ (HR2.out.later hb); have HR4 := H_ (HR4.out.later hb); have HR9 := H_ (HR9.out.later hb); have HB := H_ (below_on HB.out hb); clear hb)
     | (guard_target = gD 50; refine step_build (op := ⟨some 50, .build _ _, _, _, _, _⟩) rfl 40 _ rfl (mvA mv0) (by kernel_rfl) ?_)
     | (guard_target = gS 4; refine blk_store rfl 40 _ _ rfl b4 rfl (mvA mv0) (mvA mv0) rfl HR4.out rfl (mv_one _) sizeMv ?_; intro wn U R; have HR4 := H_ R; have HB := H_ (HB.out.trans (U.below HG4.out)); clear U R)
     | (guard_target = gS 4; refine blk_store rfl 40 _ _ rfl b4 rfl (mvA mv0) (mvA ⟨kz, hm + r, 0, 0, true⟩) rfl HR4.out rfl (mv_one _) sizeMv ?_; intro wn U R; have HR4 := H_ R; have HB := H_ (HB.out.trans (U.below HG4.out)); clear U R))
    exact bodyPost_ret (results_cm2 rfl _ _ _ mv0 _ rfl rfl HR4.out) rfl ⟨by rw [HS.out]; rfl, HB.out⟩
   ·cases q3 : (sd == (n : Int))
    ·have q4 : (sd != (n : Int)) = true := by rw [bne, q3]; rfl
     have HS := H_ (show namC p n = false by rw [hnam', q3]; rfl)
     clear hnam' q3
     go_wp2_with (first
      | (guard_target = gD 38; refine step_build (op := ⟨some 38, .build _ _, _, _, _, _⟩) rfl 40 _ rfl (mvA ⟨kz, hm + r, 0, 0, true⟩) (by kernel_rfl) ?_)
      | (guard_target = gA 9; refine blk_alloc rfl 40 rfl (mvA mv0) zeroMv ?_; intro b9 wn N R; have HG9 := H_ (nA HB.out N); have HY9 := H_ (show b2 ≠ b9 from Nat.ne_of_lt (by have h1 := HR2.out.lt; have := N.at_; omega)); have HZ9 := H_ (show b4 ≠ b9 from Nat.ne_of_lt (by have h1 := Blk.lt HR4.out; have := N.at_; omega)); have HR2 := H_ (HR2.out.later N.below); have HR4 := H_ (HR4.out.later N.below); have HR9 := H_ R; have HB := H_ (below_on HB.out N.below); clear N R)
      | (guard_target = gS 9; refine blk_store rfl 40 _ _ rfl b9 rfl (mvA mv0) (mvA ⟨kz, hm + r, 0, 0, true⟩) rfl HR9.out rfl (mv_one _) sizeMv ?_; intro wn U R; have HR2 := H_ (HR2.out.apart U HY9.out); have HR4 := H_ (HR4.out.apart U HZ9.out); have HR9 := H_ R; have HB := H_ (HB.out.trans (U.below HG9.out)); clear U R)
      | (guard_target = gL 2; refine step_load rfl _ rfl b2 rfl p HR2.out ?_)
      | (go_at_call 156; refine (cs_rook p (hm + r) _ HP.out).mono ?_; rintro e w3 ⟨rfl, hb⟩; rw [HHr.out]; have HR2 := H_ (HR2.out.later hb); have HR4 := H_ (HR4.out.later hb); have HR9 := H_ (HR9.out.later hb); have HB := H_ (below_on HB.out hb); clear hb)
      | (guard_target = gL 9; refine blk_load rfl 40 _ rfl b9 rfl (mvA ⟨kz, hm + r, 0, 0, true⟩) HR9.out _ Tryz.underlying40 rfl sizeMv ?_)
      | (go_at_call 157; refine (cs_side p ⟨kz, hm + r, 0, 0, true⟩ _ HFm.out).mono ?_; rintro e w3 ⟨rfl, hb⟩; rw [HSd.out]; have HR2 := H_ (HR2.out.later hb); have HR4 := H_ (HR4.out.later hb); have HR9 := H_ (HR9.out.later hb); have HB := H_ (below_on HB.out hb); clear hb)
      | (guard_target = gD 50; refine step_build (op := ⟨some 50, .build _ _, _, _, _, _⟩) rfl 40 _ rfl (mvA mv0) (by kernel_rfl) ?_)
      | (guard_target = gS 4; refine blk_store rfl 40 _ _ rfl b4 rfl (mvA mv0) (mvA mv0) rfl HR4.out rfl (mv_one _) sizeMv ?_; intro wn U R; have HR4 := H_ R; have HB := H_ (HB.out.trans (U.below HG4.out)); clear U R)
      | (guard_target = gS 4; refine blk_store rfl 40 _ _ rfl b4 rfl (mvA mv0) (mvA ⟨kz, hm + r, 0, 0, true⟩) rfl HR4.out rfl (mv_one _) sizeMv ?_; intro wn U R; have HR4 := H_ R; have HB := H_ (HB.out.trans (U.below HG4.out)); clear U R))
     exact bodyPost_ret (results_cm2 rfl _ _ _ mv0 _ rfl rfl HR4.out) rfl ⟨by rw [HS.out]; rfl, HB.out⟩
    ·have q4 : (sd != (n : Int)) = false := by rw [bne, q3]; rfl
     have HS := H_ (show namC p n = true by rw [hnam', q3]; rfl)
     clear hnam' q3
     go_wp2_with (first
      | (guard_target = gD 38; refine step_build (op := ⟨some 38, .build _ _, _, _, _, _⟩) rfl 40 _ rfl (mvA ⟨kz, hm + r, 0, 0, true⟩) (by kernel_rfl) ?_)
      | (guard_target = gA 9; refine blk_alloc rfl 40 rfl (mvA mv0) zeroMv ?_; intro b9 wn N R; have HG9 := H_ (nA HB.out N); have HY9 := H_ (show b2 ≠ b9 from Nat.ne_of_lt (by have h1 := HR2.out.lt; have := N.at_; omega)); have HZ9 := H_ (show b4 ≠ b9 from Nat.ne_of_lt (by have h1 := Blk.lt HR4.out; have := N.at_; omega)); have HR2 := H_ (HR2.out.later N.below); have HR4 := H_ (HR4.out.later N.below); have HR9 := H_ R; have HB := H_ (below_on HB.out N.below); clear N R)
      | (guard_target = gS 9; refine blk_store rfl 40 _ _ rfl b9 rfl (mvA mv0) (mvA ⟨kz, hm + r, 0, 0, true⟩) rfl HR9.out rfl (mv_one _) sizeMv ?_; intro wn U R; have HR2 := H_ (HR2.out.apart U HY9.out); have HR4 := H_ (HR4.out.apart U HZ9.out); have HR9 := H_ R; have HB := H_ (HB.out.trans (U.below HG9.out)); clear U R)
      | (guard_target = gL 2; refine step_load rfl _ rfl b2 rfl p HR2.out ?_)
      | (go_at_call 156; refine (cs_rook p (hm + r) _ HP.out).mono ?_; rintro e w3 ⟨rfl, hb⟩; rw [HHr.out]; have HR2 := H_ (HR2.out.later hb); have HR4 := H_ (HR4.out.later hb); have HR9 := H_ (HR9.out.later hb); have HB := H_ (below_on HB.out hb); clear hb)
      | (guard_target = gL 9; refine blk_load rfl 40 _ rfl b9 rfl (mvA ⟨kz, hm + r, 0, 0, true⟩) HR9.out _ Tryz.underlying40 rfl sizeMv ?_)
      | (go_at_call 157; refine (cs_side p ⟨kz, hm + r, 0, 0, true⟩ _ HFm.out).mono ?_; rintro e w3 ⟨rfl, hb⟩; rw [HSd.out]; have HR2 := H_ (HR2.out.later hb); have HR4 := H_ (HR4.out.later hb); have HR9 := H_ (HR9.out.later hb); have HB := H_ (below_on HB.out hb); clear hb)
      | (guard_target = gD 50; refine step_build (op := ⟨some 50, .build _ _, _, _, _, _⟩) rfl 40 _ rfl (mvA mv0) (by kernel_rfl) ?_)
      | (guard_target = gS 4; refine blk_store rfl 40 _ _ rfl b4 rfl (mvA mv0) (mvA mv0) rfl HR4.out rfl (mv_one _) sizeMv ?_; intro wn U R; have HR4 := H_ R; have HB := H_ (HB.out.trans (U.below HG4.out)); clear U R)
      | (guard_target = gS 4; refine blk_store rfl 40 _ _ rfl b4 rfl (mvA mv0) (mvA ⟨kz, hm + r, 0, 0, true⟩) rfl HR4.out rfl (mv_one _) sizeMv ?_; intro wn U R; have HR4 := H_ R; have HB := H_ (HB.out.trans (U.below HG4.out)); clear U R))
     exact bodyPost_ret (results_cm2 rfl _ _ _ ⟨kz, hm + r, 0, 0, true⟩ _ rfl rfl HR4.out) rfl ⟨by rw [HS.out, HMv.out]; rfl, HB.out⟩
end Go.Proofs.YteblmnbagbdiiaaGreatDoor
/-
 Castle's List.
-/
namespace Go.Proofs.YteblmnbagbdiiaaGreatDoor
open Go.RowKit Go.Shelf
set_option linter.unusedVariables false
set_option linter.unusedSimpArgs false
attribute [local go_sem] Oper.semAt_some

def preC (p : Nat → Int) (k : Nat) : List Mv := bif k == 0 then [] else bif k == 1 then oneC p 1 else oneC p 1 ++ oneC p 0
theorem pre_next (p : Nat → Int) {k : Nat} (h : k < 2) : preC p (k + 1) = preC p k ++ oneC p (1 - k) := by
 rcases (by omega : k = 0 ∨ k = 1) with rfl | rfl
 ·rfl
 ·rfl
theorem pre_len (p : Nat → Int) {k : Nat} (h : k ≤ 2) : (preC p k).length ≤ 2 := by
 have ho : ∀ n, (oneC p n).length ≤ 1 := fun n => by unfold oneC; cases inC p n <;> simp
 have h1 := ho 1; have h0 := ho 0
 rcases (by omega : k = 0 ∨ k = 1 ∨ k = 2) with rfl | rfl | rfl
 ·exact Nat.zero_le _
 ·show (oneC p 1).length ≤ 2; omega
 ·show (oneC p 1 ++ oneC p 0).length ≤ 2; rw [List.length_append]; omega
def CamL (p : Nat → Int) (w : World) (e : Ending) (w' : World) : Prop := ∃ v, e = .returned v ∧ MvsO w.heap.size (camL p) v w' ∧ Below w.heap.size w w'
theorem casK {p : Nat → Int} {b : Bool} (hp : 0 ≤ p 0 ∧ p 0 ≤ 255) (h : casB (p 0).toNat = b) (w : World) (hT : TabVar w) : Calls Tryz.prog 78 #[.int .u8 (p 0)] w (BoL b w) := by
 have e : p 0 = ((p 0).toNat : Int) := by omega
 rw [e, ← h]
 exact cas_any _ w (by omega) hT
theorem namK {p : Nat → Int} {c n : Nat} {b : Bool} {m : Mv} (h1 : namC p n = b) (h2 : (bif b then mvC p n else mv0) = m) (hc : c < 2) (hn : n < 2) (w : World) (hp : CsR p) (h78 : p 78 = (c : Int)) (hT : CsT w) : Calls Tryz.prog 79 #[.agg (posA p), .int .i64 (n : Int)] w (NamL m b w) := by
 rw [← h2, ← h1]; exact cs_named p c n hc hn w hp h78 hT
theorem mayK {p : Nat → Int} {m : Mv} {n : Nat} {b : Bool} (hb : mayC p m = b) (hn : n < 2) (w : World) (hp : AtR p) (hm : FitV m) (hs : sdC (p 78) m = (n : Int)) (hT : CsT w) : Calls Tryz.prog 80 #[.agg (posA p), .agg (mvA m)] w (BoL b w) := hb ▸ cs_may p m n hn w hp hm hs hT
theorem fit_mvC {p : Nat → Int} {c n : Nat} (hc : p 78 = (c : Int)) (h : namC p n = true) : FitV (mvC p n) ∧ sdC (p 78) (mvC p n) = (n : Int) := by
 unfold namC flB at h
 simp only [Bool.and_eq_true, decide_eq_true_eq, beq_iff_eq] at h
 have hk := king_rng p (p 78)
 have hh := hmC_rng (p 78)
 refine ⟨⟨?_, ?_, ?_, ?_⟩, h.2.2⟩
 ·show -128 ≤ kingZ p (p 78) ∧ kingZ p (p 78) ≤ 127; omega
 ·show -128 ≤ hmC (p 78) + flC p n ∧ hmC (p 78) + flC p n ≤ 127; omega
 ·show (0 : Int) ≤ 0 ∧ (0 : Int) ≤ 255; omega
 ·show (0 : Int) ≤ 0 ∧ (0 : Int) ≤ 255; omega
theorem MvsO.lt' {B : Nat} {L : List Mv} {v : Value} {w : World} (h : MvsO B L v w) {k : Nat} (hk : v.ownBlock = some k) : k < w.heap.size := by
 rcases h.2 with ⟨rfl, _⟩ | ⟨g, cap, cur, rfl, _, hg, _⟩
 ·cases hk
 ·simp [Value.ownBlock] at hk; subst hk; exact (Array.getElem?_eq_some_iff.1 hg).1
theorem row_keptE {w w' : World} {X : Nat → Prop} {b : Nat} {p : Nat → Int} (h : Row w b p) (k : Kept X w w') (hx : ¬ X b) : Row w' b p := row_kept h k hx
theorem list_cs (p : Nat → Int) (w : World) (hp : CsR p) (hT : CsT w) : Calls Tryz.prog 37 #[.agg (posA p)] w (CamL p w) := by
 have HP := H_ hp
 have HT := H_ hT
 have HV := H_ hp.at_.var
 have ht := hp.at_.turn
 clear hp hT
 have HB := H_ (Below.refl w.heap.size w)
 cases g1 : decide (1 < p 78)
 ·have h78 : p 78 ≤ 1 := by have := of_decide_eq_false g1; omega
  cases hcas : casB (p 0).toNat
  ·have HCas := H_ hcas
   have HSp := H_ (show camL p = [] by unfold camL thC; rw [hcas, Bool.and_false]; rfl)
   clear hcas h78
   go_enter Tryz.func37, Tryz.ntmps37
   go_wp2_with (first
   | (guard_target = gB 1; refine step_box rfl _ rfl p rfl ?_; intro b1 w1 N R; have HG1 := H_ (nA HB.out N); have HB := H_ (below_on HB.out N.below); have HR1 := H_ R; clear N R)
   | (guard_target = gL2 9 8; refine gU rfl 5 _ rfl Tryz.underlying5 HR1.out 78 (by decide) rfl rfl ?_)
   | (guard_target = gL2 13 12; refine gU rfl 5 _ rfl Tryz.underlying5 HR1.out 0 (by decide) rfl rfl ?_)
   | (go_at_call 78; refine (casK HV.out HCas.out _ (HT.out.on HB.out).var).mono ?_; rintro e w3 ⟨rfl, hb⟩; have HR1 := H_ (HR1.out.later hb); have HB := H_ (below_on HB.out hb); clear hb))
   exact bodyPost_ret (results_tmp rfl _ _ _) rfl ⟨_, rfl, by rw [HSp.out]; exact World.ownsRow_nil _ _ _ _, HB.out⟩
  ·have HCas := H_ hcas
   obtain ⟨c, hc2⟩ : ∃ c : Nat, p 78 = (c : Int) := ⟨(p 78).toNat, by omega⟩
   have HC := H_ hc2
   have HC2 := H_ (show c < 2 by omega)
   have HSp := H_ (show camL p = preC p 2 by unfold camL thC; rw [hcas, decide_eq_true h78]; rfl)
   clear hcas h78 hc2
   obtain ⟨i0, hi, hz0, hz1, hz2⟩ : ∃ i, Tryz.prog.info? 40 = some i ∧ i.zero = some (.agg (mvA mv0)) ∧ i.size = 5 ∧ i.bytes = 5 := by
    cases h : Tryz.prog.info? 40 with
    | none => have := infoMv; rw [h] at this; cases this
    | some i => have := infoMv; rw [h] at this; simp at this; exact ⟨i, rfl, this.1, this.2.1, this.2.2⟩
   go_enter Tryz.func37, Tryz.ntmps37
   go_wp2_with (first
   | (guard_target = gB 1; refine step_box rfl _ rfl p rfl ?_; intro b1 w1 N R; have HG1 := H_ (nA HB.out N); have HB := H_ (below_on HB.out N.below); have HR1 := H_ R; clear N R)
   | (guard_target = gL2 9 8; refine gU rfl 5 _ rfl Tryz.underlying5 HR1.out 78 (by decide) rfl rfl ?_)
   | (guard_target = gL2 13 12; refine gU rfl 5 _ rfl Tryz.underlying5 HR1.out 0 (by decide) rfl rfl ?_)
   | (go_at_call 78; refine (casK HV.out HCas.out _ (HT.out.on HB.out).var).mono ?_; rintro e w3 ⟨rfl, hb⟩; have HR1 := H_ (HR1.out.later hb); have HB := H_ (below_on HB.out hb); clear hb))
   obtain ⟨B1, hB1⟩ : ∃ B1, B1 = w3.heap.size := ⟨_, rfl⟩
   have HLt := H_ (show b1 < B1 by rw [hB1]; exact HR1.out.lt)
   have HLw := H_ (show w.heap.size ≤ B1 by rw [hB1]; exact HB.out.size)
   go_loopw [3, 18] (fun v i wr => ∃ k : Nat, k ≤ 2 ∧ i = .int .i64 (k : Int) ∧ MvsO B1 (preC p k) v wr ∧ Row wr b1 p ∧ Below w.heap.size w wr ∧ B1 ≤ wr.heap.size) (fun _ i _ => 2 - (intOf i).toNat)
   case atStart => exact ⟨0, by omega, rfl, World.ownsRow_nil _ _ _ _, HR1.out, HB.out, by rw [hB1]; exact Nat.le_refl _⟩
   case round =>
    clear HR1 HB hB1 HV
    obtain ⟨k, hk, rfl, hv, hr1, hb, hs⟩ := hrel
    have HV := H_ hv
    have HR1 := H_ hr1
    have HB := H_ hb
    have HS := H_ hs
    clear hv hr1 hb hs
    rcases (by omega : k = 0 ∨ k = 1 ∨ k = 2) with e | e | e
    ·have EK := H_ e
     have HK2 := H_ (show k < 2 by omega)
     have gk : decide (k < 2) = true := decide_eq_true HK2.out
     have gk' : decide ((k : Int) < 2) = true := decide_eq_true (by have := HK2.out; omega)
     clear e
     obtain ⟨nb, HNb⟩ : ∃ nb, Hid (namC p 1 = nb) := ⟨_, H_ rfl⟩
     obtain ⟨M, HNm⟩ : ∃ M, Hid ((bif nb then mvC p 1 else mv0) = M) := ⟨_, H_ rfl⟩
     cases nb
     ·have HOn := H_ (show oneC p 1 = [] by unfold oneC inC; rw [HNb.out]; rfl)
      go_wp2_with (first
       | (guard_target = gI 20; refine step_index (op := ⟨some 20, .index _ _ _, _, _, _, _⟩) rfl 50 3 _ _ rfl 2 #[.int .i64 1, .int .i64 0] rfl .i64 k rfl HK2.out Tryz.underlying50 Tryz.underlying3 rfl (by kernel_rfl) (.int .i64 (1 : Int)) (by rw [EK.out]; rfl) ?_)
       | (guard_target = gL 1; refine step_load rfl _ rfl b1 rfl p HR1.out ?_)
       | (go_at_call 79; refine (namK (n := 1) HNb.out HNm.out HC2.out (by decide) _ HP.out HC.out (HT.out.on HB.out)).mono ?_; rintro e w3 ⟨rfl, hb⟩; have HR1 := H_ (HR1.out.later hb); have HV := H_ (HV.out.later hb); have HS := H_ (Nat.le_trans HS.out hb.size); have HB := H_ (below_on HB.out hb); clear hb)
       | (guard_target = gA 6; refine blk_alloc rfl 40 rfl (mvA mv0) zeroMv ?_; intro b6 wn N R; have HG6 := H_ (nA HB.out N); have HY6 := H_ (show b1 ≠ b6 from Nat.ne_of_lt (by have h1 := HR1.out.lt; have := N.at_; omega)); have HX6 := H_ (show u3.ownBlock ≠ some b6 from fun e => by have h1 := HV.out.lt' e; have := N.at_; omega); have HR1 := H_ (HR1.out.later N.below); have HV := H_ (HV.out.later N.below); have HS := H_ (Nat.le_trans HS.out N.below.size); have HR6 := H_ R; have HB := H_ (below_on HB.out N.below); clear N R)
       | (guard_target = gS 6; refine blk_store rfl 40 _ _ rfl b6 rfl (mvA mv0) (mvA M) rfl HR6.out rfl (mv_one _) sizeMv ?_; intro wn U R; have HR1 := H_ (HR1.out.apart U HY6.out); have HV := H_ (HV.out.keep fun g hg => U.block g (fun e => HX6.out (e ▸ hg))); have HS := H_ (show B1 ≤ wn.heap.size by rw [U.size]; exact HS.out); have HR6 := H_ R; have HB := H_ (HB.out.trans (U.below HG6.out)); clear U R))
      go_roundw
      case rel => exact ⟨k + 1, by have := HK2.out; omega, by go_num, by rw [pre_next p HK2.out, show 1 - k = 1 by rw [EK.out], HOn.out, List.append_nil]; exact HV.out, HR1.out, HB.out, HS.out⟩
      case measure => simp [intOf]; have := HK2.out; omega
     ·obtain ⟨HFm', HSd'⟩ := fit_mvC HC.out HNb.out
      have HFm := H_ (show FitV M by rw [← HNm.out]; exact HFm')
      have HSd := H_ (show sdC (p 78) M = ((1 : Nat) : Int) by rw [← HNm.out]; exact HSd')
      clear HFm' HSd'
      obtain ⟨mb, HMb⟩ : ∃ mb, Hid (mayC p M = mb) := ⟨_, H_ rfl⟩
      have HI := H_ (show inC p 1 = mb by unfold inC; rw [HNb.out, Bool.true_and, ← HMb.out, ← HNm.out]; rfl)
      cases mb
      ·have HOn := H_ (show oneC p 1 = [] by unfold oneC; rw [HI.out]; rfl)
       go_wp2_with (first
        | (guard_target = gI 20; refine step_index (op := ⟨some 20, .index _ _ _, _, _, _, _⟩) rfl 50 3 _ _ rfl 2 #[.int .i64 1, .int .i64 0] rfl .i64 k rfl HK2.out Tryz.underlying50 Tryz.underlying3 rfl (by kernel_rfl) (.int .i64 (1 : Int)) (by rw [EK.out]; rfl) ?_)
        | (guard_target = gL 1; refine step_load rfl _ rfl b1 rfl p HR1.out ?_)
        | (go_at_call 79; refine (namK (n := 1) HNb.out HNm.out HC2.out (by decide) _ HP.out HC.out (HT.out.on HB.out)).mono ?_; rintro e w3 ⟨rfl, hb⟩; have HR1 := H_ (HR1.out.later hb); have HV := H_ (HV.out.later hb); have HS := H_ (Nat.le_trans HS.out hb.size); have HB := H_ (below_on HB.out hb); clear hb)
        | (guard_target = gA 6; refine blk_alloc rfl 40 rfl (mvA mv0) zeroMv ?_; intro b6 wn N R; have HG6 := H_ (nA HB.out N); have HY6 := H_ (show b1 ≠ b6 from Nat.ne_of_lt (by have h1 := HR1.out.lt; have := N.at_; omega)); have HX6 := H_ (show u3.ownBlock ≠ some b6 from fun e => by have h1 := HV.out.lt' e; have := N.at_; omega); have HR1 := H_ (HR1.out.later N.below); have HV := H_ (HV.out.later N.below); have HS := H_ (Nat.le_trans HS.out N.below.size); have HR6 := H_ R; have HB := H_ (below_on HB.out N.below); clear N R)
        | (guard_target = gS 6; refine blk_store rfl 40 _ _ rfl b6 rfl (mvA mv0) (mvA M) rfl HR6.out rfl (mv_one _) sizeMv ?_; intro wn U R; have HR1 := H_ (HR1.out.apart U HY6.out); have HV := H_ (HV.out.keep fun g hg => U.block g (fun e => HX6.out (e ▸ hg))); have HS := H_ (show B1 ≤ wn.heap.size by rw [U.size]; exact HS.out); have HR6 := H_ R; have HB := H_ (HB.out.trans (U.below HG6.out)); clear U R)
        | (guard_target = gL 6; refine blk_load rfl 40 _ rfl b6 rfl (mvA M) HR6.out _ Tryz.underlying40 rfl sizeMv ?_)
        | (go_at_call 80; refine (mayK (n := 1) HMb.out (by decide) _ HP.out.at_ HFm.out HSd.out (HT.out.on HB.out)).mono ?_; rintro e w3 ⟨rfl, hb⟩; have HR1 := H_ (HR1.out.later hb); have HR6 := H_ (HR6.out.later hb); have HV := H_ (HV.out.later hb); have HS := H_ (Nat.le_trans HS.out hb.size); have HB := H_ (below_on HB.out hb); clear hb))
       go_roundw
       case rel => exact ⟨k + 1, by have := HK2.out; omega, by go_num, by rw [pre_next p HK2.out, show 1 - k = 1 by rw [EK.out], HOn.out, List.append_nil]; exact HV.out, HR1.out, HB.out, HS.out⟩
       case measure => simp [intOf]; have := HK2.out; omega
      ·have HOn := H_ (show oneC p 1 = [M] by unfold oneC; rw [HI.out, cond_true, ← HNm.out]; rfl)
       have HLn := H_ (pre_len p (k := k) (by have := HK2.out; omega))
       go_wp2_with (first
        | (guard_target = gI 20; refine step_index (op := ⟨some 20, .index _ _ _, _, _, _, _⟩) rfl 50 3 _ _ rfl 2 #[.int .i64 1, .int .i64 0] rfl .i64 k rfl HK2.out Tryz.underlying50 Tryz.underlying3 rfl (by kernel_rfl) (.int .i64 (1 : Int)) (by rw [EK.out]; rfl) ?_)
        | (guard_target = gL 1; refine step_load rfl _ rfl b1 rfl p HR1.out ?_)
        | (go_at_call 79; refine (namK (n := 1) HNb.out HNm.out HC2.out (by decide) _ HP.out HC.out (HT.out.on HB.out)).mono ?_; rintro e w3 ⟨rfl, hb⟩; have HR1 := H_ (HR1.out.later hb); have HV := H_ (HV.out.later hb); have HS := H_ (Nat.le_trans HS.out hb.size); have HB := H_ (below_on HB.out hb); clear hb)
        | (guard_target = gA 6; refine blk_alloc rfl 40 rfl (mvA mv0) zeroMv ?_; intro b6 wn N R; have HG6 := H_ (nA HB.out N); have HY6 := H_ (show b1 ≠ b6 from Nat.ne_of_lt (by have h1 := HR1.out.lt; have := N.at_; omega)); have HX6 := H_ (show u3.ownBlock ≠ some b6 from fun e => by have h1 := HV.out.lt' e; have := N.at_; omega); have HR1 := H_ (HR1.out.later N.below); have HV := H_ (HV.out.later N.below); have HS := H_ (Nat.le_trans HS.out N.below.size); have HR6 := H_ R; have HB := H_ (below_on HB.out N.below); clear N R)
        | (guard_target = gS 6; refine blk_store rfl 40 _ _ rfl b6 rfl (mvA mv0) (mvA M) rfl HR6.out rfl (mv_one _) sizeMv ?_; intro wn U R; have HR1 := H_ (HR1.out.apart U HY6.out); have HV := H_ (HV.out.keep fun g hg => U.block g (fun e => HX6.out (e ▸ hg))); have HS := H_ (show B1 ≤ wn.heap.size by rw [U.size]; exact HS.out); have HR6 := H_ R; have HB := H_ (HB.out.trans (U.below HG6.out)); clear U R)
        | (guard_target = gL 6; refine blk_load rfl 40 _ rfl b6 rfl (mvA M) HR6.out _ Tryz.underlying40 rfl sizeMv ?_; show wpList _ _ _ _ (Act.put _ _ (Value.agg #[.int .i8 M.f, .int .i8 M.t, .int .u8 M.pr, .int .u8 M.dr, .bool M.ca])) _)
        | (go_at_call 80; refine (mayK (n := 1) HMb.out (by decide) _ HP.out.at_ HFm.out HSd.out (HT.out.on HB.out)).mono ?_; rintro e w3 ⟨rfl, hb⟩; have HR1 := H_ (HR1.out.later hb); have HR6 := H_ (HR6.out.later hb); have HV := H_ (HV.out.later hb); have HS := H_ (Nat.le_trans HS.out hb.size); have HB := H_ (below_on HB.out hb); clear hb)
        | (at_builtin; refine wpList_append_own _ rfl _ _ 33 rfl B1 40 i0 (.agg (mvA mv0)) 5 5 Tryz.underlying33 hi hz0 hz1 hz2 rfl (by decide) _ _ _ rfl (World.ownsRow.alloc HV.out _) ⟨_, 0, none⟩ 1 1 (mvA M).toList rfl rfl ?c1 ?c2 ?c3 ?c4 ?c5 ?_))
       case c1 => exact mcells_new _ (mvA M) _
       case c2 => simp [mvA, Value.oneCell']
       case c3 => unfold maxLen; have := HLn.out; omega
       case c4 => have := HLn.out; omega
       case c5 => have := HS.out; simp; omega
       intro v' w2 hown' hgrow _
       have HVn := H_ (HV.out.grow hown')
       have hkp := (Kept.of_call (fun k => u3.ownBlock = some k) (box_below _ _)).trans (mkept_grown hgrow)
       have HR1n := H_ (row_keptE HR1.out hkp (fun e => by have h1 := HV.out.from e; have := HLt.out; omega))
       have HBn := H_ (HB.out.trans (hkp.below (fun i hi => by have h1 := HV.out.from hi; have := HLw.out; omega) HB.out.size))
       have HSn := H_ (Nat.le_trans HS.out hkp.size)
       clear hkp hown' hgrow
       go_wp2_with fail
       go_roundw
       case rel => exact ⟨k + 1, by have := HK2.out; omega, by go_num, by rw [pre_next p HK2.out, show 1 - k = 1 by rw [EK.out], HOn.out]; exact HVn.out, HR1n.out, HBn.out, HSn.out⟩
       case measure => simp [intOf]; have := HK2.out; omega
    ·have EK := H_ e
     have HK2 := H_ (show k < 2 by omega)
     have gk : decide (k < 2) = true := decide_eq_true HK2.out
     have gk' : decide ((k : Int) < 2) = true := decide_eq_true (by have := HK2.out; omega)
     clear e
     obtain ⟨nb, HNb⟩ : ∃ nb, Hid (namC p 0 = nb) := ⟨_, H_ rfl⟩
     obtain ⟨M, HNm⟩ : ∃ M, Hid ((bif nb then mvC p 0 else mv0) = M) := ⟨_, H_ rfl⟩
     cases nb
     ·have HOn := H_ (show oneC p 0 = [] by unfold oneC inC; rw [HNb.out]; rfl)
      go_wp2_with (first
       | (guard_target = gI 20; refine step_index (op := ⟨some 20, .index _ _ _, _, _, _, _⟩) rfl 50 3 _ _ rfl 2 #[.int .i64 1, .int .i64 0] rfl .i64 k rfl HK2.out Tryz.underlying50 Tryz.underlying3 rfl (by kernel_rfl) (.int .i64 (0 : Int)) (by rw [EK.out]; rfl) ?_)
       | (guard_target = gL 1; refine step_load rfl _ rfl b1 rfl p HR1.out ?_)
       | (go_at_call 79; refine (namK (n := 0) HNb.out HNm.out HC2.out (by decide) _ HP.out HC.out (HT.out.on HB.out)).mono ?_; rintro e w3 ⟨rfl, hb⟩; have HR1 := H_ (HR1.out.later hb); have HV := H_ (HV.out.later hb); have HS := H_ (Nat.le_trans HS.out hb.size); have HB := H_ (below_on HB.out hb); clear hb)
       | (guard_target = gA 6; refine blk_alloc rfl 40 rfl (mvA mv0) zeroMv ?_; intro b6 wn N R; have HG6 := H_ (nA HB.out N); have HY6 := H_ (show b1 ≠ b6 from Nat.ne_of_lt (by have h1 := HR1.out.lt; have := N.at_; omega)); have HX6 := H_ (show u3.ownBlock ≠ some b6 from fun e => by have h1 := HV.out.lt' e; have := N.at_; omega); have HR1 := H_ (HR1.out.later N.below); have HV := H_ (HV.out.later N.below); have HS := H_ (Nat.le_trans HS.out N.below.size); have HR6 := H_ R; have HB := H_ (below_on HB.out N.below); clear N R)
       | (guard_target = gS 6; refine blk_store rfl 40 _ _ rfl b6 rfl (mvA mv0) (mvA M) rfl HR6.out rfl (mv_one _) sizeMv ?_; intro wn U R; have HR1 := H_ (HR1.out.apart U HY6.out); have HV := H_ (HV.out.keep fun g hg => U.block g (fun e => HX6.out (e ▸ hg))); have HS := H_ (show B1 ≤ wn.heap.size by rw [U.size]; exact HS.out); have HR6 := H_ R; have HB := H_ (HB.out.trans (U.below HG6.out)); clear U R))
      go_roundw
      case rel => exact ⟨k + 1, by have := HK2.out; omega, by go_num, by rw [pre_next p HK2.out, show 1 - k = 0 by rw [EK.out], HOn.out, List.append_nil]; exact HV.out, HR1.out, HB.out, HS.out⟩
      case measure => simp [intOf]; have := HK2.out; omega
     ·obtain ⟨HFm', HSd'⟩ := fit_mvC HC.out HNb.out
      have HFm := H_ (show FitV M by rw [← HNm.out]; exact HFm')
      have HSd := H_ (show sdC (p 78) M = ((0 : Nat) : Int) by rw [← HNm.out]; exact HSd')
      clear HFm' HSd'
      obtain ⟨mb, HMb⟩ : ∃ mb, Hid (mayC p M = mb) := ⟨_, H_ rfl⟩
      have HI := H_ (show inC p 0 = mb by unfold inC; rw [HNb.out, Bool.true_and, ← HMb.out, ← HNm.out]; rfl)
      cases mb
      ·have HOn := H_ (show oneC p 0 = [] by unfold oneC; rw [HI.out]; rfl)
       go_wp2_with (first
        | (guard_target = gI 20; refine step_index (op := ⟨some 20, .index _ _ _, _, _, _, _⟩) rfl 50 3 _ _ rfl 2 #[.int .i64 1, .int .i64 0] rfl .i64 k rfl HK2.out Tryz.underlying50 Tryz.underlying3 rfl (by kernel_rfl) (.int .i64 (0 : Int)) (by rw [EK.out]; rfl) ?_)
        | (guard_target = gL 1; refine step_load rfl _ rfl b1 rfl p HR1.out ?_)
        | (go_at_call 79; refine (namK (n := 0) HNb.out HNm.out HC2.out (by decide) _ HP.out HC.out (HT.out.on HB.out)).mono ?_; rintro e w3 ⟨rfl, hb⟩; have HR1 := H_ (HR1.out.later hb); have HV := H_ (HV.out.later hb); have HS := H_ (Nat.le_trans HS.out hb.size); have HB := H_ (below_on HB.out hb); clear hb)
        | (guard_target = gA 6; refine blk_alloc rfl 40 rfl (mvA mv0) zeroMv ?_; intro b6 wn N R; have HG6 := H_ (nA HB.out N); have HY6 := H_ (show b1 ≠ b6 from Nat.ne_of_lt (by have h1 := HR1.out.lt; have := N.at_; omega)); have HX6 := H_ (show u3.ownBlock ≠ some b6 from fun e => by have h1 := HV.out.lt' e; have := N.at_; omega); have HR1 := H_ (HR1.out.later N.below); have HV := H_ (HV.out.later N.below); have HS := H_ (Nat.le_trans HS.out N.below.size); have HR6 := H_ R; have HB := H_ (below_on HB.out N.below); clear N R)
        | (guard_target = gS 6; refine blk_store rfl 40 _ _ rfl b6 rfl (mvA mv0) (mvA M) rfl HR6.out rfl (mv_one _) sizeMv ?_; intro wn U R; have HR1 := H_ (HR1.out.apart U HY6.out); have HV := H_ (HV.out.keep fun g hg => U.block g (fun e => HX6.out (e ▸ hg))); have HS := H_ (show B1 ≤ wn.heap.size by rw [U.size]; exact HS.out); have HR6 := H_ R; have HB := H_ (HB.out.trans (U.below HG6.out)); clear U R)
        | (guard_target = gL 6; refine blk_load rfl 40 _ rfl b6 rfl (mvA M) HR6.out _ Tryz.underlying40 rfl sizeMv ?_)
        | (go_at_call 80; refine (mayK (n := 0) HMb.out (by decide) _ HP.out.at_ HFm.out HSd.out (HT.out.on HB.out)).mono ?_; rintro e w3 ⟨rfl, hb⟩; have HR1 := H_ (HR1.out.later hb); have HR6 := H_ (HR6.out.later hb); have HV := H_ (HV.out.later hb); have HS := H_ (Nat.le_trans HS.out hb.size); have HB := H_ (below_on HB.out hb); clear hb))
       go_roundw
       case rel => exact ⟨k + 1, by have := HK2.out; omega, by go_num, by rw [pre_next p HK2.out, show 1 - k = 0 by rw [EK.out], HOn.out, List.append_nil]; exact HV.out, HR1.out, HB.out, HS.out⟩
       case measure => simp [intOf]; have := HK2.out; omega
      ·have HOn := H_ (show oneC p 0 = [M] by unfold oneC; rw [HI.out, cond_true, ← HNm.out]; rfl)
       have HLn := H_ (pre_len p (k := k) (by have := HK2.out; omega))
       go_wp2_with (first
        | (guard_target = gI 20; refine step_index (op := ⟨some 20, .index _ _ _, _, _, _, _⟩) rfl 50 3 _ _ rfl 2 #[.int .i64 1, .int .i64 0] rfl .i64 k rfl HK2.out Tryz.underlying50 Tryz.underlying3 rfl (by kernel_rfl) (.int .i64 (0 : Int)) (by rw [EK.out]; rfl) ?_)
        | (guard_target = gL 1; refine step_load rfl _ rfl b1 rfl p HR1.out ?_)
        | (go_at_call 79; refine (namK (n := 0) HNb.out HNm.out HC2.out (by decide) _ HP.out HC.out (HT.out.on HB.out)).mono ?_; rintro e w3 ⟨rfl, hb⟩; have HR1 := H_ (HR1.out.later hb); have HV := H_ (HV.out.later hb); have HS := H_ (Nat.le_trans HS.out hb.size); have HB := H_ (below_on HB.out hb); clear hb)
        | (guard_target = gA 6; refine blk_alloc rfl 40 rfl (mvA mv0) zeroMv ?_; intro b6 wn N R; have HG6 := H_ (nA HB.out N); have HY6 := H_ (show b1 ≠ b6 from Nat.ne_of_lt (by have h1 := HR1.out.lt; have := N.at_; omega)); have HX6 := H_ (show u3.ownBlock ≠ some b6 from fun e => by have h1 := HV.out.lt' e; have := N.at_; omega); have HR1 := H_ (HR1.out.later N.below); have HV := H_ (HV.out.later N.below); have HS := H_ (Nat.le_trans HS.out N.below.size); have HR6 := H_ R; have HB := H_ (below_on HB.out N.below); clear N R)
        | (guard_target = gS 6; refine blk_store rfl 40 _ _ rfl b6 rfl (mvA mv0) (mvA M) rfl HR6.out rfl (mv_one _) sizeMv ?_; intro wn U R; have HR1 := H_ (HR1.out.apart U HY6.out); have HV := H_ (HV.out.keep fun g hg => U.block g (fun e => HX6.out (e ▸ hg))); have HS := H_ (show B1 ≤ wn.heap.size by rw [U.size]; exact HS.out); have HR6 := H_ R; have HB := H_ (HB.out.trans (U.below HG6.out)); clear U R)
        | (guard_target = gL 6; refine blk_load rfl 40 _ rfl b6 rfl (mvA M) HR6.out _ Tryz.underlying40 rfl sizeMv ?_; show wpList _ _ _ _ (Act.put _ _ (Value.agg #[.int .i8 M.f, .int .i8 M.t, .int .u8 M.pr, .int .u8 M.dr, .bool M.ca])) _)
        | (go_at_call 80; refine (mayK (n := 0) HMb.out (by decide) _ HP.out.at_ HFm.out HSd.out (HT.out.on HB.out)).mono ?_; rintro e w3 ⟨rfl, hb⟩; have HR1 := H_ (HR1.out.later hb); have HR6 := H_ (HR6.out.later hb); have HV := H_ (HV.out.later hb); have HS := H_ (Nat.le_trans HS.out hb.size); have HB := H_ (below_on HB.out hb); clear hb)
        | (at_builtin; refine wpList_append_own _ rfl _ _ 33 rfl B1 40 i0 (.agg (mvA mv0)) 5 5 Tryz.underlying33 hi hz0 hz1 hz2 rfl (by decide) _ _ _ rfl (World.ownsRow.alloc HV.out _) ⟨_, 0, none⟩ 1 1 (mvA M).toList rfl rfl ?c1 ?c2 ?c3 ?c4 ?c5 ?_))
       case c1 => exact mcells_new _ (mvA M) _
       case c2 => simp [mvA, Value.oneCell']
       case c3 => unfold maxLen; have := HLn.out; omega
       case c4 => have := HLn.out; omega
       case c5 => have := HS.out; simp; omega
       intro v' w2 hown' hgrow _
       have HVn := H_ (HV.out.grow hown')
       have hkp := (Kept.of_call (fun k => u3.ownBlock = some k) (box_below _ _)).trans (mkept_grown hgrow)
       have HR1n := H_ (row_keptE HR1.out hkp (fun e => by have h1 := HV.out.from e; have := HLt.out; omega))
       have HBn := H_ (HB.out.trans (hkp.below (fun i hi => by have h1 := HV.out.from hi; have := HLw.out; omega) HB.out.size))
       have HSn := H_ (Nat.le_trans HS.out hkp.size)
       clear hkp hown' hgrow
       go_wp2_with fail
       go_roundw
       case rel => exact ⟨k + 1, by have := HK2.out; omega, by go_num, by rw [pre_next p HK2.out, show 1 - k = 0 by rw [EK.out], HOn.out]; exact HVn.out, HR1n.out, HBn.out, HSn.out⟩
       case measure => simp [intOf]; have := HK2.out; omega
    ·subst e
     go_wp2_with fail
     exact bodyPost_ret (results_tmp rfl _ _ _) rfl ⟨_, rfl, by rw [HSp.out]; exact World.ownsRow.mono HV.out HLw.out, HB.out⟩
 ·have HSp := H_ (show camL p = [] by unfold camL thC; rw [decide_eq_false (by have := of_decide_eq_true g1; omega), Bool.false_and]; rfl)
  go_enter Tryz.func37, Tryz.ntmps37
  go_wp2_with (first
   | (guard_target = gB 1; refine step_box rfl _ rfl p rfl ?_; intro b1 w1 N R; have HG1 := H_ (nA HB.out N); have HB := H_ (below_on HB.out N.below); have HR1 := H_ R; clear N R)
   | (guard_target = gL2 9 8; refine gU rfl 5 _ rfl Tryz.underlying5 HR1.out 78 (by decide) rfl rfl ?_)
   | (guard_target = gL2 13 12; refine gU rfl 5 _ rfl Tryz.underlying5 HR1.out 0 (by decide) rfl rfl ?_))
  exact bodyPost_ret (results_tmp rfl _ _ _) rfl ⟨_, rfl, by rw [HSp.out]; exact World.ownsRow_nil _ _ _ _, HB.out⟩
end Go.Proofs.YteblmnbagbdiiaaGreatDoor
