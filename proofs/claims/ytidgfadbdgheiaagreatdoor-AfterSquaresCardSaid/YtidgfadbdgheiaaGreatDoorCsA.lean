/-
 Contracts of castle's home, atHome, other, Side, isRook, isSheltered, Goals.
-/
import Derived.Test.YtidgfadbdgheiaaGreatDoorCsMath
namespace Go.Proofs.YtidgfadbdgheiaaGreatDoor
open Go.RowKit Go.Shelf
set_option linter.unusedVariables false
set_option linter.unusedSimpArgs false
attribute [local go_sem] Oper.semAt_some

theorem cs_home (c : Int) (w : World) : Calls Tryz.prog 38 #[.int .u8 c] w (fun e w' => e = .returned (.int .i64 (hmC c)) ∧ w = w') := by
 unfold hmC
 cases g : (c == 0)
 all_goals
  go_enter Tryz.func38, Tryz.ntmps38
  go_wp2
  go_ret
  exact ⟨rfl, rfl⟩
theorem cs_other (c : Int) (w : World) : Calls Tryz.prog 140 #[.int .u8 c] w (fun e w' => e = .returned (.int .u8 (oth c)) ∧ w = w') := by
 go_enter Tryz.func140, Tryz.ntmps140
 go_wp2
 go_ret
 exact ⟨rfl, rfl⟩
set_option maxRecDepth 100000 in
set_option maxHeartbeats 1000000 in
theorem cs_at (c s : Int) (w : World) : Calls Tryz.prog 82 #[.int .u8 c, .int .i64 s] w (fun e w' => e = .returned (.bool (atC c s)) ∧ w = w') := by
 have hr := hmC_rng c
 cases g1 : decide (c ≤ 1)
 ·have HS := Lib.hid (show atC c s = false by unfold atC; rw [g1]; rfl)
  go_enter Tryz.func82, Tryz.ntmps82
  go_wp2_with fail
  go_ret
  exact ⟨by rw [HS.out]; rfl, rfl⟩
 ·cases g2 : decide (hmC c ≤ s)
  ·have HS := Lib.hid (show atC c s = false by unfold atC; rw [g1, g2]; rfl)
   go_enter Tryz.func82, Tryz.ntmps82
   go_wp2_with (go_at_call 38; refine (cs_home c _).mono ?_; rintro e w3 ⟨rfl, rfl⟩)
   go_ret
   exact ⟨by rw [HS.out]; rfl, rfl⟩
  ·have HS := Lib.hid (show atC c s = decide (s < hmC c + 8) by unfold atC; rw [g1, g2]; rfl)
   go_enter Tryz.func82, Tryz.ntmps82
   go_wp2_with (go_at_call 38; refine (cs_home c _).mono ?_; rintro e w3 ⟨rfl, rfl⟩)
   go_ret
   exact ⟨by rw [HS.out]; rfl, rfl⟩
set_option maxRecDepth 100000 in
set_option maxHeartbeats 1000000 in
theorem cs_side (p : Nat → Int) (m : Mv) (w : World) (hm : FitV m) : Calls Tryz.prog 37 #[.agg (posA p), .agg (mvA m)] w (IntL (sdC (p 78) m) w) := by
 have hf := hm.f
 have ht := hm.t
 clear hm
 have HB := Lib.hid (Below.refl w.heap.size w)
 obtain ⟨a1, ha1⟩ : ∃ a, atC (p 78) m.f = a := ⟨_, rfl⟩
 obtain ⟨a2, ha2⟩ : ∃ a, atC (p 78) m.t = a := ⟨_, rfl⟩
 have HAf := Lib.hid ha1
 have HAt := Lib.hid ha2
 cases g1 : m.ca
 ·have g5 := g1
  have HS := Lib.hid (show sdC (p 78) m = -1 by unfold sdC; rw [g1]; rfl)
  go_enter Tryz.func37, Tryz.ntmps37
  go_wp2_with (first
   | (guard_target = Go.wpList _ _ _ ((⟨some 2, .box _ _, _, _, _, _⟩ : Go.Oper) :: _) _ _; refine step_box rfl _ rfl p rfl ?_; intro b2 w1 N R; have HG2 := Lib.hid (show w.heap.size ≤ b2 by have := HB.out.size; have := N.at_; omega); have HB := Lib.hid (below_on HB.out N.below); have HR2 := Lib.hid R; clear N R)
   | (guard_target = Go.wpList _ _ _ ((⟨some 3, .box _ _, _, _, _, _⟩ : Go.Oper) :: _) _ _; refine blk_box rfl 40 _ rfl (mvA m) rfl ?_; intro b3 w1 N R; have HG3 := Lib.hid (show w.heap.size ≤ b3 by have := HB.out.size; have := N.at_; omega); have HR2 := Lib.hid (HR2.out.later N.below); have HB := Lib.hid (below_on HB.out N.below); have HR3 := Lib.hid R; clear N R)
   | (guard_target = Go.wpList _ _ _ ((⟨some _, .load _ (.tmp 6), _, _, _, _⟩ : Go.Oper) :: _) _ _; refine step_get rfl 4 _ rfl b3 4 rfl Tryz.underlying4 rfl (.bool m.ca) ?_ ?_; exact (HR3.out.cell 4).trans rfl)
   | (guard_target = Go.wpList _ _ _ ((⟨some _, .load _ (.tmp 9), _, _, _, _⟩ : Go.Oper) :: _) _ _; refine step_get rfl 26 _ rfl b3 0 rfl Tryz.underlying26 rfl (.int .i8 m.f) ?_ ?_; exact (HR3.out.cell 0).trans rfl)
   | (guard_target = Go.wpList _ _ _ ((⟨some _, .load _ (.tmp 16), _, _, _, _⟩ : Go.Oper) :: _) _ _; refine step_get rfl 26 _ rfl b3 0 rfl Tryz.underlying26 rfl (.int .i8 m.f) ?_ ?_; exact (HR3.out.cell 0).trans rfl)
   | (guard_target = Go.wpList _ _ _ ((⟨some _, .load _ (.tmp 31), _, _, _, _⟩ : Go.Oper) :: _) _ _; refine step_get rfl 26 _ rfl b3 0 rfl Tryz.underlying26 rfl (.int .i8 m.f) ?_ ?_; exact (HR3.out.cell 0).trans rfl)
   | (guard_target = Go.wpList _ _ _ ((⟨some _, .load _ (.tmp 11), _, _, _, _⟩ : Go.Oper) :: _) _ _; refine step_get rfl 26 _ rfl b3 1 rfl Tryz.underlying26 rfl (.int .i8 m.t) ?_ ?_; exact (HR3.out.cell 1).trans rfl)
   | (guard_target = Go.wpList _ _ _ ((⟨some _, .load _ (.tmp 23), _, _, _, _⟩ : Go.Oper) :: _) _ _; refine step_get rfl 26 _ rfl b3 1 rfl Tryz.underlying26 rfl (.int .i8 m.t) ?_ ?_; exact (HR3.out.cell 1).trans rfl)
   | (guard_target = Go.wpList _ _ _ ((⟨some _, .load _ (.tmp 29), _, _, _, _⟩ : Go.Oper) :: _) _ _; refine step_get rfl 26 _ rfl b3 1 rfl Tryz.underlying26 rfl (.int .i8 m.t) ?_ ?_; exact (HR3.out.cell 1).trans rfl)
   | (guard_target = Go.wpList _ _ _ ((⟨some _, .load _ (.tmp 14), _, _, _, _⟩ : Go.Oper) :: _) _ _; refine step_get rfl 5 _ rfl b2 78 rfl Tryz.underlying5 rfl (.int .u8 (p 78)) ?_ ?_; exact HR2.out.cell 78 (by decide))
   | (guard_target = Go.wpList _ _ _ ((⟨some _, .load _ (.tmp 21), _, _, _, _⟩ : Go.Oper) :: _) _ _; refine step_get rfl 5 _ rfl b2 78 rfl Tryz.underlying5 rfl (.int .u8 (p 78)) ?_ ?_; exact HR2.out.cell 78 (by decide))
   | (go_at_call 82; guard_target = Go.Calls _ _ #[_, Go.Value.int _ (m.f)] _ _; refine (cs_at (p 78) (m.f) _).mono ?_; rintro e w3 ⟨rfl, rfl⟩; rw [HAf.out])
   | (go_at_call 82; guard_target = Go.Calls _ _ #[_, Go.Value.int _ (m.t)] _ _; refine (cs_at (p 78) (m.t) _).mono ?_; rintro e w3 ⟨rfl, rfl⟩; rw [HAt.out]))
  go_ret
  exact ⟨by rw [HS.out]; rfl, HB.out⟩
 ·cases g2 : (m.f == m.t)
  ·cases a1
   ·clear ha2
    have HS := Lib.hid (show sdC (p 78) m = -1 by unfold sdC; rw [g1, g2, ha1]; rfl)
    go_enter Tryz.func37, Tryz.ntmps37
    go_wp2_with (first
     | (guard_target = Go.wpList _ _ _ ((⟨some 2, .box _ _, _, _, _, _⟩ : Go.Oper) :: _) _ _; refine step_box rfl _ rfl p rfl ?_; intro b2 w1 N R; have HG2 := Lib.hid (show w.heap.size ≤ b2 by have := HB.out.size; have := N.at_; omega); have HB := Lib.hid (below_on HB.out N.below); have HR2 := Lib.hid R; clear N R)
     | (guard_target = Go.wpList _ _ _ ((⟨some 3, .box _ _, _, _, _, _⟩ : Go.Oper) :: _) _ _; refine blk_box rfl 40 _ rfl (mvA m) rfl ?_; intro b3 w1 N R; have HG3 := Lib.hid (show w.heap.size ≤ b3 by have := HB.out.size; have := N.at_; omega); have HR2 := Lib.hid (HR2.out.later N.below); have HB := Lib.hid (below_on HB.out N.below); have HR3 := Lib.hid R; clear N R)
     | (guard_target = Go.wpList _ _ _ ((⟨some _, .load _ (.tmp 6), _, _, _, _⟩ : Go.Oper) :: _) _ _; refine step_get rfl 4 _ rfl b3 4 rfl Tryz.underlying4 rfl (.bool m.ca) ?_ ?_; exact (HR3.out.cell 4).trans rfl)
     | (guard_target = Go.wpList _ _ _ ((⟨some _, .load _ (.tmp 9), _, _, _, _⟩ : Go.Oper) :: _) _ _; refine step_get rfl 26 _ rfl b3 0 rfl Tryz.underlying26 rfl (.int .i8 m.f) ?_ ?_; exact (HR3.out.cell 0).trans rfl)
     | (guard_target = Go.wpList _ _ _ ((⟨some _, .load _ (.tmp 16), _, _, _, _⟩ : Go.Oper) :: _) _ _; refine step_get rfl 26 _ rfl b3 0 rfl Tryz.underlying26 rfl (.int .i8 m.f) ?_ ?_; exact (HR3.out.cell 0).trans rfl)
     | (guard_target = Go.wpList _ _ _ ((⟨some _, .load _ (.tmp 31), _, _, _, _⟩ : Go.Oper) :: _) _ _; refine step_get rfl 26 _ rfl b3 0 rfl Tryz.underlying26 rfl (.int .i8 m.f) ?_ ?_; exact (HR3.out.cell 0).trans rfl)
     | (guard_target = Go.wpList _ _ _ ((⟨some _, .load _ (.tmp 11), _, _, _, _⟩ : Go.Oper) :: _) _ _; refine step_get rfl 26 _ rfl b3 1 rfl Tryz.underlying26 rfl (.int .i8 m.t) ?_ ?_; exact (HR3.out.cell 1).trans rfl)
     | (guard_target = Go.wpList _ _ _ ((⟨some _, .load _ (.tmp 23), _, _, _, _⟩ : Go.Oper) :: _) _ _; refine step_get rfl 26 _ rfl b3 1 rfl Tryz.underlying26 rfl (.int .i8 m.t) ?_ ?_; exact (HR3.out.cell 1).trans rfl)
     | (guard_target = Go.wpList _ _ _ ((⟨some _, .load _ (.tmp 29), _, _, _, _⟩ : Go.Oper) :: _) _ _; refine step_get rfl 26 _ rfl b3 1 rfl Tryz.underlying26 rfl (.int .i8 m.t) ?_ ?_; exact (HR3.out.cell 1).trans rfl)
     | (guard_target = Go.wpList _ _ _ ((⟨some _, .load _ (.tmp 14), _, _, _, _⟩ : Go.Oper) :: _) _ _; refine step_get rfl 5 _ rfl b2 78 rfl Tryz.underlying5 rfl (.int .u8 (p 78)) ?_ ?_; exact HR2.out.cell 78 (by decide))
     | (guard_target = Go.wpList _ _ _ ((⟨some _, .load _ (.tmp 21), _, _, _, _⟩ : Go.Oper) :: _) _ _; refine step_get rfl 5 _ rfl b2 78 rfl Tryz.underlying5 rfl (.int .u8 (p 78)) ?_ ?_; exact HR2.out.cell 78 (by decide))
     | (go_at_call 82; guard_target = Go.Calls _ _ #[_, Go.Value.int _ (m.f)] _ _; refine (cs_at (p 78) (m.f) _).mono ?_; rintro e w3 ⟨rfl, rfl⟩; rw [HAf.out])
     | (go_at_call 82; guard_target = Go.Calls _ _ #[_, Go.Value.int _ (m.t)] _ _; refine (cs_at (p 78) (m.t) _).mono ?_; rintro e w3 ⟨rfl, rfl⟩; rw [HAt.out]))
    go_ret
    exact ⟨by rw [HS.out]; rfl, HB.out⟩
   ·cases a2
    ·have HS := Lib.hid (show sdC (p 78) m = -1 by unfold sdC; rw [g1, g2, ha1, ha2]; rfl)
     go_enter Tryz.func37, Tryz.ntmps37
     go_wp2_with (first
      | (guard_target = Go.wpList _ _ _ ((⟨some 2, .box _ _, _, _, _, _⟩ : Go.Oper) :: _) _ _; refine step_box rfl _ rfl p rfl ?_; intro b2 w1 N R; have HG2 := Lib.hid (show w.heap.size ≤ b2 by have := HB.out.size; have := N.at_; omega); have HB := Lib.hid (below_on HB.out N.below); have HR2 := Lib.hid R; clear N R)
      | (guard_target = Go.wpList _ _ _ ((⟨some 3, .box _ _, _, _, _, _⟩ : Go.Oper) :: _) _ _; refine blk_box rfl 40 _ rfl (mvA m) rfl ?_; intro b3 w1 N R; have HG3 := Lib.hid (show w.heap.size ≤ b3 by have := HB.out.size; have := N.at_; omega); have HR2 := Lib.hid (HR2.out.later N.below); have HB := Lib.hid (below_on HB.out N.below); have HR3 := Lib.hid R; clear N R)
      | (guard_target = Go.wpList _ _ _ ((⟨some _, .load _ (.tmp 6), _, _, _, _⟩ : Go.Oper) :: _) _ _; refine step_get rfl 4 _ rfl b3 4 rfl Tryz.underlying4 rfl (.bool m.ca) ?_ ?_; exact (HR3.out.cell 4).trans rfl)
      | (guard_target = Go.wpList _ _ _ ((⟨some _, .load _ (.tmp 9), _, _, _, _⟩ : Go.Oper) :: _) _ _; refine step_get rfl 26 _ rfl b3 0 rfl Tryz.underlying26 rfl (.int .i8 m.f) ?_ ?_; exact (HR3.out.cell 0).trans rfl)
      | (guard_target = Go.wpList _ _ _ ((⟨some _, .load _ (.tmp 16), _, _, _, _⟩ : Go.Oper) :: _) _ _; refine step_get rfl 26 _ rfl b3 0 rfl Tryz.underlying26 rfl (.int .i8 m.f) ?_ ?_; exact (HR3.out.cell 0).trans rfl)
      | (guard_target = Go.wpList _ _ _ ((⟨some _, .load _ (.tmp 31), _, _, _, _⟩ : Go.Oper) :: _) _ _; refine step_get rfl 26 _ rfl b3 0 rfl Tryz.underlying26 rfl (.int .i8 m.f) ?_ ?_; exact (HR3.out.cell 0).trans rfl)
      | (guard_target = Go.wpList _ _ _ ((⟨some _, .load _ (.tmp 11), _, _, _, _⟩ : Go.Oper) :: _) _ _; refine step_get rfl 26 _ rfl b3 1 rfl Tryz.underlying26 rfl (.int .i8 m.t) ?_ ?_; exact (HR3.out.cell 1).trans rfl)
      | (guard_target = Go.wpList _ _ _ ((⟨some _, .load _ (.tmp 23), _, _, _, _⟩ : Go.Oper) :: _) _ _; refine step_get rfl 26 _ rfl b3 1 rfl Tryz.underlying26 rfl (.int .i8 m.t) ?_ ?_; exact (HR3.out.cell 1).trans rfl)
      | (guard_target = Go.wpList _ _ _ ((⟨some _, .load _ (.tmp 29), _, _, _, _⟩ : Go.Oper) :: _) _ _; refine step_get rfl 26 _ rfl b3 1 rfl Tryz.underlying26 rfl (.int .i8 m.t) ?_ ?_; exact (HR3.out.cell 1).trans rfl)
      | (guard_target = Go.wpList _ _ _ ((⟨some _, .load _ (.tmp 14), _, _, _, _⟩ : Go.Oper) :: _) _ _; refine step_get rfl 5 _ rfl b2 78 rfl Tryz.underlying5 rfl (.int .u8 (p 78)) ?_ ?_; exact HR2.out.cell 78 (by decide))
      | (guard_target = Go.wpList _ _ _ ((⟨some _, .load _ (.tmp 21), _, _, _, _⟩ : Go.Oper) :: _) _ _; refine step_get rfl 5 _ rfl b2 78 rfl Tryz.underlying5 rfl (.int .u8 (p 78)) ?_ ?_; exact HR2.out.cell 78 (by decide))
      | (go_at_call 82; guard_target = Go.Calls _ _ #[_, Go.Value.int _ (m.f)] _ _; refine (cs_at (p 78) (m.f) _).mono ?_; rintro e w3 ⟨rfl, rfl⟩; rw [HAf.out])
      | (go_at_call 82; guard_target = Go.Calls _ _ #[_, Go.Value.int _ (m.t)] _ _; refine (cs_at (p 78) (m.t) _).mono ?_; rintro e w3 ⟨rfl, rfl⟩; rw [HAt.out]))
     go_ret
     exact ⟨by rw [HS.out]; rfl, HB.out⟩
    ·cases g3 : decide (m.f < m.t)
     ·have HS := Lib.hid (show sdC (p 78) m = 1 by unfold sdC; rw [g1, g2, ha1, ha2, g3]; rfl)
      go_enter Tryz.func37, Tryz.ntmps37
      go_wp2_with (first
       | (guard_target = Go.wpList _ _ _ ((⟨some 2, .box _ _, _, _, _, _⟩ : Go.Oper) :: _) _ _; refine step_box rfl _ rfl p rfl ?_; intro b2 w1 N R; have HG2 := Lib.hid (show w.heap.size ≤ b2 by have := HB.out.size; have := N.at_; omega); have HB := Lib.hid (below_on HB.out N.below); have HR2 := Lib.hid R; clear N R)
       | (guard_target = Go.wpList _ _ _ ((⟨some 3, .box _ _, _, _, _, _⟩ : Go.Oper) :: _) _ _; refine blk_box rfl 40 _ rfl (mvA m) rfl ?_; intro b3 w1 N R; have HG3 := Lib.hid (show w.heap.size ≤ b3 by have := HB.out.size; have := N.at_; omega); have HR2 := Lib.hid (HR2.out.later N.below); have HB := Lib.hid (below_on HB.out N.below); have HR3 := Lib.hid R; clear N R)
       | (guard_target = Go.wpList _ _ _ ((⟨some _, .load _ (.tmp 6), _, _, _, _⟩ : Go.Oper) :: _) _ _; refine step_get rfl 4 _ rfl b3 4 rfl Tryz.underlying4 rfl (.bool m.ca) ?_ ?_; exact (HR3.out.cell 4).trans rfl)
       | (guard_target = Go.wpList _ _ _ ((⟨some _, .load _ (.tmp 9), _, _, _, _⟩ : Go.Oper) :: _) _ _; refine step_get rfl 26 _ rfl b3 0 rfl Tryz.underlying26 rfl (.int .i8 m.f) ?_ ?_; exact (HR3.out.cell 0).trans rfl)
       | (guard_target = Go.wpList _ _ _ ((⟨some _, .load _ (.tmp 16), _, _, _, _⟩ : Go.Oper) :: _) _ _; refine step_get rfl 26 _ rfl b3 0 rfl Tryz.underlying26 rfl (.int .i8 m.f) ?_ ?_; exact (HR3.out.cell 0).trans rfl)
       | (guard_target = Go.wpList _ _ _ ((⟨some _, .load _ (.tmp 31), _, _, _, _⟩ : Go.Oper) :: _) _ _; refine step_get rfl 26 _ rfl b3 0 rfl Tryz.underlying26 rfl (.int .i8 m.f) ?_ ?_; exact (HR3.out.cell 0).trans rfl)
       | (guard_target = Go.wpList _ _ _ ((⟨some _, .load _ (.tmp 11), _, _, _, _⟩ : Go.Oper) :: _) _ _; refine step_get rfl 26 _ rfl b3 1 rfl Tryz.underlying26 rfl (.int .i8 m.t) ?_ ?_; exact (HR3.out.cell 1).trans rfl)
       | (guard_target = Go.wpList _ _ _ ((⟨some _, .load _ (.tmp 23), _, _, _, _⟩ : Go.Oper) :: _) _ _; refine step_get rfl 26 _ rfl b3 1 rfl Tryz.underlying26 rfl (.int .i8 m.t) ?_ ?_; exact (HR3.out.cell 1).trans rfl)
       | (guard_target = Go.wpList _ _ _ ((⟨some _, .load _ (.tmp 29), _, _, _, _⟩ : Go.Oper) :: _) _ _; refine step_get rfl 26 _ rfl b3 1 rfl Tryz.underlying26 rfl (.int .i8 m.t) ?_ ?_; exact (HR3.out.cell 1).trans rfl)
       | (guard_target = Go.wpList _ _ _ ((⟨some _, .load _ (.tmp 14), _, _, _, _⟩ : Go.Oper) :: _) _ _; refine step_get rfl 5 _ rfl b2 78 rfl Tryz.underlying5 rfl (.int .u8 (p 78)) ?_ ?_; exact HR2.out.cell 78 (by decide))
       | (guard_target = Go.wpList _ _ _ ((⟨some _, .load _ (.tmp 21), _, _, _, _⟩ : Go.Oper) :: _) _ _; refine step_get rfl 5 _ rfl b2 78 rfl Tryz.underlying5 rfl (.int .u8 (p 78)) ?_ ?_; exact HR2.out.cell 78 (by decide))
       | (go_at_call 82; guard_target = Go.Calls _ _ #[_, Go.Value.int _ (m.f)] _ _; refine (cs_at (p 78) (m.f) _).mono ?_; rintro e w3 ⟨rfl, rfl⟩; rw [HAf.out])
       | (go_at_call 82; guard_target = Go.Calls _ _ #[_, Go.Value.int _ (m.t)] _ _; refine (cs_at (p 78) (m.t) _).mono ?_; rintro e w3 ⟨rfl, rfl⟩; rw [HAt.out]))
      go_ret
      exact ⟨by rw [HS.out]; rfl, HB.out⟩
     ·have HS := Lib.hid (show sdC (p 78) m = 0 by unfold sdC; rw [g1, g2, ha1, ha2, g3]; rfl)
      go_enter Tryz.func37, Tryz.ntmps37
      go_wp2_with (first
       | (guard_target = Go.wpList _ _ _ ((⟨some 2, .box _ _, _, _, _, _⟩ : Go.Oper) :: _) _ _; refine step_box rfl _ rfl p rfl ?_; intro b2 w1 N R; have HG2 := Lib.hid (show w.heap.size ≤ b2 by have := HB.out.size; have := N.at_; omega); have HB := Lib.hid (below_on HB.out N.below); have HR2 := Lib.hid R; clear N R)
       | (guard_target = Go.wpList _ _ _ ((⟨some 3, .box _ _, _, _, _, _⟩ : Go.Oper) :: _) _ _; refine blk_box rfl 40 _ rfl (mvA m) rfl ?_; intro b3 w1 N R; have HG3 := Lib.hid (show w.heap.size ≤ b3 by have := HB.out.size; have := N.at_; omega); have HR2 := Lib.hid (HR2.out.later N.below); have HB := Lib.hid (below_on HB.out N.below); have HR3 := Lib.hid R; clear N R)
       | (guard_target = Go.wpList _ _ _ ((⟨some _, .load _ (.tmp 6), _, _, _, _⟩ : Go.Oper) :: _) _ _; refine step_get rfl 4 _ rfl b3 4 rfl Tryz.underlying4 rfl (.bool m.ca) ?_ ?_; exact (HR3.out.cell 4).trans rfl)
       | (guard_target = Go.wpList _ _ _ ((⟨some _, .load _ (.tmp 9), _, _, _, _⟩ : Go.Oper) :: _) _ _; refine step_get rfl 26 _ rfl b3 0 rfl Tryz.underlying26 rfl (.int .i8 m.f) ?_ ?_; exact (HR3.out.cell 0).trans rfl)
       | (guard_target = Go.wpList _ _ _ ((⟨some _, .load _ (.tmp 16), _, _, _, _⟩ : Go.Oper) :: _) _ _; refine step_get rfl 26 _ rfl b3 0 rfl Tryz.underlying26 rfl (.int .i8 m.f) ?_ ?_; exact (HR3.out.cell 0).trans rfl)
       | (guard_target = Go.wpList _ _ _ ((⟨some _, .load _ (.tmp 31), _, _, _, _⟩ : Go.Oper) :: _) _ _; refine step_get rfl 26 _ rfl b3 0 rfl Tryz.underlying26 rfl (.int .i8 m.f) ?_ ?_; exact (HR3.out.cell 0).trans rfl)
       | (guard_target = Go.wpList _ _ _ ((⟨some _, .load _ (.tmp 11), _, _, _, _⟩ : Go.Oper) :: _) _ _; refine step_get rfl 26 _ rfl b3 1 rfl Tryz.underlying26 rfl (.int .i8 m.t) ?_ ?_; exact (HR3.out.cell 1).trans rfl)
       | (guard_target = Go.wpList _ _ _ ((⟨some _, .load _ (.tmp 23), _, _, _, _⟩ : Go.Oper) :: _) _ _; refine step_get rfl 26 _ rfl b3 1 rfl Tryz.underlying26 rfl (.int .i8 m.t) ?_ ?_; exact (HR3.out.cell 1).trans rfl)
       | (guard_target = Go.wpList _ _ _ ((⟨some _, .load _ (.tmp 29), _, _, _, _⟩ : Go.Oper) :: _) _ _; refine step_get rfl 26 _ rfl b3 1 rfl Tryz.underlying26 rfl (.int .i8 m.t) ?_ ?_; exact (HR3.out.cell 1).trans rfl)
       | (guard_target = Go.wpList _ _ _ ((⟨some _, .load _ (.tmp 14), _, _, _, _⟩ : Go.Oper) :: _) _ _; refine step_get rfl 5 _ rfl b2 78 rfl Tryz.underlying5 rfl (.int .u8 (p 78)) ?_ ?_; exact HR2.out.cell 78 (by decide))
       | (guard_target = Go.wpList _ _ _ ((⟨some _, .load _ (.tmp 21), _, _, _, _⟩ : Go.Oper) :: _) _ _; refine step_get rfl 5 _ rfl b2 78 rfl Tryz.underlying5 rfl (.int .u8 (p 78)) ?_ ?_; exact HR2.out.cell 78 (by decide))
       | (go_at_call 82; guard_target = Go.Calls _ _ #[_, Go.Value.int _ (m.f)] _ _; refine (cs_at (p 78) (m.f) _).mono ?_; rintro e w3 ⟨rfl, rfl⟩; rw [HAf.out])
       | (go_at_call 82; guard_target = Go.Calls _ _ #[_, Go.Value.int _ (m.t)] _ _; refine (cs_at (p 78) (m.t) _).mono ?_; rintro e w3 ⟨rfl, rfl⟩; rw [HAt.out]))
      go_ret
      exact ⟨by rw [HS.out]; rfl, HB.out⟩
  ·have HS := Lib.hid (show sdC (p 78) m = -1 by unfold sdC; rw [g1, g2]; rfl)
   go_enter Tryz.func37, Tryz.ntmps37
   go_wp2_with (first
    | (guard_target = Go.wpList _ _ _ ((⟨some 2, .box _ _, _, _, _, _⟩ : Go.Oper) :: _) _ _; refine step_box rfl _ rfl p rfl ?_; intro b2 w1 N R; have HG2 := Lib.hid (show w.heap.size ≤ b2 by have := HB.out.size; have := N.at_; omega); have HB := Lib.hid (below_on HB.out N.below); have HR2 := Lib.hid R; clear N R)
    | (guard_target = Go.wpList _ _ _ ((⟨some 3, .box _ _, _, _, _, _⟩ : Go.Oper) :: _) _ _; refine blk_box rfl 40 _ rfl (mvA m) rfl ?_; intro b3 w1 N R; have HG3 := Lib.hid (show w.heap.size ≤ b3 by have := HB.out.size; have := N.at_; omega); have HR2 := Lib.hid (HR2.out.later N.below); have HB := Lib.hid (below_on HB.out N.below); have HR3 := Lib.hid R; clear N R)
    | (guard_target = Go.wpList _ _ _ ((⟨some _, .load _ (.tmp 6), _, _, _, _⟩ : Go.Oper) :: _) _ _; refine step_get rfl 4 _ rfl b3 4 rfl Tryz.underlying4 rfl (.bool m.ca) ?_ ?_; exact (HR3.out.cell 4).trans rfl)
    | (guard_target = Go.wpList _ _ _ ((⟨some _, .load _ (.tmp 9), _, _, _, _⟩ : Go.Oper) :: _) _ _; refine step_get rfl 26 _ rfl b3 0 rfl Tryz.underlying26 rfl (.int .i8 m.f) ?_ ?_; exact (HR3.out.cell 0).trans rfl)
    | (guard_target = Go.wpList _ _ _ ((⟨some _, .load _ (.tmp 16), _, _, _, _⟩ : Go.Oper) :: _) _ _; refine step_get rfl 26 _ rfl b3 0 rfl Tryz.underlying26 rfl (.int .i8 m.f) ?_ ?_; exact (HR3.out.cell 0).trans rfl)
    | (guard_target = Go.wpList _ _ _ ((⟨some _, .load _ (.tmp 31), _, _, _, _⟩ : Go.Oper) :: _) _ _; refine step_get rfl 26 _ rfl b3 0 rfl Tryz.underlying26 rfl (.int .i8 m.f) ?_ ?_; exact (HR3.out.cell 0).trans rfl)
    | (guard_target = Go.wpList _ _ _ ((⟨some _, .load _ (.tmp 11), _, _, _, _⟩ : Go.Oper) :: _) _ _; refine step_get rfl 26 _ rfl b3 1 rfl Tryz.underlying26 rfl (.int .i8 m.t) ?_ ?_; exact (HR3.out.cell 1).trans rfl)
    | (guard_target = Go.wpList _ _ _ ((⟨some _, .load _ (.tmp 23), _, _, _, _⟩ : Go.Oper) :: _) _ _; refine step_get rfl 26 _ rfl b3 1 rfl Tryz.underlying26 rfl (.int .i8 m.t) ?_ ?_; exact (HR3.out.cell 1).trans rfl)
    | (guard_target = Go.wpList _ _ _ ((⟨some _, .load _ (.tmp 29), _, _, _, _⟩ : Go.Oper) :: _) _ _; refine step_get rfl 26 _ rfl b3 1 rfl Tryz.underlying26 rfl (.int .i8 m.t) ?_ ?_; exact (HR3.out.cell 1).trans rfl)
    | (guard_target = Go.wpList _ _ _ ((⟨some _, .load _ (.tmp 14), _, _, _, _⟩ : Go.Oper) :: _) _ _; refine step_get rfl 5 _ rfl b2 78 rfl Tryz.underlying5 rfl (.int .u8 (p 78)) ?_ ?_; exact HR2.out.cell 78 (by decide))
    | (guard_target = Go.wpList _ _ _ ((⟨some _, .load _ (.tmp 21), _, _, _, _⟩ : Go.Oper) :: _) _ _; refine step_get rfl 5 _ rfl b2 78 rfl Tryz.underlying5 rfl (.int .u8 (p 78)) ?_ ?_; exact HR2.out.cell 78 (by decide))
    | (go_at_call 82; guard_target = Go.Calls _ _ #[_, Go.Value.int _ (m.f)] _ _; refine (cs_at (p 78) (m.f) _).mono ?_; rintro e w3 ⟨rfl, rfl⟩; rw [HAf.out])
    | (go_at_call 82; guard_target = Go.Calls _ _ #[_, Go.Value.int _ (m.t)] _ _; refine (cs_at (p 78) (m.t) _).mono ?_; rintro e w3 ⟨rfl, rfl⟩; rw [HAt.out]))
   go_ret
   exact ⟨by rw [HS.out]; rfl, HB.out⟩
set_option maxRecDepth 100000 in
set_option maxHeartbeats 1000000 in
theorem cs_rook (p : Nat → Int) (s : Int) (w : World) (hp : BdR p) : Calls Tryz.prog 87 #[.agg (posA p), .int .i64 s] w (BoL (hasN (ofN p (p 78) 4) s) w) := by
 have HP := Lib.hid hp
 clear hp
 have HB := Lib.hid (Below.refl w.heap.size w)
 go_enter Tryz.func87, Tryz.ntmps87
 go_wp2_with (first
   | (guard_target = Go.wpList _ _ _ ((⟨some 2, .box _ _, _, _, _, _⟩ : Go.Oper) :: _) _ _; refine step_box rfl _ rfl p rfl ?_; intro b2 w1 N R; have HG2 := Lib.hid (show w.heap.size ≤ b2 by have := HB.out.size; have := N.at_; omega); have HB := Lib.hid (below_on HB.out N.below); have HR2 := Lib.hid R; clear N R)
   | (guard_target = Go.wpList _ _ _ ((⟨some _, .load _ (.tmp 2), _, _, _, _⟩ : Go.Oper) :: _) _ _; refine step_load rfl _ rfl b2 rfl p HR2.out ?_)
   | (guard_target = Go.wpList _ _ _ ((⟨some _, .load _ (.tmp 6), _, _, _, _⟩ : Go.Oper) :: _) _ _; refine step_get rfl 5 _ rfl b2 78 rfl Tryz.underlying5 rfl (.int .u8 (p 78)) ?_ ?_; exact HR2.out.cell 78 (by decide))
   | (go_at_call 64; refine (of_any p _ _ _ HP.out).mono ?_; rintro e w3 ⟨rfl, hb⟩; have HR2 := Lib.hid (HR2.out.later hb); have HB := Lib.hid (below_on HB.out hb); clear hb)
   | (go_at_call 80; refine (has_any _ _ _ (ofN_lt _ _ _)).mono ?_; rintro e w3 ⟨rfl, rfl⟩))
 go_ret
 exact ⟨rfl, HB.out⟩
set_option maxRecDepth 100000 in
set_option maxHeartbeats 1000000 in
theorem cs_shel (p : Nat → Int) (s : Int) (w : World) (hp : BdR p) (hL : TabLead w) : Calls Tryz.prog 141 #[.agg (posA p), .int .i64 s] w (BoL (shelB p s (p 78)) w) := by
 have HP := Lib.hid hp
 have HL := Lib.hid hL
 clear hp hL
 have HB := Lib.hid (Below.refl w.heap.size w)
 have HAnd := Lib.hid (show (bits .and .u64 ((kingN s : Nat) : Int) ((ofN p (oth (p 78)) 6 : Nat) : Int) != 0) = (kingN s &&& ofN p (oth (p 78)) 6 != 0) by rw [and_nat (kingN_lt s) (ofN_lt p (oth (p 78)) 6), Bool.eq_iff_iff, bne_iff_ne, bne_iff_ne]; omega)
 cases g : (p 0 == 3)
 ·have HS := Lib.hid (show shelB p s (p 78) = false by unfold shelB; rw [g]; rfl)
  go_enter Tryz.func141, Tryz.ntmps141
  go_wp2_with (guard_target = Go.wpList _ _ _ ((⟨some 2, .box _ _, _, _, _, _⟩ : Go.Oper) :: _) _ _; refine step_box rfl _ rfl p rfl ?_; intro b2 w1 N R; have HG2 := Lib.hid (show w.heap.size ≤ b2 by have := HB.out.size; have := N.at_; omega); have HB := Lib.hid (below_on HB.out N.below); have HR2 := Lib.hid R; clear N R)
  refine late_begin 15 (by kernel_rfl) ?_
  refine ltk 0 (by kernel_rfl) (fun _ _ d _ _ h => by cases d <;> exact h) (fun o ho => ?_)
  simp only [qa, qb, qc, qd] at ho; subst ho
  apply Exists.intro
  refine ⟨Or.inl ⟨by kernel_rfl, fun w' hl => Or.inl ?_⟩, ?_⟩
  ·(go_simp; try with_reducible rfl)
  simp only [Act.put, pa, pb, pc]
  refine ltk 1 (by kernel_rfl) (fun _ _ d _ _ h => by cases d <;> exact h) (fun o ho => ?_)
  simp only [qa, qb, qc, qd] at ho; subst ho
  refine ⟨.int .u8 (p 0), Or.inl ⟨by kernel_rfl, fun w' hl => Or.inl (run_get 5 _ rfl b2 0 rfl Tryz.underlying5 rfl (.int .u8 (p 0)) ((HR2.out.later hl).cell 0 (by decide)))⟩, ?_⟩
  simp only [Act.put, pa, pb, pc]
  refine ltk 2 (by kernel_rfl) (fun _ _ d _ _ h => by cases d <;> exact h) (fun o ho => ?_)
  simp only [qa, qb, qc, qd] at ho; subst ho
  apply Exists.intro
  refine ⟨Or.inl ⟨by kernel_rfl, fun w' hl => Or.inl ?_⟩, ?_⟩
  ·(go_simp; try with_reducible rfl)
  simp only [Act.put, pa, pb, pc]
  refine ltk 3 (by kernel_rfl) (fun _ _ d _ _ h => by cases d <;> exact h) (fun o ho => ?_)
  simp only [qa, qb, qc, qd] at ho; subst ho
  apply Exists.intro
  refine ⟨Or.inl ⟨by kernel_rfl, fun w' hl => Or.inl ?_⟩, ?_⟩
  ·(go_simp; try with_reducible rfl)
  simp only [Act.put, pa, pb, pc]
  refine ltk 4 (by kernel_rfl) (fun _ _ d _ _ h => by cases d <;> exact h) (fun o ho => ?_)
  simp only [qa, qb, qc, qd] at ho; subst ho
  refine ⟨_, Or.inr ⟨by kernel_rfl, rfl⟩, ?_⟩
  simp only [Act.put, pa, pb, pc]
  refine ltk 5 (by kernel_rfl) (fun _ _ d _ _ h => by cases d <;> exact h) (fun o ho => ?_)
  simp only [qa, qb, qc, qd] at ho; subst ho
  refine ⟨_, Or.inr ⟨by kernel_rfl, rfl⟩, ?_⟩
  simp only [Act.put, pa, pb, pc]
  refine ltk 6 (by kernel_rfl) (fun _ _ d _ _ h => by cases d <;> exact h) (fun o ho => ?_)
  simp only [qa, qb, qc, qd] at ho; subst ho
  refine ⟨_, Or.inr ⟨by kernel_rfl, rfl⟩, ?_⟩
  simp only [Act.put, pa, pb, pc]
  refine ltk 7 (by kernel_rfl) (fun _ _ d _ _ h => by cases d <;> exact h) (fun o ho => ?_)
  simp only [qa, qb, qc, qd] at ho; subst ho
  refine ⟨_, Or.inr ⟨by kernel_rfl, rfl⟩, ?_⟩
  simp only [Act.put, pa, pb, pc]
  refine ltk 8 (by kernel_rfl) (fun _ _ d _ _ h => by cases d <;> exact h) (fun o ho => ?_)
  simp only [qa, qb, qc, qd] at ho; subst ho
  refine ⟨_, Or.inr ⟨by kernel_rfl, rfl⟩, ?_⟩
  simp only [Act.put, pa, pb, pc]
  refine ltk 9 (by kernel_rfl) (fun _ _ d _ _ h => by cases d <;> exact h) (fun o ho => ?_)
  simp only [qa, qb, qc, qd] at ho; subst ho
  refine ⟨_, Or.inr ⟨by kernel_rfl, rfl⟩, ?_⟩
  simp only [Act.put, pa, pb, pc]
  refine ltk 10 (by kernel_rfl) (fun _ _ d _ _ h => by cases d <;> exact h) (fun o ho => ?_)
  simp only [qa, qb, qc, qd] at ho; subst ho
  refine ⟨_, Or.inr ⟨by kernel_rfl, rfl⟩, ?_⟩
  simp only [Act.put, pa, pb, pc]
  refine ltk 11 (by kernel_rfl) (fun _ _ d _ _ h => by cases d <;> exact h) (fun o ho => ?_)
  simp only [qa, qb, qc, qd] at ho; subst ho
  refine ⟨_, Or.inr ⟨by kernel_rfl, rfl⟩, ?_⟩
  simp only [Act.put, pa, pb, pc]
  refine ltk 12 (by kernel_rfl) (fun _ _ d _ _ h => by cases d <;> exact h) (fun o ho => ?_)
  simp only [qa, qb, qc, qd] at ho; subst ho
  refine ⟨_, Or.inr ⟨by kernel_rfl, rfl⟩, ?_⟩
  simp only [Act.put, pa, pb, pc]
  refine ltk 13 (by kernel_rfl) (fun _ _ d _ _ h => by cases d <;> exact h) (fun o ho => ?_)
  simp only [qa, qb, qc, qd] at ho; subst ho
  apply Exists.intro
  refine ⟨Or.inl ⟨by kernel_rfl, fun w' hl => Or.inl ?_⟩, ?_⟩
  ·(go_simp; try with_reducible rfl)
  simp only [Act.put, pa, pb, pc]
  refine ltk 14 (by kernel_rfl) (fun _ _ d _ _ h => by cases d <;> exact h) (fun o ho => ?_)
  simp only [qa, qb, qc, qd] at ho; subst ho
  apply Exists.intro
  refine ⟨Or.inl ⟨by kernel_rfl, fun w' hl => Or.inl ?_⟩, ?_⟩
  ·(go_simp; try with_reducible rfl)
  simp only [Act.put, pa, pb, pc]
  refine late_end (by kernel_rfl) (fun wn hl => ?_)
  have HR2 := Lib.hid (HR2.out.later hl); have HB := Lib.hid (below_on HB.out hl); clear hl
  go_wp2_with fail
  go_ret
  exact ⟨by rw [HS.out]; rfl, HB.out⟩
 ·have HS := Lib.hid (show shelB p s (p 78) = (kingN s &&& ofN p (oth (p 78)) 6 != 0) by unfold shelB; rw [g]; rfl)
  go_enter Tryz.func141, Tryz.ntmps141
  go_wp2_with (guard_target = Go.wpList _ _ _ ((⟨some 2, .box _ _, _, _, _, _⟩ : Go.Oper) :: _) _ _; refine step_box rfl _ rfl p rfl ?_; intro b2 w1 N R; have HG2 := Lib.hid (show w.heap.size ≤ b2 by have := HB.out.size; have := N.at_; omega); have HB := Lib.hid (below_on HB.out N.below); have HR2 := Lib.hid R; clear N R)
  refine late_begin 15 (by kernel_rfl) ?_
  refine ltk 0 (by kernel_rfl) (fun _ _ d _ _ h => by cases d <;> exact h) (fun o ho => ?_)
  simp only [qa, qb, qc, qd] at ho; subst ho
  apply Exists.intro
  refine ⟨Or.inl ⟨by kernel_rfl, fun w' hl => Or.inl ?_⟩, ?_⟩
  ·(go_simp; try with_reducible rfl)
  simp only [Act.put, pa, pb, pc]
  refine ltk 1 (by kernel_rfl) (fun _ _ d _ _ h => by cases d <;> exact h) (fun o ho => ?_)
  simp only [qa, qb, qc, qd] at ho; subst ho
  refine ⟨.int .u8 (p 0), Or.inl ⟨by kernel_rfl, fun w' hl => Or.inl (run_get 5 _ rfl b2 0 rfl Tryz.underlying5 rfl (.int .u8 (p 0)) ((HR2.out.later hl).cell 0 (by decide)))⟩, ?_⟩
  simp only [Act.put, pa, pb, pc]
  refine ltk 2 (by kernel_rfl) (fun _ _ d _ _ h => by cases d <;> exact h) (fun o ho => ?_)
  simp only [qa, qb, qc, qd] at ho; subst ho
  apply Exists.intro
  refine ⟨Or.inl ⟨by kernel_rfl, fun w' hl => Or.inl ?_⟩, ?_⟩
  ·(go_simp; try with_reducible rfl)
  simp only [Act.put, pa, pb, pc]
  refine ltk 3 (by kernel_rfl) (fun _ _ d _ _ h => by cases d <;> exact h) (fun o ho => ?_)
  simp only [qa, qb, qc, qd] at ho; subst ho
  apply Exists.intro
  refine ⟨Or.inl ⟨by kernel_rfl, fun w' hl => Or.inl ?_⟩, ?_⟩
  ·(go_simp; try with_reducible rfl)
  simp only [Act.put, pa, pb, pc]
  refine ltk 4 (by kernel_rfl) (fun _ _ d _ _ h => by cases d <;> exact h) (fun o ho => ?_)
  simp only [qa, qb, qc, qd] at ho; subst ho
  apply Exists.intro
  refine ⟨Or.inl ⟨by kernel_rfl, fun w' hl => Or.inl ?_⟩, ?_⟩
  ·(go_simp; try with_reducible rfl)
  simp only [Act.put, pa, pb, pc]
  refine ltk 6 (by kernel_rfl) (fun _ _ d _ _ h => by cases d <;> exact h) (fun o ho => ?_)
  simp only [qa, qb, qc, qd] at ho; subst ho
  refine ⟨_, Or.inl ⟨by kernel_rfl, fun w' hl => Or.inl (run_load _ rfl _ rfl (p) (HR2.out.later hl))⟩, ?_⟩
  simp only [Act.put, pa, pb, pc]
  refine ltk 7 (by kernel_rfl) (fun _ _ d _ _ h => by cases d <;> exact h) (fun o ho => ?_)
  simp only [qa, qb, qc, qd] at ho; subst ho
  apply Exists.intro
  refine ⟨Or.inl ⟨by kernel_rfl, fun w' hl => Or.inl ?_⟩, ?_⟩
  ·(go_simp; try with_reducible rfl)
  simp only [Act.put, pa, pb, pc]
  refine ltk 8 (by kernel_rfl) (fun _ _ d _ _ h => by cases d <;> exact h) (fun o ho => ?_)
  simp only [qa, qb, qc, qd] at ho; subst ho
  refine ⟨.int .u8 (p 78), Or.inl ⟨by kernel_rfl, fun w' hl => Or.inl (run_get 5 _ rfl b2 78 rfl Tryz.underlying5 rfl (.int .u8 (p 78)) ((HR2.out.later hl).cell 78 (by decide)))⟩, ?_⟩
  simp only [Act.put, pa, pb, pc]
  refine late_one 5 (by kernel_rfl) (by kernel_rfl) (fun o ho => ?_)
  simp only [qa, qb, qc, qd] at ho; subst ho
  refine ⟨by kernel_rfl, fun wn hl K hK => ?_⟩
  have HR2 := Lib.hid (HR2.out.later hl); have HB := Lib.hid (below_on HB.out hl); clear hl
  refine wp_enter _ _ (by go_simp; exact ⟨rfl, rfl⟩) ?_
  refine (king_any s _ (HL.out.next HB.out)).mono ?_; rintro e wm ⟨rfl, hb⟩; refine ⟨_, rfl, ?_⟩
  refine hK.out _ _ hb ?_
  have HR2 := Lib.hid (HR2.out.later hb); have HB := Lib.hid (below_on HB.out hb); clear hb
  clear hK K
  simp only [Act.put, pa, pb, pc]
  refine late_one 9 (by kernel_rfl) (by kernel_rfl) (fun o ho => ?_)
  simp only [qa, qb, qc, qd] at ho; subst ho
  refine ⟨by kernel_rfl, fun wn hl K hK => ?_⟩
  have HR2 := Lib.hid (HR2.out.later hl); have HB := Lib.hid (below_on HB.out hl); clear hl
  refine wp_enter _ _ (by go_simp; exact ⟨rfl, rfl⟩) ?_
  refine (cs_other (p 78) _).mono ?_; rintro e wm ⟨rfl, rfl⟩; refine ⟨_, rfl, ?_⟩
  refine hK.out _ _ (Later.refl _) ?_
  clear hK K
  simp only [Act.put, pa, pb, pc]
  refine late_one 10 (by kernel_rfl) (by kernel_rfl) (fun o ho => ?_)
  simp only [qa, qb, qc, qd] at ho; subst ho
  refine ⟨by kernel_rfl, fun wn hl K hK => ?_⟩
  have HR2 := Lib.hid (HR2.out.later hl); have HB := Lib.hid (below_on HB.out hl); clear hl
  refine wp_enter _ _ (by go_simp; exact ⟨rfl, rfl⟩) ?_
  refine (of_any p _ _ _ HP.out).mono ?_; rintro e wm ⟨rfl, hb⟩; refine ⟨_, rfl, ?_⟩
  refine hK.out _ _ hb ?_
  have HR2 := Lib.hid (HR2.out.later hb); have HB := Lib.hid (below_on HB.out hb); clear hb
  clear hK K
  simp only [Act.put, pa, pb, pc]
  refine ltk 11 (by kernel_rfl) (fun _ _ d _ _ h => by cases d <;> exact h) (fun o ho => ?_)
  simp only [qa, qb, qc, qd] at ho; subst ho
  apply Exists.intro
  refine ⟨Or.inl ⟨by kernel_rfl, fun w' hl => Or.inl ?_⟩, ?_⟩
  ·(go_simp; try with_reducible rfl)
  simp only [Act.put, pa, pb, pc]
  refine ltk 12 (by kernel_rfl) (fun _ _ d _ _ h => by cases d <;> exact h) (fun o ho => ?_)
  simp only [qa, qb, qc, qd] at ho; subst ho
  apply Exists.intro
  refine ⟨Or.inl ⟨by kernel_rfl, fun w' hl => Or.inl ?_⟩, ?_⟩
  ·(go_simp; try with_reducible rfl)
  simp only [Act.put, pa, pb, pc]
  refine ltk 13 (by kernel_rfl) (fun _ _ d _ _ h => by cases d <;> exact h) (fun o ho => ?_)
  simp only [qa, qb, qc, qd] at ho; subst ho
  apply Exists.intro
  refine ⟨Or.inl ⟨by kernel_rfl, fun w' hl => Or.inl ?_⟩, ?_⟩
  ·(go_simp; try with_reducible rfl)
  simp only [Act.put, pa, pb, pc]
  refine ltk 14 (by kernel_rfl) (fun _ _ d _ _ h => by cases d <;> exact h) (fun o ho => ?_)
  simp only [qa, qb, qc, qd] at ho; subst ho
  apply Exists.intro
  refine ⟨Or.inl ⟨by kernel_rfl, fun w' hl => Or.inl ?_⟩, ?_⟩
  ·(go_simp; try with_reducible rfl)
  simp only [Act.put, pa, pb, pc]
  refine late_end (by kernel_rfl) (fun wn hl => ?_)
  have HR2 := Lib.hid (HR2.out.later hl); have HB := Lib.hid (below_on HB.out hl); clear hl
  go_wp2_with fail
  go_ret
  exact ⟨by rw [HS.out, ← HAnd.out]; rfl, HB.out⟩
set_option maxRecDepth 100000 in
set_option maxHeartbeats 1000000 in
def GoalL (k r : Int) (b : Bool) (w : World) (e : Ending) (w' : World) : Prop := e = .returned (.tuple #[.int .i64 k, .int .i64 r, .bool b]) ∧ Below w.heap.size w w'
theorem gk_rng (n : Int) : 2 ≤ gkC n ∧ gkC n ≤ 6 := by unfold gkC; cases n == 0 <;> simp
theorem gr_rng (n : Int) : 3 ≤ grC n ∧ grC n ≤ 5 := by unfold grC; cases n == 0 <;> simp
theorem cs_goals_no (p : Nat → Int) (m : Mv) (w : World) (hm : FitV m) (hs : sdC (p 78) m = -1) : Calls Tryz.prog 15 #[.agg (posA p), .agg (mvA m)] w (GoalL 0 0 false w) := by
 have HM := Lib.hid hm
 have HD := Lib.hid hs
 clear hm hs
 have HB := Lib.hid (Below.refl w.heap.size w)
 go_enter Tryz.func15, Tryz.ntmps15
 go_wp2_with (first
   | (guard_target = Go.wpList _ _ _ ((⟨some 2, .box _ _, _, _, _, _⟩ : Go.Oper) :: _) _ _; refine step_box rfl _ rfl p rfl ?_; intro b2 w1 N R; have HG2 := Lib.hid (show w.heap.size ≤ b2 by have := HB.out.size; have := N.at_; omega); have HB := Lib.hid (below_on HB.out N.below); have HR2 := Lib.hid R; clear N R)
   | (guard_target = Go.wpList _ _ _ ((⟨some 3, .box _ _, _, _, _, _⟩ : Go.Oper) :: _) _ _; refine blk_box rfl 40 _ rfl (mvA m) rfl ?_; intro b3 w1 N R; have HG3 := Lib.hid (show w.heap.size ≤ b3 by have := HB.out.size; have := N.at_; omega); have HR2 := Lib.hid (HR2.out.later N.below); have HB := Lib.hid (below_on HB.out N.below); have HR3 := Lib.hid R; clear N R)
   | (guard_target = Go.wpList _ _ _ ((⟨some _, .load _ (.tmp 2), _, _, _, _⟩ : Go.Oper) :: _) _ _; refine step_load rfl _ rfl b2 rfl p HR2.out ?_)
   | (guard_target = Go.wpList _ _ _ ((⟨some _, .load _ (.tmp 3), _, _, _, _⟩ : Go.Oper) :: _) _ _; refine blk_load rfl 40 _ rfl b3 rfl (mvA m) HR3.out _ Tryz.underlying40 rfl sizeMv ?_)
   | (go_at_call 37; refine (cs_side p m _ HM.out).mono ?_; rintro e w3 ⟨rfl, hb⟩; rw [HD.out]; have HR2 := Lib.hid (HR2.out.later hb); have HB := Lib.hid (below_on HB.out hb); clear hb))
 go_ret3
 exact ⟨rfl, HB.out⟩
set_option maxRecDepth 100000 in
set_option maxHeartbeats 1000000 in
theorem cs_goals (p : Nat → Int) (m : Mv) (n : Nat) (hn : n < 2) (w : World) (hm : FitV m) (hs : sdC (p 78) m = (n : Int)) (hG : TabGl w) : Calls Tryz.prog 15 #[.agg (posA p), .agg (mvA m)] w (GoalL (hmC (p 78) + gkC (n : Int)) (hmC (p 78) + grC (n : Int)) true w) := by
 have HM := Lib.hid hm
 have HD := Lib.hid hs
 have HN := Lib.hid hn
 have HG := Lib.hid hG
 have h1 := hmC_rng (p 78)
 have h2 := gk_rng (n : Int)
 have h3 := gr_rng (n : Int)
 have hne : ((n : Int) == -1) = false := beq_eq_false_iff_ne.2 (by omega)
 clear hm hs hG
 have HB := Lib.hid (Below.refl w.heap.size w)
 go_enter Tryz.func15, Tryz.ntmps15
 go_wp2_with (first
   | (guard_target = Go.wpList _ _ _ ((⟨some 2, .box _ _, _, _, _, _⟩ : Go.Oper) :: _) _ _; refine step_box rfl _ rfl p rfl ?_; intro b2 w1 N R; have HG2 := Lib.hid (show w.heap.size ≤ b2 by have := HB.out.size; have := N.at_; omega); have HB := Lib.hid (below_on HB.out N.below); have HR2 := Lib.hid R; clear N R)
   | (guard_target = Go.wpList _ _ _ ((⟨some 3, .box _ _, _, _, _, _⟩ : Go.Oper) :: _) _ _; refine blk_box rfl 40 _ rfl (mvA m) rfl ?_; intro b3 w1 N R; have HG3 := Lib.hid (show w.heap.size ≤ b3 by have := HB.out.size; have := N.at_; omega); have HR2 := Lib.hid (HR2.out.later N.below); have HB := Lib.hid (below_on HB.out N.below); have HR3 := Lib.hid R; clear N R)
   | (guard_target = Go.wpList _ _ _ ((⟨some _, .load _ (.tmp 2), _, _, _, _⟩ : Go.Oper) :: _) _ _; refine step_load rfl _ rfl b2 rfl p HR2.out ?_)
   | (guard_target = Go.wpList _ _ _ ((⟨some _, .load _ (.tmp 3), _, _, _, _⟩ : Go.Oper) :: _) _ _; refine blk_load rfl 40 _ rfl b3 rfl (mvA m) HR3.out _ Tryz.underlying40 rfl sizeMv ?_)
   | (go_at_call 37; refine (cs_side p m _ HM.out).mono ?_; rintro e w3 ⟨rfl, hb⟩; rw [HD.out]; have HR2 := Lib.hid (HR2.out.later hb); have HB := Lib.hid (below_on HB.out hb); clear hb))
 refine late_begin 19 (by kernel_rfl) ?_
 refine ltk 0 (by kernel_rfl) (fun _ _ d _ _ h => by cases d <;> exact h) (fun o ho => ?_)
 simp only [qa, qb, qc, qd] at ho; subst ho
 apply Exists.intro
 refine ⟨Or.inl ⟨by kernel_rfl, fun w' hl => Or.inl ?_⟩, ?_⟩
 ·(go_simp; try with_reducible rfl)
 simp only [Act.put, pa, pb, pc]
 refine ltk 1 (by kernel_rfl) (fun _ _ d _ _ h => by cases d <;> exact h) (fun o ho => ?_)
 simp only [qa, qb, qc, qd] at ho; subst ho
 refine ⟨.int .u8 (p 78), Or.inl ⟨by kernel_rfl, fun w' hl => Or.inl (run_get 5 _ rfl b2 78 rfl Tryz.underlying5 rfl (.int .u8 (p 78)) ((HR2.out.later hl).cell 78 (by decide)))⟩, ?_⟩
 simp only [Act.put, pa, pb, pc]
 refine ltk 3 (by kernel_rfl) (fun _ _ d _ _ h => by cases d <;> exact h) (fun o ho => ?_)
 simp only [qa, qb, qc, qd] at ho; subst ho
 apply Exists.intro
 refine ⟨Or.inl ⟨by kernel_rfl, fun w' hl => Or.inl ?_⟩, ?_⟩
 ·(go_simp; try with_reducible rfl)
 simp only [Act.put, pa, pb, pc]
 refine ltk 4 (by kernel_rfl) (fun _ _ d _ _ h => by cases d <;> exact h) (fun o ho => ?_)
 simp only [qa, qb, qc, qd] at ho; subst ho
 refine ⟨.pointer (some ⟨0, n * 2, none⟩), Or.inl ⟨by kernel_rfl, fun w' hl => Or.inl ?_⟩, ?_⟩
 ·(go_simp <;> (intro hbad; omega))
 simp only [Act.put, pa, pb, pc]
 refine ltk 5 (by kernel_rfl) (fun _ _ d _ _ h => by cases d <;> exact h) (fun o ho => ?_)
 simp only [qa, qb, qc, qd] at ho; subst ho
 refine ⟨.pointer (some ⟨0, n * 2, none⟩), Or.inl ⟨by kernel_rfl, fun w' hl => Or.inl ?_⟩, ?_⟩
 ·(go_simp <;> (intro hbad; omega))
 simp only [Act.put, pa, pb, pc]
 refine ltk 6 (by kernel_rfl) (fun _ _ d _ _ h => by cases d <;> exact h) (fun o ho => ?_)
 simp only [qa, qb, qc, qd] at ho; subst ho
 refine ⟨.int .i64 (gkC (n : Int)), Or.inl ⟨by kernel_rfl, fun w' hl => Or.inl (run_get 3 _ rfl 0 (n * 2) rfl Tryz.underlying3 rfl (.int .i64 (gkC (n : Int))) (((HG.out.on HB.out).on hl).king HN.out))⟩, ?_⟩
 simp only [Act.put, pa, pb, pc]
 refine ltk 8 (by kernel_rfl) (fun _ _ d _ _ h => by cases d <;> exact h) (fun o ho => ?_)
 simp only [qa, qb, qc, qd] at ho; subst ho
 apply Exists.intro
 refine ⟨Or.inl ⟨by kernel_rfl, fun w' hl => Or.inl ?_⟩, ?_⟩
 ·(go_simp; try with_reducible rfl)
 simp only [Act.put, pa, pb, pc]
 refine ltk 9 (by kernel_rfl) (fun _ _ d _ _ h => by cases d <;> exact h) (fun o ho => ?_)
 simp only [qa, qb, qc, qd] at ho; subst ho
 refine ⟨.int .u8 (p 78), Or.inl ⟨by kernel_rfl, fun w' hl => Or.inl (run_get 5 _ rfl b2 78 rfl Tryz.underlying5 rfl (.int .u8 (p 78)) ((HR2.out.later hl).cell 78 (by decide)))⟩, ?_⟩
 simp only [Act.put, pa, pb, pc]
 refine ltk 11 (by kernel_rfl) (fun _ _ d _ _ h => by cases d <;> exact h) (fun o ho => ?_)
 simp only [qa, qb, qc, qd] at ho; subst ho
 apply Exists.intro
 refine ⟨Or.inl ⟨by kernel_rfl, fun w' hl => Or.inl ?_⟩, ?_⟩
 ·(go_simp; try with_reducible rfl)
 simp only [Act.put, pa, pb, pc]
 refine ltk 12 (by kernel_rfl) (fun _ _ d _ _ h => by cases d <;> exact h) (fun o ho => ?_)
 simp only [qa, qb, qc, qd] at ho; subst ho
 refine ⟨.pointer (some ⟨0, n * 2, none⟩), Or.inl ⟨by kernel_rfl, fun w' hl => Or.inl ?_⟩, ?_⟩
 ·(go_simp <;> (intro hbad; omega))
 simp only [Act.put, pa, pb, pc]
 refine ltk 13 (by kernel_rfl) (fun _ _ d _ _ h => by cases d <;> exact h) (fun o ho => ?_)
 simp only [qa, qb, qc, qd] at ho; subst ho
 refine ⟨.pointer (some ⟨0, n * 2 + 1, none⟩), Or.inl ⟨by kernel_rfl, fun w' hl => Or.inl ?_⟩, ?_⟩
 ·(go_simp <;> (intro hbad; omega))
 simp only [Act.put, pa, pb, pc]
 refine ltk 14 (by kernel_rfl) (fun _ _ d _ _ h => by cases d <;> exact h) (fun o ho => ?_)
 simp only [qa, qb, qc, qd] at ho; subst ho
 refine ⟨.int .i64 (grC (n : Int)), Or.inl ⟨by kernel_rfl, fun w' hl => Or.inl (run_get 3 _ rfl 0 (n * 2 + 1) rfl Tryz.underlying3 rfl (.int .i64 (grC (n : Int))) (((HG.out.on HB.out).on hl).rook HN.out))⟩, ?_⟩
 simp only [Act.put, pa, pb, pc]
 refine late_one 2 (by kernel_rfl) (by kernel_rfl) (fun o ho => ?_)
 simp only [qa, qb, qc, qd] at ho; subst ho
 refine ⟨by kernel_rfl, fun wn hl K hK => ?_⟩
 have HR2 := Lib.hid (HR2.out.later hl); have HB := Lib.hid (below_on HB.out hl); clear hl
 refine wp_enter _ _ (by go_simp; exact ⟨rfl, rfl⟩) ?_
 refine (cs_home (p 78) _).mono ?_; rintro e wm ⟨rfl, rfl⟩; refine ⟨_, rfl, ?_⟩
 refine hK.out _ _ (Later.refl _) ?_
 clear hK K
 simp only [Act.put, pa, pb, pc]
 refine ltk 7 (by kernel_rfl) (fun _ _ d _ _ h => by cases d <;> exact h) (fun o ho => ?_)
 simp only [qa, qb, qc, qd] at ho; subst ho
 refine ⟨.int .i64 (hmC (p 78) + gkC (n : Int)), Or.inl ⟨by kernel_rfl, fun w' hl => Or.inl ?_⟩, ?_⟩
 ·(go_simp <;> (rw [IntKind.wrap_i64]; omega))
 simp only [Act.put, pa, pb, pc]
 refine late_one 10 (by kernel_rfl) (by kernel_rfl) (fun o ho => ?_)
 simp only [qa, qb, qc, qd] at ho; subst ho
 refine ⟨by kernel_rfl, fun wn hl K hK => ?_⟩
 have HR2 := Lib.hid (HR2.out.later hl); have HB := Lib.hid (below_on HB.out hl); clear hl
 refine wp_enter _ _ (by go_simp; exact ⟨rfl, rfl⟩) ?_
 refine (cs_home (p 78) _).mono ?_; rintro e wm ⟨rfl, rfl⟩; refine ⟨_, rfl, ?_⟩
 refine hK.out _ _ (Later.refl _) ?_
 clear hK K
 simp only [Act.put, pa, pb, pc]
 refine ltk 15 (by kernel_rfl) (fun _ _ d _ _ h => by cases d <;> exact h) (fun o ho => ?_)
 simp only [qa, qb, qc, qd] at ho; subst ho
 refine ⟨.int .i64 (hmC (p 78) + grC (n : Int)), Or.inl ⟨by kernel_rfl, fun w' hl => Or.inl ?_⟩, ?_⟩
 ·(go_simp <;> (rw [IntKind.wrap_i64]; omega))
 simp only [Act.put, pa, pb, pc]
 refine ltk 16 (by kernel_rfl) (fun _ _ d _ _ h => by cases d <;> exact h) (fun o ho => ?_)
 simp only [qa, qb, qc, qd] at ho; subst ho
 apply Exists.intro
 refine ⟨Or.inl ⟨by kernel_rfl, fun w' hl => Or.inl ?_⟩, ?_⟩
 ·(go_simp; try with_reducible rfl)
 simp only [Act.put, pa, pb, pc]
 refine ltk 17 (by kernel_rfl) (fun _ _ d _ _ h => by cases d <;> exact h) (fun o ho => ?_)
 simp only [qa, qb, qc, qd] at ho; subst ho
 apply Exists.intro
 refine ⟨Or.inl ⟨by kernel_rfl, fun w' hl => Or.inl ?_⟩, ?_⟩
 ·(go_simp; try with_reducible rfl)
 simp only [Act.put, pa, pb, pc]
 refine ltk 18 (by kernel_rfl) (fun _ _ d _ _ h => by cases d <;> exact h) (fun o ho => ?_)
 simp only [qa, qb, qc, qd] at ho; subst ho
 apply Exists.intro
 refine ⟨Or.inl ⟨by kernel_rfl, fun w' hl => Or.inl ?_⟩, ?_⟩
 ·(go_simp; try with_reducible rfl)
 simp only [Act.put, pa, pb, pc]
 refine late_end (by kernel_rfl) (fun wn hl => ?_)
 have HR2 := Lib.hid (HR2.out.later hl); have HB := Lib.hid (below_on HB.out hl); clear hl
 go_wp2_with fail
 go_ret3
 exact ⟨rfl, HB.out⟩
end Go.Proofs.YtidgfadbdgheiaaGreatDoor
