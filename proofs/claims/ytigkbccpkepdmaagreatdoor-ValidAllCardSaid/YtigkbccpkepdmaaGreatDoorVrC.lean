/-
 The document's own check and Passing of layer 12.
-/
import Derived.Test.YtigkbccpkepdmaaGreatDoorVrB
import Derived.Test.YtigkbccpkepdmaaGreatDoorAtRefC
import Derived.Test.YtigkbccpkepdmaaGreatDoorAtHits
namespace Go.Proofs.YtigkbccpkepdmaaGreatDoor
open Go.RowKit Go.Shelf
set_option linter.unusedVariables false
set_option linter.unusedSimpArgs false
attribute [local go_sem] Oper.semAt_some

theorem ckK {p : Nat → Int} {c : Int} {x : Bool} (h : chkB p c = x) (w : World) (hp : AtR p) (hc : 0 ≤ c ∧ c ≤ 255) : Calls Tryz.prog 36 #[.agg (posA p), .int .u8 c] w (BoL x w) := h ▸ rcheck_any p c w hp hc
set_option maxRecDepth 100000 in
set_option maxHeartbeats 4000000 in
theorem vr_check (p : Nat → Int) (w : World) (hp : FitP p) (h1 : p 78 ≤ 1) : Calls Tryz.prog 19 #[.agg (posA p)] w (BoL (chB p) w) := by
 have HP := Lib.hid hp
 have HS := Lib.hid (ckR_is hp.turn.1 h1).symm
 have hq : ckR p = (bif p 0 == 8 then !chkB p 0 && !chkB p 1 else ((p 0 == 3) && (cnR p (p 78) 6 64 == 0)) || !chkB p (1 - p 78)) := rfl
 obtain ⟨t, ht⟩ : ∃ t, p 78 = t := ⟨_, rfl⟩
 have ht0 : 0 ≤ t := by rw [← ht]; exact hp.turn.1
 have ht1 : t ≤ 1 := by rw [← ht]; exact h1
 rw [ht] at hq
 have HT := Lib.hid ht
 clear hp h1 ht
 cases g8 : p 0 == 8
 ·rw [g8, cond_false] at hq
  obtain ⟨n, hn⟩ : ∃ n, cnR p t 6 64 = n := ⟨_, rfl⟩
  rw [hn] at hq
  have HCn := Lib.hid hn
  obtain ⟨cb, hcb⟩ : ∃ cb, chkB p (1 - t) = cb := ⟨_, rfl⟩
  rw [hcb] at hq
  have HCb := Lib.hid hcb
  have hn64 : n ≤ 64 := by rw [← hn]; exact cnR_le p t 6 64
  have e0 : ((n : Int) == 0) = (n == 0) := by rw [Bool.eq_iff_iff]; simp only [beq_iff_eq]; omega
  rw [← e0] at hq
  clear hn hcb e0
  have hw : IntKind.u8.wrap (1 - t) = 1 - t := by rw [IntKind.wrap_u8]; omega
  cases g3 : p 0 == 3
  ·rw [g3, Bool.false_and, Bool.false_or] at hq
   have HQ := Lib.hid hq
   clear hq
   have HB := Lib.hid (Below.refl w.heap.size w)
   go_enter Tryz.func19, Tryz.ntmps19
   go_wp2_with (first
    | (guard_target = Go.wpList _ _ _ ((⟨some 1, .box _ _, _, _, _, _⟩ : Go.Oper) :: _) _ _; refine step_box rfl _ rfl p rfl ?_; intro b1 w1 N R; have HG1 := Lib.hid (show w.heap.size ≤ b1 by have := HB.out.size; have := N.at_; omega); have HB := Lib.hid (below_on HB.out N.below); have HR1 := Lib.hid R; clear N R)
    | (guard_target = Go.wpList _ _ _ ((⟨some _, .load _ (.tmp 4), _, _, _, _⟩ : Go.Oper) :: _) _ _; refine step_get rfl 5 _ rfl b1 0 rfl Tryz.underlying5 rfl (.int .u8 (p 0)) ?_ ?_; exact HR1.out.cell 0 (by decide))
    | (guard_target = Go.wpList _ _ _ ((⟨some _, .load _ (.tmp 15), _, _, _, _⟩ : Go.Oper) :: _) _ _; refine step_get rfl 5 _ rfl b1 0 rfl Tryz.underlying5 rfl (.int .u8 (p 0)) ?_ ?_; exact HR1.out.cell 0 (by decide))
    | (guard_target = Go.wpList _ _ _ ((⟨some _, .load _ (.tmp 1), _, _, _, _⟩ : Go.Oper) :: _) _ _; refine step_load rfl _ rfl b1 rfl p HR1.out ?_)
    | (guard_target = Go.wpList _ _ _ ((⟨some _, .load _ (.tmp 28), _, _, _, _⟩ : Go.Oper) :: _) _ _; refine step_get rfl 5 _ rfl b1 78 rfl Tryz.underlying5 rfl (.int .u8 t) ?_ ?_; exact (HR1.out.cell 78 (by decide)).trans (by rw [HT.out]; rfl))
    | (go_at_call 30; refine (cnK HCn.out _ HP.out).mono ?_; rintro e w3 ⟨rfl, hb⟩; have HR1 := Lib.hid (HR1.out.later hb); have HB := Lib.hid (below_on HB.out hb); clear hb)
    | (go_at_call 36; guard_target = Go.Calls _ _ #[_, Go.Value.int _ (1 - t)] _ _; refine (ckK HCb.out _ HP.out.at (by omega)).mono ?_; rintro e w3 ⟨rfl, hb⟩; have HR1 := Lib.hid (HR1.out.later hb); have HB := Lib.hid (below_on HB.out hb); clear hb))
   go_ret
   exact ⟨by rw [HS.out, HQ.out]; rfl, HB.out⟩
  ·rw [g3, Bool.true_and] at hq
   cases gn : ((n : Int) == 0)
   ·rw [gn, Bool.false_or] at hq
    have HQ := Lib.hid hq
    clear hq
    have HB := Lib.hid (Below.refl w.heap.size w)
    go_enter Tryz.func19, Tryz.ntmps19
    go_wp2_with (first
     | (guard_target = Go.wpList _ _ _ ((⟨some 1, .box _ _, _, _, _, _⟩ : Go.Oper) :: _) _ _; refine step_box rfl _ rfl p rfl ?_; intro b1 w1 N R; have HG1 := Lib.hid (show w.heap.size ≤ b1 by have := HB.out.size; have := N.at_; omega); have HB := Lib.hid (below_on HB.out N.below); have HR1 := Lib.hid R; clear N R)
     | (guard_target = Go.wpList _ _ _ ((⟨some _, .load _ (.tmp 4), _, _, _, _⟩ : Go.Oper) :: _) _ _; refine step_get rfl 5 _ rfl b1 0 rfl Tryz.underlying5 rfl (.int .u8 (p 0)) ?_ ?_; exact HR1.out.cell 0 (by decide))
     | (guard_target = Go.wpList _ _ _ ((⟨some _, .load _ (.tmp 15), _, _, _, _⟩ : Go.Oper) :: _) _ _; refine step_get rfl 5 _ rfl b1 0 rfl Tryz.underlying5 rfl (.int .u8 (p 0)) ?_ ?_; exact HR1.out.cell 0 (by decide))
     | (guard_target = Go.wpList _ _ _ ((⟨some _, .load _ (.tmp 1), _, _, _, _⟩ : Go.Oper) :: _) _ _; refine step_load rfl _ rfl b1 rfl p HR1.out ?_)
     | (guard_target = Go.wpList _ _ _ ((⟨some _, .load _ (.tmp 20), _, _, _, _⟩ : Go.Oper) :: _) _ _; refine step_get rfl 5 _ rfl b1 78 rfl Tryz.underlying5 rfl (.int .u8 t) ?_ ?_; exact (HR1.out.cell 78 (by decide)).trans (by rw [HT.out]; rfl))
     | (guard_target = Go.wpList _ _ _ ((⟨some _, .load _ (.tmp 28), _, _, _, _⟩ : Go.Oper) :: _) _ _; refine step_get rfl 5 _ rfl b1 78 rfl Tryz.underlying5 rfl (.int .u8 t) ?_ ?_; exact (HR1.out.cell 78 (by decide)).trans (by rw [HT.out]; rfl))
     | (go_at_call 30; refine (cnK HCn.out _ HP.out).mono ?_; rintro e w3 ⟨rfl, hb⟩; have HR1 := Lib.hid (HR1.out.later hb); have HB := Lib.hid (below_on HB.out hb); clear hb)
     | (go_at_call 36; guard_target = Go.Calls _ _ #[_, Go.Value.int _ (1 - t)] _ _; refine (ckK HCb.out _ HP.out.at (by omega)).mono ?_; rintro e w3 ⟨rfl, hb⟩; have HR1 := Lib.hid (HR1.out.later hb); have HB := Lib.hid (below_on HB.out hb); clear hb))
    go_ret
    exact ⟨by rw [HS.out, HQ.out]; rfl, HB.out⟩
   ·rw [gn, Bool.true_or] at hq
    have HQ := Lib.hid hq
    clear hq
    have HB := Lib.hid (Below.refl w.heap.size w)
    go_enter Tryz.func19, Tryz.ntmps19
    go_wp2_with (first
     | (guard_target = Go.wpList _ _ _ ((⟨some 1, .box _ _, _, _, _, _⟩ : Go.Oper) :: _) _ _; refine step_box rfl _ rfl p rfl ?_; intro b1 w1 N R; have HG1 := Lib.hid (show w.heap.size ≤ b1 by have := HB.out.size; have := N.at_; omega); have HB := Lib.hid (below_on HB.out N.below); have HR1 := Lib.hid R; clear N R)
     | (guard_target = Go.wpList _ _ _ ((⟨some _, .load _ (.tmp 4), _, _, _, _⟩ : Go.Oper) :: _) _ _; refine step_get rfl 5 _ rfl b1 0 rfl Tryz.underlying5 rfl (.int .u8 (p 0)) ?_ ?_; exact HR1.out.cell 0 (by decide))
     | (guard_target = Go.wpList _ _ _ ((⟨some _, .load _ (.tmp 15), _, _, _, _⟩ : Go.Oper) :: _) _ _; refine step_get rfl 5 _ rfl b1 0 rfl Tryz.underlying5 rfl (.int .u8 (p 0)) ?_ ?_; exact HR1.out.cell 0 (by decide))
     | (guard_target = Go.wpList _ _ _ ((⟨some _, .load _ (.tmp 1), _, _, _, _⟩ : Go.Oper) :: _) _ _; refine step_load rfl _ rfl b1 rfl p HR1.out ?_)
     | (guard_target = Go.wpList _ _ _ ((⟨some _, .load _ (.tmp 20), _, _, _, _⟩ : Go.Oper) :: _) _ _; refine step_get rfl 5 _ rfl b1 78 rfl Tryz.underlying5 rfl (.int .u8 t) ?_ ?_; exact (HR1.out.cell 78 (by decide)).trans (by rw [HT.out]; rfl))
     | (guard_target = Go.wpList _ _ _ ((⟨some _, .load _ (.tmp 28), _, _, _, _⟩ : Go.Oper) :: _) _ _; refine step_get rfl 5 _ rfl b1 78 rfl Tryz.underlying5 rfl (.int .u8 t) ?_ ?_; exact (HR1.out.cell 78 (by decide)).trans (by rw [HT.out]; rfl))
     | (go_at_call 30; refine (cnK HCn.out _ HP.out).mono ?_; rintro e w3 ⟨rfl, hb⟩; have HR1 := Lib.hid (HR1.out.later hb); have HB := Lib.hid (below_on HB.out hb); clear hb)
     | (go_at_call 36; guard_target = Go.Calls _ _ #[_, Go.Value.int _ (1 - t)] _ _; refine (ckK HCb.out _ HP.out.at (by omega)).mono ?_; rintro e w3 ⟨rfl, hb⟩; have HR1 := Lib.hid (HR1.out.later hb); have HB := Lib.hid (below_on HB.out hb); clear hb))
    go_ret
    exact ⟨by rw [HS.out, HQ.out]; rfl, HB.out⟩
 ·rw [g8, cond_true] at hq
  obtain ⟨c0, hc0⟩ : ∃ c, chkB p 0 = c := ⟨_, rfl⟩
  obtain ⟨c1, hc1⟩ : ∃ c, chkB p 1 = c := ⟨_, rfl⟩
  rw [hc0, hc1] at hq
  have HC0 := Lib.hid hc0
  have HC1 := Lib.hid hc1
  have HQ := Lib.hid hq
  clear hq hc0 hc1
  cases c0
  all_goals
   have HB := Lib.hid (Below.refl w.heap.size w)
   go_enter Tryz.func19, Tryz.ntmps19
   go_wp2_with (first
    | (guard_target = Go.wpList _ _ _ ((⟨some 1, .box _ _, _, _, _, _⟩ : Go.Oper) :: _) _ _; refine step_box rfl _ rfl p rfl ?_; intro b1 w1 N R; have HG1 := Lib.hid (show w.heap.size ≤ b1 by have := HB.out.size; have := N.at_; omega); have HB := Lib.hid (below_on HB.out N.below); have HR1 := Lib.hid R; clear N R)
    | (guard_target = Go.wpList _ _ _ ((⟨some _, .load _ (.tmp 4), _, _, _, _⟩ : Go.Oper) :: _) _ _; refine step_get rfl 5 _ rfl b1 0 rfl Tryz.underlying5 rfl (.int .u8 (p 0)) ?_ ?_; exact HR1.out.cell 0 (by decide))
    | (guard_target = Go.wpList _ _ _ ((⟨some _, .load _ (.tmp 1), _, _, _, _⟩ : Go.Oper) :: _) _ _; refine step_load rfl _ rfl b1 rfl p HR1.out ?_)
    | (go_at_call 36; guard_target = Go.Calls _ _ #[_, Go.Value.int _ 0] _ _; refine (ckK HC0.out _ HP.out.at (by omega)).mono ?_; rintro e w3 ⟨rfl, hb⟩; have HR1 := Lib.hid (HR1.out.later hb); have HB := Lib.hid (below_on HB.out hb); clear hb)
    | (go_at_call 36; guard_target = Go.Calls _ _ #[_, Go.Value.int _ 1] _ _; refine (ckK HC1.out _ HP.out.at (by omega)).mono ?_; rintro e w3 ⟨rfl, hb⟩; have HR1 := Lib.hid (HR1.out.later hb); have HB := Lib.hid (below_on HB.out hb); clear hb))
   go_ret
   exact ⟨by rw [HS.out, HQ.out]; rfl, HB.out⟩
end Go.Proofs.YtigkbccpkepdmaaGreatDoor
