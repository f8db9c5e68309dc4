/-
  The walk of CastleGoals.
-/
import Derived.Test.YtmlmilmfnioheaaDoorCsI
import Derived.Test.YtmlmilmfnioheaaDoorCsH
import Derived.WalkKit
import Derived.OpenShut
namespace Go.Proofs.YtmlmilmfnioheaaDoor.castleGoals
open Go.RowKit
set_option linter.unusedVariables false
set_option linter.unusedSimpArgs false
theorem rgK {n a b : Int} (h1 : gkC n = a) (h2 : grC n = b) (w : World) : Calls Tryd.prog 15 #[.int .i64 n] w (IntPL a b w) := by
  rw [← h1, ← h2]; exact cs_rgoals n w
set_option maxRecDepth 100000 in
set_option maxHeartbeats 1000000 in
theorem walk (p : Nat → Int) (m : Mv) (w0 : WfP p) (w1 : FitV m) (w : World) (hD : TabDb w) (hL : TabLead w) (hV : TabVar w) (hG : TabGl w) : Calls Tryd.prog 4 #[.agg (posA p), .agg (mvA m)] w fun e w' => e = .returned (.bool true) ∧ Below w.heap.size w w' := by
  have HT := Lib.hid (show CsT w from ⟨hD, hL, hV, hG⟩)
  have HM := Lib.hid w1
  have HT0 := Lib.hid (AtR.of w0).turn.1
  clear hD hL hV hG
  have HB := Lib.hid (Below.refl w.heap.size w)
  rcases sdC_cases (p 78) m with e | e | e
  · have HD := Lib.hid e
    clear e w0 w1
    go_enter Tryd.func4, Tryd.ntmps4
    go_wp2_with (first
      | (guard_target = Go.wpList _ _ _ ((⟨some 2, .box _ _, _, _, _, _⟩ : Go.Oper) :: _) _ _; refine step_box rfl _ rfl p rfl ?_; intro b2 w1 N R; have HG2 := Lib.hid (show w.heap.size ≤ b2 by have := HB.out.size; have := N.at_; omega); have HB := Lib.hid (below_on HB.out N.below); have HR2 := Lib.hid R; clear N R)
      | (guard_target = Go.wpList _ _ _ ((⟨some 3, .box _ _, _, _, _, _⟩ : Go.Oper) :: _) _ _; refine blk_box rfl 36 _ rfl (mvA m) rfl ?_; intro b3 w1 N R; have HG3 := Lib.hid (show w.heap.size ≤ b3 by have := HB.out.size; have := N.at_; omega); have HR2 := Lib.hid (HR2.out.later N.below); have HB := Lib.hid (below_on HB.out N.below); have HR3 := Lib.hid R; clear N R)
      | (guard_target = Go.wpList _ _ _ ((⟨some _, .load _ (.tmp 2), _, _, _, _⟩ : Go.Oper) :: _) _ _; refine step_load rfl _ rfl b2 rfl p HR2.out ?_)
      | (guard_target = Go.wpList _ _ _ ((⟨some _, .load _ (.tmp 3), _, _, _, _⟩ : Go.Oper) :: _) _ _; refine blk_load rfl 36 _ rfl b3 rfl (mvA m) HR3.out _ Tryd.underlying36 rfl sizeMv ?_)
      | (go_at_call 12; refine (cs_rside p m _ HM.out HT0.out).mono ?_; rintro e w3 ⟨rfl, hb⟩; rw [HD.out]; have HR2 := Lib.hid (HR2.out.later hb); have HR3 := Lib.hid (HR3.out.later hb); have HB := Lib.hid (below_on HB.out hb); clear hb)
      | (go_at_call 14; refine (cs_side p m _ HM.out).mono ?_; rintro e w3 ⟨rfl, hb⟩; rw [HD.out]; have HR2 := Lib.hid (HR2.out.later hb); have HR3 := Lib.hid (HR3.out.later hb); have HB := Lib.hid (below_on HB.out hb); clear hb)
      | (go_at_call 13; refine (cs_goals_no p m _ HM.out HD.out).mono ?_; rintro e w3 ⟨rfl, hb⟩; have HR2 := Lib.hid (HR2.out.later hb); have HR3 := Lib.hid (HR3.out.later hb); have HB := Lib.hid (below_on HB.out hb); clear hb)
      | (go_at_call 11; refine (cs_awake _ (HT.out.on HB.out)).mono ?_; rintro e w3 ⟨rfl, hb⟩; have HB := Lib.hid (below_on HB.out hb); clear hb))
    go_ret
    exact ⟨rfl, HB.out⟩
  · obtain ⟨_, _, h1, _⟩ := sdC_at (c := p 78) (m := m) (by omega)
    have h0 := HT0.out
    have HD := Lib.hid (show sdC (p 78) m = ((0 : Nat) : Int) from e)
    rcases (by omega : p 78 = 0 ∨ p 78 = 1) with hc | hc
    · have HC := Lib.hid hc
      have HK1 := Lib.hid (show hmC (p 78) + gkC ((0 : Nat) : Int) = 6 by rw [hc]; rfl)
      have HK2 := Lib.hid (show hmC (p 78) + grC ((0 : Nat) : Int) = 5 by rw [hc]; rfl)
      clear e w0 w1 hc h0 h1
      go_enter Tryd.func4, Tryd.ntmps4
      go_wp2_with (first
        | (guard_target = Go.wpList _ _ _ ((⟨some 2, .box _ _, _, _, _, _⟩ : Go.Oper) :: _) _ _; refine step_box rfl _ rfl p rfl ?_; intro b2 w1 N R; have HG2 := Lib.hid (show w.heap.size ≤ b2 by have := HB.out.size; have := N.at_; omega); have HB := Lib.hid (below_on HB.out N.below); have HR2 := Lib.hid R; clear N R)
        | (guard_target = Go.wpList _ _ _ ((⟨some 3, .box _ _, _, _, _, _⟩ : Go.Oper) :: _) _ _; refine blk_box rfl 36 _ rfl (mvA m) rfl ?_; intro b3 w1 N R; have HG3 := Lib.hid (show w.heap.size ≤ b3 by have := HB.out.size; have := N.at_; omega); have HR2 := Lib.hid (HR2.out.later N.below); have HB := Lib.hid (below_on HB.out N.below); have HR3 := Lib.hid R; clear N R)
        | (guard_target = Go.wpList _ _ _ ((⟨some _, .load _ (.tmp 2), _, _, _, _⟩ : Go.Oper) :: _) _ _; refine step_load rfl _ rfl b2 rfl p HR2.out ?_)
        | (guard_target = Go.wpList _ _ _ ((⟨some _, .load _ (.tmp 3), _, _, _, _⟩ : Go.Oper) :: _) _ _; refine blk_load rfl 36 _ rfl b3 rfl (mvA m) HR3.out _ Tryd.underlying36 rfl sizeMv ?_)
        | (go_at_call 12; refine (cs_rside p m _ HM.out HT0.out).mono ?_; rintro e w3 ⟨rfl, hb⟩; rw [HD.out]; have HR2 := Lib.hid (HR2.out.later hb); have HR3 := Lib.hid (HR3.out.later hb); have HB := Lib.hid (below_on HB.out hb); clear hb)
        | (go_at_call 14; refine (cs_side p m _ HM.out).mono ?_; rintro e w3 ⟨rfl, hb⟩; rw [HD.out]; have HR2 := Lib.hid (HR2.out.later hb); have HR3 := Lib.hid (HR3.out.later hb); have HB := Lib.hid (below_on HB.out hb); clear hb)
        | (go_at_call 13; refine (cs_goals p m 0 (by decide) _ HM.out HD.out (HT.out.on HB.out).gl).mono ?_; rintro e w3 ⟨rfl, hb⟩; rw [HK1.out, HK2.out]; have HR2 := Lib.hid (HR2.out.later hb); have HR3 := Lib.hid (HR3.out.later hb); have HB := Lib.hid (below_on HB.out hb); clear hb)
        | (go_at_call 15; refine (rgK (n := 0) (a := 6) (b := 5) rfl rfl _).mono ?_; rintro e w3 ⟨rfl, rfl⟩)
        | (guard_target = Go.wpList _ _ _ ((⟨some _, .load _ (.tmp 49), _, _, _, _⟩ : Go.Oper) :: _) _ _; refine step_get rfl 5 _ rfl b2 78 rfl Tryd.underlying5 rfl (.int .u8 0) ?_ ?_; exact (HR2.out.cell 78 (by decide)).trans (by rw [HC.out]; rfl))
        | (go_at_call 11; refine (cs_awake _ (HT.out.on HB.out)).mono ?_; rintro e w3 ⟨rfl, hb⟩; have HB := Lib.hid (below_on HB.out hb); clear hb))
      go_ret
      exact ⟨rfl, HB.out⟩
    · have HC := Lib.hid hc
      have HK1 := Lib.hid (show hmC (p 78) + gkC ((0 : Nat) : Int) = 62 by rw [hc]; rfl)
      have HK2 := Lib.hid (show hmC (p 78) + grC ((0 : Nat) : Int) = 61 by rw [hc]; rfl)
      clear e w0 w1 hc h0 h1
      go_enter Tryd.func4, Tryd.ntmps4
      go_wp2_with (first
        | (guard_target = Go.wpList _ _ _ ((⟨some 2, .box _ _, _, _, _, _⟩ : Go.Oper) :: _) _ _; refine step_box rfl _ rfl p rfl ?_; intro b2 w1 N R; have HG2 := Lib.hid (show w.heap.size ≤ b2 by have := HB.out.size; have := N.at_; omega); have HB := Lib.hid (below_on HB.out N.below); have HR2 := Lib.hid R; clear N R)
        | (guard_target = Go.wpList _ _ _ ((⟨some 3, .box _ _, _, _, _, _⟩ : Go.Oper) :: _) _ _; refine blk_box rfl 36 _ rfl (mvA m) rfl ?_; intro b3 w1 N R; have HG3 := Lib.hid (show w.heap.size ≤ b3 by have := HB.out.size; have := N.at_; omega); have HR2 := Lib.hid (HR2.out.later N.below); have HB := Lib.hid (below_on HB.out N.below); have HR3 := Lib.hid R; clear N R)
        | (guard_target = Go.wpList _ _ _ ((⟨some _, .load _ (.tmp 2), _, _, _, _⟩ : Go.Oper) :: _) _ _; refine step_load rfl _ rfl b2 rfl p HR2.out ?_)
        | (guard_target = Go.wpList _ _ _ ((⟨some _, .load _ (.tmp 3), _, _, _, _⟩ : Go.Oper) :: _) _ _; refine blk_load rfl 36 _ rfl b3 rfl (mvA m) HR3.out _ Tryd.underlying36 rfl sizeMv ?_)
        | (go_at_call 12; refine (cs_rside p m _ HM.out HT0.out).mono ?_; rintro e w3 ⟨rfl, hb⟩; rw [HD.out]; have HR2 := Lib.hid (HR2.out.later hb); have HR3 := Lib.hid (HR3.out.later hb); have HB := Lib.hid (below_on HB.out hb); clear hb)
        | (go_at_call 14; refine (cs_side p m _ HM.out).mono ?_; rintro e w3 ⟨rfl, hb⟩; rw [HD.out]; have HR2 := Lib.hid (HR2.out.later hb); have HR3 := Lib.hid (HR3.out.later hb); have HB := Lib.hid (below_on HB.out hb); clear hb)
        | (go_at_call 13; refine (cs_goals p m 0 (by decide) _ HM.out HD.out (HT.out.on HB.out).gl).mono ?_; rintro e w3 ⟨rfl, hb⟩; rw [HK1.out, HK2.out]; have HR2 := Lib.hid (HR2.out.later hb); have HR3 := Lib.hid (HR3.out.later hb); have HB := Lib.hid (below_on HB.out hb); clear hb)
        | (go_at_call 15; refine (rgK (n := 0) (a := 6) (b := 5) rfl rfl _).mono ?_; rintro e w3 ⟨rfl, rfl⟩)
        | (guard_target = Go.wpList _ _ _ ((⟨some _, .load _ (.tmp 49), _, _, _, _⟩ : Go.Oper) :: _) _ _; refine step_get rfl 5 _ rfl b2 78 rfl Tryd.underlying5 rfl (.int .u8 1) ?_ ?_; exact (HR2.out.cell 78 (by decide)).trans (by rw [HC.out]; rfl))
        | (go_at_call 11; refine (cs_awake _ (HT.out.on HB.out)).mono ?_; rintro e w3 ⟨rfl, hb⟩; have HB := Lib.hid (below_on HB.out hb); clear hb))
      go_ret
      exact ⟨rfl, HB.out⟩
  · obtain ⟨_, _, h1, _⟩ := sdC_at (c := p 78) (m := m) (by omega)
    have h0 := HT0.out
    have HD := Lib.hid (show sdC (p 78) m = ((1 : Nat) : Int) from e)
    rcases (by omega : p 78 = 0 ∨ p 78 = 1) with hc | hc
    · have HC := Lib.hid hc
      have HK1 := Lib.hid (show hmC (p 78) + gkC ((1 : Nat) : Int) = 2 by rw [hc]; rfl)
      have HK2 := Lib.hid (show hmC (p 78) + grC ((1 : Nat) : Int) = 3 by rw [hc]; rfl)
      clear e w0 w1 hc h0 h1
      go_enter Tryd.func4, Tryd.ntmps4
      go_wp2_with (first
        | (guard_target = Go.wpList _ _ _ ((⟨some 2, .box _ _, _, _, _, _⟩ : Go.Oper) :: _) _ _; refine step_box rfl _ rfl p rfl ?_; intro b2 w1 N R; have HG2 := Lib.hid (show w.heap.size ≤ b2 by have := HB.out.size; have := N.at_; omega); have HB := Lib.hid (below_on HB.out N.below); have HR2 := Lib.hid R; clear N R)
        | (guard_target = Go.wpList _ _ _ ((⟨some 3, .box _ _, _, _, _, _⟩ : Go.Oper) :: _) _ _; refine blk_box rfl 36 _ rfl (mvA m) rfl ?_; intro b3 w1 N R; have HG3 := Lib.hid (show w.heap.size ≤ b3 by have := HB.out.size; have := N.at_; omega); have HR2 := Lib.hid (HR2.out.later N.below); have HB := Lib.hid (below_on HB.out N.below); have HR3 := Lib.hid R; clear N R)
        | (guard_target = Go.wpList _ _ _ ((⟨some _, .load _ (.tmp 2), _, _, _, _⟩ : Go.Oper) :: _) _ _; refine step_load rfl _ rfl b2 rfl p HR2.out ?_)
        | (guard_target = Go.wpList _ _ _ ((⟨some _, .load _ (.tmp 3), _, _, _, _⟩ : Go.Oper) :: _) _ _; refine blk_load rfl 36 _ rfl b3 rfl (mvA m) HR3.out _ Tryd.underlying36 rfl sizeMv ?_)
        | (go_at_call 12; refine (cs_rside p m _ HM.out HT0.out).mono ?_; rintro e w3 ⟨rfl, hb⟩; rw [HD.out]; have HR2 := Lib.hid (HR2.out.later hb); have HR3 := Lib.hid (HR3.out.later hb); have HB := Lib.hid (below_on HB.out hb); clear hb)
        | (go_at_call 14; refine (cs_side p m _ HM.out).mono ?_; rintro e w3 ⟨rfl, hb⟩; rw [HD.out]; have HR2 := Lib.hid (HR2.out.later hb); have HR3 := Lib.hid (HR3.out.later hb); have HB := Lib.hid (below_on HB.out hb); clear hb)
        | (go_at_call 13; refine (cs_goals p m 1 (by decide) _ HM.out HD.out (HT.out.on HB.out).gl).mono ?_; rintro e w3 ⟨rfl, hb⟩; rw [HK1.out, HK2.out]; have HR2 := Lib.hid (HR2.out.later hb); have HR3 := Lib.hid (HR3.out.later hb); have HB := Lib.hid (below_on HB.out hb); clear hb)
        | (go_at_call 15; refine (rgK (n := 1) (a := 2) (b := 3) rfl rfl _).mono ?_; rintro e w3 ⟨rfl, rfl⟩)
        | (guard_target = Go.wpList _ _ _ ((⟨some _, .load _ (.tmp 49), _, _, _, _⟩ : Go.Oper) :: _) _ _; refine step_get rfl 5 _ rfl b2 78 rfl Tryd.underlying5 rfl (.int .u8 0) ?_ ?_; exact (HR2.out.cell 78 (by decide)).trans (by rw [HC.out]; rfl))
        | (go_at_call 11; refine (cs_awake _ (HT.out.on HB.out)).mono ?_; rintro e w3 ⟨rfl, hb⟩; have HB := Lib.hid (below_on HB.out hb); clear hb))
      go_ret
      exact ⟨rfl, HB.out⟩
    · have HC := Lib.hid hc
      have HK1 := Lib.hid (show hmC (p 78) + gkC ((1 : Nat) : Int) = 58 by rw [hc]; rfl)
      have HK2 := Lib.hid (show hmC (p 78) + grC ((1 : Nat) : Int) = 59 by rw [hc]; rfl)
      clear e w0 w1 hc h0 h1
      go_enter Tryd.func4, Tryd.ntmps4
      go_wp2_with (first
        | (guard_target = Go.wpList _ _ _ ((⟨some 2, .box _ _, _, _, _, _⟩ : Go.Oper) :: _) _ _; refine step_box rfl _ rfl p rfl ?_; intro b2 w1 N R; have HG2 := Lib.hid (show w.heap.size ≤ b2 by have := HB.out.size; have := N.at_; omega); have HB := Lib.hid (below_on HB.out N.below); have HR2 := Lib.hid R; clear N R)
        | (guard_target = Go.wpList _ _ _ ((⟨some 3, .box _ _, _, _, _, _⟩ : Go.Oper) :: _) _ _; refine blk_box rfl 36 _ rfl (mvA m) rfl ?_; intro b3 w1 N R; have HG3 := Lib.hid (show w.heap.size ≤ b3 by have := HB.out.size; have := N.at_; omega); have HR2 := Lib.hid (HR2.out.later N.below); have HB := Lib.hid (below_on HB.out N.below); have HR3 := Lib.hid R; clear N R)
        | (guard_target = Go.wpList _ _ _ ((⟨some _, .load _ (.tmp 2), _, _, _, _⟩ : Go.Oper) :: _) _ _; refine step_load rfl _ rfl b2 rfl p HR2.out ?_)
        | (guard_target = Go.wpList _ _ _ ((⟨some _, .load _ (.tmp 3), _, _, _, _⟩ : Go.Oper) :: _) _ _; refine blk_load rfl 36 _ rfl b3 rfl (mvA m) HR3.out _ Tryd.underlying36 rfl sizeMv ?_)
        | (go_at_call 12; refine (cs_rside p m _ HM.out HT0.out).mono ?_; rintro e w3 ⟨rfl, hb⟩; rw [HD.out]; have HR2 := Lib.hid (HR2.out.later hb); have HR3 := Lib.hid (HR3.out.later hb); have HB := Lib.hid (below_on HB.out hb); clear hb)
        | (go_at_call 14; refine (cs_side p m _ HM.out).mono ?_; rintro e w3 ⟨rfl, hb⟩; rw [HD.out]; have HR2 := Lib.hid (HR2.out.later hb); have HR3 := Lib.hid (HR3.out.later hb); have HB := Lib.hid (below_on HB.out hb); clear hb)
        | (go_at_call 13; refine (cs_goals p m 1 (by decide) _ HM.out HD.out (HT.out.on HB.out).gl).mono ?_; rintro e w3 ⟨rfl, hb⟩; rw [HK1.out, HK2.out]; have HR2 := Lib.hid (HR2.out.later hb); have HR3 := Lib.hid (HR3.out.later hb); have HB := Lib.hid (below_on HB.out hb); clear hb)
        | (go_at_call 15; refine (rgK (n := 1) (a := 2) (b := 3) rfl rfl _).mono ?_; rintro e w3 ⟨rfl, rfl⟩)
        | (guard_target = Go.wpList _ _ _ ((⟨some _, .load _ (.tmp 49), _, _, _, _⟩ : Go.Oper) :: _) _ _; refine step_get rfl 5 _ rfl b2 78 rfl Tryd.underlying5 rfl (.int .u8 1) ?_ ?_; exact (HR2.out.cell 78 (by decide)).trans (by rw [HC.out]; rfl))
        | (go_at_call 11; refine (cs_awake _ (HT.out.on HB.out)).mono ?_; rintro e w3 ⟨rfl, hb⟩; have HB := Lib.hid (below_on HB.out hb); clear hb))
      go_ret
      exact ⟨rfl, HB.out⟩
end Go.Proofs.YtmlmilmfnioheaaDoor.castleGoals
