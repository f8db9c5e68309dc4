/-
 The walk of LegalWins.
-/
import Derived.Test.YteblmnbagbdiiaaGreatDoorLgGrE
import Derived.Test.YteblmnbagbdiiaaGreatDoorLgGrF
import Derived.WalkKit
import Derived.OpenShut
set_option maxRecDepth 100000
set_option maxHeartbeats 4000000
namespace Go.Proofs.YteblmnbagbdiiaaGreatDoor.legalWins
open Go.RowKit
set_option linter.unusedVariables false
set_option linter.unusedSimpArgs false
theorem walk (p : Nat → Int) (w0 : WfP p) (w : World) (hD : TabDb w) (hL : TabLead w) (hV : TabVar w) (hKn : TabKn w) (hG : TabGl w) : Calls Tryz.prog 7 #[.agg (posA p)] w fun e w' => e = .returned (.bool true) ∧ Below w.heap.size w w' := by
 have HT := H_ (show CsT w from ⟨hD, hL, hV, hG⟩)
 have HK := H_ hKn
 have HP := H_ w0
 obtain ⟨⟨s, y⟩, hr⟩ : ∃ r, wonZ p = r := ⟨_, rfl⟩
 have hw := wins_are hr
 have hl := fun h => list_won hr h
 have HWo := H_ hr
 clear hD hL hV hKn hG w0 hr
 have HB := H_ (Below.refl w.heap.size w)
 rcases hw with ⟨h1, h2⟩ | ⟨h1, h2, h3⟩
 ·have e1 : s = 0 := h1
  have e2 : y = 0 := h2
  subst e1; subst e2
  clear h1 h2 hl
  go_enter Tryz.func7, Tryz.ntmps7
  go_wp2_with (first
    | (guard_target = gB 1; refine step_box rfl _ rfl p rfl ?_; intro b1 w1 N R; have HG1 := H_ (nA HB.out N); have HB := H_ (below_on HB.out N.below); have HR1 := H_ R; clear N R)
    | (guard_target = gL 1; refine step_load rfl _ rfl b1 rfl p HR1.out ?_))
  refine (lg_lawful p _ HP.out).mono ?_; rintro e w3 ⟨b, rfl, hb⟩; have HR1 := H_ (HR1.out.later hb); have HB := H_ (below_on HB.out hb); clear hb
  cases b
  ·go_wp2_with (first
     | (go_at_call 11; refine (lg_awake _ (HT.out.on HB.out) (HK.out.on HB.out)).mono ?_; rintro e w3 ⟨rfl, hb⟩; have HB := H_ (below_on HB.out hb); clear hb))
   go_ret
   exact ⟨rfl, HB.out⟩
  ·go_wp2_with (first
     | (guard_target = gB 1; refine step_box rfl _ rfl p rfl ?_; intro b1 w1 N R; have HG1 := H_ (nA HB.out N); have HB := H_ (below_on HB.out N.below); have HR1 := H_ R; clear N R)
     | (guard_target = gL 1; refine step_load rfl _ rfl b1 rfl p HR1.out ?_)
     | (go_at_call 12; refine (lg_lawful p _ HP.out).mono ?_; rintro e w3 ⟨b, rfl, hb⟩; have HR1 := H_ (HR1.out.later hb); have HB := H_ (below_on HB.out hb); clear hb)
     | (go_at_call 17; refine (lg_Won p _ HP.out (HT.out.on HB.out)).mono ?_; rw [HWo.out]; rintro e w3 ⟨rfl, hb⟩; have HR1 := H_ (HR1.out.later hb); have HB := H_ (below_on HB.out hb); clear hb)
     | (guard_target = gA 3; refine blk_alloc (op := ⟨some 3, _, _, _, _, _⟩) rfl 44 rfl (rsA (0, 0)) rsZero ?_; intro b3 wn N R; have HG3 := H_ (nA HB.out N); have HD13 := H_ (show b1 ≠ b3 by have := HR1.out.lt; have := N.at_; omega); have HR1 := H_ (HR1.out.later N.below); have HR3 := H_ R; have HB := H_ (below_on HB.out N.below); clear N R)
     | (guard_target = gS 3; refine blk_store (op := ⟨none, .store _ (.tmp 3) _, _, _, _, _⟩) rfl 44 _ _ rfl b3 rfl (rsA (0, 0)) (rsA (0, 0)) rfl HR3.out rfl (rs_one _) rsSize ?_; intro wn U R; have HR1 := H_ (HR1.out.apart U HD13.out); have HR3 := H_ R; have HB := H_ (HB.out.trans (U.below HG3.out)); clear U R)
     | (guard_target = gL 11; refine step_get rfl 5 _ rfl b3 0 rfl Tryz.underlying5 rfl (.int .u8 0) ?_ ?_; exact Blk.cell HR3.out 0)
     | (guard_target = gL 14; refine step_get rfl 5 _ rfl b3 1 rfl Tryz.underlying5 rfl (.int .u8 0) ?_ ?_; exact Blk.cell HR3.out 1)
     | (guard_target = gL 20; refine gU rfl 5 _ rfl Tryz.underlying5 HR1.out 0 (by decide) rfl rfl ?_)
     | (guard_target = gL 24; refine gU rfl 5 _ rfl Tryz.underlying5 HR1.out 0 (by decide) rfl rfl ?_)
     | (guard_target = gL 29; refine gU rfl 5 _ rfl Tryz.underlying5 HR1.out 0 (by decide) rfl rfl ?_)
     | (guard_target = gL 36; refine step_get rfl 5 _ rfl b3 0 rfl Tryz.underlying5 rfl (.int .u8 0) ?_ ?_; exact Blk.cell HR3.out 0)
     | (guard_target = gL 40; refine gU rfl 5 _ rfl Tryz.underlying5 HR1.out 0 (by decide) rfl rfl ?_)
     | (guard_target = gL 46; refine step_get rfl 5 _ rfl b3 1 rfl Tryz.underlying5 rfl (.int .u8 0) ?_ ?_; exact Blk.cell HR3.out 1)
     | (guard_target = gL 50; refine step_get rfl 5 _ rfl b3 1 rfl Tryz.underlying5 rfl (.int .u8 0) ?_ ?_; exact Blk.cell HR3.out 1)
     | (guard_target = gL 55; refine step_get rfl 5 _ rfl b3 1 rfl Tryz.underlying5 rfl (.int .u8 0) ?_ ?_; exact Blk.cell HR3.out 1)
     | (go_at_call 9; refine (lg_list p _ HP.out (HT.out.on HB.out)).mono ?_; rw [HLs.out]; rintro e w3 ⟨v, rfl, hv, hb⟩; obtain ⟨a4, c4, rfl, _⟩ := mvs_of hv; have HB := H_ (below_on HB.out hb); clear hb hv)
     | (go_at_call 11; refine (lg_awake _ (HT.out.on HB.out) (HK.out.on HB.out)).mono ?_; rintro e w3 ⟨rfl, hb⟩; have HB := H_ (below_on HB.out hb); clear hb))
   go_ret
   exact ⟨rfl, HB.out⟩
 ·have g0 : (p 0 == 0) = false := beq_eq_false_iff_ne.2 (by omega)
  have g1 : (p 0 == 1) = false := beq_eq_false_iff_ne.2 (by omega)
  have g2 : (p 0 == 2) = false := beq_eq_false_iff_ne.2 (by omega)
  have hs0 : s ≠ 0 := by
   rcases h1 with (h | h) | h
   ·have h : s = 1 := h
    omega
   ·have h : s = 2 := h
    omega
   ·have h : s = 3 := h.1
    omega
  have HLs := H_ (hl hs0)
  clear hs0
  clear hl h3
  have h2' : y = 6 ∨ y = 7 ∨ y = 8 := h2
  clear h2
  rcases h1 with h1 | ⟨h1, h8⟩
  ·have h1 : s = 1 ∨ s = 2 := h1
   have gs0 : (s == 0) = false := beq_eq_false_iff_ne.2 (by omega)
   have gs3 : (s != 3) = true := bne_iff_ne.2 (by omega)
   clear h1
   rcases h2' with rfl | rfl | rfl
   ·skip
    go_enter Tryz.func7, Tryz.ntmps7
    go_wp2_with (first
      | (guard_target = gB 1; refine step_box rfl _ rfl p rfl ?_; intro b1 w1 N R; have HG1 := H_ (nA HB.out N); have HB := H_ (below_on HB.out N.below); have HR1 := H_ R; clear N R)
      | (guard_target = gL 1; refine step_load rfl _ rfl b1 rfl p HR1.out ?_))
    refine (lg_lawful p _ HP.out).mono ?_; rintro e w3 ⟨b, rfl, hb⟩; have HR1 := H_ (HR1.out.later hb); have HB := H_ (below_on HB.out hb); clear hb
    cases b
    ·go_wp2_with (first
       | (go_at_call 11; refine (lg_awake _ (HT.out.on HB.out) (HK.out.on HB.out)).mono ?_; rintro e w3 ⟨rfl, hb⟩; have HB := H_ (below_on HB.out hb); clear hb))
     go_ret
     exact ⟨rfl, HB.out⟩
    ·go_wp2_with (first
       | (guard_target = gB 1; refine step_box rfl _ rfl p rfl ?_; intro b1 w1 N R; have HG1 := H_ (nA HB.out N); have HB := H_ (below_on HB.out N.below); have HR1 := H_ R; clear N R)
       | (guard_target = gL 1; refine step_load rfl _ rfl b1 rfl p HR1.out ?_)
       | (go_at_call 12; refine (lg_lawful p _ HP.out).mono ?_; rintro e w3 ⟨b, rfl, hb⟩; have HR1 := H_ (HR1.out.later hb); have HB := H_ (below_on HB.out hb); clear hb)
       | (go_at_call 17; refine (lg_Won p _ HP.out (HT.out.on HB.out)).mono ?_; rw [HWo.out]; rintro e w3 ⟨rfl, hb⟩; have HR1 := H_ (HR1.out.later hb); have HB := H_ (below_on HB.out hb); clear hb)
       | (guard_target = gA 3; refine blk_alloc (op := ⟨some 3, _, _, _, _, _⟩) rfl 44 rfl (rsA (0, 0)) rsZero ?_; intro b3 wn N R; have HG3 := H_ (nA HB.out N); have HD13 := H_ (show b1 ≠ b3 by have := HR1.out.lt; have := N.at_; omega); have HR1 := H_ (HR1.out.later N.below); have HR3 := H_ R; have HB := H_ (below_on HB.out N.below); clear N R)
       | (guard_target = gS 3; refine blk_store (op := ⟨none, .store _ (.tmp 3) _, _, _, _, _⟩) rfl 44 _ _ rfl b3 rfl (rsA (0, 0)) (rsA (s, 6)) rfl HR3.out rfl (rs_one _) rsSize ?_; intro wn U R; have HR1 := H_ (HR1.out.apart U HD13.out); have HR3 := H_ R; have HB := H_ (HB.out.trans (U.below HG3.out)); clear U R)
       | (guard_target = gL 11; refine step_get rfl 5 _ rfl b3 0 rfl Tryz.underlying5 rfl (.int .u8 s) ?_ ?_; exact Blk.cell HR3.out 0)
       | (guard_target = gL 14; refine step_get rfl 5 _ rfl b3 1 rfl Tryz.underlying5 rfl (.int .u8 6) ?_ ?_; exact Blk.cell HR3.out 1)
       | (guard_target = gL 20; refine gU rfl 5 _ rfl Tryz.underlying5 HR1.out 0 (by decide) rfl rfl ?_)
       | (guard_target = gL 24; refine gU rfl 5 _ rfl Tryz.underlying5 HR1.out 0 (by decide) rfl rfl ?_)
       | (guard_target = gL 29; refine gU rfl 5 _ rfl Tryz.underlying5 HR1.out 0 (by decide) rfl rfl ?_)
       | (guard_target = gL 36; refine step_get rfl 5 _ rfl b3 0 rfl Tryz.underlying5 rfl (.int .u8 s) ?_ ?_; exact Blk.cell HR3.out 0)
       | (guard_target = gL 40; refine gU rfl 5 _ rfl Tryz.underlying5 HR1.out 0 (by decide) rfl rfl ?_)
       | (guard_target = gL 46; refine step_get rfl 5 _ rfl b3 1 rfl Tryz.underlying5 rfl (.int .u8 6) ?_ ?_; exact Blk.cell HR3.out 1)
       | (guard_target = gL 50; refine step_get rfl 5 _ rfl b3 1 rfl Tryz.underlying5 rfl (.int .u8 6) ?_ ?_; exact Blk.cell HR3.out 1)
       | (guard_target = gL 55; refine step_get rfl 5 _ rfl b3 1 rfl Tryz.underlying5 rfl (.int .u8 6) ?_ ?_; exact Blk.cell HR3.out 1)
       | (go_at_call 9; refine (lg_list p _ HP.out (HT.out.on HB.out)).mono ?_; rw [HLs.out]; rintro e w3 ⟨v, rfl, hv, hb⟩; obtain ⟨a4, c4, rfl, _⟩ := mvs_of hv; have HB := H_ (below_on HB.out hb); clear hb hv)
       | (go_at_call 11; refine (lg_awake _ (HT.out.on HB.out) (HK.out.on HB.out)).mono ?_; rintro e w3 ⟨rfl, hb⟩; have HB := H_ (below_on HB.out hb); clear hb))
     go_ret
     exact ⟨rfl, HB.out⟩
   ·skip
    go_enter Tryz.func7, Tryz.ntmps7
    go_wp2_with (first
      | (guard_target = gB 1; refine step_box rfl _ rfl p rfl ?_; intro b1 w1 N R; have HG1 := H_ (nA HB.out N); have HB := H_ (below_on HB.out N.below); have HR1 := H_ R; clear N R)
      | (guard_target = gL 1; refine step_load rfl _ rfl b1 rfl p HR1.out ?_))
    refine (lg_lawful p _ HP.out).mono ?_; rintro e w3 ⟨b, rfl, hb⟩; have HR1 := H_ (HR1.out.later hb); have HB := H_ (below_on HB.out hb); clear hb
    cases b
    ·go_wp2_with (first
       | (go_at_call 11; refine (lg_awake _ (HT.out.on HB.out) (HK.out.on HB.out)).mono ?_; rintro e w3 ⟨rfl, hb⟩; have HB := H_ (below_on HB.out hb); clear hb))
     go_ret
     exact ⟨rfl, HB.out⟩
    ·go_wp2_with (first
       | (guard_target = gB 1; refine step_box rfl _ rfl p rfl ?_; intro b1 w1 N R; have HG1 := H_ (nA HB.out N); have HB := H_ (below_on HB.out N.below); have HR1 := H_ R; clear N R)
       | (guard_target = gL 1; refine step_load rfl _ rfl b1 rfl p HR1.out ?_)
       | (go_at_call 12; refine (lg_lawful p _ HP.out).mono ?_; rintro e w3 ⟨b, rfl, hb⟩; have HR1 := H_ (HR1.out.later hb); have HB := H_ (below_on HB.out hb); clear hb)
       | (go_at_call 17; refine (lg_Won p _ HP.out (HT.out.on HB.out)).mono ?_; rw [HWo.out]; rintro e w3 ⟨rfl, hb⟩; have HR1 := H_ (HR1.out.later hb); have HB := H_ (below_on HB.out hb); clear hb)
       | (guard_target = gA 3; refine blk_alloc (op := ⟨some 3, _, _, _, _, _⟩) rfl 44 rfl (rsA (0, 0)) rsZero ?_; intro b3 wn N R; have HG3 := H_ (nA HB.out N); have HD13 := H_ (show b1 ≠ b3 by have := HR1.out.lt; have := N.at_; omega); have HR1 := H_ (HR1.out.later N.below); have HR3 := H_ R; have HB := H_ (below_on HB.out N.below); clear N R)
       | (guard_target = gS 3; refine blk_store (op := ⟨none, .store _ (.tmp 3) _, _, _, _, _⟩) rfl 44 _ _ rfl b3 rfl (rsA (0, 0)) (rsA (s, 7)) rfl HR3.out rfl (rs_one _) rsSize ?_; intro wn U R; have HR1 := H_ (HR1.out.apart U HD13.out); have HR3 := H_ R; have HB := H_ (HB.out.trans (U.below HG3.out)); clear U R)
       | (guard_target = gL 11; refine step_get rfl 5 _ rfl b3 0 rfl Tryz.underlying5 rfl (.int .u8 s) ?_ ?_; exact Blk.cell HR3.out 0)
       | (guard_target = gL 14; refine step_get rfl 5 _ rfl b3 1 rfl Tryz.underlying5 rfl (.int .u8 7) ?_ ?_; exact Blk.cell HR3.out 1)
       | (guard_target = gL 20; refine gU rfl 5 _ rfl Tryz.underlying5 HR1.out 0 (by decide) rfl rfl ?_)
       | (guard_target = gL 24; refine gU rfl 5 _ rfl Tryz.underlying5 HR1.out 0 (by decide) rfl rfl ?_)
       | (guard_target = gL 29; refine gU rfl 5 _ rfl Tryz.underlying5 HR1.out 0 (by decide) rfl rfl ?_)
       | (guard_target = gL 36; refine step_get rfl 5 _ rfl b3 0 rfl Tryz.underlying5 rfl (.int .u8 s) ?_ ?_; exact Blk.cell HR3.out 0)
       | (guard_target = gL 40; refine gU rfl 5 _ rfl Tryz.underlying5 HR1.out 0 (by decide) rfl rfl ?_)
       | (guard_target = gL 46; refine step_get rfl 5 _ rfl b3 1 rfl Tryz.underlying5 rfl (.int .u8 7) ?_ ?_; exact Blk.cell HR3.out 1)
       | (guard_target = gL 50; refine step_get rfl 5 _ rfl b3 1 rfl Tryz.underlying5 rfl (.int .u8 7) ?_ ?_; exact Blk.cell HR3.out 1)
       | (guard_target = gL 55; refine step_get rfl 5 _ rfl b3 1 rfl Tryz.underlying5 rfl (.int .u8 7) ?_ ?_; exact Blk.cell HR3.out 1)
       | (go_at_call 9; refine (lg_list p _ HP.out (HT.out.on HB.out)).mono ?_; rw [HLs.out]; rintro e w3 ⟨v, rfl, hv, hb⟩; obtain ⟨a4, c4, rfl, _⟩ := mvs_of hv; have HB := H_ (below_on HB.out hb); clear hb hv)
       | (go_at_call 11; refine (lg_awake _ (HT.out.on HB.out) (HK.out.on HB.out)).mono ?_; rintro e w3 ⟨rfl, hb⟩; have HB := H_ (below_on HB.out hb); clear hb))
     go_ret
     exact ⟨rfl, HB.out⟩
   ·skip
    go_enter Tryz.func7, Tryz.ntmps7
    go_wp2_with (first
      | (guard_target = gB 1; refine step_box rfl _ rfl p rfl ?_; intro b1 w1 N R; have HG1 := H_ (nA HB.out N); have HB := H_ (below_on HB.out N.below); have HR1 := H_ R; clear N R)
      | (guard_target = gL 1; refine step_load rfl _ rfl b1 rfl p HR1.out ?_))
    refine (lg_lawful p _ HP.out).mono ?_; rintro e w3 ⟨b, rfl, hb⟩; have HR1 := H_ (HR1.out.later hb); have HB := H_ (below_on HB.out hb); clear hb
    cases b
    ·go_wp2_with (first
       | (go_at_call 11; refine (lg_awake _ (HT.out.on HB.out) (HK.out.on HB.out)).mono ?_; rintro e w3 ⟨rfl, hb⟩; have HB := H_ (below_on HB.out hb); clear hb))
     go_ret
     exact ⟨rfl, HB.out⟩
    ·go_wp2_with (first
       | (guard_target = gB 1; refine step_box rfl _ rfl p rfl ?_; intro b1 w1 N R; have HG1 := H_ (nA HB.out N); have HB := H_ (below_on HB.out N.below); have HR1 := H_ R; clear N R)
       | (guard_target = gL 1; refine step_load rfl _ rfl b1 rfl p HR1.out ?_)
       | (go_at_call 12; refine (lg_lawful p _ HP.out).mono ?_; rintro e w3 ⟨b, rfl, hb⟩; have HR1 := H_ (HR1.out.later hb); have HB := H_ (below_on HB.out hb); clear hb)
       | (go_at_call 17; refine (lg_Won p _ HP.out (HT.out.on HB.out)).mono ?_; rw [HWo.out]; rintro e w3 ⟨rfl, hb⟩; have HR1 := H_ (HR1.out.later hb); have HB := H_ (below_on HB.out hb); clear hb)
       | (guard_target = gA 3; refine blk_alloc (op := ⟨some 3, _, _, _, _, _⟩) rfl 44 rfl (rsA (0, 0)) rsZero ?_; intro b3 wn N R; have HG3 := H_ (nA HB.out N); have HD13 := H_ (show b1 ≠ b3 by have := HR1.out.lt; have := N.at_; omega); have HR1 := H_ (HR1.out.later N.below); have HR3 := H_ R; have HB := H_ (below_on HB.out N.below); clear N R)
       | (guard_target = gS 3; refine blk_store (op := ⟨none, .store _ (.tmp 3) _, _, _, _, _⟩) rfl 44 _ _ rfl b3 rfl (rsA (0, 0)) (rsA (s, 8)) rfl HR3.out rfl (rs_one _) rsSize ?_; intro wn U R; have HR1 := H_ (HR1.out.apart U HD13.out); have HR3 := H_ R; have HB := H_ (HB.out.trans (U.below HG3.out)); clear U R)
       | (guard_target = gL 11; refine step_get rfl 5 _ rfl b3 0 rfl Tryz.underlying5 rfl (.int .u8 s) ?_ ?_; exact Blk.cell HR3.out 0)
       | (guard_target = gL 14; refine step_get rfl 5 _ rfl b3 1 rfl Tryz.underlying5 rfl (.int .u8 8) ?_ ?_; exact Blk.cell HR3.out 1)
       | (guard_target = gL 20; refine gU rfl 5 _ rfl Tryz.underlying5 HR1.out 0 (by decide) rfl rfl ?_)
       | (guard_target = gL 24; refine gU rfl 5 _ rfl Tryz.underlying5 HR1.out 0 (by decide) rfl rfl ?_)
       | (guard_target = gL 29; refine gU rfl 5 _ rfl Tryz.underlying5 HR1.out 0 (by decide) rfl rfl ?_)
       | (guard_target = gL 36; refine step_get rfl 5 _ rfl b3 0 rfl Tryz.underlying5 rfl (.int .u8 s) ?_ ?_; exact Blk.cell HR3.out 0)
       | (guard_target = gL 40; refine gU rfl 5 _ rfl Tryz.underlying5 HR1.out 0 (by decide) rfl rfl ?_)
       | (guard_target = gL 46; refine step_get rfl 5 _ rfl b3 1 rfl Tryz.underlying5 rfl (.int .u8 8) ?_ ?_; exact Blk.cell HR3.out 1)
       | (guard_target = gL 50; refine step_get rfl 5 _ rfl b3 1 rfl Tryz.underlying5 rfl (.int .u8 8) ?_ ?_; exact Blk.cell HR3.out 1)
       | (guard_target = gL 55; refine step_get rfl 5 _ rfl b3 1 rfl Tryz.underlying5 rfl (.int .u8 8) ?_ ?_; exact Blk.cell HR3.out 1)
       | (go_at_call 9; refine (lg_list p _ HP.out (HT.out.on HB.out)).mono ?_; rw [HLs.out]; rintro e w3 ⟨v, rfl, hv, hb⟩; obtain ⟨a4, c4, rfl, _⟩ := mvs_of hv; have HB := H_ (below_on HB.out hb); clear hb hv)
       | (go_at_call 11; refine (lg_awake _ (HT.out.on HB.out) (HK.out.on HB.out)).mono ?_; rintro e w3 ⟨rfl, hb⟩; have HB := H_ (below_on HB.out hb); clear hb))
     go_ret
     exact ⟨rfl, HB.out⟩
  ·have e3 : s = 3 := h1
   subst e3
   have g8 : (p 0 == 8) = true := beq_iff_eq.2 h8
   clear h1 h8
   rcases h2' with rfl | rfl | rfl
   ·skip
    go_enter Tryz.func7, Tryz.ntmps7
    go_wp2_with (first
      | (guard_target = gB 1; refine step_box rfl _ rfl p rfl ?_; intro b1 w1 N R; have HG1 := H_ (nA HB.out N); have HB := H_ (below_on HB.out N.below); have HR1 := H_ R; clear N R)
      | (guard_target = gL 1; refine step_load rfl _ rfl b1 rfl p HR1.out ?_))
    refine (lg_lawful p _ HP.out).mono ?_; rintro e w3 ⟨b, rfl, hb⟩; have HR1 := H_ (HR1.out.later hb); have HB := H_ (below_on HB.out hb); clear hb
    cases b
    ·go_wp2_with (first
       | (go_at_call 11; refine (lg_awake _ (HT.out.on HB.out) (HK.out.on HB.out)).mono ?_; rintro e w3 ⟨rfl, hb⟩; have HB := H_ (below_on HB.out hb); clear hb))
     go_ret
     exact ⟨rfl, HB.out⟩
    ·go_wp2_with (first
       | (guard_target = gB 1; refine step_box rfl _ rfl p rfl ?_; intro b1 w1 N R; have HG1 := H_ (nA HB.out N); have HB := H_ (below_on HB.out N.below); have HR1 := H_ R; clear N R)
       | (guard_target = gL 1; refine step_load rfl _ rfl b1 rfl p HR1.out ?_)
       | (go_at_call 12; refine (lg_lawful p _ HP.out).mono ?_; rintro e w3 ⟨b, rfl, hb⟩; have HR1 := H_ (HR1.out.later hb); have HB := H_ (below_on HB.out hb); clear hb)
       | (go_at_call 17; refine (lg_Won p _ HP.out (HT.out.on HB.out)).mono ?_; rw [HWo.out]; rintro e w3 ⟨rfl, hb⟩; have HR1 := H_ (HR1.out.later hb); have HB := H_ (below_on HB.out hb); clear hb)
       | (guard_target = gA 3; refine blk_alloc (op := ⟨some 3, _, _, _, _, _⟩) rfl 44 rfl (rsA (0, 0)) rsZero ?_; intro b3 wn N R; have HG3 := H_ (nA HB.out N); have HD13 := H_ (show b1 ≠ b3 by have := HR1.out.lt; have := N.at_; omega); have HR1 := H_ (HR1.out.later N.below); have HR3 := H_ R; have HB := H_ (below_on HB.out N.below); clear N R)
       | (guard_target = gS 3; refine blk_store (op := ⟨none, .store _ (.tmp 3) _, _, _, _, _⟩) rfl 44 _ _ rfl b3 rfl (rsA (0, 0)) (rsA (3, 6)) rfl HR3.out rfl (rs_one _) rsSize ?_; intro wn U R; have HR1 := H_ (HR1.out.apart U HD13.out); have HR3 := H_ R; have HB := H_ (HB.out.trans (U.below HG3.out)); clear U R)
       | (guard_target = gL 11; refine step_get rfl 5 _ rfl b3 0 rfl Tryz.underlying5 rfl (.int .u8 3) ?_ ?_; exact Blk.cell HR3.out 0)
       | (guard_target = gL 14; refine step_get rfl 5 _ rfl b3 1 rfl Tryz.underlying5 rfl (.int .u8 6) ?_ ?_; exact Blk.cell HR3.out 1)
       | (guard_target = gL 20; refine gU rfl 5 _ rfl Tryz.underlying5 HR1.out 0 (by decide) rfl rfl ?_)
       | (guard_target = gL 24; refine gU rfl 5 _ rfl Tryz.underlying5 HR1.out 0 (by decide) rfl rfl ?_)
       | (guard_target = gL 29; refine gU rfl 5 _ rfl Tryz.underlying5 HR1.out 0 (by decide) rfl rfl ?_)
       | (guard_target = gL 36; refine step_get rfl 5 _ rfl b3 0 rfl Tryz.underlying5 rfl (.int .u8 3) ?_ ?_; exact Blk.cell HR3.out 0)
       | (guard_target = gL 40; refine gU rfl 5 _ rfl Tryz.underlying5 HR1.out 0 (by decide) rfl rfl ?_)
       | (guard_target = gL 46; refine step_get rfl 5 _ rfl b3 1 rfl Tryz.underlying5 rfl (.int .u8 6) ?_ ?_; exact Blk.cell HR3.out 1)
       | (guard_target = gL 50; refine step_get rfl 5 _ rfl b3 1 rfl Tryz.underlying5 rfl (.int .u8 6) ?_ ?_; exact Blk.cell HR3.out 1)
       | (guard_target = gL 55; refine step_get rfl 5 _ rfl b3 1 rfl Tryz.underlying5 rfl (.int .u8 6) ?_ ?_; exact Blk.cell HR3.out 1)
       | (go_at_call 9; refine (lg_list p _ HP.out (HT.out.on HB.out)).mono ?_; rw [HLs.out]; rintro e w3 ⟨v, rfl, hv, hb⟩; obtain ⟨a4, c4, rfl, _⟩ := mvs_of hv; have HB := H_ (below_on HB.out hb); clear hb hv)
       | (go_at_call 11; refine (lg_awake _ (HT.out.on HB.out) (HK.out.on HB.out)).mono ?_; rintro e w3 ⟨rfl, hb⟩; have HB := H_ (below_on HB.out hb); clear hb))
     go_ret
     exact ⟨rfl, HB.out⟩
   ·skip
    go_enter Tryz.func7, Tryz.ntmps7
    go_wp2_with (first
      | (guard_target = gB 1; refine step_box rfl _ rfl p rfl ?_; intro b1 w1 N R; have HG1 := H_ (nA HB.out N); have HB := H_ (below_on HB.out N.below); have HR1 := H_ R; clear N R)
      | (guard_target = gL 1; refine step_load rfl _ rfl b1 rfl p HR1.out ?_))
    refine (lg_lawful p _ HP.out).mono ?_; rintro e w3 ⟨b, rfl, hb⟩; have HR1 := H_ (HR1.out.later hb); have HB := H_ (below_on HB.out hb); clear hb
    cases b
    ·go_wp2_with (first
       | (go_at_call 11; refine (lg_awake _ (HT.out.on HB.out) (HK.out.on HB.out)).mono ?_; rintro e w3 ⟨rfl, hb⟩; have HB := H_ (below_on HB.out hb); clear hb))
     go_ret
     exact ⟨rfl, HB.out⟩
    ·go_wp2_with (first
       | (guard_target = gB 1; refine step_box rfl _ rfl p rfl ?_; intro b1 w1 N R; have HG1 := H_ (nA HB.out N); have HB := H_ (below_on HB.out N.below); have HR1 := H_ R; clear N R)
       | (guard_target = gL 1; refine step_load rfl _ rfl b1 rfl p HR1.out ?_)
       | (go_at_call 12; refine (lg_lawful p _ HP.out).mono ?_; rintro e w3 ⟨b, rfl, hb⟩; have HR1 := H_ (HR1.out.later hb); have HB := H_ (below_on HB.out hb); clear hb)
       | (go_at_call 17; refine (lg_Won p _ HP.out (HT.out.on HB.out)).mono ?_; rw [HWo.out]; rintro e w3 ⟨rfl, hb⟩; have HR1 := H_ (HR1.out.later hb); have HB := H_ (below_on HB.out hb); clear hb)
       | (guard_target = gA 3; refine blk_alloc (op := ⟨some 3, _, _, _, _, _⟩) rfl 44 rfl (rsA (0, 0)) rsZero ?_; intro b3 wn N R; have HG3 := H_ (nA HB.out N); have HD13 := H_ (show b1 ≠ b3 by have := HR1.out.lt; have := N.at_; omega); have HR1 := H_ (HR1.out.later N.below); have HR3 := H_ R; have HB := H_ (below_on HB.out N.below); clear N R)
       | (guard_target = gS 3; refine blk_store (op := ⟨none, .store _ (.tmp 3) _, _, _, _, _⟩) rfl 44 _ _ rfl b3 rfl (rsA (0, 0)) (rsA (3, 7)) rfl HR3.out rfl (rs_one _) rsSize ?_; intro wn U R; have HR1 := H_ (HR1.out.apart U HD13.out); have HR3 := H_ R; have HB := H_ (HB.out.trans (U.below HG3.out)); clear U R)
       | (guard_target = gL 11; refine step_get rfl 5 _ rfl b3 0 rfl Tryz.underlying5 rfl (.int .u8 3) ?_ ?_; exact Blk.cell HR3.out 0)
       | (guard_target = gL 14; refine step_get rfl 5 _ rfl b3 1 rfl Tryz.underlying5 rfl (.int .u8 7) ?_ ?_; exact Blk.cell HR3.out 1)
       | (guard_target = gL 20; refine gU rfl 5 _ rfl Tryz.underlying5 HR1.out 0 (by decide) rfl rfl ?_)
       | (guard_target = gL 24; refine gU rfl 5 _ rfl Tryz.underlying5 HR1.out 0 (by decide) rfl rfl ?_)
       | (guard_target = gL 29; refine gU rfl 5 _ rfl Tryz.underlying5 HR1.out 0 (by decide) rfl rfl ?_)
       | (guard_target = gL 36; refine step_get rfl 5 _ rfl b3 0 rfl Tryz.underlying5 rfl (.int .u8 3) ?_ ?_; exact Blk.cell HR3.out 0)
       | (guard_target = gL 40; refine gU rfl 5 _ rfl Tryz.underlying5 HR1.out 0 (by decide) rfl rfl ?_)
       | (guard_target = gL 46; refine step_get rfl 5 _ rfl b3 1 rfl Tryz.underlying5 rfl (.int .u8 7) ?_ ?_; exact Blk.cell HR3.out 1)
       | (guard_target = gL 50; refine step_get rfl 5 _ rfl b3 1 rfl Tryz.underlying5 rfl (.int .u8 7) ?_ ?_; exact Blk.cell HR3.out 1)
       | (guard_target = gL 55; refine step_get rfl 5 _ rfl b3 1 rfl Tryz.underlying5 rfl (.int .u8 7) ?_ ?_; exact Blk.cell HR3.out 1)
       | (go_at_call 9; refine (lg_list p _ HP.out (HT.out.on HB.out)).mono ?_; rw [HLs.out]; rintro e w3 ⟨v, rfl, hv, hb⟩; obtain ⟨a4, c4, rfl, _⟩ := mvs_of hv; have HB := H_ (below_on HB.out hb); clear hb hv)
       | (go_at_call 11; refine (lg_awake _ (HT.out.on HB.out) (HK.out.on HB.out)).mono ?_; rintro e w3 ⟨rfl, hb⟩; have HB := H_ (below_on HB.out hb); clear hb))
     go_ret
     exact ⟨rfl, HB.out⟩
   ·skip
    go_enter Tryz.func7, Tryz.ntmps7
    go_wp2_with (first
      | (guard_target = gB 1; refine step_box rfl _ rfl p rfl ?_; intro b1 w1 N R; have HG1 := H_ (nA HB.out N); have HB := H_ (below_on HB.out N.below); have HR1 := H_ R; clear N R)
      | (guard_target = gL 1; refine step_load rfl _ rfl b1 rfl p HR1.out ?_))
    refine (lg_lawful p _ HP.out).mono ?_; rintro e w3 ⟨b, rfl, hb⟩; have HR1 := H_ (HR1.out.later hb); have HB := H_ (below_on HB.out hb); clear hb
    cases b
    ·go_wp2_with (first
       | (go_at_call 11; refine (lg_awake _ (HT.out.on HB.out) (HK.out.on HB.out)).mono ?_; rintro e w3 ⟨rfl, hb⟩; have HB := H_ (below_on HB.out hb); clear hb))
     go_ret
     exact ⟨rfl, HB.out⟩
    ·go_wp2_with (first
       | (guard_target = gB 1; refine step_box rfl _ rfl p rfl ?_; intro b1 w1 N R; have HG1 := H_ (nA HB.out N); have HB := H_ (below_on HB.out N.below); have HR1 := H_ R; clear N R)
       | (guard_target = gL 1; refine step_load rfl _ rfl b1 rfl p HR1.out ?_)
       | (go_at_call 12; refine (lg_lawful p _ HP.out).mono ?_; rintro e w3 ⟨b, rfl, hb⟩; have HR1 := H_ (HR1.out.later hb); have HB := H_ (below_on HB.out hb); clear hb)
       | (go_at_call 17; refine (lg_Won p _ HP.out (HT.out.on HB.out)).mono ?_; rw [HWo.out]; rintro e w3 ⟨rfl, hb⟩; have HR1 := H_ (HR1.out.later hb); have HB := H_ (below_on HB.out hb); clear hb)
       | (guard_target = gA 3; refine blk_alloc (op := ⟨some 3, _, _, _, _, _⟩) rfl 44 rfl (rsA (0, 0)) rsZero ?_; intro b3 wn N R; have HG3 := H_ (nA HB.out N); have HD13 := H_ (show b1 ≠ b3 by have := HR1.out.lt; have := N.at_; omega); have HR1 := H_ (HR1.out.later N.below); have HR3 := H_ R; have HB := H_ (below_on HB.out N.below); clear N R)
       | (guard_target = gS 3; refine blk_store (op := ⟨none, .store _ (.tmp 3) _, _, _, _, _⟩) rfl 44 _ _ rfl b3 rfl (rsA (0, 0)) (rsA (3, 8)) rfl HR3.out rfl (rs_one _) rsSize ?_; intro wn U R; have HR1 := H_ (HR1.out.apart U HD13.out); have HR3 := H_ R; have HB := H_ (HB.out.trans (U.below HG3.out)); clear U R)
       | (guard_target = gL 11; refine step_get rfl 5 _ rfl b3 0 rfl Tryz.underlying5 rfl (.int .u8 3) ?_ ?_; exact Blk.cell HR3.out 0)
       | (guard_target = gL 14; refine step_get rfl 5 _ rfl b3 1 rfl Tryz.underlying5 rfl (.int .u8 8) ?_ ?_; exact Blk.cell HR3.out 1)
       | (guard_target = gL 20; refine gU rfl 5 _ rfl Tryz.underlying5 HR1.out 0 (by decide) rfl rfl ?_)
       | (guard_target = gL 24; refine gU rfl 5 _ rfl Tryz.underlying5 HR1.out 0 (by decide) rfl rfl ?_)
       | (guard_target = gL 29; refine gU rfl 5 _ rfl Tryz.underlying5 HR1.out 0 (by decide) rfl rfl ?_)
       | (guard_target = gL 36; refine step_get rfl 5 _ rfl b3 0 rfl Tryz.underlying5 rfl (.int .u8 3) ?_ ?_; exact Blk.cell HR3.out 0)
       | (guard_target = gL 40; refine gU rfl 5 _ rfl Tryz.underlying5 HR1.out 0 (by decide) rfl rfl ?_)
       | (guard_target = gL 46; refine step_get rfl 5 _ rfl b3 1 rfl Tryz.underlying5 rfl (.int .u8 8) ?_ ?_; exact Blk.cell HR3.out 1)
       | (guard_target = gL 50; refine step_get rfl 5 _ rfl b3 1 rfl Tryz.underlying5 rfl (.int .u8 8) ?_ ?_; exact Blk.cell HR3.out 1)
       | (guard_target = gL 55; refine step_get rfl 5 _ rfl b3 1 rfl Tryz.underlying5 rfl (.int .u8 8) ?_ ?_; exact Blk.cell HR3.out 1)
       | (go_at_call 9; refine (lg_list p _ HP.out (HT.out.on HB.out)).mono ?_; rw [HLs.out]; rintro e w3 ⟨v, rfl, hv, hb⟩; obtain ⟨a4, c4, rfl, _⟩ := mvs_of hv; have HB := H_ (below_on HB.out hb); clear hb hv)
       | (go_at_call 11; refine (lg_awake _ (HT.out.on HB.out) (HK.out.on HB.out)).mono ?_; rintro e w3 ⟨rfl, hb⟩; have HB := H_ (below_on HB.out hb); clear hb))
     go_ret
     exact ⟨rfl, HB.out⟩
end Go.Proofs.YteblmnbagbdiiaaGreatDoor.legalWins
