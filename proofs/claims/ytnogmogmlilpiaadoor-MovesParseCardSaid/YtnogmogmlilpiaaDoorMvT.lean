/-
  The document's own Text (layer 11): what a move's text is.
-/
import Derived.Test.YtnogmogmlilpiaaDoorMvS
namespace Go.Proofs.YtnogmogmlilpiaaDoor
open Go.RowKit
set_option linter.unusedVariables false
set_option linter.unusedSimpArgs false

theorem mvT_off {p : Nat → Int} {m : Mv} (h : (sqB m.f && sqB m.t) = false) : mvT p m = [] := by
  cases hl : mvT p m with
  | nil => rfl
  | cons x r =>
    exfalso
    have hne : x :: r ≠ [] := by simp
    unfold mvT at hl
    cases hsm : smB p
    · rw [hsm] at hl; cases hl
    · rw [hsm] at hl
      have hl : (bif m.dr != 0 then drT m else bif m.ca then csT p m else plT p m) = x :: r := hl
      cases hd : (m.dr != 0)
      · rw [hd] at hl
        have hl : (bif m.ca then csT p m else plT p m) = x :: r := hl
        cases hc : m.ca
        · rw [hc] at hl
          have c := (pl_parts hl hne).1
          rw [h, Bool.false_and] at c; cases c
        · rw [hc] at hl
          have hl : csT p m = x :: r := hl
          unfold csT csB at hl
          simp only [h, Bool.false_and, Bool.and_false] at hl
          cases hl
      · rw [hd] at hl
        have c := dr_parts (show drT m = x :: r from hl) hne
        have e1 := c.1
        have e2 := c.2.1
        rw [e2, e1] at h
        simp at h
theorem mvT_no {p : Nat → Int} {m : Mv} (h : smB p = false) : mvT p m = [] := by unfold mvT; rw [h]; rfl
theorem mk0 {k : Int} (h1 : 1 ≤ k) (h5 : k ≤ 5) : mkZ 0 k = k := by
  unfold mkZ; rw [show mkB 0 k = true from mkB_true.2 ⟨by decide, h1, by omega⟩]
  show 8 * 0 + k = k; omega
theorem mk1 {k : Int} (h1 : 1 ≤ k) (h6 : k ≤ 6) : mkZ 1 k = 8 + k := by
  unfold mkZ; rw [show mkB 1 k = true from mkB_true.2 ⟨by decide, h1, h6⟩]
  show 8 * 1 + k = 8 + k; omega
theorem mvT_drop1 {p : Nat → Int} {m : Mv} (hsm : smB p = true) (hq : sqB m.f = true) (h0 : (m.dr != 0) = true) (hd : 0 ≤ m.dr) : mvT p m = (bif decide (5 < m.dr) || (m.f != m.t) || (m.pr != 0) || m.ca then [] else leF m.dr ++ 64 :: sqM m.t) := by
  have hz : m.dr ≠ 0 := by rwa [bne_iff_ne] at h0
  unfold mvT
  rw [hsm, h0]
  show drT m = _
  have e : drB m = !(decide (5 < m.dr) || (m.f != m.t) || (m.pr != 0) || m.ca) := by
    rw [Bool.eq_iff_iff]
    unfold drB
    simp only [Bool.and_eq_true, beq_iff_eq, Bool.not_eq_true', bne_iff_ne, ne_eq, Bool.or_eq_false_iff, decide_eq_false_iff_not, bne_eq_false_iff_eq, mkB_true]
    constructor
    · rintro ⟨⟨⟨⟨⟨a, b⟩, c⟩, d⟩, e⟩, g⟩; exact ⟨⟨⟨by omega, b.symm⟩, c⟩, d⟩
    · rintro ⟨⟨⟨a, b⟩, c⟩, d⟩; exact ⟨⟨⟨⟨⟨hq, b.symm⟩, c⟩, d⟩, ⟨by decide, by omega, by omega⟩⟩, by omega⟩
  unfold drT
  rw [e]
  cases hx : (decide (5 < m.dr) || (m.f != m.t) || (m.pr != 0) || m.ca)
  · have hx' := hx
    simp only [Bool.or_eq_false_iff, decide_eq_false_iff_not, bne_eq_false_iff_eq] at hx'
    show leF (mkZ 0 m.dr) ++ 64 :: sqM m.f = leF m.dr ++ 64 :: sqM m.t
    rw [mk0 (by omega) (by omega), hx'.1.1.2]
  · rfl
theorem mvT_move {p : Nat → Int} {m : Mv} (h0 : m.dr = 0) (hx : ((m.f == m.t) || (m.pr == 1) || decide (6 < m.pr)) = true) : mvT p m = [] := by
  cases hl : mvT p m with
  | nil => rfl
  | cons x r =>
    exfalso
    have hne : x :: r ≠ [] := by simp
    unfold mvT at hl
    cases hsm : smB p
    · rw [hsm] at hl; cases hl
    · rw [hsm, h0] at hl
      have hl : (bif m.ca then csT p m else plT p m) = x :: r := hl
      simp only [Bool.or_eq_true, beq_iff_eq, decide_eq_true_eq] at hx
      cases hc : m.ca
      · rw [hc] at hl
        have c := pl_parts hl hne
        have c1 := c.1
        simp only [Bool.and_eq_true, bne_iff_ne] at c1
        rcases hx with (hx | hx) | hx
        · exact c1.2 hx
        · exact c.2.1 hx
        · have := c.2.2.1; omega
      · rw [hc] at hl
        have hl : csT p m = x :: r := hl
        unfold csT at hl
        cases hb : ((m.pr == 0) && csB p m.f m.t)
        · rw [hb] at hl; cases hl
        · unfold csB at hb
          simp only [Bool.and_eq_true, beq_iff_eq, bne_iff_ne] at hb
          rcases hx with (hx | hx) | hx
          · exact hb.2.1.1.2 hx
          · omega
          · omega
theorem mvT_cast {p : Nat → Int} {m : Mv} (hsm : smB p = true) (h78 : 0 ≤ p 78) (h0 : m.dr = 0) (hf : sqB m.f = true) (ht : sqB m.t = true) (hne : m.f ≠ m.t) (hc : m.ca = true) : mvT p m = bif m.pr != 0 then [] else csR p m.f m.t := by
  unfold mvT
  rw [hsm, h0, hc]
  show csT p m = _
  cases hp : (m.pr != 0)
  · have hz : m.pr = 0 := by simpa using hp
    show csT p m = csR p m.f m.t
    rw [← csR_eq hsm h78 hf ht hne true]
    unfold csT; rw [hz]
  · unfold csT
    rw [show (m.pr == 0) = false by rw [bne_iff_ne] at hp; rw [beq_eq_false_iff_ne]; exact hp]; rfl
theorem mvT_plain {p : Nat → Int} {m : Mv} (hsm : smB p = true) (h0 : m.dr = 0) (hf : sqB m.f = true) (ht : sqB m.t = true) (hne : m.f ≠ m.t) (hc : m.ca = false) (h1 : m.pr ≠ 1) (h6 : m.pr ≤ 6) (hpr : 0 ≤ m.pr) : mvT p m = bif coB p (sqM m.f ++ sqM m.t ++ (bif m.pr != 0 then leF (8 + m.pr) else [])) then [] else sqM m.f ++ sqM m.t ++ (bif m.pr != 0 then leF (8 + m.pr) else []) := by
  unfold mvT
  rw [hsm, h0, hc]
  show plT p m = _
  have c : (sqB m.f && sqB m.t && (m.f != m.t)) = true := by rw [hf, ht, bne_iff_ne.2 hne]; rfl
  have e : leF (mkZ 1 m.pr) = bif m.pr != 0 then leF (8 + m.pr) else [] := by
    cases hp : (m.pr != 0)
    · have hz : m.pr = 0 := by simpa using hp
      rw [hz]; decide +kernel
    · rw [bne_iff_ne] at hp
      rw [mk1 (by omega) h6]; rfl
  unfold plT
  rw [c, show (m.pr == 1) = false by rw [beq_eq_false_iff_ne]; exact h1, decide_eq_false (show ¬ 6 < m.pr by omega), enL_yes c, e]
  rfl
set_option maxRecDepth 100000 in
set_option maxHeartbeats 1000000 in
theorem rsq_any (s : Int) (w : World) : Calls Tryd.prog 23 #[.int .i8 s] w (BoS (sqB s) w) := by
  cases h1 : decide (0 ≤ s)
  · have HS := Lib.hid (show sqB s = false by rw [← Bool.not_eq_true, sqB_true]; have := of_decide_eq_false h1; omega)
    go_enter Tryd.func23, Tryd.ntmps23
    go_wp2_with fail
    go_ret
    exact ⟨by rw [HS.out]; rfl, rfl⟩
  · cases h2 : decide (s < 64)
    · have HS := Lib.hid (show sqB s = false by rw [← Bool.not_eq_true, sqB_true]; have := of_decide_eq_false h2; omega)
      go_enter Tryd.func23, Tryd.ntmps23
      go_wp2_with fail
      go_ret
      exact ⟨by rw [HS.out]; rfl, rfl⟩
    · have HS := Lib.hid (show sqB s = true by rw [sqB_true]; have := of_decide_eq_true h1; have := of_decide_eq_true h2; omega)
      go_enter Tryd.func23, Tryd.ntmps23
      go_wp2_with fail
      go_ret
      exact ⟨by rw [HS.out]; rfl, rfl⟩
set_option maxRecDepth 100000 in
set_option maxHeartbeats 1000000 in
theorem rtx_v (p : Nat → Int) (m : Mv) (w : World) (hp : FitM p) (hm : FitV m) (h1 : decide (8 < p 0) = true) : Calls Tryd.prog 10 #[.agg (posA p), .agg (mvA m)] w (StL (bz (mvT p m)) w) := by
  have HB := Lib.hid (Below.refl w.heap.size w)
  have HFp := Lib.hid hp
  have HFm := Lib.hid hm
  have HLive := Lib.hid trivial
  have HLive2 := Lib.hid trivial
  have HS := Lib.hid (show mvT p m = [] from mvT_no (by unfold smB; rw [decide_eq_false (show ¬ p 0 < 9 by have := of_decide_eq_true h1; omega)]; rfl))
  clear hp hm
  go_enter Tryd.func10, Tryd.ntmps10
  go_wp2_with (first
      | (have HL9 := HLive; clear HL9; refine step_box rfl _ rfl p rfl ?_; intro b0 w1 N R; have HB := Lib.hid (HB.out.trans (N.below.mono HB.out.size)); have HR := Lib.hid R; clear N R)
      | (have HL9 := HLive; clear HL9; refine blk_box rfl 33 _ rfl (mvA m) rfl ?_; intro b1 w2 N R; have HR := Lib.hid (HR.out.later N.below); have HB := Lib.hid (HB.out.trans (N.below.mono HB.out.size)); have HM := Lib.hid R; clear N R)
      | (clear HLive; refine step_get rfl 5 _ rfl b0 0 rfl Tryd.underlying5 rfl (.int .u8 (p 0)) ?_ ?_; exact HR.out.cell 0 (by decide)))
  go_ret
  exact ⟨by rw [HS.out]; rfl, HB.out⟩
set_option maxRecDepth 100000 in
set_option maxHeartbeats 1000000 in
theorem rtx_t (p : Nat → Int) (m : Mv) (w : World) (hp : FitM p) (hm : FitV m) (h1 : decide (8 < p 0) = false) (h2 : decide (1 < p 78) = true) : Calls Tryd.prog 10 #[.agg (posA p), .agg (mvA m)] w (StL (bz (mvT p m)) w) := by
  have HB := Lib.hid (Below.refl w.heap.size w)
  have HFp := Lib.hid hp
  have HFm := Lib.hid hm
  have HLive := Lib.hid trivial
  have HLive2 := Lib.hid trivial
  have HS := Lib.hid (show mvT p m = [] from mvT_no (by unfold smB; rw [decide_eq_false (show ¬ p 78 ≤ 1 by have := of_decide_eq_true h2; omega), Bool.and_false]))
  clear hp hm
  go_enter Tryd.func10, Tryd.ntmps10
  go_wp2_with (first
      | (have HL9 := HLive; clear HL9; refine step_box rfl _ rfl p rfl ?_; intro b0 w1 N R; have HB := Lib.hid (HB.out.trans (N.below.mono HB.out.size)); have HR := Lib.hid R; clear N R)
      | (have HL9 := HLive; clear HL9; refine blk_box rfl 33 _ rfl (mvA m) rfl ?_; intro b1 w2 N R; have HR := Lib.hid (HR.out.later N.below); have HB := Lib.hid (HB.out.trans (N.below.mono HB.out.size)); have HM := Lib.hid R; clear N R)
      | (have HL9 := HLive; clear HL9; refine step_get rfl 5 _ rfl b0 0 rfl Tryd.underlying5 rfl (.int .u8 (p 0)) ?_ ?_; exact HR.out.cell 0 (by decide))
      | (clear HLive; refine step_get rfl 5 _ rfl b0 78 rfl Tryd.underlying5 rfl (.int .u8 (p 78)) ?_ ?_; exact HR.out.cell 78 (by decide)))
  go_ret
  exact ⟨by rw [HS.out]; rfl, HB.out⟩
set_option maxRecDepth 100000 in
set_option maxHeartbeats 1000000 in
theorem rtx_f (p : Nat → Int) (m : Mv) (w : World) (hp : FitM p) (hm : FitV m) (h1 : decide (8 < p 0) = false) (h2 : decide (1 < p 78) = false) (h3 : sqB m.f = false) : Calls Tryd.prog 10 #[.agg (posA p), .agg (mvA m)] w (StL (bz (mvT p m)) w) := by
  have HB := Lib.hid (Below.refl w.heap.size w)
  have HFp := Lib.hid hp
  have HFm := Lib.hid hm
  have HLive := Lib.hid trivial
  have HLive2 := Lib.hid trivial
  have HS := Lib.hid (show mvT p m = [] from mvT_off (by rw [h3]; rfl))
  have HF := Lib.hid h3
  clear hp hm h3
  go_enter Tryd.func10, Tryd.ntmps10
  go_wp2_with (first
      | (have HL9 := HLive; clear HL9; refine step_box rfl _ rfl p rfl ?_; intro b0 w1 N R; have HB := Lib.hid (HB.out.trans (N.below.mono HB.out.size)); have HR := Lib.hid R; clear N R)
      | (have HL9 := HLive; clear HL9; refine blk_box rfl 33 _ rfl (mvA m) rfl ?_; intro b1 w2 N R; have HR := Lib.hid (HR.out.later N.below); have HB := Lib.hid (HB.out.trans (N.below.mono HB.out.size)); have HM := Lib.hid R; clear N R)
      | (have HL9 := HLive; clear HL9; refine step_get rfl 5 _ rfl b0 0 rfl Tryd.underlying5 rfl (.int .u8 (p 0)) ?_ ?_; exact HR.out.cell 0 (by decide))
      | (have HL9 := HLive; clear HL9; refine step_get rfl 5 _ rfl b0 78 rfl Tryd.underlying5 rfl (.int .u8 (p 78)) ?_ ?_; exact HR.out.cell 78 (by decide))
      | (have HL9 := HLive; clear HL9; refine step_get rfl 26 _ rfl b1 0 rfl Tryd.underlying26 rfl (.int .i8 m.f) ?_ ?_; exact HM.out.cell 0)
      | (clear HLive; go_at_call 23; refine (rsq_any m.f _).mono ?_; rintro e w3 ⟨rfl, rfl⟩; rw [HF.out]))
  go_ret
  exact ⟨by rw [HS.out]; rfl, HB.out⟩
set_option maxRecDepth 100000 in
set_option maxHeartbeats 1000000 in
theorem rtx_u (p : Nat → Int) (m : Mv) (w : World) (hp : FitM p) (hm : FitV m) (h1 : decide (8 < p 0) = false) (h2 : decide (1 < p 78) = false) (h3 : sqB m.f = true) (h4 : sqB m.t = false) : Calls Tryd.prog 10 #[.agg (posA p), .agg (mvA m)] w (StL (bz (mvT p m)) w) := by
  have HB := Lib.hid (Below.refl w.heap.size w)
  have HFp := Lib.hid hp
  have HFm := Lib.hid hm
  have HLive := Lib.hid trivial
  have HLive2 := Lib.hid trivial
  have HS := Lib.hid (show mvT p m = [] from mvT_off (by rw [h4, Bool.and_false]))
  have HF := Lib.hid h3
  have HT := Lib.hid h4
  have HOnce := Lib.hid trivial
  clear hp hm h3 h4
  go_enter Tryd.func10, Tryd.ntmps10
  go_wp2_with (first
      | (have HL9 := HLive; clear HL9; refine step_box rfl _ rfl p rfl ?_; intro b0 w1 N R; have HB := Lib.hid (HB.out.trans (N.below.mono HB.out.size)); have HR := Lib.hid R; clear N R)
      | (have HL9 := HLive; clear HL9; refine blk_box rfl 33 _ rfl (mvA m) rfl ?_; intro b1 w2 N R; have HR := Lib.hid (HR.out.later N.below); have HB := Lib.hid (HB.out.trans (N.below.mono HB.out.size)); have HM := Lib.hid R; clear N R)
      | (have HL9 := HLive; clear HL9; refine step_get rfl 5 _ rfl b0 0 rfl Tryd.underlying5 rfl (.int .u8 (p 0)) ?_ ?_; exact HR.out.cell 0 (by decide))
      | (have HL9 := HLive; clear HL9; refine step_get rfl 5 _ rfl b0 78 rfl Tryd.underlying5 rfl (.int .u8 (p 78)) ?_ ?_; exact HR.out.cell 78 (by decide))
      | (have HL9 := HLive; clear HL9; refine step_get rfl 26 _ rfl b1 0 rfl Tryd.underlying26 rfl (.int .i8 m.f) ?_ ?_; exact HM.out.cell 0)
      | (have HL9 := HLive; clear HL9; refine step_get rfl 26 _ rfl b1 1 rfl Tryd.underlying26 rfl (.int .i8 m.t) ?_ ?_; exact HM.out.cell 1)
      | (clear HOnce; go_at_call 23; refine (rsq_any m.f _).mono ?_; rintro e w3 ⟨rfl, rfl⟩; rw [HF.out])
      | (clear HLive; go_at_call 23; refine (rsq_any m.t _).mono ?_; rintro e w3 ⟨rfl, rfl⟩; rw [HT.out]))
  go_ret
  exact ⟨by rw [HS.out]; rfl, HB.out⟩
set_option maxRecDepth 100000 in
set_option maxHeartbeats 1000000 in
theorem rtx_d1 (p : Nat → Int) (m : Mv) (w : World) (hp : FitM p) (hm : FitV m) (hs : smB p = true) (h3 : sqB m.f = true) (h4 : sqB m.t = true) (h0 : (m.dr != 0) = true) (q1 : decide (5 < m.dr) = true) : Calls Tryd.prog 10 #[.agg (posA p), .agg (mvA m)] w (StL (bz (mvT p m)) w) := by
  have HB := Lib.hid (Below.refl w.heap.size w)
  have HFp := Lib.hid hp
  have HFm := Lib.hid hm
  have HLive := Lib.hid trivial
  have HLive2 := Lib.hid trivial
  have hs' := hs
  unfold smB at hs'
  rw [Bool.and_eq_true, decide_eq_true_eq, decide_eq_true_eq] at hs'
  have h1 : decide (8 < p 0) = false := decide_eq_false (by omega)
  have h2 : decide (1 < p 78) = false := decide_eq_false (by omega)
  have HF := Lib.hid h3
  have HT := Lib.hid h4
  have HSm := Lib.hid hs
  have HOnce := Lib.hid trivial
  have HS := Lib.hid (show mvT p m = [] by rw [mvT_drop1 hs h3 h0 hm.dr.1, q1]; rfl)
  clear hp hm hs hs' h3 h4
  go_enter Tryd.func10, Tryd.ntmps10
  go_wp2_with (first
      | (have HL9 := HLive; clear HL9; refine step_box rfl _ rfl p rfl ?_; intro b0 w1 N R; have HB := Lib.hid (HB.out.trans (N.below.mono HB.out.size)); have HR := Lib.hid R; clear N R)
      | (have HL9 := HLive; clear HL9; refine blk_box rfl 33 _ rfl (mvA m) rfl ?_; intro b1 w2 N R; have HR := Lib.hid (HR.out.later N.below); have HB := Lib.hid (HB.out.trans (N.below.mono HB.out.size)); have HM := Lib.hid R; clear N R)
      | (have HL9 := HLive; clear HL9; refine step_get rfl 5 _ rfl b0 0 rfl Tryd.underlying5 rfl (.int .u8 (p 0)) ?_ ?_; exact HR.out.cell 0 (by decide))
      | (have HL9 := HLive; clear HL9; refine step_get rfl 5 _ rfl b0 78 rfl Tryd.underlying5 rfl (.int .u8 (p 78)) ?_ ?_; exact HR.out.cell 78 (by decide))
      | (have HL9 := HLive; clear HL9; refine step_get rfl 26 _ rfl b1 0 rfl Tryd.underlying26 rfl (.int .i8 m.f) ?_ ?_; exact HM.out.cell 0)
      | (have HL9 := HLive; clear HL9; refine step_get rfl 26 _ rfl b1 1 rfl Tryd.underlying26 rfl (.int .i8 m.t) ?_ ?_; exact HM.out.cell 1)
      | (have HL9 := HLive; clear HL9; clear HOnce; go_at_call 23; refine (rsq_any m.f _).mono ?_; rintro e w3 ⟨rfl, rfl⟩; rw [HF.out])
      | (have HL9 := HLive; clear HL9; go_at_call 23; refine (rsq_any m.t _).mono ?_; rintro e w3 ⟨rfl, rfl⟩; rw [HT.out])
      | (clear HLive2; have HL9 := HLive; clear HL9; refine step_get rfl 5 _ rfl b1 3 rfl Tryd.underlying5 rfl (.int .u8 m.dr) ?_ ?_; exact HM.out.cell 3)
      | (clear HLive; refine step_get rfl 5 _ rfl b1 3 rfl Tryd.underlying5 rfl (.int .u8 m.dr) ?_ ?_; exact HM.out.cell 3))
  go_ret
  exact ⟨by rw [HS.out]; rfl, HB.out⟩
set_option maxRecDepth 100000 in
set_option maxHeartbeats 1000000 in
theorem rtx_d2 (p : Nat → Int) (m : Mv) (w : World) (hp : FitM p) (hm : FitV m) (hs : smB p = true) (h3 : sqB m.f = true) (h4 : sqB m.t = true) (h0 : (m.dr != 0) = true) (q1 : decide (5 < m.dr) = false) (q2 : (m.f != m.t) = true) : Calls Tryd.prog 10 #[.agg (posA p), .agg (mvA m)] w (StL (bz (mvT p m)) w) := by
  have HB := Lib.hid (Below.refl w.heap.size w)
  have HFp := Lib.hid hp
  have HFm := Lib.hid hm
  have HLive := Lib.hid trivial
  have HLive2 := Lib.hid trivial
  have hs' := hs
  unfold smB at hs'
  rw [Bool.and_eq_true, decide_eq_true_eq, decide_eq_true_eq] at hs'
  have h1 : decide (8 < p 0) = false := decide_eq_false (by omega)
  have h2 : decide (1 < p 78) = false := decide_eq_false (by omega)
  have HF := Lib.hid h3
  have HT := Lib.hid h4
  have HSm := Lib.hid hs
  have HOnce := Lib.hid trivial
  have HS := Lib.hid (show mvT p m = [] by rw [mvT_drop1 hs h3 h0 hm.dr.1, q1, q2]; rfl)
  clear hp hm hs hs' h3 h4
  go_enter Tryd.func10, Tryd.ntmps10
  go_wp2_with (first
      | (have HL9 := HLive; clear HL9; refine step_box rfl _ rfl p rfl ?_; intro b0 w1 N R; have HB := Lib.hid (HB.out.trans (N.below.mono HB.out.size)); have HR := Lib.hid R; clear N R)
      | (have HL9 := HLive; clear HL9; refine blk_box rfl 33 _ rfl (mvA m) rfl ?_; intro b1 w2 N R; have HR := Lib.hid (HR.out.later N.below); have HB := Lib.hid (HB.out.trans (N.below.mono HB.out.size)); have HM := Lib.hid R; clear N R)
      | (have HL9 := HLive; clear HL9; refine step_get rfl 5 _ rfl b0 0 rfl Tryd.underlying5 rfl (.int .u8 (p 0)) ?_ ?_; exact HR.out.cell 0 (by decide))
      | (have HL9 := HLive; clear HL9; refine step_get rfl 5 _ rfl b0 78 rfl Tryd.underlying5 rfl (.int .u8 (p 78)) ?_ ?_; exact HR.out.cell 78 (by decide))
      | (have HL9 := HLive; clear HL9; refine step_get rfl 26 _ rfl b1 0 rfl Tryd.underlying26 rfl (.int .i8 m.f) ?_ ?_; exact HM.out.cell 0)
      | (have HL9 := HLive; clear HL9; clear HOnce; go_at_call 23; refine (rsq_any m.f _).mono ?_; rintro e w3 ⟨rfl, rfl⟩; rw [HF.out])
      | (have HL9 := HLive; clear HL9; go_at_call 23; refine (rsq_any m.t _).mono ?_; rintro e w3 ⟨rfl, rfl⟩; rw [HT.out])
      | (have HL9 := HLive; clear HL9; refine step_get rfl 5 _ rfl b1 3 rfl Tryd.underlying5 rfl (.int .u8 m.dr) ?_ ?_; exact HM.out.cell 3)
      | (clear HLive2; have HL9 := HLive; clear HL9; refine step_get rfl 26 _ rfl b1 1 rfl Tryd.underlying26 rfl (.int .i8 m.t) ?_ ?_; exact HM.out.cell 1)
      | (clear HLive; refine step_get rfl 26 _ rfl b1 1 rfl Tryd.underlying26 rfl (.int .i8 m.t) ?_ ?_; exact HM.out.cell 1))
  go_ret
  exact ⟨by rw [HS.out]; rfl, HB.out⟩
set_option maxRecDepth 100000 in
set_option maxHeartbeats 1000000 in
theorem rtx_d3 (p : Nat → Int) (m : Mv) (w : World) (hp : FitM p) (hm : FitV m) (hs : smB p = true) (h3 : sqB m.f = true) (h4 : sqB m.t = true) (h0 : (m.dr != 0) = true) (q1 : decide (5 < m.dr) = false) (q2 : (m.f != m.t) = false) (q3 : (m.pr != 0) = true) : Calls Tryd.prog 10 #[.agg (posA p), .agg (mvA m)] w (StL (bz (mvT p m)) w) := by
  have HB := Lib.hid (Below.refl w.heap.size w)
  have HFp := Lib.hid hp
  have HFm := Lib.hid hm
  have HLive := Lib.hid trivial
  have HLive2 := Lib.hid trivial
  have hs' := hs
  unfold smB at hs'
  rw [Bool.and_eq_true, decide_eq_true_eq, decide_eq_true_eq] at hs'
  have h1 : decide (8 < p 0) = false := decide_eq_false (by omega)
  have h2 : decide (1 < p 78) = false := decide_eq_false (by omega)
  have HF := Lib.hid h3
  have HT := Lib.hid h4
  have HSm := Lib.hid hs
  have HOnce := Lib.hid trivial
  have HS := Lib.hid (show mvT p m = [] by rw [mvT_drop1 hs h3 h0 hm.dr.1, q1, q2, q3]; rfl)
  clear hp hm hs hs' h3 h4
  go_enter Tryd.func10, Tryd.ntmps10
  go_wp2_with (first
      | (have HL9 := HLive; clear HL9; refine step_box rfl _ rfl p rfl ?_; intro b0 w1 N R; have HB := Lib.hid (HB.out.trans (N.below.mono HB.out.size)); have HR := Lib.hid R; clear N R)
      | (have HL9 := HLive; clear HL9; refine blk_box rfl 33 _ rfl (mvA m) rfl ?_; intro b1 w2 N R; have HR := Lib.hid (HR.out.later N.below); have HB := Lib.hid (HB.out.trans (N.below.mono HB.out.size)); have HM := Lib.hid R; clear N R)
      | (have HL9 := HLive; clear HL9; refine step_get rfl 5 _ rfl b0 0 rfl Tryd.underlying5 rfl (.int .u8 (p 0)) ?_ ?_; exact HR.out.cell 0 (by decide))
      | (have HL9 := HLive; clear HL9; refine step_get rfl 5 _ rfl b0 78 rfl Tryd.underlying5 rfl (.int .u8 (p 78)) ?_ ?_; exact HR.out.cell 78 (by decide))
      | (have HL9 := HLive; clear HL9; refine step_get rfl 26 _ rfl b1 0 rfl Tryd.underlying26 rfl (.int .i8 m.f) ?_ ?_; exact HM.out.cell 0)
      | (have HL9 := HLive; clear HL9; refine step_get rfl 26 _ rfl b1 1 rfl Tryd.underlying26 rfl (.int .i8 m.t) ?_ ?_; exact HM.out.cell 1)
      | (have HL9 := HLive; clear HL9; clear HOnce; go_at_call 23; refine (rsq_any m.f _).mono ?_; rintro e w3 ⟨rfl, rfl⟩; rw [HF.out])
      | (have HL9 := HLive; clear HL9; go_at_call 23; refine (rsq_any m.t _).mono ?_; rintro e w3 ⟨rfl, rfl⟩; rw [HT.out])
      | (have HL9 := HLive; clear HL9; refine step_get rfl 5 _ rfl b1 3 rfl Tryd.underlying5 rfl (.int .u8 m.dr) ?_ ?_; exact HM.out.cell 3)
      | (clear HLive; refine step_get rfl 5 _ rfl b1 2 rfl Tryd.underlying5 rfl (.int .u8 m.pr) ?_ ?_; exact HM.out.cell 2))
  go_ret
  exact ⟨by rw [HS.out]; rfl, HB.out⟩
set_option maxRecDepth 100000 in
set_option maxHeartbeats 1000000 in
theorem rtx_d4 (p : Nat → Int) (m : Mv) (w : World) (hp : FitM p) (hm : FitV m) (hs : smB p = true) (h3 : sqB m.f = true) (h4 : sqB m.t = true) (h0 : (m.dr != 0) = true) (q1 : decide (5 < m.dr) = false) (q2 : (m.f != m.t) = false) (q3 : (m.pr != 0) = false) (q4 : m.ca = true) : Calls Tryd.prog 10 #[.agg (posA p), .agg (mvA m)] w (StL (bz (mvT p m)) w) := by
  have HB := Lib.hid (Below.refl w.heap.size w)
  have HFp := Lib.hid hp
  have HFm := Lib.hid hm
  have HLive := Lib.hid trivial
  have HLive2 := Lib.hid trivial
  have hs' := hs
  unfold smB at hs'
  rw [Bool.and_eq_true, decide_eq_true_eq, decide_eq_true_eq] at hs'
  have h1 : decide (8 < p 0) = false := decide_eq_false (by omega)
  have h2 : decide (1 < p 78) = false := decide_eq_false (by omega)
  have HF := Lib.hid h3
  have HT := Lib.hid h4
  have HSm := Lib.hid hs
  have HOnce := Lib.hid trivial
  have HS := Lib.hid (show mvT p m = [] by rw [mvT_drop1 hs h3 h0 hm.dr.1, q1, q2, q3, q4]; rfl)
  have HCa := Lib.hid q4
  clear hp hm hs hs' h3 h4 q4
  go_enter Tryd.func10, Tryd.ntmps10
  go_wp2_with (first
      | (refine step_box rfl _ rfl p rfl ?_; intro b0 w1 N R; have HB := Lib.hid (HB.out.trans (N.below.mono HB.out.size)); have HR := Lib.hid R; clear N R)
      | (refine blk_box rfl 33 _ rfl (mvA m) rfl ?_; intro b1 w2 N R; have HR := Lib.hid (HR.out.later N.below); have HB := Lib.hid (HB.out.trans (N.below.mono HB.out.size)); have HM := Lib.hid R; clear N R)
      | (refine step_get rfl 5 _ rfl b0 0 rfl Tryd.underlying5 rfl (.int .u8 (p 0)) ?_ ?_; exact HR.out.cell 0 (by decide))
      | (refine step_get rfl 5 _ rfl b0 78 rfl Tryd.underlying5 rfl (.int .u8 (p 78)) ?_ ?_; exact HR.out.cell 78 (by decide))
      | (refine step_get rfl 26 _ rfl b1 0 rfl Tryd.underlying26 rfl (.int .i8 m.f) ?_ ?_; exact HM.out.cell 0)
      | (refine step_get rfl 26 _ rfl b1 1 rfl Tryd.underlying26 rfl (.int .i8 m.t) ?_ ?_; exact HM.out.cell 1)
      | (clear HOnce; go_at_call 23; refine (rsq_any m.f _).mono ?_; rintro e w3 ⟨rfl, rfl⟩; rw [HF.out])
      | (go_at_call 23; refine (rsq_any m.t _).mono ?_; rintro e w3 ⟨rfl, rfl⟩; rw [HT.out])
      | (refine step_get rfl 5 _ rfl b1 3 rfl Tryd.underlying5 rfl (.int .u8 m.dr) ?_ ?_; exact HM.out.cell 3)
      | (refine step_get rfl 5 _ rfl b1 2 rfl Tryd.underlying5 rfl (.int .u8 m.pr) ?_ ?_; exact HM.out.cell 2)
      | (refine step_get rfl 4 _ rfl b1 4 rfl Tryd.underlying4 rfl (.bool true) ?_ ?_; exact (HM.out.cell 4).trans (by show some (Value.bool m.ca) = _; rw [HCa.out])))
  go_ret
  exact ⟨by rw [HS.out]; rfl, HB.out⟩
set_option maxRecDepth 100000 in
set_option maxHeartbeats 1000000 in
theorem rtx_d5 (p : Nat → Int) (m : Mv) (w : World) (hp : FitM p) (hm : FitV m) (hs : smB p = true) (h3 : sqB m.f = true) (h4 : sqB m.t = true) (h0 : (m.dr != 0) = true) (q1 : decide (5 < m.dr) = false) (q2 : (m.f != m.t) = false) (q3 : (m.pr != 0) = false) (q4 : m.ca = false) : Calls Tryd.prog 10 #[.agg (posA p), .agg (mvA m)] w (StL (bz (mvT p m)) w) := by
  have HB := Lib.hid (Below.refl w.heap.size w)
  have HFp := Lib.hid hp
  have HFm := Lib.hid hm
  have HLive := Lib.hid trivial
  have HLive2 := Lib.hid trivial
  have hs' := hs
  unfold smB at hs'
  rw [Bool.and_eq_true, decide_eq_true_eq, decide_eq_true_eq] at hs'
  have h1 : decide (8 < p 0) = false := decide_eq_false (by omega)
  have h2 : decide (1 < p 78) = false := decide_eq_false (by omega)
  have HF := Lib.hid h3
  have HT := Lib.hid h4
  have HSm := Lib.hid hs
  have HOnce := Lib.hid trivial
  have HS := Lib.hid (show mvT p m = leF m.dr ++ 64 :: sqM m.t by rw [mvT_drop1 hs h3 h0 hm.dr.1, q1, q2, q3, q4]; rfl)
  have HCa := Lib.hid q4
  obtain ⟨le, hle⟩ : ∃ le, letZ m.dr = le := ⟨_, rfl⟩
  have HLe := Lib.hid hle
  obtain ⟨tx, htx⟩ : ∃ tx, textZ m.t = tx := ⟨_, rfl⟩
  have HTx := Lib.hid htx
  have wt : IntKind.i64.wrap m.t = m.t := IntWalk.i64_in m.t (by have := hm.t; omega)
  have sl : le.size ≤ 1 := by rw [← hle, leF_bz, bz_size]; exact leF_len m.dr
  have st : tx.size ≤ 2 := by rw [← htx]; exact sqM_size m.t
  have k1 : ¬ (9223372036854775807 < le.size + 1) := by omega
  have k2 : ¬ (9223372036854775807 < le.size + 1 + tx.size) := by omega
  have HSz := Lib.hid (show bz (leF m.dr ++ 64 :: sqM m.t) = le ++ ⟨#[64]⟩ ++ tx by
    rw [← hle, ← htx, leF_bz, sqM_bz, show (⟨#[64]⟩ : ByteArray) = bz [64] from rfl, bz_app, bz_app]
    congr 1
    simp)
  clear hp hm hs hs' h3 h4 q4 hle htx sl st
  go_enter Tryd.func10, Tryd.ntmps10
  go_wp2_with (first
      | (refine step_box rfl _ rfl p rfl ?_; intro b0 w1 N R; have HB := Lib.hid (HB.out.trans (N.below.mono HB.out.size)); have HR := Lib.hid R; clear N R)
      | (refine blk_box rfl 33 _ rfl (mvA m) rfl ?_; intro b1 w2 N R; have HR := Lib.hid (HR.out.later N.below); have HB := Lib.hid (HB.out.trans (N.below.mono HB.out.size)); have HM := Lib.hid R; clear N R)
      | (refine step_get rfl 5 _ rfl b0 0 rfl Tryd.underlying5 rfl (.int .u8 (p 0)) ?_ ?_; exact HR.out.cell 0 (by decide))
      | (refine step_get rfl 5 _ rfl b0 78 rfl Tryd.underlying5 rfl (.int .u8 (p 78)) ?_ ?_; exact HR.out.cell 78 (by decide))
      | (refine step_get rfl 26 _ rfl b1 0 rfl Tryd.underlying26 rfl (.int .i8 m.f) ?_ ?_; exact HM.out.cell 0)
      | (refine step_get rfl 26 _ rfl b1 1 rfl Tryd.underlying26 rfl (.int .i8 m.t) ?_ ?_; exact HM.out.cell 1)
      | (clear HOnce; go_at_call 23; refine (rsq_any m.f _).mono ?_; rintro e w3 ⟨rfl, rfl⟩; rw [HF.out])
      | (go_at_call 23; refine (rsq_any m.t _).mono ?_; rintro e w3 ⟨rfl, rfl⟩; rw [HT.out])
      | (refine step_get rfl 5 _ rfl b1 3 rfl Tryd.underlying5 rfl (.int .u8 m.dr) ?_ ?_; exact HM.out.cell 3)
      | (refine step_get rfl 5 _ rfl b1 2 rfl Tryd.underlying5 rfl (.int .u8 m.pr) ?_ ?_; exact HM.out.cell 2)
      | (refine step_get rfl 4 _ rfl b1 4 rfl Tryd.underlying4 rfl (.bool false) ?_ ?_; exact (HM.out.cell 4).trans (by show some (Value.bool m.ca) = _; rw [HCa.out])))
  refine late_begin 10 (by kernel_rfl) ?_
  refine late_take 0 (by kernel_rfl) (by kernel_rfl) (by kernel_rfl) (by kernel_rfl) (by kernel_rfl) (fun _ _ d _ _ h => by cases d <;> exact h) (fun o ho => ?_)
  simp only [List.getElem?_toArray, List.getElem?_cons_zero, List.getElem?_cons_succ, Option.some.injEq] at ho; subst ho
  apply Exists.intro
  refine ⟨Or.inl ⟨by kernel_rfl, fun w' hl => Or.inl ?_⟩, ?_⟩
  · (go_simp; try with_reducible rfl)
  simp only [Act.put, List.setIfInBounds_toArray, List.set_cons_zero, List.set_cons_succ]
  refine late_take 1 (by kernel_rfl) (by kernel_rfl) (by kernel_rfl) (by kernel_rfl) (by kernel_rfl) (fun _ _ d _ _ h => by cases d <;> exact h) (fun o ho => ?_)
  simp only [List.getElem?_toArray, List.getElem?_cons_zero, List.getElem?_cons_succ, Option.some.injEq] at ho; subst ho
  refine ⟨_, Or.inl ⟨by kernel_rfl, fun w' hl => Or.inl (run_get 5 _ rfl b1 (3) rfl Tryd.underlying5 rfl (.int .u8 m.dr) ((HM.out.later hl).cell 3))⟩, ?_⟩
  simp only [Act.put, List.setIfInBounds_toArray, List.set_cons_zero, List.set_cons_succ]
  refine late_take 4 (by kernel_rfl) (by kernel_rfl) (by kernel_rfl) (by kernel_rfl) (by kernel_rfl) (fun _ _ d _ _ h => by cases d <;> exact h) (fun o ho => ?_)
  simp only [List.getElem?_toArray, List.getElem?_cons_zero, List.getElem?_cons_succ, Option.some.injEq] at ho; subst ho
  apply Exists.intro
  refine ⟨Or.inl ⟨by kernel_rfl, fun w' hl => Or.inl ?_⟩, ?_⟩
  · (go_simp; try with_reducible rfl)
  simp only [Act.put, List.setIfInBounds_toArray, List.set_cons_zero, List.set_cons_succ]
  refine late_take 5 (by kernel_rfl) (by kernel_rfl) (by kernel_rfl) (by kernel_rfl) (by kernel_rfl) (fun _ _ d _ _ h => by cases d <;> exact h) (fun o ho => ?_)
  simp only [List.getElem?_toArray, List.getElem?_cons_zero, List.getElem?_cons_succ, Option.some.injEq] at ho; subst ho
  refine ⟨_, Or.inl ⟨by kernel_rfl, fun w' hl => Or.inl (run_get 26 _ rfl b1 (1) rfl Tryd.underlying26 rfl (.int .i8 m.t) ((HM.out.later hl).cell 1))⟩, ?_⟩
  simp only [Act.put, List.setIfInBounds_toArray, List.set_cons_zero, List.set_cons_succ]
  refine late_take 6 (by kernel_rfl) (by kernel_rfl) (by kernel_rfl) (by kernel_rfl) (by kernel_rfl) (fun _ _ d _ _ h => by cases d <;> exact h) (fun o ho => ?_)
  simp only [List.getElem?_toArray, List.getElem?_cons_zero, List.getElem?_cons_succ, Option.some.injEq] at ho; subst ho
  refine ⟨.int .i64 m.t, Or.inl ⟨by kernel_rfl, fun w' hl => Or.inl ?_⟩, ?_⟩
  · (go_simp; try simp [wt])
  simp only [Act.put, List.setIfInBounds_toArray, List.set_cons_zero, List.set_cons_succ]
  refine late_one 2 (by kernel_rfl) (by kernel_rfl) (fun o ho => ?_)
  simp only [List.getElem?_toArray, List.getElem?_cons_zero, List.getElem?_cons_succ, Option.some.injEq] at ho; subst ho
  refine ⟨by kernel_rfl, fun wn hl K hK => ?_⟩
  have HR := Lib.hid (HR.out.later hl); have HM := Lib.hid (HM.out.later hl); have HB := Lib.hid (below_on HB.out hl); clear hl
  refine wp_enter _ _ (by go_simp; exact ⟨rfl, rfl⟩) ?_
  refine (rlet_any m.dr _).mono ?_; rintro e wm ⟨rfl, hb⟩; refine ⟨_, rfl, ?_⟩
  rw [HLe.out]
  refine hK.out _ _ hb ?_
  have HR := Lib.hid (HR.out.later hb); have HM := Lib.hid (HM.out.later hb); have HB := Lib.hid (below_on HB.out hb); clear hb
  clear hK K
  simp only [Act.put, List.setIfInBounds_toArray, List.set_cons_zero, List.set_cons_succ]
  refine late_take 3 (by kernel_rfl) (by kernel_rfl) (by kernel_rfl) (by kernel_rfl) (by kernel_rfl) (fun _ _ d _ _ h => by cases d <;> exact h) (fun o ho => ?_)
  simp only [List.getElem?_toArray, List.getElem?_cons_zero, List.getElem?_cons_succ, Option.some.injEq] at ho; subst ho
  apply Exists.intro
  refine ⟨Or.inl ⟨by kernel_rfl, fun w' hl => Or.inl ?_⟩, ?_⟩
  · (go_simp; try with_reducible rfl)
  simp only [Act.put, List.setIfInBounds_toArray, List.set_cons_zero, List.set_cons_succ]
  refine late_one 7 (by kernel_rfl) (by kernel_rfl) (fun o ho => ?_)
  simp only [List.getElem?_toArray, List.getElem?_cons_zero, List.getElem?_cons_succ, Option.some.injEq] at ho; subst ho
  refine ⟨by kernel_rfl, fun wn hl K hK => ?_⟩
  have HR := Lib.hid (HR.out.later hl); have HM := Lib.hid (HM.out.later hl); have HB := Lib.hid (below_on HB.out hl); clear hl
  refine wp_enter _ _ (by go_simp; exact ⟨rfl, rfl⟩) ?_
  refine (rtext_any m.t _).mono ?_; rintro e wm ⟨rfl, hb⟩; refine ⟨_, rfl, ?_⟩
  rw [HTx.out]
  refine hK.out _ _ hb ?_
  have HR := Lib.hid (HR.out.later hb); have HM := Lib.hid (HM.out.later hb); have HB := Lib.hid (below_on HB.out hb); clear hb
  clear hK K
  simp only [Act.put, List.setIfInBounds_toArray, List.set_cons_zero, List.set_cons_succ]
  refine late_take 8 (by kernel_rfl) (by kernel_rfl) (by kernel_rfl) (by kernel_rfl) (by kernel_rfl) (fun _ _ d _ _ h => by cases d <;> exact h) (fun o ho => ?_)
  simp only [List.getElem?_toArray, List.getElem?_cons_zero, List.getElem?_cons_succ, Option.some.injEq] at ho; subst ho
  apply Exists.intro
  refine ⟨Or.inl ⟨by kernel_rfl, fun w' hl => Or.inl ?_⟩, ?_⟩
  · (go_simp; try with_reducible rfl)
  simp only [Act.put, List.setIfInBounds_toArray, List.set_cons_zero, List.set_cons_succ]
  refine late_take 9 (by kernel_rfl) (by kernel_rfl) (by kernel_rfl) (by kernel_rfl) (by kernel_rfl) (fun _ _ d _ _ h => by cases d <;> exact h) (fun o ho => ?_)
  simp only [List.getElem?_toArray, List.getElem?_cons_zero, List.getElem?_cons_succ, Option.some.injEq] at ho; subst ho
  apply Exists.intro
  refine ⟨Or.inl ⟨by kernel_rfl, fun w' hl => Or.inl ?_⟩, ?_⟩
  · (go_simp; try with_reducible rfl)
  simp only [Act.put, List.setIfInBounds_toArray, List.set_cons_zero, List.set_cons_succ]
  refine late_end (by kernel_rfl) (fun wn hl => ?_)
  have HR := Lib.hid (HR.out.later hl); have HM := Lib.hid (HM.out.later hl); have HB := Lib.hid (below_on HB.out hl); clear hl
  go_wp2_with fail
  go_ret
  exact ⟨by rw [HS.out, HSz.out]; rfl, HB.out⟩
set_option maxRecDepth 100000 in
set_option maxHeartbeats 1000000 in
theorem rtx_m1 (p : Nat → Int) (m : Mv) (w : World) (hp : FitM p) (hm : FitV m) (hs : smB p = true) (h3 : sqB m.f = true) (h4 : sqB m.t = true) (h0 : (m.dr != 0) = false) (q1 : (m.f == m.t) = true) : Calls Tryd.prog 10 #[.agg (posA p), .agg (mvA m)] w (StL (bz (mvT p m)) w) := by
  have HB := Lib.hid (Below.refl w.heap.size w)
  have HFp := Lib.hid hp
  have HFm := Lib.hid hm
  have HLive := Lib.hid trivial
  have HLive2 := Lib.hid trivial
  have hs' := hs
  unfold smB at hs'
  rw [Bool.and_eq_true, decide_eq_true_eq, decide_eq_true_eq] at hs'
  have h1 : decide (8 < p 0) = false := decide_eq_false (by omega)
  have h2 : decide (1 < p 78) = false := decide_eq_false (by omega)
  have HF := Lib.hid h3
  have HT := Lib.hid h4
  have HSm := Lib.hid hs
  have HOnce := Lib.hid trivial
  have HS := Lib.hid (show mvT p m = [] from mvT_move (by simpa using h0) (by rw [q1]; rfl))
  have HZ := Lib.hid (show m.dr = 0 by simpa using h0)
  clear hp hm hs hs' h3 h4 h0
  go_enter Tryd.func10, Tryd.ntmps10
  go_wp2_with (first
      | (have HL9 := HLive; clear HL9; refine step_box rfl _ rfl p rfl ?_; intro b0 w1 N R; have HB := Lib.hid (HB.out.trans (N.below.mono HB.out.size)); have HR := Lib.hid R; clear N R)
      | (have HL9 := HLive; clear HL9; refine blk_box rfl 33 _ rfl (mvA m) rfl ?_; intro b1 w2 N R; have HR := Lib.hid (HR.out.later N.below); have HB := Lib.hid (HB.out.trans (N.below.mono HB.out.size)); have HM := Lib.hid R; clear N R)
      | (have HL9 := HLive; clear HL9; refine step_get rfl 5 _ rfl b0 0 rfl Tryd.underlying5 rfl (.int .u8 (p 0)) ?_ ?_; exact HR.out.cell 0 (by decide))
      | (have HL9 := HLive; clear HL9; refine step_get rfl 5 _ rfl b0 78 rfl Tryd.underlying5 rfl (.int .u8 (p 78)) ?_ ?_; exact HR.out.cell 78 (by decide))
      | (have HL9 := HLive; clear HL9; refine step_get rfl 26 _ rfl b1 0 rfl Tryd.underlying26 rfl (.int .i8 m.f) ?_ ?_; exact HM.out.cell 0)
      | (have HL9 := HLive; clear HL9; clear HOnce; go_at_call 23; refine (rsq_any m.f _).mono ?_; rintro e w3 ⟨rfl, rfl⟩; rw [HF.out])
      | (have HL9 := HLive; clear HL9; go_at_call 23; refine (rsq_any m.t _).mono ?_; rintro e w3 ⟨rfl, rfl⟩; rw [HT.out])
      | (have HL9 := HLive; clear HL9; refine step_get rfl 5 _ rfl b1 3 rfl Tryd.underlying5 rfl (.int .u8 0) ?_ ?_; exact (HM.out.cell 3).trans (by show some (Value.int IntKind.u8 m.dr) = _; rw [HZ.out]))
      | (clear HLive2; have HL9 := HLive; clear HL9; refine step_get rfl 26 _ rfl b1 1 rfl Tryd.underlying26 rfl (.int .i8 m.t) ?_ ?_; exact HM.out.cell 1)
      | (clear HLive; refine step_get rfl 26 _ rfl b1 1 rfl Tryd.underlying26 rfl (.int .i8 m.t) ?_ ?_; exact HM.out.cell 1))
  go_ret
  exact ⟨by rw [HS.out]; rfl, HB.out⟩
set_option maxRecDepth 100000 in
set_option maxHeartbeats 1000000 in
theorem rtx_m2 (p : Nat → Int) (m : Mv) (w : World) (hp : FitM p) (hm : FitV m) (hs : smB p = true) (h3 : sqB m.f = true) (h4 : sqB m.t = true) (h0 : (m.dr != 0) = false) (q1 : (m.f == m.t) = false) (q2 : (m.pr == 1) = true) : Calls Tryd.prog 10 #[.agg (posA p), .agg (mvA m)] w (StL (bz (mvT p m)) w) := by
  have HB := Lib.hid (Below.refl w.heap.size w)
  have HFp := Lib.hid hp
  have HFm := Lib.hid hm
  have HLive := Lib.hid trivial
  have HLive2 := Lib.hid trivial
  have hs' := hs
  unfold smB at hs'
  rw [Bool.and_eq_true, decide_eq_true_eq, decide_eq_true_eq] at hs'
  have h1 : decide (8 < p 0) = false := decide_eq_false (by omega)
  have h2 : decide (1 < p 78) = false := decide_eq_false (by omega)
  have HF := Lib.hid h3
  have HT := Lib.hid h4
  have HSm := Lib.hid hs
  have HOnce := Lib.hid trivial
  have HS := Lib.hid (show mvT p m = [] from mvT_move (by simpa using h0) (by rw [q1, q2]; rfl))
  have HZ := Lib.hid (show m.dr = 0 by simpa using h0)
  clear hp hm hs hs' h3 h4 h0
  go_enter Tryd.func10, Tryd.ntmps10
  go_wp2_with (first
      | (have HL9 := HLive; clear HL9; refine step_box rfl _ rfl p rfl ?_; intro b0 w1 N R; have HB := Lib.hid (HB.out.trans (N.below.mono HB.out.size)); have HR := Lib.hid R; clear N R)
      | (have HL9 := HLive; clear HL9; refine blk_box rfl 33 _ rfl (mvA m) rfl ?_; intro b1 w2 N R; have HR := Lib.hid (HR.out.later N.below); have HB := Lib.hid (HB.out.trans (N.below.mono HB.out.size)); have HM := Lib.hid R; clear N R)
      | (have HL9 := HLive; clear HL9; refine step_get rfl 5 _ rfl b0 0 rfl Tryd.underlying5 rfl (.int .u8 (p 0)) ?_ ?_; exact HR.out.cell 0 (by decide))
      | (have HL9 := HLive; clear HL9; refine step_get rfl 5 _ rfl b0 78 rfl Tryd.underlying5 rfl (.int .u8 (p 78)) ?_ ?_; exact HR.out.cell 78 (by decide))
      | (have HL9 := HLive; clear HL9; refine step_get rfl 26 _ rfl b1 0 rfl Tryd.underlying26 rfl (.int .i8 m.f) ?_ ?_; exact HM.out.cell 0)
      | (have HL9 := HLive; clear HL9; refine step_get rfl 26 _ rfl b1 1 rfl Tryd.underlying26 rfl (.int .i8 m.t) ?_ ?_; exact HM.out.cell 1)
      | (have HL9 := HLive; clear HL9; clear HOnce; go_at_call 23; refine (rsq_any m.f _).mono ?_; rintro e w3 ⟨rfl, rfl⟩; rw [HF.out])
      | (have HL9 := HLive; clear HL9; go_at_call 23; refine (rsq_any m.t _).mono ?_; rintro e w3 ⟨rfl, rfl⟩; rw [HT.out])
      | (have HL9 := HLive; clear HL9; refine step_get rfl 5 _ rfl b1 3 rfl Tryd.underlying5 rfl (.int .u8 0) ?_ ?_; exact (HM.out.cell 3).trans (by show some (Value.int IntKind.u8 m.dr) = _; rw [HZ.out]))
      | (clear HLive; refine step_get rfl 5 _ rfl b1 2 rfl Tryd.underlying5 rfl (.int .u8 m.pr) ?_ ?_; exact HM.out.cell 2))
  go_ret
  exact ⟨by rw [HS.out]; rfl, HB.out⟩
set_option maxRecDepth 100000 in
set_option maxHeartbeats 1000000 in
theorem rtx_m3 (p : Nat → Int) (m : Mv) (w : World) (hp : FitM p) (hm : FitV m) (hs : smB p = true) (h3 : sqB m.f = true) (h4 : sqB m.t = true) (h0 : (m.dr != 0) = false) (q1 : (m.f == m.t) = false) (q2 : (m.pr == 1) = false) (q3 : decide (6 < m.pr) = true) : Calls Tryd.prog 10 #[.agg (posA p), .agg (mvA m)] w (StL (bz (mvT p m)) w) := by
  have HB := Lib.hid (Below.refl w.heap.size w)
  have HFp := Lib.hid hp
  have HFm := Lib.hid hm
  have HLive := Lib.hid trivial
  have HLive2 := Lib.hid trivial
  have hs' := hs
  unfold smB at hs'
  rw [Bool.and_eq_true, decide_eq_true_eq, decide_eq_true_eq] at hs'
  have h1 : decide (8 < p 0) = false := decide_eq_false (by omega)
  have h2 : decide (1 < p 78) = false := decide_eq_false (by omega)
  have HF := Lib.hid h3
  have HT := Lib.hid h4
  have HSm := Lib.hid hs
  have HOnce := Lib.hid trivial
  have HS := Lib.hid (show mvT p m = [] from mvT_move (by simpa using h0) (by rw [q1, q2, q3]; rfl))
  have HZ := Lib.hid (show m.dr = 0 by simpa using h0)
  clear hp hm hs hs' h3 h4 h0
  go_enter Tryd.func10, Tryd.ntmps10
  go_wp2_with (first
      | (refine step_box rfl _ rfl p rfl ?_; intro b0 w1 N R; have HB := Lib.hid (HB.out.trans (N.below.mono HB.out.size)); have HR := Lib.hid R; clear N R)
      | (refine blk_box rfl 33 _ rfl (mvA m) rfl ?_; intro b1 w2 N R; have HR := Lib.hid (HR.out.later N.below); have HB := Lib.hid (HB.out.trans (N.below.mono HB.out.size)); have HM := Lib.hid R; clear N R)
      | (refine step_get rfl 5 _ rfl b0 0 rfl Tryd.underlying5 rfl (.int .u8 (p 0)) ?_ ?_; exact HR.out.cell 0 (by decide))
      | (refine step_get rfl 5 _ rfl b0 78 rfl Tryd.underlying5 rfl (.int .u8 (p 78)) ?_ ?_; exact HR.out.cell 78 (by decide))
      | (refine step_get rfl 26 _ rfl b1 0 rfl Tryd.underlying26 rfl (.int .i8 m.f) ?_ ?_; exact HM.out.cell 0)
      | (refine step_get rfl 26 _ rfl b1 1 rfl Tryd.underlying26 rfl (.int .i8 m.t) ?_ ?_; exact HM.out.cell 1)
      | (clear HOnce; go_at_call 23; refine (rsq_any m.f _).mono ?_; rintro e w3 ⟨rfl, rfl⟩; rw [HF.out])
      | (go_at_call 23; refine (rsq_any m.t _).mono ?_; rintro e w3 ⟨rfl, rfl⟩; rw [HT.out])
      | (refine step_get rfl 5 _ rfl b1 3 rfl Tryd.underlying5 rfl (.int .u8 0) ?_ ?_; exact (HM.out.cell 3).trans (by show some (Value.int IntKind.u8 m.dr) = _; rw [HZ.out]))
      | (refine step_get rfl 5 _ rfl b1 2 rfl Tryd.underlying5 rfl (.int .u8 m.pr) ?_ ?_; exact HM.out.cell 2))
  go_ret
  exact ⟨by rw [HS.out]; rfl, HB.out⟩
theorem rcas_m (p : Nat → Int) (m : Mv) (w : World) (hp : FitM p) (hs : smB p = true) (h3 : sqB m.f = true) (h4 : sqB m.t = true) : Calls Tryd.prog 20 #[.agg (posA p), .agg (mvA m)] w (StL (bz (csR p m.f m.t)) w) := by
  obtain ⟨f, t, pr, dr, ca⟩ := m
  have h3 : sqB f = true := h3
  have h4 : sqB t = true := h4
  obtain ⟨a, b⟩ := sqB_true.1 h3
  obtain ⟨c, d⟩ := sqB_true.1 h4
  obtain ⟨n, rfl⟩ := Int.eq_ofNat_of_zero_le a
  obtain ⟨u, rfl⟩ := Int.eq_ofNat_of_zero_le c
  exact rcas_any p n u pr dr ca w hp hs (by omega) (by omega)
set_option maxRecDepth 100000 in
set_option maxHeartbeats 1000000 in
theorem rtx_c1 (p : Nat → Int) (m : Mv) (w : World) (hp : FitM p) (hm : FitV m) (hs : smB p = true) (h3 : sqB m.f = true) (h4 : sqB m.t = true) (h0 : (m.dr != 0) = false) (q1 : (m.f == m.t) = false) (q2 : (m.pr == 1) = false) (q3 : decide (6 < m.pr) = false) (q4 : m.ca = true) (q5 : (m.pr != 0) = true) : Calls Tryd.prog 10 #[.agg (posA p), .agg (mvA m)] w (StL (bz (mvT p m)) w) := by
  have HB := Lib.hid (Below.refl w.heap.size w)
  have HFp := Lib.hid hp
  have HFm := Lib.hid hm
  have HLive := Lib.hid trivial
  have HLive2 := Lib.hid trivial
  have hs' := hs
  unfold smB at hs'
  rw [Bool.and_eq_true, decide_eq_true_eq, decide_eq_true_eq] at hs'
  have h1 : decide (8 < p 0) = false := decide_eq_false (by omega)
  have h2 : decide (1 < p 78) = false := decide_eq_false (by omega)
  have HF := Lib.hid h3
  have HT := Lib.hid h4
  have HSm := Lib.hid hs
  have HOnce := Lib.hid trivial
  have HS := Lib.hid (show mvT p m = [] by rw [mvT_cast hs hp.turn.1 (by simpa using h0) h3 h4 (by simpa using q1) q4, q5]; rfl)
  have HZ := Lib.hid (show m.dr = 0 by simpa using h0)
  have HCa := Lib.hid q4
  clear hp hm hs hs' h3 h4 q4 h0
  go_enter Tryd.func10, Tryd.ntmps10
  go_wp2_with (first
      | (refine step_box rfl _ rfl p rfl ?_; intro b0 w1 N R; have HB := Lib.hid (HB.out.trans (N.below.mono HB.out.size)); have HR := Lib.hid R; clear N R)
      | (refine blk_box rfl 33 _ rfl (mvA m) rfl ?_; intro b1 w2 N R; have HR := Lib.hid (HR.out.later N.below); have HB := Lib.hid (HB.out.trans (N.below.mono HB.out.size)); have HM := Lib.hid R; clear N R)
      | (refine step_get rfl 5 _ rfl b0 0 rfl Tryd.underlying5 rfl (.int .u8 (p 0)) ?_ ?_; exact HR.out.cell 0 (by decide))
      | (refine step_get rfl 5 _ rfl b0 78 rfl Tryd.underlying5 rfl (.int .u8 (p 78)) ?_ ?_; exact HR.out.cell 78 (by decide))
      | (refine step_get rfl 26 _ rfl b1 0 rfl Tryd.underlying26 rfl (.int .i8 m.f) ?_ ?_; exact HM.out.cell 0)
      | (refine step_get rfl 26 _ rfl b1 1 rfl Tryd.underlying26 rfl (.int .i8 m.t) ?_ ?_; exact HM.out.cell 1)
      | (clear HOnce; go_at_call 23; refine (rsq_any m.f _).mono ?_; rintro e w3 ⟨rfl, rfl⟩; rw [HF.out])
      | (go_at_call 23; refine (rsq_any m.t _).mono ?_; rintro e w3 ⟨rfl, rfl⟩; rw [HT.out])
      | (refine step_get rfl 5 _ rfl b1 3 rfl Tryd.underlying5 rfl (.int .u8 0) ?_ ?_; exact (HM.out.cell 3).trans (by show some (Value.int IntKind.u8 m.dr) = _; rw [HZ.out]))
      | (refine step_get rfl 5 _ rfl b1 2 rfl Tryd.underlying5 rfl (.int .u8 m.pr) ?_ ?_; exact HM.out.cell 2)
      | (refine step_get rfl 4 _ rfl b1 4 rfl Tryd.underlying4 rfl (.bool true) ?_ ?_; exact (HM.out.cell 4).trans (by show some (Value.bool m.ca) = _; rw [HCa.out])))
  go_ret
  exact ⟨by rw [HS.out]; rfl, HB.out⟩
set_option maxRecDepth 100000 in
set_option maxHeartbeats 1000000 in
theorem rtx_c2 (p : Nat → Int) (m : Mv) (w : World) (hp : FitM p) (hm : FitV m) (hs : smB p = true) (h3 : sqB m.f = true) (h4 : sqB m.t = true) (h0 : (m.dr != 0) = false) (q1 : (m.f == m.t) = false) (q2 : (m.pr == 1) = false) (q3 : decide (6 < m.pr) = false) (q4 : m.ca = true) (q5 : (m.pr != 0) = false) : Calls Tryd.prog 10 #[.agg (posA p), .agg (mvA m)] w (StL (bz (mvT p m)) w) := by
  have HB := Lib.hid (Below.refl w.heap.size w)
  have HFp := Lib.hid hp
  have HFm := Lib.hid hm
  have HLive := Lib.hid trivial
  have HLive2 := Lib.hid trivial
  have hs' := hs
  unfold smB at hs'
  rw [Bool.and_eq_true, decide_eq_true_eq, decide_eq_true_eq] at hs'
  have h1 : decide (8 < p 0) = false := decide_eq_false (by omega)
  have h2 : decide (1 < p 78) = false := decide_eq_false (by omega)
  have HF := Lib.hid h3
  have HT := Lib.hid h4
  have HSm := Lib.hid hs
  have HOnce := Lib.hid trivial
  have HS := Lib.hid (show mvT p m = csR p m.f m.t by rw [mvT_cast hs hp.turn.1 (by simpa using h0) h3 h4 (by simpa using q1) q4, q5]; rfl)
  have HZ := Lib.hid (show m.dr = 0 by simpa using h0)
  have HCa := Lib.hid q4
  clear hp hm hs hs' h3 h4 q4 h0
  go_enter Tryd.func10, Tryd.ntmps10
  go_wp2_with (first
      | (refine step_box rfl _ rfl p rfl ?_; intro b0 w1 N R; have HB := Lib.hid (HB.out.trans (N.below.mono HB.out.size)); have HR := Lib.hid R; clear N R)
      | (refine blk_box rfl 33 _ rfl (mvA m) rfl ?_; intro b1 w2 N R; have HR := Lib.hid (HR.out.later N.below); have HB := Lib.hid (HB.out.trans (N.below.mono HB.out.size)); have HM := Lib.hid R; clear N R)
      | (refine step_get rfl 5 _ rfl b0 0 rfl Tryd.underlying5 rfl (.int .u8 (p 0)) ?_ ?_; exact HR.out.cell 0 (by decide))
      | (refine step_get rfl 5 _ rfl b0 78 rfl Tryd.underlying5 rfl (.int .u8 (p 78)) ?_ ?_; exact HR.out.cell 78 (by decide))
      | (refine step_get rfl 26 _ rfl b1 0 rfl Tryd.underlying26 rfl (.int .i8 m.f) ?_ ?_; exact HM.out.cell 0)
      | (refine step_get rfl 26 _ rfl b1 1 rfl Tryd.underlying26 rfl (.int .i8 m.t) ?_ ?_; exact HM.out.cell 1)
      | (clear HOnce; go_at_call 23; refine (rsq_any m.f _).mono ?_; rintro e w3 ⟨rfl, rfl⟩; rw [HF.out])
      | (go_at_call 23; refine (rsq_any m.t _).mono ?_; rintro e w3 ⟨rfl, rfl⟩; rw [HT.out])
      | (refine step_get rfl 5 _ rfl b1 3 rfl Tryd.underlying5 rfl (.int .u8 0) ?_ ?_; exact (HM.out.cell 3).trans (by show some (Value.int IntKind.u8 m.dr) = _; rw [HZ.out]))
      | (refine step_get rfl 5 _ rfl b1 2 rfl Tryd.underlying5 rfl (.int .u8 m.pr) ?_ ?_; exact HM.out.cell 2)
      | (refine step_get rfl 4 _ rfl b1 4 rfl Tryd.underlying4 rfl (.bool true) ?_ ?_; exact (HM.out.cell 4).trans (by show some (Value.bool m.ca) = _; rw [HCa.out]))
      | (refine step_load rfl _ rfl b0 rfl p HR.out ?_)
      | (refine blk_load rfl 33 _ rfl b1 rfl (mvA m) HM.out _ Tryd.underlying33 rfl sizeMv ?_)
      | (go_at_call 20; refine (rcas_m p m _ HFp.out HSm.out HF.out HT.out).mono ?_; rintro e w3 ⟨rfl, hb⟩; have HR := Lib.hid (HR.out.later hb); have HM := Lib.hid (HM.out.later hb); have HB := Lib.hid (below_on HB.out hb); clear hb))
  go_ret
  exact ⟨by rw [HS.out]; rfl, HB.out⟩
set_option maxRecDepth 100000 in
set_option maxHeartbeats 1000000 in
theorem rtx_p1 (p : Nat → Int) (m : Mv) (w : World) (hp : FitM p) (hm : FitV m) (hs : smB p = true) (h3 : sqB m.f = true) (h4 : sqB m.t = true) (h0 : (m.dr != 0) = false) (q1 : (m.f == m.t) = false) (q2 : (m.pr == 1) = false) (q3 : decide (6 < m.pr) = false) (q4 : m.ca = false) (q5 : (m.pr != 0) = false) (l : List UInt8) (hl : sqM m.f ++ sqM m.t ++ (bif m.pr != 0 then leF (8 + m.pr) else []) = l) (q6 : coB p l = true) : Calls Tryd.prog 10 #[.agg (posA p), .agg (mvA m)] w (StL (bz (mvT p m)) w) := by
  have HB := Lib.hid (Below.refl w.heap.size w)
  have HFp := Lib.hid hp
  have HFm := Lib.hid hm
  have HLive := Lib.hid trivial
  have HLive2 := Lib.hid trivial
  have hs' := hs
  unfold smB at hs'
  rw [Bool.and_eq_true, decide_eq_true_eq, decide_eq_true_eq] at hs'
  have h1 : decide (8 < p 0) = false := decide_eq_false (by omega)
  have h2 : decide (1 < p 78) = false := decide_eq_false (by omega)
  have HF := Lib.hid h3
  have HT := Lib.hid h4
  have HSm := Lib.hid hs
  have HOnce := Lib.hid trivial
  have HS := Lib.hid (show mvT p m = [] by rw [mvT_plain hs (by simpa using h0) h3 h4 (by simpa using q1) q4 (by simpa using q2) (by have := of_decide_eq_false q3; omega) hm.pr.1, hl, q6]; rfl)
  have HZ := Lib.hid (show m.dr = 0 by simpa using h0)
  have HCa := Lib.hid q4
  have HC := Lib.hid q6
  obtain ⟨tw, htw⟩ : ∃ tw, bz (sqM m.f ++ sqM m.t) = tw := ⟨_, rfl⟩
  have HTw := Lib.hid htw
  obtain ⟨cm, hcm⟩ : ∃ cm, (bif true then coM p l else mv0) = cm := ⟨_, rfl⟩
  have HCm := Lib.hid hcm
  have HL := Lib.hid (show bz l = tw by rw [← hl, q5, ← htw]; show bz (sqM m.f ++ sqM m.t ++ []) = _; rw [List.append_nil])
  clear hp hm hs hs' h3 h4 q4 q6 htw hcm hl h0
  go_enter Tryd.func10, Tryd.ntmps10
  go_wp2_with (first
      | (refine step_box rfl _ rfl p rfl ?_; intro b0 w1 N R; have HB := Lib.hid (HB.out.trans (N.below.mono HB.out.size)); have HR := Lib.hid R; clear N R)
      | (refine blk_box rfl 33 _ rfl (mvA m) rfl ?_; intro b1 w2 N R; have HR := Lib.hid (HR.out.later N.below); have HB := Lib.hid (HB.out.trans (N.below.mono HB.out.size)); have HM := Lib.hid R; clear N R)
      | (refine step_get rfl 5 _ rfl b0 0 rfl Tryd.underlying5 rfl (.int .u8 (p 0)) ?_ ?_; exact HR.out.cell 0 (by decide))
      | (refine step_get rfl 5 _ rfl b0 78 rfl Tryd.underlying5 rfl (.int .u8 (p 78)) ?_ ?_; exact HR.out.cell 78 (by decide))
      | (refine step_get rfl 26 _ rfl b1 0 rfl Tryd.underlying26 rfl (.int .i8 m.f) ?_ ?_; exact HM.out.cell 0)
      | (refine step_get rfl 26 _ rfl b1 1 rfl Tryd.underlying26 rfl (.int .i8 m.t) ?_ ?_; exact HM.out.cell 1)
      | (clear HOnce; go_at_call 23; refine (rsq_any m.f _).mono ?_; rintro e w3 ⟨rfl, rfl⟩; rw [HF.out])
      | (go_at_call 23; refine (rsq_any m.t _).mono ?_; rintro e w3 ⟨rfl, rfl⟩; rw [HT.out])
      | (refine step_get rfl 5 _ rfl b1 3 rfl Tryd.underlying5 rfl (.int .u8 0) ?_ ?_; exact (HM.out.cell 3).trans (by show some (Value.int IntKind.u8 m.dr) = _; rw [HZ.out]))
      | (refine step_get rfl 5 _ rfl b1 2 rfl Tryd.underlying5 rfl (.int .u8 m.pr) ?_ ?_; exact HM.out.cell 2)
      | (refine step_get rfl 4 _ rfl b1 4 rfl Tryd.underlying4 rfl (.bool false) ?_ ?_; exact (HM.out.cell 4).trans (by show some (Value.bool m.ca) = _; rw [HCa.out]))
      | (go_at_call 25; refine (rtwo_any m.f m.t _ HFm.out.f HFm.out.t).mono ?_; rintro e w3 ⟨rfl, hb⟩; rw [HTw.out]; have HR := Lib.hid (HR.out.later hb); have HM := Lib.hid (HM.out.later hb); have HB := Lib.hid (below_on HB.out hb); clear hb)
      | (refine step_load rfl _ rfl b0 rfl p HR.out ?_)
      | (go_at_call 8; rw [← HL.out]; refine (castling_any p l _ HFp.out HSm.out).mono ?_; rintro e w3 ⟨rfl, hb⟩; rw [HC.out, HCm.out, HL.out]; have HR := Lib.hid (HR.out.later hb); have HM := Lib.hid (HM.out.later hb); have HB := Lib.hid (below_on HB.out hb); clear hb)
      | (refine blk_alloc rfl 33 rfl (mvA mv0) zeroMv ?_; intro b6 w6 N R; have HG6 := Lib.hid (show w.heap.size ≤ b6 by rw [N.at_]; exact HB.out.size); have HD0 := Lib.hid (show b0 ≠ b6 by rw [N.at_]; exact Nat.ne_of_lt HR.out.lt); have HD1 := Lib.hid (show b1 ≠ b6 by rw [N.at_]; exact Nat.ne_of_lt HM.out.lt); have HR := Lib.hid (HR.out.later N.below); have HM := Lib.hid (HM.out.later N.below); have HB := Lib.hid (HB.out.trans (N.below.mono HB.out.size)); have HX := Lib.hid R; clear N R)
      | (refine blk_store rfl 33 _ _ rfl b6 rfl (mvA mv0) (mvA cm) rfl ?_ rfl (mv_one _) sizeMv ?_; exact HX.out; intro w7 U R; have HR := Lib.hid (HR.out.apart U HD0.out); have HM := Lib.hid (HM.out.apart U HD1.out); have HB := Lib.hid (HB.out.trans (U.below HG6.out)); clear U R))
  go_ret
  exact ⟨by rw [HS.out]; rfl, HB.out⟩
set_option maxRecDepth 100000 in
set_option maxHeartbeats 1000000 in
theorem rtx_p2 (p : Nat → Int) (m : Mv) (w : World) (hp : FitM p) (hm : FitV m) (hs : smB p = true) (h3 : sqB m.f = true) (h4 : sqB m.t = true) (h0 : (m.dr != 0) = false) (q1 : (m.f == m.t) = false) (q2 : (m.pr == 1) = false) (q3 : decide (6 < m.pr) = false) (q4 : m.ca = false) (q5 : (m.pr != 0) = false) (l : List UInt8) (hl : sqM m.f ++ sqM m.t ++ (bif m.pr != 0 then leF (8 + m.pr) else []) = l) (q6 : coB p l = false) : Calls Tryd.prog 10 #[.agg (posA p), .agg (mvA m)] w (StL (bz (mvT p m)) w) := by
  have HB := Lib.hid (Below.refl w.heap.size w)
  have HFp := Lib.hid hp
  have HFm := Lib.hid hm
  have HLive := Lib.hid trivial
  have HLive2 := Lib.hid trivial
  have hs' := hs
  unfold smB at hs'
  rw [Bool.and_eq_true, decide_eq_true_eq, decide_eq_true_eq] at hs'
  have h1 : decide (8 < p 0) = false := decide_eq_false (by omega)
  have h2 : decide (1 < p 78) = false := decide_eq_false (by omega)
  have HF := Lib.hid h3
  have HT := Lib.hid h4
  have HSm := Lib.hid hs
  have HOnce := Lib.hid trivial
  have HS := Lib.hid (show mvT p m = l by rw [mvT_plain hs (by simpa using h0) h3 h4 (by simpa using q1) q4 (by simpa using q2) (by have := of_decide_eq_false q3; omega) hm.pr.1, hl, q6]; rfl)
  have HZ := Lib.hid (show m.dr = 0 by simpa using h0)
  have HCa := Lib.hid q4
  have HC := Lib.hid q6
  obtain ⟨tw, htw⟩ : ∃ tw, bz (sqM m.f ++ sqM m.t) = tw := ⟨_, rfl⟩
  have HTw := Lib.hid htw
  obtain ⟨cm, hcm⟩ : ∃ cm, (bif false then coM p l else mv0) = cm := ⟨_, rfl⟩
  have HCm := Lib.hid hcm
  have HL := Lib.hid (show bz l = tw by rw [← hl, q5, ← htw]; show bz (sqM m.f ++ sqM m.t ++ []) = _; rw [List.append_nil])
  clear hp hm hs hs' h3 h4 q4 q6 htw hcm hl h0
  go_enter Tryd.func10, Tryd.ntmps10
  go_wp2_with (first
      | (refine step_box rfl _ rfl p rfl ?_; intro b0 w1 N R; have HB := Lib.hid (HB.out.trans (N.below.mono HB.out.size)); have HR := Lib.hid R; clear N R)
      | (refine blk_box rfl 33 _ rfl (mvA m) rfl ?_; intro b1 w2 N R; have HR := Lib.hid (HR.out.later N.below); have HB := Lib.hid (HB.out.trans (N.below.mono HB.out.size)); have HM := Lib.hid R; clear N R)
      | (refine step_get rfl 5 _ rfl b0 0 rfl Tryd.underlying5 rfl (.int .u8 (p 0)) ?_ ?_; exact HR.out.cell 0 (by decide))
      | (refine step_get rfl 5 _ rfl b0 78 rfl Tryd.underlying5 rfl (.int .u8 (p 78)) ?_ ?_; exact HR.out.cell 78 (by decide))
      | (refine step_get rfl 26 _ rfl b1 0 rfl Tryd.underlying26 rfl (.int .i8 m.f) ?_ ?_; exact HM.out.cell 0)
      | (refine step_get rfl 26 _ rfl b1 1 rfl Tryd.underlying26 rfl (.int .i8 m.t) ?_ ?_; exact HM.out.cell 1)
      | (clear HOnce; go_at_call 23; refine (rsq_any m.f _).mono ?_; rintro e w3 ⟨rfl, rfl⟩; rw [HF.out])
      | (go_at_call 23; refine (rsq_any m.t _).mono ?_; rintro e w3 ⟨rfl, rfl⟩; rw [HT.out])
      | (refine step_get rfl 5 _ rfl b1 3 rfl Tryd.underlying5 rfl (.int .u8 0) ?_ ?_; exact (HM.out.cell 3).trans (by show some (Value.int IntKind.u8 m.dr) = _; rw [HZ.out]))
      | (refine step_get rfl 5 _ rfl b1 2 rfl Tryd.underlying5 rfl (.int .u8 m.pr) ?_ ?_; exact HM.out.cell 2)
      | (refine step_get rfl 4 _ rfl b1 4 rfl Tryd.underlying4 rfl (.bool false) ?_ ?_; exact (HM.out.cell 4).trans (by show some (Value.bool m.ca) = _; rw [HCa.out]))
      | (go_at_call 25; refine (rtwo_any m.f m.t _ HFm.out.f HFm.out.t).mono ?_; rintro e w3 ⟨rfl, hb⟩; rw [HTw.out]; have HR := Lib.hid (HR.out.later hb); have HM := Lib.hid (HM.out.later hb); have HB := Lib.hid (below_on HB.out hb); clear hb)
      | (refine step_load rfl _ rfl b0 rfl p HR.out ?_)
      | (go_at_call 8; rw [← HL.out]; refine (castling_any p l _ HFp.out HSm.out).mono ?_; rintro e w3 ⟨rfl, hb⟩; rw [HC.out, HCm.out, HL.out]; have HR := Lib.hid (HR.out.later hb); have HM := Lib.hid (HM.out.later hb); have HB := Lib.hid (below_on HB.out hb); clear hb)
      | (refine blk_alloc rfl 33 rfl (mvA mv0) zeroMv ?_; intro b6 w6 N R; have HG6 := Lib.hid (show w.heap.size ≤ b6 by rw [N.at_]; exact HB.out.size); have HD0 := Lib.hid (show b0 ≠ b6 by rw [N.at_]; exact Nat.ne_of_lt HR.out.lt); have HD1 := Lib.hid (show b1 ≠ b6 by rw [N.at_]; exact Nat.ne_of_lt HM.out.lt); have HR := Lib.hid (HR.out.later N.below); have HM := Lib.hid (HM.out.later N.below); have HB := Lib.hid (HB.out.trans (N.below.mono HB.out.size)); have HX := Lib.hid R; clear N R)
      | (refine blk_store rfl 33 _ _ rfl b6 rfl (mvA mv0) (mvA cm) rfl ?_ rfl (mv_one _) sizeMv ?_; exact HX.out; intro w7 U R; have HR := Lib.hid (HR.out.apart U HD0.out); have HM := Lib.hid (HM.out.apart U HD1.out); have HB := Lib.hid (HB.out.trans (U.below HG6.out)); clear U R))
  go_ret
  exact ⟨by rw [HS.out, HL.out]; rfl, HB.out⟩
set_option maxRecDepth 100000 in
set_option maxHeartbeats 1000000 in
theorem rtx_p3 (p : Nat → Int) (m : Mv) (w : World) (hp : FitM p) (hm : FitV m) (hs : smB p = true) (h3 : sqB m.f = true) (h4 : sqB m.t = true) (h0 : (m.dr != 0) = false) (q1 : (m.f == m.t) = false) (q2 : (m.pr == 1) = false) (q3 : decide (6 < m.pr) = false) (q4 : m.ca = false) (q5 : (m.pr != 0) = true) (l : List UInt8) (hl : sqM m.f ++ sqM m.t ++ (bif m.pr != 0 then leF (8 + m.pr) else []) = l) (q6 : coB p l = true) : Calls Tryd.prog 10 #[.agg (posA p), .agg (mvA m)] w (StL (bz (mvT p m)) w) := by
  have HB := Lib.hid (Below.refl w.heap.size w)
  have HFp := Lib.hid hp
  have HFm := Lib.hid hm
  have HLive := Lib.hid trivial
  have HLive2 := Lib.hid trivial
  have hs' := hs
  unfold smB at hs'
  rw [Bool.and_eq_true, decide_eq_true_eq, decide_eq_true_eq] at hs'
  have h1 : decide (8 < p 0) = false := decide_eq_false (by omega)
  have h2 : decide (1 < p 78) = false := decide_eq_false (by omega)
  have HF := Lib.hid h3
  have HT := Lib.hid h4
  have HSm := Lib.hid hs
  have HOnce := Lib.hid trivial
  have HS := Lib.hid (show mvT p m = [] by rw [mvT_plain hs (by simpa using h0) h3 h4 (by simpa using q1) q4 (by simpa using q2) (by have := of_decide_eq_false q3; omega) hm.pr.1, hl, q6]; rfl)
  have HZ := Lib.hid (show m.dr = 0 by simpa using h0)
  have HCa := Lib.hid q4
  have HC := Lib.hid q6
  obtain ⟨tw, htw⟩ : ∃ tw, bz (sqM m.f ++ sqM m.t) = tw := ⟨_, rfl⟩
  have HTw := Lib.hid htw
  obtain ⟨cm, hcm⟩ : ∃ cm, (bif true then coM p l else mv0) = cm := ⟨_, rfl⟩
  have HCm := Lib.hid hcm
  obtain ⟨le, hle⟩ : ∃ le, letZ (8 + m.pr) = le := ⟨_, rfl⟩
  have HLe := Lib.hid hle
  have sl : le.size ≤ 1 := by rw [← hle, leF_bz, bz_size]; exact leF_len _
  have sw : tw.size ≤ 4 := by
    rw [← htw, bz_size, List.length_append]
    have e1 := sqM_two h3
    have e2 := sqM_two h4
    obtain ⟨x, y, e1, _⟩ := e1
    obtain ⟨z, u, e2, _⟩ := e2
    rw [e1, e2]; simp
  have k1 : ¬ (9223372036854775807 < tw.size + le.size) := by omega
  have p0 : 0 ≤ m.pr := hm.pr.1
  have p6 : m.pr ≤ 6 := by have := of_decide_eq_false q3; omega
  have HL := Lib.hid (show bz l = tw ++ le by rw [← hl, q5, ← htw, ← hle, leF_bz, bz_app]; rfl)
  clear hp hm hs hs' h3 h4 q4 q6 htw hcm hl hle sl sw h0
  go_enter Tryd.func10, Tryd.ntmps10
  go_wp2_with (first
      | (refine step_box rfl _ rfl p rfl ?_; intro b0 w1 N R; have HB := Lib.hid (HB.out.trans (N.below.mono HB.out.size)); have HR := Lib.hid R; clear N R)
      | (refine blk_box rfl 33 _ rfl (mvA m) rfl ?_; intro b1 w2 N R; have HR := Lib.hid (HR.out.later N.below); have HB := Lib.hid (HB.out.trans (N.below.mono HB.out.size)); have HM := Lib.hid R; clear N R)
      | (refine step_get rfl 5 _ rfl b0 0 rfl Tryd.underlying5 rfl (.int .u8 (p 0)) ?_ ?_; exact HR.out.cell 0 (by decide))
      | (refine step_get rfl 5 _ rfl b0 78 rfl Tryd.underlying5 rfl (.int .u8 (p 78)) ?_ ?_; exact HR.out.cell 78 (by decide))
      | (refine step_get rfl 26 _ rfl b1 0 rfl Tryd.underlying26 rfl (.int .i8 m.f) ?_ ?_; exact HM.out.cell 0)
      | (refine step_get rfl 26 _ rfl b1 1 rfl Tryd.underlying26 rfl (.int .i8 m.t) ?_ ?_; exact HM.out.cell 1)
      | (clear HOnce; go_at_call 23; refine (rsq_any m.f _).mono ?_; rintro e w3 ⟨rfl, rfl⟩; rw [HF.out])
      | (go_at_call 23; refine (rsq_any m.t _).mono ?_; rintro e w3 ⟨rfl, rfl⟩; rw [HT.out])
      | (refine step_get rfl 5 _ rfl b1 3 rfl Tryd.underlying5 rfl (.int .u8 0) ?_ ?_; exact (HM.out.cell 3).trans (by show some (Value.int IntKind.u8 m.dr) = _; rw [HZ.out]))
      | (refine step_get rfl 5 _ rfl b1 2 rfl Tryd.underlying5 rfl (.int .u8 m.pr) ?_ ?_; exact HM.out.cell 2)
      | (refine step_get rfl 4 _ rfl b1 4 rfl Tryd.underlying4 rfl (.bool false) ?_ ?_; exact (HM.out.cell 4).trans (by show some (Value.bool m.ca) = _; rw [HCa.out]))
      | (go_at_call 25; refine (rtwo_any m.f m.t _ HFm.out.f HFm.out.t).mono ?_; rintro e w3 ⟨rfl, hb⟩; rw [HTw.out]; have HR := Lib.hid (HR.out.later hb); have HM := Lib.hid (HM.out.later hb); have HB := Lib.hid (below_on HB.out hb); clear hb)
      | (go_at_call 24; refine (rlet_any (8 + m.pr) _).mono ?_; rintro e w3 ⟨rfl, hb⟩; rw [HLe.out]; have HR := Lib.hid (HR.out.later hb); have HM := Lib.hid (HM.out.later hb); have HB := Lib.hid (below_on HB.out hb); clear hb)
      | (refine step_load rfl _ rfl b0 rfl p HR.out ?_)
      | (go_at_call 8; rw [← HL.out]; refine (castling_any p l _ HFp.out HSm.out).mono ?_; rintro e w3 ⟨rfl, hb⟩; rw [HC.out, HCm.out, HL.out]; have HR := Lib.hid (HR.out.later hb); have HM := Lib.hid (HM.out.later hb); have HB := Lib.hid (below_on HB.out hb); clear hb)
      | (refine blk_alloc rfl 33 rfl (mvA mv0) zeroMv ?_; intro b6 w6 N R; have HG6 := Lib.hid (show w.heap.size ≤ b6 by rw [N.at_]; exact HB.out.size); have HD0 := Lib.hid (show b0 ≠ b6 by rw [N.at_]; exact Nat.ne_of_lt HR.out.lt); have HD1 := Lib.hid (show b1 ≠ b6 by rw [N.at_]; exact Nat.ne_of_lt HM.out.lt); have HR := Lib.hid (HR.out.later N.below); have HM := Lib.hid (HM.out.later N.below); have HB := Lib.hid (HB.out.trans (N.below.mono HB.out.size)); have HX := Lib.hid R; clear N R)
      | (refine blk_store rfl 33 _ _ rfl b6 rfl (mvA mv0) (mvA cm) rfl ?_ rfl (mv_one _) sizeMv ?_; exact HX.out; intro w7 U R; have HR := Lib.hid (HR.out.apart U HD0.out); have HM := Lib.hid (HM.out.apart U HD1.out); have HB := Lib.hid (HB.out.trans (U.below HG6.out)); clear U R))
  go_ret
  exact ⟨by rw [HS.out]; rfl, HB.out⟩
set_option maxRecDepth 100000 in
set_option maxHeartbeats 1000000 in
theorem rtx_p4 (p : Nat → Int) (m : Mv) (w : World) (hp : FitM p) (hm : FitV m) (hs : smB p = true) (h3 : sqB m.f = true) (h4 : sqB m.t = true) (h0 : (m.dr != 0) = false) (q1 : (m.f == m.t) = false) (q2 : (m.pr == 1) = false) (q3 : decide (6 < m.pr) = false) (q4 : m.ca = false) (q5 : (m.pr != 0) = true) (l : List UInt8) (hl : sqM m.f ++ sqM m.t ++ (bif m.pr != 0 then leF (8 + m.pr) else []) = l) (q6 : coB p l = false) : Calls Tryd.prog 10 #[.agg (posA p), .agg (mvA m)] w (StL (bz (mvT p m)) w) := by
  have HB := Lib.hid (Below.refl w.heap.size w)
  have HFp := Lib.hid hp
  have HFm := Lib.hid hm
  have HLive := Lib.hid trivial
  have HLive2 := Lib.hid trivial
  have hs' := hs
  unfold smB at hs'
  rw [Bool.and_eq_true, decide_eq_true_eq, decide_eq_true_eq] at hs'
  have h1 : decide (8 < p 0) = false := decide_eq_false (by omega)
  have h2 : decide (1 < p 78) = false := decide_eq_false (by omega)
  have HF := Lib.hid h3
  have HT := Lib.hid h4
  have HSm := Lib.hid hs
  have HOnce := Lib.hid trivial
  have HS := Lib.hid (show mvT p m = l by rw [mvT_plain hs (by simpa using h0) h3 h4 (by simpa using q1) q4 (by simpa using q2) (by have := of_decide_eq_false q3; omega) hm.pr.1, hl, q6]; rfl)
  have HZ := Lib.hid (show m.dr = 0 by simpa using h0)
  have HCa := Lib.hid q4
  have HC := Lib.hid q6
  obtain ⟨tw, htw⟩ : ∃ tw, bz (sqM m.f ++ sqM m.t) = tw := ⟨_, rfl⟩
  have HTw := Lib.hid htw
  obtain ⟨cm, hcm⟩ : ∃ cm, (bif false then coM p l else mv0) = cm := ⟨_, rfl⟩
  have HCm := Lib.hid hcm
  obtain ⟨le, hle⟩ : ∃ le, letZ (8 + m.pr) = le := ⟨_, rfl⟩
  have HLe := Lib.hid hle
  have sl : le.size ≤ 1 := by rw [← hle, leF_bz, bz_size]; exact leF_len _
  have sw : tw.size ≤ 4 := by
    rw [← htw, bz_size, List.length_append]
    have e1 := sqM_two h3
    have e2 := sqM_two h4
    obtain ⟨x, y, e1, _⟩ := e1
    obtain ⟨z, u, e2, _⟩ := e2
    rw [e1, e2]; simp
  have k1 : ¬ (9223372036854775807 < tw.size + le.size) := by omega
  have p0 : 0 ≤ m.pr := hm.pr.1
  have p6 : m.pr ≤ 6 := by have := of_decide_eq_false q3; omega
  have HL := Lib.hid (show bz l = tw ++ le by rw [← hl, q5, ← htw, ← hle, leF_bz, bz_app]; rfl)
  clear hp hm hs hs' h3 h4 q4 q6 htw hcm hl hle sl sw h0
  go_enter Tryd.func10, Tryd.ntmps10
  go_wp2_with (first
      | (refine step_box rfl _ rfl p rfl ?_; intro b0 w1 N R; have HB := Lib.hid (HB.out.trans (N.below.mono HB.out.size)); have HR := Lib.hid R; clear N R)
      | (refine blk_box rfl 33 _ rfl (mvA m) rfl ?_; intro b1 w2 N R; have HR := Lib.hid (HR.out.later N.below); have HB := Lib.hid (HB.out.trans (N.below.mono HB.out.size)); have HM := Lib.hid R; clear N R)
      | (refine step_get rfl 5 _ rfl b0 0 rfl Tryd.underlying5 rfl (.int .u8 (p 0)) ?_ ?_; exact HR.out.cell 0 (by decide))
      | (refine step_get rfl 5 _ rfl b0 78 rfl Tryd.underlying5 rfl (.int .u8 (p 78)) ?_ ?_; exact HR.out.cell 78 (by decide))
      | (refine step_get rfl 26 _ rfl b1 0 rfl Tryd.underlying26 rfl (.int .i8 m.f) ?_ ?_; exact HM.out.cell 0)
      | (refine step_get rfl 26 _ rfl b1 1 rfl Tryd.underlying26 rfl (.int .i8 m.t) ?_ ?_; exact HM.out.cell 1)
      | (clear HOnce; go_at_call 23; refine (rsq_any m.f _).mono ?_; rintro e w3 ⟨rfl, rfl⟩; rw [HF.out])
      | (go_at_call 23; refine (rsq_any m.t _).mono ?_; rintro e w3 ⟨rfl, rfl⟩; rw [HT.out])
      | (refine step_get rfl 5 _ rfl b1 3 rfl Tryd.underlying5 rfl (.int .u8 0) ?_ ?_; exact (HM.out.cell 3).trans (by show some (Value.int IntKind.u8 m.dr) = _; rw [HZ.out]))
      | (refine step_get rfl 5 _ rfl b1 2 rfl Tryd.underlying5 rfl (.int .u8 m.pr) ?_ ?_; exact HM.out.cell 2)
      | (refine step_get rfl 4 _ rfl b1 4 rfl Tryd.underlying4 rfl (.bool false) ?_ ?_; exact (HM.out.cell 4).trans (by show some (Value.bool m.ca) = _; rw [HCa.out]))
      | (go_at_call 25; refine (rtwo_any m.f m.t _ HFm.out.f HFm.out.t).mono ?_; rintro e w3 ⟨rfl, hb⟩; rw [HTw.out]; have HR := Lib.hid (HR.out.later hb); have HM := Lib.hid (HM.out.later hb); have HB := Lib.hid (below_on HB.out hb); clear hb)
      | (go_at_call 24; refine (rlet_any (8 + m.pr) _).mono ?_; rintro e w3 ⟨rfl, hb⟩; rw [HLe.out]; have HR := Lib.hid (HR.out.later hb); have HM := Lib.hid (HM.out.later hb); have HB := Lib.hid (below_on HB.out hb); clear hb)
      | (refine step_load rfl _ rfl b0 rfl p HR.out ?_)
      | (go_at_call 8; rw [← HL.out]; refine (castling_any p l _ HFp.out HSm.out).mono ?_; rintro e w3 ⟨rfl, hb⟩; rw [HC.out, HCm.out, HL.out]; have HR := Lib.hid (HR.out.later hb); have HM := Lib.hid (HM.out.later hb); have HB := Lib.hid (below_on HB.out hb); clear hb)
      | (refine blk_alloc rfl 33 rfl (mvA mv0) zeroMv ?_; intro b6 w6 N R; have HG6 := Lib.hid (show w.heap.size ≤ b6 by rw [N.at_]; exact HB.out.size); have HD0 := Lib.hid (show b0 ≠ b6 by rw [N.at_]; exact Nat.ne_of_lt HR.out.lt); have HD1 := Lib.hid (show b1 ≠ b6 by rw [N.at_]; exact Nat.ne_of_lt HM.out.lt); have HR := Lib.hid (HR.out.later N.below); have HM := Lib.hid (HM.out.later N.below); have HB := Lib.hid (HB.out.trans (N.below.mono HB.out.size)); have HX := Lib.hid R; clear N R)
      | (refine blk_store rfl 33 _ _ rfl b6 rfl (mvA mv0) (mvA cm) rfl ?_ rfl (mv_one _) sizeMv ?_; exact HX.out; intro w7 U R; have HR := Lib.hid (HR.out.apart U HD0.out); have HM := Lib.hid (HM.out.apart U HD1.out); have HB := Lib.hid (HB.out.trans (U.below HG6.out)); clear U R))
  go_ret
  exact ⟨by rw [HS.out, HL.out]; rfl, HB.out⟩
theorem rText_any (p : Nat → Int) (m : Mv) (w : World) (hp : FitM p) (hm : FitV m) : Calls Tryd.prog 10 #[.agg (posA p), .agg (mvA m)] w (StL (bz (mvT p m)) w) := by
  cases h1 : decide (8 < p 0)
  case true => exact rtx_v p m w hp hm h1
  cases h2 : decide (1 < p 78)
  case true => exact rtx_t p m w hp hm h1 h2
  have hs : smB p = true := by
    unfold smB
    rw [Bool.and_eq_true, decide_eq_true_eq, decide_eq_true_eq]
    have := of_decide_eq_false h1
    have := of_decide_eq_false h2
    omega
  cases h3 : sqB m.f
  case false => exact rtx_f p m w hp hm h1 h2 h3
  cases h4 : sqB m.t
  case false => exact rtx_u p m w hp hm h1 h2 h3 h4
  cases h0 : (m.dr != 0)
  · cases q1 : (m.f == m.t)
    case true => exact rtx_m1 p m w hp hm hs h3 h4 h0 q1
    cases q2 : (m.pr == 1)
    case true => exact rtx_m2 p m w hp hm hs h3 h4 h0 q1 q2
    cases q3 : decide (6 < m.pr)
    case true => exact rtx_m3 p m w hp hm hs h3 h4 h0 q1 q2 q3
    cases q4 : m.ca
    · cases q5 : (m.pr != 0)
      · cases q6 : coB p (sqM m.f ++ sqM m.t ++ (bif m.pr != 0 then leF (8 + m.pr) else []))
        · exact rtx_p2 p m w hp hm hs h3 h4 h0 q1 q2 q3 q4 q5 _ rfl q6
        · exact rtx_p1 p m w hp hm hs h3 h4 h0 q1 q2 q3 q4 q5 _ rfl q6
      · cases q6 : coB p (sqM m.f ++ sqM m.t ++ (bif m.pr != 0 then leF (8 + m.pr) else []))
        · exact rtx_p4 p m w hp hm hs h3 h4 h0 q1 q2 q3 q4 q5 _ rfl q6
        · exact rtx_p3 p m w hp hm hs h3 h4 h0 q1 q2 q3 q4 q5 _ rfl q6
    · cases q5 : (m.pr != 0)
      · exact rtx_c2 p m w hp hm hs h3 h4 h0 q1 q2 q3 q4 q5
      · exact rtx_c1 p m w hp hm hs h3 h4 h0 q1 q2 q3 q4 q5
  · cases q1 : decide (5 < m.dr)
    case true => exact rtx_d1 p m w hp hm hs h3 h4 h0 q1
    cases q2 : (m.f != m.t)
    case true => exact rtx_d2 p m w hp hm hs h3 h4 h0 q1 q2
    cases q3 : (m.pr != 0)
    case true => exact rtx_d3 p m w hp hm hs h3 h4 h0 q1 q2 q3
    cases q4 : m.ca
    · exact rtx_d5 p m w hp hm hs h3 h4 h0 q1 q2 q3 q4
    · exact rtx_d4 p m w hp hm hs h3 h4 h0 q1 q2 q3 q4
end Go.Proofs.YtnogmogmlilpiaaDoor
