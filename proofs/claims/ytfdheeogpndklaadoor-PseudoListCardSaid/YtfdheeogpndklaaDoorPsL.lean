/-
  Layer 13's lawful.
-/
import Derived.Test.YtfdheeogpndklaaDoorPsI
import Derived.Test.YtfdheeogpndklaaDoorVaBaseA
namespace Go.Proofs.YtfdheeogpndklaaDoor
open Go.RowKit
set_option linter.unusedVariables false
set_option linter.unusedSimpArgs false

/-- Nothing but pieces on the board, and a color, a variant, a passing square (or none) that there are. -/
def lawQ (p : Nat → Int) : Bool := lawB p 64 && (decide (p 78 < 2) && (decide (p 0 < 9) && (decide (-1 ≤ p 83) && decide (p 83 < 64))))
theorem lawQ_iff {p : Nat → Int} (h : lawQ p = true) : lawB p 64 = true ∧ p 78 < 2 ∧ p 0 < 9 ∧ -1 ≤ p 83 ∧ p 83 < 64 := by
  unfold lawQ at h
  simp only [Bool.and_eq_true, decide_eq_true_eq] at h
  exact h
set_option maxRecDepth 100000 in
set_option maxHeartbeats 1000000 in
theorem ps_lawful (p : Nat → Int) (w : World) (hp : PsR p) : Calls Tryd.prog 11 #[.agg (posA p)] w (BoL (lawQ p) w) := by
  have HP := Lib.hid hp.bd
  clear hp
  go_enter Tryd.func11, Tryd.ntmps11
  go_wp2_with (refine step_box rfl _ rfl p rfl ?_; intro b1 w1 N R; have HB := Lib.hid N.below; have HR1 := Lib.hid R; clear N R)
  go_loop [3] (fun i => ∃ k : Nat, k ≤ 64 ∧ i = .int .i64 (k : Int) ∧ Hid (lawB p k = true)) (fun i => 64 - (intOf i).toNat)
  case atStart => exact ⟨0, by omega, rfl, Lib.hid rfl⟩
  case round =>
    obtain ⟨k, hk, rfl, Hi⟩ := hrel
    by_cases hlt : k < 64
    · have gk : decide ((k : Int) < 64) = true := decide_eq_true (by omega)
      have l0 : (k : Int) ≤ 63 := by omega
      have hx := HP.out k hlt
      obtain ⟨x, HX⟩ : ∃ x, Hid (p (1 + k) = x) := ⟨_, Lib.hid rfl⟩
      have hcell := HR1.out.cell (1 + k) (by omega)
      rw [HX.out, kAt_board (by omega) hlt] at hcell
      rw [HX.out] at hx
      obtain ⟨x0, x1⟩ := hx
      have HS := Lib.hid (show lawB p (k + 1) = (x == 0 || pcB x) by rw [lawB_succ, Hi.out, HX.out]; rfl)
      have Hlt := Lib.hid hlt
      clear hlt
      cases g0 : (x != 0)
      · have HE := Lib.hid (show lawB p (k + 1) = true by rw [HS.out]; simp only [bne, Bool.not_eq_false'] at g0; rw [g0]; rfl)
        go_wp2_with fail
        go_round
        case rel => exact ⟨k + 1, by have := Hlt.out; omega, by go_num, HE⟩
        case measure => simp [intOf]; have := Hlt.out; omega
      · have hx0 : x ≠ 0 := by rw [bne_iff_ne] at g0; exact g0
        have HE0 : (x == 0) = false := by rw [beq_eq_false_iff_ne]; exact hx0
        have HZ := Lib.hid (show lawB p (k + 1) = pcB x by rw [HS.out, HE0]; rfl)
        have HF := Lib.hid (fun h : pcB x = false => lawB_no (HZ.out.trans h) 64 (by have := Hlt.out; omega))
        clear HE0
        by_cases e1 : 15 < x
        · have HQ := Lib.hid (HF.out (pcB_false.2 (by omega)))
          have g1 : decide (15 < x) = true := decide_eq_true e1
          clear e1 hx0
          go_wp2_with fail
          go_ret
          exact ⟨by unfold lawQ; rw [HQ.out]; rfl, HB.out⟩
        · have g1 : decide (15 < x) = false := decide_eq_false e1
          by_cases e2 : x % 8 < 1
          · have HQ := Lib.hid (HF.out (pcB_false.2 (by omega)))
            have g2 : decide (x % 8 < 1) = true := decide_eq_true e2
            clear e1 hx0 e2
            go_wp2_with fail
            go_ret
            exact ⟨by unfold lawQ; rw [HQ.out]; rfl, HB.out⟩
          · have g2 : decide (x % 8 < 1) = false := decide_eq_false e2
            by_cases e3 : 6 < x % 8
            · have HQ := Lib.hid (HF.out (pcB_false.2 (by omega)))
              have g3 : decide (6 < x % 8) = true := decide_eq_true e3
              clear e1 hx0 e2 e3
              go_wp2_with fail
              go_ret
              exact ⟨by unfold lawQ; rw [HQ.out]; rfl, HB.out⟩
            · have HE := Lib.hid (show lawB p (k + 1) = true by rw [HZ.out]; exact pcB_true.2 (by omega))
              have g3 : decide (6 < x % 8) = false := decide_eq_false e3
              clear e1 hx0 e2 e3
              go_wp2_with fail
              go_round
              case rel => exact ⟨k + 1, by have := Hlt.out; omega, by go_num, HE⟩
              case measure => simp [intOf]; have := Hlt.out; omega
    · obtain rfl : k = 64 := by omega
      cases g0 : decide (p 78 < 2)
      · go_wp2_with (first | (refine step_get rfl 5 _ rfl b1 78 rfl Tryd.underlying5 rfl (.int .u8 (p 78)) ?_ ?_; exact HR1.out.cell 78 (by decide)) | (refine step_get rfl 5 _ rfl b1 0 rfl Tryd.underlying5 rfl (.int .u8 (p 0)) ?_ ?_; exact HR1.out.cell 0 (by decide)) | (refine step_get rfl 26 _ rfl b1 83 rfl Tryd.underlying26 rfl (.int .i8 (p 83)) ?_ ?_; exact HR1.out.cell 83 (by decide)))
        go_ret
        exact ⟨by unfold lawQ; rw [Hi.out, g0]; rfl, HB.out⟩
      · cases g1 : decide (p 0 < 9)
        · go_wp2_with (first | (refine step_get rfl 5 _ rfl b1 78 rfl Tryd.underlying5 rfl (.int .u8 (p 78)) ?_ ?_; exact HR1.out.cell 78 (by decide)) | (refine step_get rfl 5 _ rfl b1 0 rfl Tryd.underlying5 rfl (.int .u8 (p 0)) ?_ ?_; exact HR1.out.cell 0 (by decide)) | (refine step_get rfl 26 _ rfl b1 83 rfl Tryd.underlying26 rfl (.int .i8 (p 83)) ?_ ?_; exact HR1.out.cell 83 (by decide)))
          go_ret
          exact ⟨by unfold lawQ; rw [Hi.out, g0, g1]; rfl, HB.out⟩
        · cases g2 : decide (-1 ≤ p 83)
          · go_wp2_with (first | (refine step_get rfl 5 _ rfl b1 78 rfl Tryd.underlying5 rfl (.int .u8 (p 78)) ?_ ?_; exact HR1.out.cell 78 (by decide)) | (refine step_get rfl 5 _ rfl b1 0 rfl Tryd.underlying5 rfl (.int .u8 (p 0)) ?_ ?_; exact HR1.out.cell 0 (by decide)) | (refine step_get rfl 26 _ rfl b1 83 rfl Tryd.underlying26 rfl (.int .i8 (p 83)) ?_ ?_; exact HR1.out.cell 83 (by decide)))
            go_ret
            exact ⟨by unfold lawQ; rw [Hi.out, g0, g1, g2]; rfl, HB.out⟩
          · cases g3 : decide (p 83 < 64)
            · go_wp2_with (first | (refine step_get rfl 5 _ rfl b1 78 rfl Tryd.underlying5 rfl (.int .u8 (p 78)) ?_ ?_; exact HR1.out.cell 78 (by decide)) | (refine step_get rfl 5 _ rfl b1 0 rfl Tryd.underlying5 rfl (.int .u8 (p 0)) ?_ ?_; exact HR1.out.cell 0 (by decide)) | (refine step_get rfl 26 _ rfl b1 83 rfl Tryd.underlying26 rfl (.int .i8 (p 83)) ?_ ?_; exact HR1.out.cell 83 (by decide)))
              go_ret
              exact ⟨by unfold lawQ; rw [Hi.out, g0, g1, g2, g3]; rfl, HB.out⟩
            · go_wp2_with (first | (refine step_get rfl 5 _ rfl b1 78 rfl Tryd.underlying5 rfl (.int .u8 (p 78)) ?_ ?_; exact HR1.out.cell 78 (by decide)) | (refine step_get rfl 5 _ rfl b1 0 rfl Tryd.underlying5 rfl (.int .u8 (p 0)) ?_ ?_; exact HR1.out.cell 0 (by decide)) | (refine step_get rfl 26 _ rfl b1 83 rfl Tryd.underlying26 rfl (.int .i8 (p 83)) ?_ ?_; exact HR1.out.cell 83 (by decide)))
              go_ret
              exact ⟨by unfold lawQ; rw [Hi.out, g0, g1, g2, g3]; rfl, HB.out⟩
end Go.Proofs.YtfdheeogpndklaaDoor
