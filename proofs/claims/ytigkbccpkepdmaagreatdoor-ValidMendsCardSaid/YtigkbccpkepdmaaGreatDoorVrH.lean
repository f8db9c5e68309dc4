/-
  The document's own near and Mend of layer 12.
-/
import Derived.Test.YtigkbccpkepdmaaGreatDoorVrD
import Derived.Test.YtigkbccpkepdmaaGreatDoorVrE
import Derived.Test.YtigkbccpkepdmaaGreatDoorVrF
import Derived.Test.YtigkbccpkepdmaaGreatDoorVaK
import Derived.Test.YtigkbccpkepdmaaGreatDoorVaBaseE
namespace Go.Proofs.YtigkbccpkepdmaaGreatDoor
open Go.RowKit Go.Shelf
set_option linter.unusedVariables false
set_option linter.unusedSimpArgs false
attribute [local go_sem] Oper.semAt_some

theorem vr_near (n m : Int) (w : World) (hm : m ≤ 10000) : Calls Tryz.prog 25 #[.int .i64 n, .int .i64 m, .int .i64 10000] w (fun e w' => e = .returned (.int .i64 (nrZ n m)) ∧ w = w') := by
  by_cases h1 : n < m
  · have g1 : decide (n < m) = true := decide_eq_true h1
    have HS := Lib.hid (show nrZ n m = m by unfold nrZ; omega)
    clear h1
    go_enter Tryz.func25, Tryz.ntmps25
    go_wp2_with fail
    go_ret
    exact ⟨by rw [HS.out]; rfl, rfl⟩
  · have g1 : decide (n < m) = false := decide_eq_false h1
    by_cases h2 : 10000 < n
    · have g2 : decide (10000 < n) = true := decide_eq_true h2
      have HS := Lib.hid (show nrZ n m = 10000 by unfold nrZ; omega)
      clear h1 h2
      go_enter Tryz.func25, Tryz.ntmps25
      go_wp2_with fail
      go_ret
      exact ⟨by rw [HS.out]; rfl, rfl⟩
    · have g2 : decide (10000 < n) = false := decide_eq_false h2
      have HS := Lib.hid (show nrZ n m = n by unfold nrZ; omega)
      clear h1 h2
      go_enter Tryz.func25, Tryz.ntmps25
      go_wp2_with fail
      go_ret
      exact ⟨by rw [HS.out]; rfl, rfl⟩
theorem plK {p : Nat → Int} {x : Bool} (h : argB p = x) (w : World) (hp : FitP p) : Calls Tryz.prog 13 #[.agg (posA p)] w (BoL x w) := h ▸ vr_plain p w hp
theorem psK {p : Nat → Int} {x : Bool} (h : pasB p = x) (w : World) (hp : FitP p) (h1 : p 78 ≤ 1) (hr : -1 ≤ p 83 ∧ p 83 < 64) : Calls Tryz.prog 18 #[.agg (posA p)] w (BoL x w) := h ▸ vr_pass p w hp h1 hr
theorem size26h : (Tryz.prog.info? 26).map (·.size) = some 1 := by kernel_rfl
theorem size3h : (Tryz.prog.info? 3).map (·.size) = some 1 := by kernel_rfl
theorem vr_mend_no (p : Nat → Int) (w : World) (hp : FitP p) (ha : argB p = false) : Calls Tryz.prog 10 #[.agg (posA p)] w (PosL (mdP p) w) := by
  have HP := Lib.hid hp
  have HA := Lib.hid ha
  have HS := Lib.hid (show mdP p = p by unfold mdP; rw [ha]; rfl)
  clear hp ha
  have HB := Lib.hid (Below.refl w.heap.size w)
  go_enter Tryz.func10, Tryz.ntmps10
  go_wp2_with (first
      | (guard_target = Go.wpList _ _ _ ((⟨some 1, .box _ _, _, _, _, _⟩ : Go.Oper) :: _) _ _; refine step_box rfl _ rfl p rfl ?_; intro b1 w1 N R; have HG1 := Lib.hid (show w.heap.size ≤ b1 by have := HB.out.size; have := N.at_; omega); have HB := Lib.hid (below_on HB.out N.below); have HR1 := Lib.hid R; clear N R)
      | (guard_target = Go.wpList _ _ _ ((⟨some 2, .alloc _, _, _, _, _⟩ : Go.Oper) :: _) _ _; refine step_alloc (op := ⟨some 2, _, _, _, _, _⟩) rfl rfl ?_; intro b2 wn N R; have HG2 := Lib.hid (show w.heap.size ≤ b2 by have := HB.out.size; have := N.at_; omega); have HD1_2 := Lib.hid (show b1 ≠ b2 by have := HR1.out.lt; have := N.at_; omega); have HR1 := Lib.hid (HR1.out.later N.below); have HR2 := Lib.hid R; have HB := Lib.hid (below_on HB.out N.below); clear N R)
      | (guard_target = Go.wpList _ _ _ ((⟨some 6, .load _ (.tmp 1), _, _, _, _⟩ : Go.Oper) :: _) _ _; refine step_load (op := ⟨some 6, .load _ (.tmp 1), _, _, _, _⟩) rfl _ rfl b1 rfl (p) HR1.out ?_)
      | (go_at_call 13; refine (plK HA.out _ HP.out).mono ?_; rintro e w3 ⟨rfl, hb⟩; have HR1 := Lib.hid (HR1.out.later hb); have HR2 := Lib.hid (HR2.out.later hb); have HB := Lib.hid (below_on HB.out hb); clear hb)
      | (guard_target = Go.wpList _ _ _ ((⟨some 9, .load _ (.tmp 1), _, _, _, _⟩ : Go.Oper) :: _) _ _; refine step_load (op := ⟨some 9, .load _ (.tmp 1), _, _, _, _⟩) rfl _ rfl b1 rfl (p) HR1.out ?_)
      | (guard_target = Go.wpList _ _ _ ((⟨none, .store _ (.tmp 2) _, _, _, _, _⟩ : Go.Oper) :: _) _ _; refine step_store (op := ⟨none, .store _ (.tmp 2) _, _, _, _, _⟩) rfl _ _ rfl b2 rfl (zeroP) (p) rfl HR2.out ?_; intro wn U R; have HR1 := Lib.hid (HR1.out.apart U HD1_2.out); have HR2 := Lib.hid R; have HB := Lib.hid (HB.out.trans (U.below HG2.out)); clear U R))
  refine bodyPost_ret (v := .agg (posA p)) (results_row rfl _ _ _ _ rfl HR2.out) rfl ⟨by rw [HS.out], HB.out⟩
theorem rtK00 {p : Nat → Int} {x : Bool} (h : rkB p 0 0 = x) (w : World) (hp : FitP p) (hr : -1 ≤ roA p 0 0 ∧ roA p 0 0 < 8) : Calls Tryz.prog 17 #[.agg (posA p), .int .u8 0, .int .i64 0] w (BoL x w) := h ▸ vr_right00 p w hp hr
theorem rtK01 {p : Nat → Int} {x : Bool} (h : rkB p 0 1 = x) (w : World) (hp : FitP p) (hr : -1 ≤ roA p 0 1 ∧ roA p 0 1 < 8) : Calls Tryz.prog 17 #[.agg (posA p), .int .u8 0, .int .i64 1] w (BoL x w) := h ▸ vr_right01 p w hp hr
theorem rtK10 {p : Nat → Int} {x : Bool} (h : rkB p 1 0 = x) (w : World) (hp : FitP p) (hr : -1 ≤ roA p 1 0 ∧ roA p 1 0 < 8) : Calls Tryz.prog 17 #[.agg (posA p), .int .u8 1, .int .i64 0] w (BoL x w) := h ▸ vr_right10 p w hp hr
theorem rtK11 {p : Nat → Int} {x : Bool} (h : rkB p 1 1 = x) (w : World) (hp : FitP p) (hr : -1 ≤ roA p 1 1 ∧ roA p 1 1 < 8) : Calls Tryz.prog 17 #[.agg (posA p), .int .u8 1, .int .i64 1] w (BoL x w) := h ▸ vr_right11 p w hp hr
set_option maxRecDepth 100000 in
set_option maxHeartbeats 8000000 in
theorem vr_mend_yes (p : Nat → Int) (w : World) (hp : FitP p) (ha : argB p = true) : Calls Tryz.prog 10 #[.agg (posA p)] w (PosL (mdP p) w) := by
  have HP := Lib.hid hp
  have HA := Lib.hid ha
  have HS := Lib.hid (show mdP p = upd (upd (mdS p) 86 (nrZ (p 86) 0)) 87 (nrZ (p 87) 1) by unfold mdP; rw [ha]; rfl)
  have HRk := Lib.hid (fun (c s : Nat) (hc : c < 2) (hs : s < 2) => show -1 ≤ roA p c s ∧ roA p c s < 8 by
    have := filB_at (argB_var ha).2.2.2.2.2.1 (c * 2 + s) (by omega)
    unfold roA
    rwa [← Nat.add_assoc] at this)
  have HV := Lib.hid (show p 78 ≤ 1 ∧ (-1 ≤ p 83 ∧ p 83 < 64) from ⟨(argB_var ha).2.1, (argB_var ha).2.2.1, (argB_var ha).2.2.2.1⟩)
  clear hp ha
  have HB := Lib.hid (Below.refl w.heap.size w)
  go_enter Tryz.func10, Tryz.ntmps10
  go_wp2_with (first
      | (guard_target = Go.wpList _ _ _ ((⟨some 1, .box _ _, _, _, _, _⟩ : Go.Oper) :: _) _ _; refine step_box rfl _ rfl p rfl ?_; intro b1 w1 N R; have HG1 := Lib.hid (show w.heap.size ≤ b1 by have := HB.out.size; have := N.at_; omega); have HB := Lib.hid (below_on HB.out N.below); have HR1 := Lib.hid R; clear N R)
      | (guard_target = Go.wpList _ _ _ ((⟨some 2, .alloc _, _, _, _, _⟩ : Go.Oper) :: _) _ _; refine step_alloc (op := ⟨some 2, _, _, _, _, _⟩) rfl rfl ?_; intro b2 wn N R; have HG2 := Lib.hid (show w.heap.size ≤ b2 by have := HB.out.size; have := N.at_; omega); have HD1_2 := Lib.hid (show b1 ≠ b2 by have := HR1.out.lt; have := N.at_; omega); have HR1 := Lib.hid (HR1.out.later N.below); have HR2 := Lib.hid R; have HB := Lib.hid (below_on HB.out N.below); clear N R)
      | (guard_target = Go.wpList _ _ _ ((⟨some 6, .load _ (.tmp 1), _, _, _, _⟩ : Go.Oper) :: _) _ _; refine step_load (op := ⟨some 6, .load _ (.tmp 1), _, _, _, _⟩) rfl _ rfl b1 rfl (p) HR1.out ?_)
      | (go_at_call 13; refine (plK HA.out _ HP.out).mono ?_; rintro e w3 ⟨rfl, hb⟩; have HR1 := Lib.hid (HR1.out.later hb); have HR2 := Lib.hid (HR2.out.later hb); have HB := Lib.hid (below_on HB.out hb); clear hb)
      | (guard_target = Go.wpList _ _ _ ((⟨some 10, .load _ (.tmp 1), _, _, _, _⟩ : Go.Oper) :: _) _ _; refine step_load (op := ⟨some 10, .load _ (.tmp 1), _, _, _, _⟩) rfl _ rfl b1 rfl (p) HR1.out ?_)
      | (guard_target = Go.wpList _ _ _ ((⟨some 3, .alloc _, _, _, _, _⟩ : Go.Oper) :: _) _ _; refine step_alloc (op := ⟨some 3, _, _, _, _, _⟩) rfl rfl ?_; intro b3 wn N R; have HG3 := Lib.hid (show w.heap.size ≤ b3 by have := HB.out.size; have := N.at_; omega); have HD1_3 := Lib.hid (show b1 ≠ b3 by have := HR1.out.lt; have := N.at_; omega); have HD2_3 := Lib.hid (show b2 ≠ b3 by have := HR2.out.lt; have := N.at_; omega); have HR1 := Lib.hid (HR1.out.later N.below); have HR2 := Lib.hid (HR2.out.later N.below); have HR3 := Lib.hid R; have HB := Lib.hid (below_on HB.out N.below); clear N R)
      | (guard_target = Go.wpList _ _ _ ((⟨none, .store _ (.tmp 3) _, _, _, _, _⟩ : Go.Oper) :: _) _ _; refine step_store (op := ⟨none, .store _ (.tmp 3) _, _, _, _, _⟩) rfl _ _ rfl b3 rfl (zeroP) (p) rfl HR3.out ?_; intro wn U R; have HR1 := Lib.hid (HR1.out.apart U HD1_3.out); have HR2 := Lib.hid (HR2.out.apart U HD2_3.out); have HR3 := Lib.hid R; have HB := Lib.hid (HB.out.trans (U.below HG3.out)); clear U R))
  go_loopw [4] (fun i wr => (i = .int .u8 0 ∧ Row wr b1 p ∧ Row wr b2 zeroP ∧ Row wr b3 (mdR p 0) ∧ Below w.heap.size w wr) ∨ (i = .int .u8 1 ∧ Row wr b1 p ∧ Row wr b2 zeroP ∧ Row wr b3 (mdR p 2) ∧ Below w.heap.size w wr) ∨ (i = .int .u8 2 ∧ Row wr b1 p ∧ Row wr b2 zeroP ∧ Row wr b3 (mdR p 4) ∧ Below w.heap.size w wr)) (fun i _ => 2 - (intOf i).toNat)
  case atStart => exact .inl ⟨rfl, HR1.out, HR2.out, by rw [mdR_zero]; exact HR3.out, HB.out⟩
  case round =>
    clear HR1 HR2 HR3 HB
    rcases hrel with ⟨rfl, hr1, hr2, hr3, hb⟩ | ⟨rfl, hr1, hr2, hr3, hb⟩ | ⟨rfl, hr1, hr2, hr3, hb⟩
    · skip
      have HR1 := Lib.hid hr1
      have HR2 := Lib.hid hr2
      have HR3 := Lib.hid hr3
      have HB := Lib.hid hb
      clear hr1 hr2 hr3 hb
      go_wp2_with fail
      go_loopw [5] (fun i wr => (i = .int .i64 0 ∧ Row wr b1 p ∧ Row wr b2 zeroP ∧ Row wr b3 (mdR p 0) ∧ Below w.heap.size w wr) ∨ (i = .int .i64 1 ∧ Row wr b1 p ∧ Row wr b2 zeroP ∧ Row wr b3 (mdR p 1) ∧ Below w.heap.size w wr) ∨ (i = .int .i64 2 ∧ Row wr b1 p ∧ Row wr b2 zeroP ∧ Row wr b3 (mdR p 2) ∧ Below w.heap.size w wr)) (fun i _ => 2 - (intOf i).toNat)
      case atStart => exact .inl ⟨rfl, HR1.out, HR2.out, HR3.out, HB.out⟩
      case round =>
        clear HR1 HR2 HR3 HB
        rcases hrel with ⟨rfl, hr1, hr2, hr3, hb⟩ | ⟨rfl, hr1, hr2, hr3, hb⟩ | ⟨rfl, hr1, hr2, hr3, hb⟩
        · skip
          have HR1 := Lib.hid hr1
          have HR2 := Lib.hid hr2
          have HR3 := Lib.hid hr3
          have HB := Lib.hid hb
          clear hr1 hr2 hr3 hb
          cases g : rkB p 0 0
          · have HRt := Lib.hid g
            have HN := Lib.hid (show mdR p 1 = upd (mdR p 0) 79 (-1) from mdR_next (c := 0) (s := 0) (by decide) false g)
            clear g
            go_wp2_with (first
              | (guard_target = Go.wpList _ _ _ ((⟨some 19, .load _ (.tmp 1), _, _, _, _⟩ : Go.Oper) :: _) _ _; refine step_load (op := ⟨some 19, .load _ (.tmp 1), _, _, _, _⟩) rfl _ rfl b1 rfl (p) HR1.out ?_)
              | (go_at_call 17; refine (rtK00 HRt.out _ HP.out (HRk.out 0 0 (by decide) (by decide))).mono ?_; rintro e w3 ⟨rfl, hb⟩; have HR1 := Lib.hid (HR1.out.later hb); have HR2 := Lib.hid (HR2.out.later hb); have HR3 := Lib.hid (HR3.out.later hb); have HB := Lib.hid (below_on HB.out hb); clear hb)
              | (guard_target = Go.wpList _ _ _ ((⟨none, .store _ (.tmp 28) _, _, _, _, _⟩ : Go.Oper) :: _) _ _; refine step_cell (op := ⟨none, .store _ (.tmp 28) _, _, _, _, _⟩) rfl 26 _ _ rfl b3 79 rfl .i8 (-1) rfl (mdR p 0) HR3.out (by decide) rfl size26h ?_; intro wn U R; have HR1 := Lib.hid (HR1.out.apart U HD1_3.out); have HR2 := Lib.hid (HR2.out.apart U HD2_3.out); have HR3 := Lib.hid R; have HB := Lib.hid (HB.out.trans (U.below HG3.out)); clear U R))
            go_roundw
            case rel => exact .inr (.inl ⟨rfl, HR1.out, HR2.out, by rw [HN.out]; exact HR3.out, HB.out⟩)
            case measure => simp [intOf]
          · have HRt := Lib.hid g
            have HN := Lib.hid (show mdR p 1 = mdR p 0 from mdR_next (c := 0) (s := 0) (by decide) true g)
            clear g
            go_wp2_with (first
              | (guard_target = Go.wpList _ _ _ ((⟨some 19, .load _ (.tmp 1), _, _, _, _⟩ : Go.Oper) :: _) _ _; refine step_load (op := ⟨some 19, .load _ (.tmp 1), _, _, _, _⟩) rfl _ rfl b1 rfl (p) HR1.out ?_)
              | (go_at_call 17; refine (rtK00 HRt.out _ HP.out (HRk.out 0 0 (by decide) (by decide))).mono ?_; rintro e w3 ⟨rfl, hb⟩; have HR1 := Lib.hid (HR1.out.later hb); have HR2 := Lib.hid (HR2.out.later hb); have HR3 := Lib.hid (HR3.out.later hb); have HB := Lib.hid (below_on HB.out hb); clear hb))
            go_roundw
            case rel => exact .inr (.inl ⟨rfl, HR1.out, HR2.out, by rw [HN.out]; exact HR3.out, HB.out⟩)
            case measure => simp [intOf]
        · skip
          have HR1 := Lib.hid hr1
          have HR2 := Lib.hid hr2
          have HR3 := Lib.hid hr3
          have HB := Lib.hid hb
          clear hr1 hr2 hr3 hb
          cases g : rkB p 0 1
          · have HRt := Lib.hid g
            have HN := Lib.hid (show mdR p 2 = upd (mdR p 1) 80 (-1) from mdR_next (c := 0) (s := 1) (by decide) false g)
            clear g
            go_wp2_with (first
              | (guard_target = Go.wpList _ _ _ ((⟨some 19, .load _ (.tmp 1), _, _, _, _⟩ : Go.Oper) :: _) _ _; refine step_load (op := ⟨some 19, .load _ (.tmp 1), _, _, _, _⟩) rfl _ rfl b1 rfl (p) HR1.out ?_)
              | (go_at_call 17; refine (rtK01 HRt.out _ HP.out (HRk.out 0 1 (by decide) (by decide))).mono ?_; rintro e w3 ⟨rfl, hb⟩; have HR1 := Lib.hid (HR1.out.later hb); have HR2 := Lib.hid (HR2.out.later hb); have HR3 := Lib.hid (HR3.out.later hb); have HB := Lib.hid (below_on HB.out hb); clear hb)
              | (guard_target = Go.wpList _ _ _ ((⟨none, .store _ (.tmp 28) _, _, _, _, _⟩ : Go.Oper) :: _) _ _; refine step_cell (op := ⟨none, .store _ (.tmp 28) _, _, _, _, _⟩) rfl 26 _ _ rfl b3 80 rfl .i8 (-1) rfl (mdR p 1) HR3.out (by decide) rfl size26h ?_; intro wn U R; have HR1 := Lib.hid (HR1.out.apart U HD1_3.out); have HR2 := Lib.hid (HR2.out.apart U HD2_3.out); have HR3 := Lib.hid R; have HB := Lib.hid (HB.out.trans (U.below HG3.out)); clear U R))
            go_roundw
            case rel => exact .inr (.inr ⟨rfl, HR1.out, HR2.out, by rw [HN.out]; exact HR3.out, HB.out⟩)
            case measure => simp [intOf]
          · have HRt := Lib.hid g
            have HN := Lib.hid (show mdR p 2 = mdR p 1 from mdR_next (c := 0) (s := 1) (by decide) true g)
            clear g
            go_wp2_with (first
              | (guard_target = Go.wpList _ _ _ ((⟨some 19, .load _ (.tmp 1), _, _, _, _⟩ : Go.Oper) :: _) _ _; refine step_load (op := ⟨some 19, .load _ (.tmp 1), _, _, _, _⟩) rfl _ rfl b1 rfl (p) HR1.out ?_)
              | (go_at_call 17; refine (rtK01 HRt.out _ HP.out (HRk.out 0 1 (by decide) (by decide))).mono ?_; rintro e w3 ⟨rfl, hb⟩; have HR1 := Lib.hid (HR1.out.later hb); have HR2 := Lib.hid (HR2.out.later hb); have HR3 := Lib.hid (HR3.out.later hb); have HB := Lib.hid (below_on HB.out hb); clear hb))
            go_roundw
            case rel => exact .inr (.inr ⟨rfl, HR1.out, HR2.out, by rw [HN.out]; exact HR3.out, HB.out⟩)
            case measure => simp [intOf]
        · skip
          have HR1 := Lib.hid hr1
          have HR2 := Lib.hid hr2
          have HR3 := Lib.hid hr3
          have HB := Lib.hid hb
          clear hr1 hr2 hr3 hb
          go_wp2_with fail
          go_roundw
          case rel => exact .inr (.inl ⟨rfl, HR1.out, HR2.out, HR3.out, HB.out⟩)
          case measure => simp [intOf]
    · skip
      have HR1 := Lib.hid hr1
      have HR2 := Lib.hid hr2
      have HR3 := Lib.hid hr3
      have HB := Lib.hid hb
      clear hr1 hr2 hr3 hb
      go_wp2_with fail
      go_loopw [5] (fun i wr => (i = .int .i64 0 ∧ Row wr b1 p ∧ Row wr b2 zeroP ∧ Row wr b3 (mdR p 2) ∧ Below w.heap.size w wr) ∨ (i = .int .i64 1 ∧ Row wr b1 p ∧ Row wr b2 zeroP ∧ Row wr b3 (mdR p 3) ∧ Below w.heap.size w wr) ∨ (i = .int .i64 2 ∧ Row wr b1 p ∧ Row wr b2 zeroP ∧ Row wr b3 (mdR p 4) ∧ Below w.heap.size w wr)) (fun i _ => 2 - (intOf i).toNat)
      case atStart => exact .inl ⟨rfl, HR1.out, HR2.out, HR3.out, HB.out⟩
      case round =>
        clear HR1 HR2 HR3 HB
        rcases hrel with ⟨rfl, hr1, hr2, hr3, hb⟩ | ⟨rfl, hr1, hr2, hr3, hb⟩ | ⟨rfl, hr1, hr2, hr3, hb⟩
        · skip
          have HR1 := Lib.hid hr1
          have HR2 := Lib.hid hr2
          have HR3 := Lib.hid hr3
          have HB := Lib.hid hb
          clear hr1 hr2 hr3 hb
          cases g : rkB p 1 0
          · have HRt := Lib.hid g
            have HN := Lib.hid (show mdR p 3 = upd (mdR p 2) 81 (-1) from mdR_next (c := 1) (s := 0) (by decide) false g)
            clear g
            go_wp2_with (first
              | (guard_target = Go.wpList _ _ _ ((⟨some 19, .load _ (.tmp 1), _, _, _, _⟩ : Go.Oper) :: _) _ _; refine step_load (op := ⟨some 19, .load _ (.tmp 1), _, _, _, _⟩) rfl _ rfl b1 rfl (p) HR1.out ?_)
              | (go_at_call 17; refine (rtK10 HRt.out _ HP.out (HRk.out 1 0 (by decide) (by decide))).mono ?_; rintro e w3 ⟨rfl, hb⟩; have HR1 := Lib.hid (HR1.out.later hb); have HR2 := Lib.hid (HR2.out.later hb); have HR3 := Lib.hid (HR3.out.later hb); have HB := Lib.hid (below_on HB.out hb); clear hb)
              | (guard_target = Go.wpList _ _ _ ((⟨none, .store _ (.tmp 28) _, _, _, _, _⟩ : Go.Oper) :: _) _ _; refine step_cell (op := ⟨none, .store _ (.tmp 28) _, _, _, _, _⟩) rfl 26 _ _ rfl b3 81 rfl .i8 (-1) rfl (mdR p 2) HR3.out (by decide) rfl size26h ?_; intro wn U R; have HR1 := Lib.hid (HR1.out.apart U HD1_3.out); have HR2 := Lib.hid (HR2.out.apart U HD2_3.out); have HR3 := Lib.hid R; have HB := Lib.hid (HB.out.trans (U.below HG3.out)); clear U R))
            go_roundw
            case rel => exact .inr (.inl ⟨rfl, HR1.out, HR2.out, by rw [HN.out]; exact HR3.out, HB.out⟩)
            case measure => simp [intOf]
          · have HRt := Lib.hid g
            have HN := Lib.hid (show mdR p 3 = mdR p 2 from mdR_next (c := 1) (s := 0) (by decide) true g)
            clear g
            go_wp2_with (first
              | (guard_target = Go.wpList _ _ _ ((⟨some 19, .load _ (.tmp 1), _, _, _, _⟩ : Go.Oper) :: _) _ _; refine step_load (op := ⟨some 19, .load _ (.tmp 1), _, _, _, _⟩) rfl _ rfl b1 rfl (p) HR1.out ?_)
              | (go_at_call 17; refine (rtK10 HRt.out _ HP.out (HRk.out 1 0 (by decide) (by decide))).mono ?_; rintro e w3 ⟨rfl, hb⟩; have HR1 := Lib.hid (HR1.out.later hb); have HR2 := Lib.hid (HR2.out.later hb); have HR3 := Lib.hid (HR3.out.later hb); have HB := Lib.hid (below_on HB.out hb); clear hb))
            go_roundw
            case rel => exact .inr (.inl ⟨rfl, HR1.out, HR2.out, by rw [HN.out]; exact HR3.out, HB.out⟩)
            case measure => simp [intOf]
        · skip
          have HR1 := Lib.hid hr1
          have HR2 := Lib.hid hr2
          have HR3 := Lib.hid hr3
          have HB := Lib.hid hb
          clear hr1 hr2 hr3 hb
          cases g : rkB p 1 1
          · have HRt := Lib.hid g
            have HN := Lib.hid (show mdR p 4 = upd (mdR p 3) 82 (-1) from mdR_next (c := 1) (s := 1) (by decide) false g)
            clear g
            go_wp2_with (first
              | (guard_target = Go.wpList _ _ _ ((⟨some 19, .load _ (.tmp 1), _, _, _, _⟩ : Go.Oper) :: _) _ _; refine step_load (op := ⟨some 19, .load _ (.tmp 1), _, _, _, _⟩) rfl _ rfl b1 rfl (p) HR1.out ?_)
              | (go_at_call 17; refine (rtK11 HRt.out _ HP.out (HRk.out 1 1 (by decide) (by decide))).mono ?_; rintro e w3 ⟨rfl, hb⟩; have HR1 := Lib.hid (HR1.out.later hb); have HR2 := Lib.hid (HR2.out.later hb); have HR3 := Lib.hid (HR3.out.later hb); have HB := Lib.hid (below_on HB.out hb); clear hb)
              | (guard_target = Go.wpList _ _ _ ((⟨none, .store _ (.tmp 28) _, _, _, _, _⟩ : Go.Oper) :: _) _ _; refine step_cell (op := ⟨none, .store _ (.tmp 28) _, _, _, _, _⟩) rfl 26 _ _ rfl b3 82 rfl .i8 (-1) rfl (mdR p 3) HR3.out (by decide) rfl size26h ?_; intro wn U R; have HR1 := Lib.hid (HR1.out.apart U HD1_3.out); have HR2 := Lib.hid (HR2.out.apart U HD2_3.out); have HR3 := Lib.hid R; have HB := Lib.hid (HB.out.trans (U.below HG3.out)); clear U R))
            go_roundw
            case rel => exact .inr (.inr ⟨rfl, HR1.out, HR2.out, by rw [HN.out]; exact HR3.out, HB.out⟩)
            case measure => simp [intOf]
          · have HRt := Lib.hid g
            have HN := Lib.hid (show mdR p 4 = mdR p 3 from mdR_next (c := 1) (s := 1) (by decide) true g)
            clear g
            go_wp2_with (first
              | (guard_target = Go.wpList _ _ _ ((⟨some 19, .load _ (.tmp 1), _, _, _, _⟩ : Go.Oper) :: _) _ _; refine step_load (op := ⟨some 19, .load _ (.tmp 1), _, _, _, _⟩) rfl _ rfl b1 rfl (p) HR1.out ?_)
              | (go_at_call 17; refine (rtK11 HRt.out _ HP.out (HRk.out 1 1 (by decide) (by decide))).mono ?_; rintro e w3 ⟨rfl, hb⟩; have HR1 := Lib.hid (HR1.out.later hb); have HR2 := Lib.hid (HR2.out.later hb); have HR3 := Lib.hid (HR3.out.later hb); have HB := Lib.hid (below_on HB.out hb); clear hb))
            go_roundw
            case rel => exact .inr (.inr ⟨rfl, HR1.out, HR2.out, by rw [HN.out]; exact HR3.out, HB.out⟩)
            case measure => simp [intOf]
        · skip
          have HR1 := Lib.hid hr1
          have HR2 := Lib.hid hr2
          have HR3 := Lib.hid hr3
          have HB := Lib.hid hb
          clear hr1 hr2 hr3 hb
          go_wp2_with fail
          go_roundw
          case rel => exact .inr (.inr ⟨rfl, HR1.out, HR2.out, HR3.out, HB.out⟩)
          case measure => simp [intOf]
    · skip
      have HR1 := Lib.hid hr1
      have HR2 := Lib.hid hr2
      have HR3 := Lib.hid hr3
      have HB := Lib.hid hb
      clear hr1 hr2 hr3 hb
      cases g : pasB p
      · have HPs := Lib.hid g
        have HN := Lib.hid (mdS_no g)
        clear g
        go_wp2_with (first
          | (guard_target = Go.wpList _ _ _ ((⟨some 29, .load _ (.tmp 1), _, _, _, _⟩ : Go.Oper) :: _) _ _; refine step_load (op := ⟨some 29, .load _ (.tmp 1), _, _, _, _⟩) rfl _ rfl b1 rfl (p) HR1.out ?_)
          | (go_at_call 18; refine (psK HPs.out _ HP.out HV.out.1 HV.out.2).mono ?_; rintro e w3 ⟨rfl, hb⟩; have HR1 := Lib.hid (HR1.out.later hb); have HR2 := Lib.hid (HR2.out.later hb); have HR3 := Lib.hid (HR3.out.later hb); have HB := Lib.hid (below_on HB.out hb); clear hb)
          | (guard_target = Go.wpList _ _ _ ((⟨none, .store _ (.tmp 32) _, _, _, _, _⟩ : Go.Oper) :: _) _ _; refine step_cell (op := ⟨none, .store _ (.tmp 32) _, _, _, _, _⟩) rfl 26 _ _ rfl b3 83 rfl .i8 (-1) rfl (mdR p 4) HR3.out (by decide) rfl size26h ?_; intro wn U R; rw [← HN.out] at R; have HR1 := Lib.hid (HR1.out.apart U HD1_3.out); have HR2 := Lib.hid (HR2.out.apart U HD2_3.out); have HR3 := Lib.hid R; have HB := Lib.hid (HB.out.trans (U.below HG3.out)); clear U R)
          | (guard_target = Go.wpList _ _ _ ((⟨some _, .load _ (.tmp 33), _, _, _, _⟩ : Go.Oper) :: _) _ _; refine step_get rfl 3 _ rfl b1 86 rfl Tryz.underlying3 rfl (.int .i64 (p 86)) ?_ ?_; exact HR1.out.cell 86 (by decide))
          | (go_at_call 25; guard_target = Go.Calls _ _ #[Go.Value.int _ (p 86), _, _] _ _; refine (vr_near (p 86) 0 _ (by decide)).mono ?_; rintro e w3 ⟨rfl, rfl⟩)
          | (guard_target = Go.wpList _ _ _ ((⟨none, .store _ (.tmp 36) _, _, _, _, _⟩ : Go.Oper) :: _) _ _; refine step_cell (op := ⟨none, .store _ (.tmp 36) _, _, _, _, _⟩) rfl 3 _ _ rfl b3 86 rfl .i64 (nrZ (p 86) 0) rfl (mdS p) HR3.out (by decide) rfl size3h ?_; intro wn U R; have HR1 := Lib.hid (HR1.out.apart U HD1_3.out); have HR2 := Lib.hid (HR2.out.apart U HD2_3.out); have HR3 := Lib.hid R; have HB := Lib.hid (HB.out.trans (U.below HG3.out)); clear U R)
          | (guard_target = Go.wpList _ _ _ ((⟨some _, .load _ (.tmp 37), _, _, _, _⟩ : Go.Oper) :: _) _ _; refine step_get rfl 3 _ rfl b1 87 rfl Tryz.underlying3 rfl (.int .i64 (p 87)) ?_ ?_; exact HR1.out.cell 87 (by decide))
          | (go_at_call 25; guard_target = Go.Calls _ _ #[Go.Value.int _ (p 87), _, _] _ _; refine (vr_near (p 87) 1 _ (by decide)).mono ?_; rintro e w3 ⟨rfl, rfl⟩)
          | (guard_target = Go.wpList _ _ _ ((⟨none, .store _ (.tmp 40) _, _, _, _, _⟩ : Go.Oper) :: _) _ _; refine step_cell (op := ⟨none, .store _ (.tmp 40) _, _, _, _, _⟩) rfl 3 _ _ rfl b3 87 rfl .i64 (nrZ (p 87) 1) rfl (upd (mdS p) 86 (nrZ (p 86) 0)) HR3.out (by decide) rfl size3h ?_; intro wn U R; have HR1 := Lib.hid (HR1.out.apart U HD1_3.out); have HR2 := Lib.hid (HR2.out.apart U HD2_3.out); have HR3 := Lib.hid R; have HB := Lib.hid (HB.out.trans (U.below HG3.out)); clear U R)
          | (guard_target = Go.wpList _ _ _ ((⟨some 41, .load _ (.tmp 3), _, _, _, _⟩ : Go.Oper) :: _) _ _; refine step_load (op := ⟨some 41, .load _ (.tmp 3), _, _, _, _⟩) rfl _ rfl b3 rfl (upd (upd (mdS p) 86 (nrZ (p 86) 0)) 87 (nrZ (p 87) 1)) HR3.out ?_)
          | (guard_target = Go.wpList _ _ _ ((⟨none, .store _ (.tmp 2) _, _, _, _, _⟩ : Go.Oper) :: _) _ _; refine step_store (op := ⟨none, .store _ (.tmp 2) _, _, _, _, _⟩) rfl _ _ rfl b2 rfl (zeroP) (upd (upd (mdS p) 86 (nrZ (p 86) 0)) 87 (nrZ (p 87) 1)) rfl HR2.out ?_; intro wn U R; have HR3 := Lib.hid (HR3.out.apart U (Ne.symm HD2_3.out)); have HR2 := Lib.hid R; have HB := Lib.hid (HB.out.trans (U.below HG2.out)); clear U R))
        refine bodyPost_ret (v := .agg (posA (upd (upd (mdS p) 86 (nrZ (p 86) 0)) 87 (nrZ (p 87) 1)))) (results_row rfl _ _ _ _ rfl HR2.out) rfl ⟨by rw [HS.out], HB.out⟩
      · have HPs := Lib.hid g
        have HN := Lib.hid (mdS_yes g)
        clear g
        have HR3 := Lib.hid (show Row _ b3 (mdS p) by rw [HN.out]; exact HR3.out)
        go_wp2_with (first
          | (guard_target = Go.wpList _ _ _ ((⟨some 29, .load _ (.tmp 1), _, _, _, _⟩ : Go.Oper) :: _) _ _; refine step_load (op := ⟨some 29, .load _ (.tmp 1), _, _, _, _⟩) rfl _ rfl b1 rfl (p) HR1.out ?_)
          | (go_at_call 18; refine (psK HPs.out _ HP.out HV.out.1 HV.out.2).mono ?_; rintro e w3 ⟨rfl, hb⟩; have HR1 := Lib.hid (HR1.out.later hb); have HR2 := Lib.hid (HR2.out.later hb); have HR3 := Lib.hid (HR3.out.later hb); have HB := Lib.hid (below_on HB.out hb); clear hb)
          | (guard_target = Go.wpList _ _ _ ((⟨some _, .load _ (.tmp 33), _, _, _, _⟩ : Go.Oper) :: _) _ _; refine step_get rfl 3 _ rfl b1 86 rfl Tryz.underlying3 rfl (.int .i64 (p 86)) ?_ ?_; exact HR1.out.cell 86 (by decide))
          | (go_at_call 25; guard_target = Go.Calls _ _ #[Go.Value.int _ (p 86), _, _] _ _; refine (vr_near (p 86) 0 _ (by decide)).mono ?_; rintro e w3 ⟨rfl, rfl⟩)
          | (guard_target = Go.wpList _ _ _ ((⟨none, .store _ (.tmp 36) _, _, _, _, _⟩ : Go.Oper) :: _) _ _; refine step_cell (op := ⟨none, .store _ (.tmp 36) _, _, _, _, _⟩) rfl 3 _ _ rfl b3 86 rfl .i64 (nrZ (p 86) 0) rfl (mdS p) HR3.out (by decide) rfl size3h ?_; intro wn U R; have HR1 := Lib.hid (HR1.out.apart U HD1_3.out); have HR2 := Lib.hid (HR2.out.apart U HD2_3.out); have HR3 := Lib.hid R; have HB := Lib.hid (HB.out.trans (U.below HG3.out)); clear U R)
          | (guard_target = Go.wpList _ _ _ ((⟨some _, .load _ (.tmp 37), _, _, _, _⟩ : Go.Oper) :: _) _ _; refine step_get rfl 3 _ rfl b1 87 rfl Tryz.underlying3 rfl (.int .i64 (p 87)) ?_ ?_; exact HR1.out.cell 87 (by decide))
          | (go_at_call 25; guard_target = Go.Calls _ _ #[Go.Value.int _ (p 87), _, _] _ _; refine (vr_near (p 87) 1 _ (by decide)).mono ?_; rintro e w3 ⟨rfl, rfl⟩)
          | (guard_target = Go.wpList _ _ _ ((⟨none, .store _ (.tmp 40) _, _, _, _, _⟩ : Go.Oper) :: _) _ _; refine step_cell (op := ⟨none, .store _ (.tmp 40) _, _, _, _, _⟩) rfl 3 _ _ rfl b3 87 rfl .i64 (nrZ (p 87) 1) rfl (upd (mdS p) 86 (nrZ (p 86) 0)) HR3.out (by decide) rfl size3h ?_; intro wn U R; have HR1 := Lib.hid (HR1.out.apart U HD1_3.out); have HR2 := Lib.hid (HR2.out.apart U HD2_3.out); have HR3 := Lib.hid R; have HB := Lib.hid (HB.out.trans (U.below HG3.out)); clear U R)
          | (guard_target = Go.wpList _ _ _ ((⟨some 41, .load _ (.tmp 3), _, _, _, _⟩ : Go.Oper) :: _) _ _; refine step_load (op := ⟨some 41, .load _ (.tmp 3), _, _, _, _⟩) rfl _ rfl b3 rfl (upd (upd (mdS p) 86 (nrZ (p 86) 0)) 87 (nrZ (p 87) 1)) HR3.out ?_)
          | (guard_target = Go.wpList _ _ _ ((⟨none, .store _ (.tmp 2) _, _, _, _, _⟩ : Go.Oper) :: _) _ _; refine step_store (op := ⟨none, .store _ (.tmp 2) _, _, _, _, _⟩) rfl _ _ rfl b2 rfl (zeroP) (upd (upd (mdS p) 86 (nrZ (p 86) 0)) 87 (nrZ (p 87) 1)) rfl HR2.out ?_; intro wn U R; have HR3 := Lib.hid (HR3.out.apart U (Ne.symm HD2_3.out)); have HR2 := Lib.hid R; have HB := Lib.hid (HB.out.trans (U.below HG2.out)); clear U R))
        refine bodyPost_ret (v := .agg (posA (upd (upd (mdS p) 86 (nrZ (p 86) 0)) 87 (nrZ (p 87) 1)))) (results_row rfl _ _ _ _ rfl HR2.out) rfl ⟨by rw [HS.out], HB.out⟩
theorem vr_mend (p : Nat → Int) (w : World) (hp : FitP p) : Calls Tryz.prog 10 #[.agg (posA p)] w (PosL (mdP p) w) := by
  cases ha : argB p
  · exact vr_mend_no p w hp ha
  · exact vr_mend_yes p w hp ha
end Go.Proofs.YtigkbccpkepdmaaGreatDoor
