/-
 The document's own plain of layer 12.
-/
import Derived.Test.YtigkbccpkepdmaaGreatDoorVrA0
namespace Go.Proofs.YtigkbccpkepdmaaGreatDoor
open Go.RowKit Go.Shelf
set_option linter.unusedVariables false
set_option linter.unusedSimpArgs false
attribute [local go_sem] Oper.semAt_some

/-- What a position must be, ahead of all. -/
structure PlQ (p : Nat → Int) : Prop where
 var : p 0 ≤ 8
 turn : p 78 ≤ 1
 pass0 : -1 ≤ p 83
 pass1 : p 83 ≤ 63
 law : lawB p 64 = true
 rk : ∀ i, i < 4 → -1 ≤ p (79 + i) ∧ p (79 + i) ≤ 7
 chk : ∀ c, c < 2 → p (84 + c) ≤ 3 ∧ (p 0 = 5 ∨ p (84 + c) = 0)
theorem argB_iff {p : Nat → Int} (h0 : 0 ≤ p 84) (h1 : 0 ≤ p 85) : argB p = true ↔ PlQ p := by
 rw [← plR_is h0 h1]
 unfold plR clR
 simp only [Bool.and_eq_true, Bool.or_eq_true, Bool.not_eq_true', decide_eq_true_eq, decide_eq_false_iff_not, beq_iff_eq]
 constructor
 ·rintro ⟨⟨a1, a2, a3, a4⟩, a5, ⟨⟨⟨b1, b2⟩, b3, b4⟩, b5, b6⟩, ⟨⟨c1, c2⟩, c3, c4⟩, c5, c6⟩
  refine ⟨by omega, by omega, by omega, by omega, a5, fun i hi => ?_, fun c hc => ?_⟩
  ·rcases (by omega : i = 0 ∨ i = 1 ∨ i = 2 ∨ i = 3) with rfl | rfl | rfl | rfl
   ·exact ⟨b1, by have : p (79 + 0) < 8 := b2; omega⟩
   ·exact ⟨b3, by have : p (79 + 1) < 8 := b4; omega⟩
   ·exact ⟨c1, by have : p (79 + 2) < 8 := c2; omega⟩
   ·exact ⟨c3, by have : p (79 + 3) < 8 := c4; omega⟩
  ·rcases (by omega : c = 0 ∨ c = 1) with rfl | rfl
   ·exact ⟨by omega, b6⟩
   ·exact ⟨by omega, c6⟩
 ·intro h
  have r0 := h.rk 0 (by decide); have r1 := h.rk 1 (by decide); have r2 := h.rk 2 (by decide); have r3 := h.rk 3 (by decide)
  have k0 := h.chk 0 (by decide); have k1 := h.chk 1 (by decide)
  have a := h.var; have b := h.turn; have c := h.pass0; have d := h.pass1
  refine ⟨⟨by omega, by omega, by omega, by omega⟩, h.law, ⟨⟨⟨r0.1, ?_⟩, r1.1, ?_⟩, ?_, k0.2⟩, ⟨⟨r2.1, ?_⟩, r3.1, ?_⟩, ?_, k1.2⟩
  ·show p (79 + 0) < 8; omega
  ·show p (79 + 1) < 8; omega
  ·have := k0.1; omega
  ·show p (79 + 2) < 8; omega
  ·show p (79 + 3) < 8; omega
  ·have := k1.1; omega
set_option maxRecDepth 100000 in
set_option maxHeartbeats 2000000 in
theorem plain_v (p : Nat → Int) (w : World) (hp : FitP p) (hv : 8 < p 0) : Calls Tryz.prog 13 #[.agg (posA p)] w (BoL (argB p) w) := by
 have HS := Lib.hid (show argB p = false from Bool.eq_false_iff.2 fun h => absurd ((argB_iff (hp.chk 84 (by decide) (by decide)).1 (hp.chk 85 (by decide) (by decide)).1).1 h).var (by omega))
 have gv : decide (8 < p 0) = true := decide_eq_true hv
 clear hp hv
 have HB := Lib.hid (Below.refl w.heap.size w)
 go_enter Tryz.func13, Tryz.ntmps13
 go_wp2_with (first
   | (guard_target = Go.wpList _ _ _ ((⟨some 1, .box _ _, _, _, _, _⟩ : Go.Oper) :: _) _ _; refine step_box rfl _ rfl p rfl ?_; intro b1 w1 N R; have HG1 := Lib.hid (show w.heap.size ≤ b1 by have := HB.out.size; have := N.at_; omega); have HB := Lib.hid (below_on HB.out N.below); have HR1 := Lib.hid R; clear N R)
   | (guard_target = Go.wpList _ _ _ ((⟨some _, .load _ (.tmp 6), _, _, _, _⟩ : Go.Oper) :: _) _ _; refine step_get rfl 5 _ rfl b1 0 rfl Tryz.underlying5 rfl (.int .u8 (p 0)) ?_ ?_; exact HR1.out.cell 0 (by decide))
   | (guard_target = Go.wpList _ _ _ ((⟨some _, .load _ (.tmp 10), _, _, _, _⟩ : Go.Oper) :: _) _ _; refine step_get rfl 5 _ rfl b1 78 rfl Tryz.underlying5 rfl (.int .u8 (p 78)) ?_ ?_; exact HR1.out.cell 78 (by decide))
   | (guard_target = Go.wpList _ _ _ ((⟨some _, .load _ (.tmp 15), _, _, _, _⟩ : Go.Oper) :: _) _ _; refine step_get rfl 26 _ rfl b1 83 rfl Tryz.underlying26 rfl (.int .i8 (p 83)) ?_ ?_; exact HR1.out.cell 83 (by decide))
   | (guard_target = Go.wpList _ _ _ ((⟨some _, .load _ (.tmp 20), _, _, _, _⟩ : Go.Oper) :: _) _ _; refine step_get rfl 26 _ rfl b1 83 rfl Tryz.underlying26 rfl (.int .i8 (p 83)) ?_ ?_; exact HR1.out.cell 83 (by decide)))
 go_ret
 exact ⟨by rw [HS.out]; rfl, HB.out⟩
set_option maxRecDepth 100000 in
set_option maxHeartbeats 2000000 in
theorem plain_t (p : Nat → Int) (w : World) (hp : FitP p) (hv : ¬ 8 < p 0) (ht : 1 < p 78) : Calls Tryz.prog 13 #[.agg (posA p)] w (BoL (argB p) w) := by
 have HS := Lib.hid (show argB p = false from Bool.eq_false_iff.2 fun h => absurd ((argB_iff (hp.chk 84 (by decide) (by decide)).1 (hp.chk 85 (by decide) (by decide)).1).1 h).turn (by omega))
 have gv : decide (8 < p 0) = false := decide_eq_false hv
 have gt : decide (1 < p 78) = true := decide_eq_true ht
 clear hp hv ht
 have HB := Lib.hid (Below.refl w.heap.size w)
 go_enter Tryz.func13, Tryz.ntmps13
 go_wp2_with (first
   | (guard_target = Go.wpList _ _ _ ((⟨some 1, .box _ _, _, _, _, _⟩ : Go.Oper) :: _) _ _; refine step_box rfl _ rfl p rfl ?_; intro b1 w1 N R; have HG1 := Lib.hid (show w.heap.size ≤ b1 by have := HB.out.size; have := N.at_; omega); have HB := Lib.hid (below_on HB.out N.below); have HR1 := Lib.hid R; clear N R)
   | (guard_target = Go.wpList _ _ _ ((⟨some _, .load _ (.tmp 6), _, _, _, _⟩ : Go.Oper) :: _) _ _; refine step_get rfl 5 _ rfl b1 0 rfl Tryz.underlying5 rfl (.int .u8 (p 0)) ?_ ?_; exact HR1.out.cell 0 (by decide))
   | (guard_target = Go.wpList _ _ _ ((⟨some _, .load _ (.tmp 10), _, _, _, _⟩ : Go.Oper) :: _) _ _; refine step_get rfl 5 _ rfl b1 78 rfl Tryz.underlying5 rfl (.int .u8 (p 78)) ?_ ?_; exact HR1.out.cell 78 (by decide))
   | (guard_target = Go.wpList _ _ _ ((⟨some _, .load _ (.tmp 15), _, _, _, _⟩ : Go.Oper) :: _) _ _; refine step_get rfl 26 _ rfl b1 83 rfl Tryz.underlying26 rfl (.int .i8 (p 83)) ?_ ?_; exact HR1.out.cell 83 (by decide))
   | (guard_target = Go.wpList _ _ _ ((⟨some _, .load _ (.tmp 20), _, _, _, _⟩ : Go.Oper) :: _) _ _; refine step_get rfl 26 _ rfl b1 83 rfl Tryz.underlying26 rfl (.int .i8 (p 83)) ?_ ?_; exact HR1.out.cell 83 (by decide)))
 go_ret
 exact ⟨by rw [HS.out]; rfl, HB.out⟩
set_option maxRecDepth 100000 in
set_option maxHeartbeats 2000000 in
theorem plain_a (p : Nat → Int) (w : World) (hp : FitP p) (hv : ¬ 8 < p 0) (ht : ¬ 1 < p 78) (ha : p 83 < -1) : Calls Tryz.prog 13 #[.agg (posA p)] w (BoL (argB p) w) := by
 have HS := Lib.hid (show argB p = false from Bool.eq_false_iff.2 fun h => absurd ((argB_iff (hp.chk 84 (by decide) (by decide)).1 (hp.chk 85 (by decide) (by decide)).1).1 h).pass0 (by omega))
 have gv : decide (8 < p 0) = false := decide_eq_false hv
 have gt : decide (1 < p 78) = false := decide_eq_false ht
 have ga : decide (p 83 < -1) = true := decide_eq_true ha
 clear hp hv ht ha
 have HB := Lib.hid (Below.refl w.heap.size w)
 go_enter Tryz.func13, Tryz.ntmps13
 go_wp2_with (first
   | (guard_target = Go.wpList _ _ _ ((⟨some 1, .box _ _, _, _, _, _⟩ : Go.Oper) :: _) _ _; refine step_box rfl _ rfl p rfl ?_; intro b1 w1 N R; have HG1 := Lib.hid (show w.heap.size ≤ b1 by have := HB.out.size; have := N.at_; omega); have HB := Lib.hid (below_on HB.out N.below); have HR1 := Lib.hid R; clear N R)
   | (guard_target = Go.wpList _ _ _ ((⟨some _, .load _ (.tmp 6), _, _, _, _⟩ : Go.Oper) :: _) _ _; refine step_get rfl 5 _ rfl b1 0 rfl Tryz.underlying5 rfl (.int .u8 (p 0)) ?_ ?_; exact HR1.out.cell 0 (by decide))
   | (guard_target = Go.wpList _ _ _ ((⟨some _, .load _ (.tmp 10), _, _, _, _⟩ : Go.Oper) :: _) _ _; refine step_get rfl 5 _ rfl b1 78 rfl Tryz.underlying5 rfl (.int .u8 (p 78)) ?_ ?_; exact HR1.out.cell 78 (by decide))
   | (guard_target = Go.wpList _ _ _ ((⟨some _, .load _ (.tmp 15), _, _, _, _⟩ : Go.Oper) :: _) _ _; refine step_get rfl 26 _ rfl b1 83 rfl Tryz.underlying26 rfl (.int .i8 (p 83)) ?_ ?_; exact HR1.out.cell 83 (by decide))
   | (guard_target = Go.wpList _ _ _ ((⟨some _, .load _ (.tmp 20), _, _, _, _⟩ : Go.Oper) :: _) _ _; refine step_get rfl 26 _ rfl b1 83 rfl Tryz.underlying26 rfl (.int .i8 (p 83)) ?_ ?_; exact HR1.out.cell 83 (by decide)))
 go_ret
 exact ⟨by rw [HS.out]; rfl, HB.out⟩
set_option maxRecDepth 100000 in
set_option maxHeartbeats 2000000 in
theorem plain_b (p : Nat → Int) (w : World) (hp : FitP p) (hv : ¬ 8 < p 0) (ht : ¬ 1 < p 78) (ha : ¬ p 83 < -1) (hb : 63 < p 83) : Calls Tryz.prog 13 #[.agg (posA p)] w (BoL (argB p) w) := by
 have HS := Lib.hid (show argB p = false from Bool.eq_false_iff.2 fun h => absurd ((argB_iff (hp.chk 84 (by decide) (by decide)).1 (hp.chk 85 (by decide) (by decide)).1).1 h).pass1 (by omega))
 have gv : decide (8 < p 0) = false := decide_eq_false hv
 have gt : decide (1 < p 78) = false := decide_eq_false ht
 have ga : decide (p 83 < -1) = false := decide_eq_false ha
 have gb : decide (63 < p 83) = true := decide_eq_true hb
 clear hp hv ht ha hb
 have HB := Lib.hid (Below.refl w.heap.size w)
 go_enter Tryz.func13, Tryz.ntmps13
 go_wp2_with (first
   | (guard_target = Go.wpList _ _ _ ((⟨some 1, .box _ _, _, _, _, _⟩ : Go.Oper) :: _) _ _; refine step_box rfl _ rfl p rfl ?_; intro b1 w1 N R; have HG1 := Lib.hid (show w.heap.size ≤ b1 by have := HB.out.size; have := N.at_; omega); have HB := Lib.hid (below_on HB.out N.below); have HR1 := Lib.hid R; clear N R)
   | (guard_target = Go.wpList _ _ _ ((⟨some _, .load _ (.tmp 6), _, _, _, _⟩ : Go.Oper) :: _) _ _; refine step_get rfl 5 _ rfl b1 0 rfl Tryz.underlying5 rfl (.int .u8 (p 0)) ?_ ?_; exact HR1.out.cell 0 (by decide))
   | (guard_target = Go.wpList _ _ _ ((⟨some _, .load _ (.tmp 10), _, _, _, _⟩ : Go.Oper) :: _) _ _; refine step_get rfl 5 _ rfl b1 78 rfl Tryz.underlying5 rfl (.int .u8 (p 78)) ?_ ?_; exact HR1.out.cell 78 (by decide))
   | (guard_target = Go.wpList _ _ _ ((⟨some _, .load _ (.tmp 15), _, _, _, _⟩ : Go.Oper) :: _) _ _; refine step_get rfl 26 _ rfl b1 83 rfl Tryz.underlying26 rfl (.int .i8 (p 83)) ?_ ?_; exact HR1.out.cell 83 (by decide))
   | (guard_target = Go.wpList _ _ _ ((⟨some _, .load _ (.tmp 20), _, _, _, _⟩ : Go.Oper) :: _) _ _; refine step_get rfl 26 _ rfl b1 83 rfl Tryz.underlying26 rfl (.int .i8 (p 83)) ?_ ?_; exact HR1.out.cell 83 (by decide)))
 go_ret
 exact ⟨by rw [HS.out]; rfl, HB.out⟩
set_option maxRecDepth 100000 in
set_option maxHeartbeats 8000000 in
theorem plain_rest (p : Nat → Int) (w : World) (hp : FitP p) (hv : ¬ 8 < p 0) (ht : ¬ 1 < p 78) (ha : ¬ p 83 < -1) (hb : ¬ 63 < p 83) : Calls Tryz.prog 13 #[.agg (posA p)] w (BoL (argB p) w) := by
 have HP := Lib.hid hp
 have HH := Lib.hid (show p 0 ≤ 8 ∧ p 78 ≤ 1 ∧ -1 ≤ p 83 ∧ p 83 ≤ 63 by omega)
 have gv : decide (8 < p 0) = false := decide_eq_false hv
 have gt : decide (1 < p 78) = false := decide_eq_false ht
 have ga : decide (p 83 < -1) = false := decide_eq_false ha
 have gb : decide (63 < p 83) = false := decide_eq_false hb
 clear hp hv ht ha hb
 have HB := Lib.hid (Below.refl w.heap.size w)
 go_enter Tryz.func13, Tryz.ntmps13
 go_wp2_with (first
   | (guard_target = Go.wpList _ _ _ ((⟨some 1, .box _ _, _, _, _, _⟩ : Go.Oper) :: _) _ _; refine step_box rfl _ rfl p rfl ?_; intro b1 w1 N R; have HG1 := Lib.hid (show w.heap.size ≤ b1 by have := HB.out.size; have := N.at_; omega); have HB := Lib.hid (below_on HB.out N.below); have HR1 := Lib.hid R; clear N R)
   | (guard_target = Go.wpList _ _ _ ((⟨some _, .load _ (.tmp 6), _, _, _, _⟩ : Go.Oper) :: _) _ _; refine step_get rfl 5 _ rfl b1 0 rfl Tryz.underlying5 rfl (.int .u8 (p 0)) ?_ ?_; exact HR1.out.cell 0 (by decide))
   | (guard_target = Go.wpList _ _ _ ((⟨some _, .load _ (.tmp 10), _, _, _, _⟩ : Go.Oper) :: _) _ _; refine step_get rfl 5 _ rfl b1 78 rfl Tryz.underlying5 rfl (.int .u8 (p 78)) ?_ ?_; exact HR1.out.cell 78 (by decide))
   | (guard_target = Go.wpList _ _ _ ((⟨some _, .load _ (.tmp 15), _, _, _, _⟩ : Go.Oper) :: _) _ _; refine step_get rfl 26 _ rfl b1 83 rfl Tryz.underlying26 rfl (.int .i8 (p 83)) ?_ ?_; exact HR1.out.cell 83 (by decide))
   | (guard_target = Go.wpList _ _ _ ((⟨some _, .load _ (.tmp 20), _, _, _, _⟩ : Go.Oper) :: _) _ _; refine step_get rfl 26 _ rfl b1 83 rfl Tryz.underlying26 rfl (.int .i8 (p 83)) ?_ ?_; exact HR1.out.cell 83 (by decide)))
 go_loopw [3] (fun i wr => ∃ s : Nat, s ≤ 64 ∧ i = .int .i64 (s : Int) ∧ lawB p s = true ∧ Row wr b1 p ∧ Below w.heap.size w wr) (fun i _ => 64 - (intOf i).toNat)
 case atStart => exact ⟨0, by omega, rfl, rfl, HR1.out, HB.out⟩
 case round =>
  clear HR1 HB
  obtain ⟨s, hs0, rfl, hl, hr1, hb⟩ := hrel
  have HR1 := Lib.hid hr1
  have HB := Lib.hid hb
  have Hl := Lib.hid hl
  clear hr1 hb hl
  by_cases hlt : s < 64
  ·have HLt := Lib.hid hlt
   have gs : decide (s < 64) = true := decide_eq_true hlt
   have gs2 : decide ((s : Int) < 64) = true := decide_eq_true (by omega)
   have hx := HP.out.bd s hlt
   obtain ⟨x, hxx⟩ : ∃ x, p (1 + s) = x := ⟨_, rfl⟩
   have HX := Lib.hid hxx
   rw [hxx] at hx
   have HX0 := Lib.hid hx
   obtain ⟨kx, hkx⟩ : ∃ a, kndZ x = a := ⟨_, rfl⟩
   have HKx := Lib.hid hkx
   have hz := knd_zero x
   rw [hkx] at hz
   have HL := Lib.hid (show lawB p (s + 1) = (x == 0 || pcB x) by rw [lawB_succ, Hl.out, hxx]; rfl)
   clear hxx hkx hx
   cases g0 : (x == 0)
   ·have g0n : (x != 0) = true := by rw [bne, g0]; rfl
    cases gp : pcB x
    ·rw [gp, Bool.not_false] at hz
     have HF := Lib.hid (lawB_no (show lawB p (s + 1) = false by rw [HL.out, g0, gp]; rfl) 64 (by omega))
     have HS := Lib.hid (show argB p = false from Bool.eq_false_iff.2 fun h => by have h2 := ((argB_iff (HP.out.chk 84 (by decide) (by decide)).1 (HP.out.chk 85 (by decide) (by decide)).1).1 h).law; rw [HF.out] at h2; cases h2)
     go_wp2_with (first
      | (guard_target = Go.wpList _ _ _ ((⟨some _, .load _ (.tmp 30), _, _, _, _⟩ : Go.Oper) :: _) _ _; refine step_get rfl 5 _ rfl b1 (1 + s) rfl Tryz.underlying5 rfl (.int .u8 x) ?_ ?_; exact (HR1.out.cell (1 + s) (by have := HLt.out; omega)).trans (by rw [kAt_board (Nat.zero_le _) HLt.out, HX.out]))
      | (guard_target = Go.wpList _ _ _ ((⟨some _, .load _ (.tmp 36), _, _, _, _⟩ : Go.Oper) :: _) _ _; refine step_get rfl 5 _ rfl b1 (1 + s) rfl Tryz.underlying5 rfl (.int .u8 x) ?_ ?_; exact (HR1.out.cell (1 + s) (by have := HLt.out; omega)).trans (by rw [kAt_board (Nat.zero_le _) HLt.out, HX.out]))
      | (go_at_call 29; refine (rkind_any x _ HX0.out.1 HX0.out.2).mono ?_; rintro e w3 ⟨rfl, rfl⟩; rw [HKx.out]))
     go_ret
     exact ⟨by rw [HS.out]; rfl, HB.out⟩
    ·rw [gp, Bool.not_true] at hz
     have HE := Lib.hid (show lawB p (s + 1) = true by rw [HL.out, g0, gp]; rfl)
     go_wp2_with (first
      | (guard_target = Go.wpList _ _ _ ((⟨some _, .load _ (.tmp 30), _, _, _, _⟩ : Go.Oper) :: _) _ _; refine step_get rfl 5 _ rfl b1 (1 + s) rfl Tryz.underlying5 rfl (.int .u8 x) ?_ ?_; exact (HR1.out.cell (1 + s) (by have := HLt.out; omega)).trans (by rw [kAt_board (Nat.zero_le _) HLt.out, HX.out]))
      | (guard_target = Go.wpList _ _ _ ((⟨some _, .load _ (.tmp 36), _, _, _, _⟩ : Go.Oper) :: _) _ _; refine step_get rfl 5 _ rfl b1 (1 + s) rfl Tryz.underlying5 rfl (.int .u8 x) ?_ ?_; exact (HR1.out.cell (1 + s) (by have := HLt.out; omega)).trans (by rw [kAt_board (Nat.zero_le _) HLt.out, HX.out]))
      | (go_at_call 29; refine (rkind_any x _ HX0.out.1 HX0.out.2).mono ?_; rintro e w3 ⟨rfl, rfl⟩; rw [HKx.out]))
     go_roundw
     case rel => exact ⟨s + 1, by have := HLt.out; omega, by go_num, HE.out, HR1.out, HB.out⟩
     case measure => simp [intOf]; have := HLt.out; omega
   ·have g0n : (x != 0) = false := by rw [bne, g0]; rfl
    have HE := Lib.hid (show lawB p (s + 1) = true by rw [HL.out, g0]; rfl)
    go_wp2_with (first
     | (guard_target = Go.wpList _ _ _ ((⟨some _, .load _ (.tmp 30), _, _, _, _⟩ : Go.Oper) :: _) _ _; refine step_get rfl 5 _ rfl b1 (1 + s) rfl Tryz.underlying5 rfl (.int .u8 x) ?_ ?_; exact (HR1.out.cell (1 + s) (by have := HLt.out; omega)).trans (by rw [kAt_board (Nat.zero_le _) HLt.out, HX.out]))
     | (guard_target = Go.wpList _ _ _ ((⟨some _, .load _ (.tmp 36), _, _, _, _⟩ : Go.Oper) :: _) _ _; refine step_get rfl 5 _ rfl b1 (1 + s) rfl Tryz.underlying5 rfl (.int .u8 x) ?_ ?_; exact (HR1.out.cell (1 + s) (by have := HLt.out; omega)).trans (by rw [kAt_board (Nat.zero_le _) HLt.out, HX.out]))
     | (go_at_call 29; refine (rkind_any x _ HX0.out.1 HX0.out.2).mono ?_; rintro e w3 ⟨rfl, rfl⟩; rw [HKx.out]))
    go_roundw
    case rel => exact ⟨s + 1, by have := HLt.out; omega, by go_num, HE.out, HR1.out, HB.out⟩
    case measure => simp [intOf]; have := HLt.out; omega
  ·have e64 : s = 64 := by omega
   have gs : decide (s < 64) = false := decide_eq_false hlt
   have gs2 : decide ((s : Int) < 64) = false := decide_eq_false (by omega)
   have HLaw := Lib.hid (show lawB p 64 = true by rw [← e64]; exact Hl.out)
   clear e64 hlt hs0
   go_wp2_with fail
   go_loopw [4] (fun i wr => (i = .int .i64 0 ∧ Row wr b1 p ∧ Below w.heap.size w wr) ∨ (i = .int .i64 1 ∧ ((-1 ≤ p 79 ∧ p 79 ≤ 7) ∧ (-1 ≤ p 80 ∧ p 80 ≤ 7) ∧ (p 84 ≤ 3 ∧ (p 0 = 5 ∨ p 84 = 0))) ∧ Row wr b1 p ∧ Below w.heap.size w wr) ∨ (i = .int .i64 2 ∧ ((-1 ≤ p 79 ∧ p 79 ≤ 7) ∧ (-1 ≤ p 80 ∧ p 80 ≤ 7) ∧ (p 84 ≤ 3 ∧ (p 0 = 5 ∨ p 84 = 0))) ∧ ((-1 ≤ p 81 ∧ p 81 ≤ 7) ∧ (-1 ≤ p 82 ∧ p 82 ≤ 7) ∧ (p 85 ≤ 3 ∧ (p 0 = 5 ∨ p 85 = 0))) ∧ Row wr b1 p ∧ Below w.heap.size w wr)) (fun i _ => 2 - (intOf i).toNat)
   case atStart => exact .inl ⟨rfl, HR1.out, HB.out⟩
   case round =>
    clear HR1 HB
    rcases hrel with ⟨rfl, hr1, hb⟩ | ⟨rfl, c0, hr1, hb⟩ | ⟨rfl, c0, c1, hr1, hb⟩
    ·have HR1 := Lib.hid hr1
     have HB := Lib.hid hb
     clear hr1 hb
     go_wp2_with fail
     go_loopw [5] (fun i wr => (i = .int .i64 0 ∧ Row wr b1 p ∧ Below w.heap.size w wr) ∨ (i = .int .i64 1 ∧ (-1 ≤ p 79 ∧ p 79 ≤ 7) ∧ Row wr b1 p ∧ Below w.heap.size w wr) ∨ (i = .int .i64 2 ∧ (-1 ≤ p 79 ∧ p 79 ≤ 7) ∧ (-1 ≤ p 80 ∧ p 80 ≤ 7) ∧ Row wr b1 p ∧ Below w.heap.size w wr)) (fun i _ => 2 - (intOf i).toNat)
     case atStart => exact .inl ⟨rfl, HR1.out, HB.out⟩
     case round =>
      clear HR1 HB
      rcases hrel with ⟨rfl, hr1, hb⟩ | ⟨rfl, h0, hr1, hb⟩ | ⟨rfl, h0, h1, hr1, hb⟩
      ·have HR1 := Lib.hid hr1
       have HB := Lib.hid hb
       clear hr1 hb
       by_cases ha : p 79 < -1
       ·have ga : decide (p 79 < -1) = true := decide_eq_true ha
        have HS := Lib.hid (show argB p = false from Bool.eq_false_iff.2 fun h => by have h2 := ((argB_iff (HP.out.chk 84 (by decide) (by decide)).1 (HP.out.chk 85 (by decide) (by decide)).1).1 h).rk 0 (by decide); have h3 : -1 ≤ p 79 := h2.1; omega)
        clear ha
        go_wp2_with (first
         | (guard_target = Go.wpList _ _ _ ((⟨some _, .load _ (.tmp 53), _, _, _, _⟩ : Go.Oper) :: _) _ _; refine step_get rfl 26 _ rfl b1 79 rfl Tryz.underlying26 rfl (.int .i8 (p 79)) ?_ ?_; exact HR1.out.cell 79 (by decide))
         | (guard_target = Go.wpList _ _ _ ((⟨some _, .load _ (.tmp 61), _, _, _, _⟩ : Go.Oper) :: _) _ _; refine step_get rfl 26 _ rfl b1 79 rfl Tryz.underlying26 rfl (.int .i8 (p 79)) ?_ ?_; exact HR1.out.cell 79 (by decide)))
        go_ret
        exact ⟨by rw [HS.out]; rfl, HB.out⟩
       ·have ga : decide (p 79 < -1) = false := decide_eq_false ha
        by_cases hb7 : 7 < p 79
        ·have gb : decide (7 < p 79) = true := decide_eq_true hb7
         have HS := Lib.hid (show argB p = false from Bool.eq_false_iff.2 fun h => by have h2 := ((argB_iff (HP.out.chk 84 (by decide) (by decide)).1 (HP.out.chk 85 (by decide) (by decide)).1).1 h).rk 0 (by decide); have h3 : p 79 ≤ 7 := h2.2; omega)
         clear ha hb7
         go_wp2_with (first
          | (guard_target = Go.wpList _ _ _ ((⟨some _, .load _ (.tmp 53), _, _, _, _⟩ : Go.Oper) :: _) _ _; refine step_get rfl 26 _ rfl b1 79 rfl Tryz.underlying26 rfl (.int .i8 (p 79)) ?_ ?_; exact HR1.out.cell 79 (by decide))
          | (guard_target = Go.wpList _ _ _ ((⟨some _, .load _ (.tmp 61), _, _, _, _⟩ : Go.Oper) :: _) _ _; refine step_get rfl 26 _ rfl b1 79 rfl Tryz.underlying26 rfl (.int .i8 (p 79)) ?_ ?_; exact HR1.out.cell 79 (by decide)))
         go_ret
         exact ⟨by rw [HS.out]; rfl, HB.out⟩
        ·have gb : decide (7 < p 79) = false := decide_eq_false hb7
         have HN := Lib.hid (show -1 ≤ p 79 ∧ p 79 ≤ 7 by omega)
         clear ha hb7
         go_wp2_with (first
          | (guard_target = Go.wpList _ _ _ ((⟨some _, .load _ (.tmp 53), _, _, _, _⟩ : Go.Oper) :: _) _ _; refine step_get rfl 26 _ rfl b1 79 rfl Tryz.underlying26 rfl (.int .i8 (p 79)) ?_ ?_; exact HR1.out.cell 79 (by decide))
          | (guard_target = Go.wpList _ _ _ ((⟨some _, .load _ (.tmp 61), _, _, _, _⟩ : Go.Oper) :: _) _ _; refine step_get rfl 26 _ rfl b1 79 rfl Tryz.underlying26 rfl (.int .i8 (p 79)) ?_ ?_; exact HR1.out.cell 79 (by decide)))
         go_roundw
         case rel => exact .inr (.inl ⟨rfl, HN.out, HR1.out, HB.out⟩)
         case measure => simp [intOf]
      ·have HR1 := Lib.hid hr1
       have HB := Lib.hid hb
       have H0 := Lib.hid h0
       clear hr1 hb h0
       by_cases ha : p 80 < -1
       ·have ga : decide (p 80 < -1) = true := decide_eq_true ha
        have HS := Lib.hid (show argB p = false from Bool.eq_false_iff.2 fun h => by have h2 := ((argB_iff (HP.out.chk 84 (by decide) (by decide)).1 (HP.out.chk 85 (by decide) (by decide)).1).1 h).rk 1 (by decide); have h3 : -1 ≤ p 80 := h2.1; omega)
        clear ha
        go_wp2_with (first
         | (guard_target = Go.wpList _ _ _ ((⟨some _, .load _ (.tmp 53), _, _, _, _⟩ : Go.Oper) :: _) _ _; refine step_get rfl 26 _ rfl b1 80 rfl Tryz.underlying26 rfl (.int .i8 (p 80)) ?_ ?_; exact HR1.out.cell 80 (by decide))
         | (guard_target = Go.wpList _ _ _ ((⟨some _, .load _ (.tmp 61), _, _, _, _⟩ : Go.Oper) :: _) _ _; refine step_get rfl 26 _ rfl b1 80 rfl Tryz.underlying26 rfl (.int .i8 (p 80)) ?_ ?_; exact HR1.out.cell 80 (by decide)))
        go_ret
        exact ⟨by rw [HS.out]; rfl, HB.out⟩
       ·have ga : decide (p 80 < -1) = false := decide_eq_false ha
        by_cases hb7 : 7 < p 80
        ·have gb : decide (7 < p 80) = true := decide_eq_true hb7
         have HS := Lib.hid (show argB p = false from Bool.eq_false_iff.2 fun h => by have h2 := ((argB_iff (HP.out.chk 84 (by decide) (by decide)).1 (HP.out.chk 85 (by decide) (by decide)).1).1 h).rk 1 (by decide); have h3 : p 80 ≤ 7 := h2.2; omega)
         clear ha hb7
         go_wp2_with (first
          | (guard_target = Go.wpList _ _ _ ((⟨some _, .load _ (.tmp 53), _, _, _, _⟩ : Go.Oper) :: _) _ _; refine step_get rfl 26 _ rfl b1 80 rfl Tryz.underlying26 rfl (.int .i8 (p 80)) ?_ ?_; exact HR1.out.cell 80 (by decide))
          | (guard_target = Go.wpList _ _ _ ((⟨some _, .load _ (.tmp 61), _, _, _, _⟩ : Go.Oper) :: _) _ _; refine step_get rfl 26 _ rfl b1 80 rfl Tryz.underlying26 rfl (.int .i8 (p 80)) ?_ ?_; exact HR1.out.cell 80 (by decide)))
         go_ret
         exact ⟨by rw [HS.out]; rfl, HB.out⟩
        ·have gb : decide (7 < p 80) = false := decide_eq_false hb7
         have HN := Lib.hid (show -1 ≤ p 80 ∧ p 80 ≤ 7 by omega)
         clear ha hb7
         go_wp2_with (first
          | (guard_target = Go.wpList _ _ _ ((⟨some _, .load _ (.tmp 53), _, _, _, _⟩ : Go.Oper) :: _) _ _; refine step_get rfl 26 _ rfl b1 80 rfl Tryz.underlying26 rfl (.int .i8 (p 80)) ?_ ?_; exact HR1.out.cell 80 (by decide))
          | (guard_target = Go.wpList _ _ _ ((⟨some _, .load _ (.tmp 61), _, _, _, _⟩ : Go.Oper) :: _) _ _; refine step_get rfl 26 _ rfl b1 80 rfl Tryz.underlying26 rfl (.int .i8 (p 80)) ?_ ?_; exact HR1.out.cell 80 (by decide)))
         go_roundw
         case rel => exact .inr (.inr ⟨rfl, H0.out, HN.out, HR1.out, HB.out⟩)
         case measure => simp [intOf]
      ·have HR1 := Lib.hid hr1
       have HB := Lib.hid hb
       have H0 := Lib.hid h0
       have H1 := Lib.hid h1
       clear hr1 hb h0 h1
       by_cases h3 : 3 < p 84
       ·have g3 : decide (3 < p 84) = true := decide_eq_true h3
        have HS := Lib.hid (show argB p = false from Bool.eq_false_iff.2 fun h => by have h2 := ((argB_iff (HP.out.chk 84 (by decide) (by decide)).1 (HP.out.chk 85 (by decide) (by decide)).1).1 h).chk 0 (by decide); have h4 : p 84 ≤ 3 := h2.1; omega)
        clear h3
        go_wp2_with (first
         | (guard_target = Go.wpList _ _ _ ((⟨some _, .load _ (.tmp 67), _, _, _, _⟩ : Go.Oper) :: _) _ _; refine step_get rfl 5 _ rfl b1 84 rfl Tryz.underlying5 rfl (.int .u8 (p 84)) ?_ ?_; exact HR1.out.cell 84 (by decide))
         | (guard_target = Go.wpList _ _ _ ((⟨some _, .load _ (.tmp 71), _, _, _, _⟩ : Go.Oper) :: _) _ _; refine step_get rfl 5 _ rfl b1 0 rfl Tryz.underlying5 rfl (.int .u8 (p 0)) ?_ ?_; exact HR1.out.cell 0 (by decide))
         | (guard_target = Go.wpList _ _ _ ((⟨some _, .load _ (.tmp 77), _, _, _, _⟩ : Go.Oper) :: _) _ _; refine step_get rfl 5 _ rfl b1 84 rfl Tryz.underlying5 rfl (.int .u8 (p 84)) ?_ ?_; exact HR1.out.cell 84 (by decide)))
        go_ret
        exact ⟨by rw [HS.out]; rfl, HB.out⟩
       ·have g3 : decide (3 < p 84) = false := decide_eq_false h3
        cases g5 : (p 0 == 5)
        ·have g5n : (p 0 != 5) = true := by rw [bne, g5]; rfl
         cases gc : (p 84 == 0)
         ·have gcn : (p 84 != 0) = true := by rw [bne, gc]; rfl
          have HS := Lib.hid (show argB p = false from Bool.eq_false_iff.2 fun h => by have h2 := ((argB_iff (HP.out.chk 84 (by decide) (by decide)).1 (HP.out.chk 85 (by decide) (by decide)).1).1 h).chk 0 (by decide); rcases h2.2 with h4 | h4; exact absurd (beq_iff_eq.2 h4) (by rw [g5]; decide); exact absurd (beq_iff_eq.2 h4) (by rw [gc]; decide))
          clear h3
          go_wp2_with (first
           | (guard_target = Go.wpList _ _ _ ((⟨some _, .load _ (.tmp 67), _, _, _, _⟩ : Go.Oper) :: _) _ _; refine step_get rfl 5 _ rfl b1 84 rfl Tryz.underlying5 rfl (.int .u8 (p 84)) ?_ ?_; exact HR1.out.cell 84 (by decide))
           | (guard_target = Go.wpList _ _ _ ((⟨some _, .load _ (.tmp 71), _, _, _, _⟩ : Go.Oper) :: _) _ _; refine step_get rfl 5 _ rfl b1 0 rfl Tryz.underlying5 rfl (.int .u8 (p 0)) ?_ ?_; exact HR1.out.cell 0 (by decide))
           | (guard_target = Go.wpList _ _ _ ((⟨some _, .load _ (.tmp 77), _, _, _, _⟩ : Go.Oper) :: _) _ _; refine step_get rfl 5 _ rfl b1 84 rfl Tryz.underlying5 rfl (.int .u8 (p 84)) ?_ ?_; exact HR1.out.cell 84 (by decide)))
          go_ret
          exact ⟨by rw [HS.out]; rfl, HB.out⟩
         ·have gcn : (p 84 != 0) = false := by rw [bne, gc]; rfl
          have HN := Lib.hid (show p 84 ≤ 3 ∧ (p 0 = 5 ∨ p 84 = 0) from ⟨by omega, .inr (beq_iff_eq.1 gc)⟩)
          clear h3
          go_wp2_with (first
           | (guard_target = Go.wpList _ _ _ ((⟨some _, .load _ (.tmp 67), _, _, _, _⟩ : Go.Oper) :: _) _ _; refine step_get rfl 5 _ rfl b1 84 rfl Tryz.underlying5 rfl (.int .u8 (p 84)) ?_ ?_; exact HR1.out.cell 84 (by decide))
           | (guard_target = Go.wpList _ _ _ ((⟨some _, .load _ (.tmp 71), _, _, _, _⟩ : Go.Oper) :: _) _ _; refine step_get rfl 5 _ rfl b1 0 rfl Tryz.underlying5 rfl (.int .u8 (p 0)) ?_ ?_; exact HR1.out.cell 0 (by decide))
           | (guard_target = Go.wpList _ _ _ ((⟨some _, .load _ (.tmp 77), _, _, _, _⟩ : Go.Oper) :: _) _ _; refine step_get rfl 5 _ rfl b1 84 rfl Tryz.underlying5 rfl (.int .u8 (p 84)) ?_ ?_; exact HR1.out.cell 84 (by decide)))
          go_roundw
          case rel => exact .inr (.inl ⟨rfl, ⟨H0.out, H1.out, HN.out⟩, HR1.out, HB.out⟩)
          case measure => simp [intOf]
        ·have g5n : (p 0 != 5) = false := by rw [bne, g5]; rfl
         have HN := Lib.hid (show p 84 ≤ 3 ∧ (p 0 = 5 ∨ p 84 = 0) from ⟨by omega, .inl (beq_iff_eq.1 g5)⟩)
         clear h3
         go_wp2_with (first
          | (guard_target = Go.wpList _ _ _ ((⟨some _, .load _ (.tmp 67), _, _, _, _⟩ : Go.Oper) :: _) _ _; refine step_get rfl 5 _ rfl b1 84 rfl Tryz.underlying5 rfl (.int .u8 (p 84)) ?_ ?_; exact HR1.out.cell 84 (by decide))
          | (guard_target = Go.wpList _ _ _ ((⟨some _, .load _ (.tmp 71), _, _, _, _⟩ : Go.Oper) :: _) _ _; refine step_get rfl 5 _ rfl b1 0 rfl Tryz.underlying5 rfl (.int .u8 (p 0)) ?_ ?_; exact HR1.out.cell 0 (by decide))
          | (guard_target = Go.wpList _ _ _ ((⟨some _, .load _ (.tmp 77), _, _, _, _⟩ : Go.Oper) :: _) _ _; refine step_get rfl 5 _ rfl b1 84 rfl Tryz.underlying5 rfl (.int .u8 (p 84)) ?_ ?_; exact HR1.out.cell 84 (by decide)))
         go_roundw
         case rel => exact .inr (.inl ⟨rfl, ⟨H0.out, H1.out, HN.out⟩, HR1.out, HB.out⟩)
         case measure => simp [intOf]
    ·have HR1 := Lib.hid hr1
     have HB := Lib.hid hb
     have HC0 := Lib.hid c0
     clear hr1 hb c0
     go_wp2_with fail
     go_loopw [5] (fun i wr => (i = .int .i64 0 ∧ Row wr b1 p ∧ Below w.heap.size w wr) ∨ (i = .int .i64 1 ∧ (-1 ≤ p 81 ∧ p 81 ≤ 7) ∧ Row wr b1 p ∧ Below w.heap.size w wr) ∨ (i = .int .i64 2 ∧ (-1 ≤ p 81 ∧ p 81 ≤ 7) ∧ (-1 ≤ p 82 ∧ p 82 ≤ 7) ∧ Row wr b1 p ∧ Below w.heap.size w wr)) (fun i _ => 2 - (intOf i).toNat)
     case atStart => exact .inl ⟨rfl, HR1.out, HB.out⟩
     case round =>
      clear HR1 HB
      rcases hrel with ⟨rfl, hr1, hb⟩ | ⟨rfl, h0, hr1, hb⟩ | ⟨rfl, h0, h1, hr1, hb⟩
      ·have HR1 := Lib.hid hr1
       have HB := Lib.hid hb
       clear hr1 hb
       by_cases ha : p 81 < -1
       ·have ga : decide (p 81 < -1) = true := decide_eq_true ha
        have HS := Lib.hid (show argB p = false from Bool.eq_false_iff.2 fun h => by have h2 := ((argB_iff (HP.out.chk 84 (by decide) (by decide)).1 (HP.out.chk 85 (by decide) (by decide)).1).1 h).rk 2 (by decide); have h3 : -1 ≤ p 81 := h2.1; omega)
        clear ha
        go_wp2_with (first
         | (guard_target = Go.wpList _ _ _ ((⟨some _, .load _ (.tmp 53), _, _, _, _⟩ : Go.Oper) :: _) _ _; refine step_get rfl 26 _ rfl b1 81 rfl Tryz.underlying26 rfl (.int .i8 (p 81)) ?_ ?_; exact HR1.out.cell 81 (by decide))
         | (guard_target = Go.wpList _ _ _ ((⟨some _, .load _ (.tmp 61), _, _, _, _⟩ : Go.Oper) :: _) _ _; refine step_get rfl 26 _ rfl b1 81 rfl Tryz.underlying26 rfl (.int .i8 (p 81)) ?_ ?_; exact HR1.out.cell 81 (by decide)))
        go_ret
        exact ⟨by rw [HS.out]; rfl, HB.out⟩
       ·have ga : decide (p 81 < -1) = false := decide_eq_false ha
        by_cases hb7 : 7 < p 81
        ·have gb : decide (7 < p 81) = true := decide_eq_true hb7
         have HS := Lib.hid (show argB p = false from Bool.eq_false_iff.2 fun h => by have h2 := ((argB_iff (HP.out.chk 84 (by decide) (by decide)).1 (HP.out.chk 85 (by decide) (by decide)).1).1 h).rk 2 (by decide); have h3 : p 81 ≤ 7 := h2.2; omega)
         clear ha hb7
         go_wp2_with (first
          | (guard_target = Go.wpList _ _ _ ((⟨some _, .load _ (.tmp 53), _, _, _, _⟩ : Go.Oper) :: _) _ _; refine step_get rfl 26 _ rfl b1 81 rfl Tryz.underlying26 rfl (.int .i8 (p 81)) ?_ ?_; exact HR1.out.cell 81 (by decide))
          | (guard_target = Go.wpList _ _ _ ((⟨some _, .load _ (.tmp 61), _, _, _, _⟩ : Go.Oper) :: _) _ _; refine step_get rfl 26 _ rfl b1 81 rfl Tryz.underlying26 rfl (.int .i8 (p 81)) ?_ ?_; exact HR1.out.cell 81 (by decide)))
         go_ret
         exact ⟨by rw [HS.out]; rfl, HB.out⟩
        ·have gb : decide (7 < p 81) = false := decide_eq_false hb7
         have HN := Lib.hid (show -1 ≤ p 81 ∧ p 81 ≤ 7 by omega)
         clear ha hb7
         go_wp2_with (first
          | (guard_target = Go.wpList _ _ _ ((⟨some _, .load _ (.tmp 53), _, _, _, _⟩ : Go.Oper) :: _) _ _; refine step_get rfl 26 _ rfl b1 81 rfl Tryz.underlying26 rfl (.int .i8 (p 81)) ?_ ?_; exact HR1.out.cell 81 (by decide))
          | (guard_target = Go.wpList _ _ _ ((⟨some _, .load _ (.tmp 61), _, _, _, _⟩ : Go.Oper) :: _) _ _; refine step_get rfl 26 _ rfl b1 81 rfl Tryz.underlying26 rfl (.int .i8 (p 81)) ?_ ?_; exact HR1.out.cell 81 (by decide)))
         go_roundw
         case rel => exact .inr (.inl ⟨rfl, HN.out, HR1.out, HB.out⟩)
         case measure => simp [intOf]
      ·have HR1 := Lib.hid hr1
       have HB := Lib.hid hb
       have H0 := Lib.hid h0
       clear hr1 hb h0
       by_cases ha : p 82 < -1
       ·have ga : decide (p 82 < -1) = true := decide_eq_true ha
        have HS := Lib.hid (show argB p = false from Bool.eq_false_iff.2 fun h => by have h2 := ((argB_iff (HP.out.chk 84 (by decide) (by decide)).1 (HP.out.chk 85 (by decide) (by decide)).1).1 h).rk 3 (by decide); have h3 : -1 ≤ p 82 := h2.1; omega)
        clear ha
        go_wp2_with (first
         | (guard_target = Go.wpList _ _ _ ((⟨some _, .load _ (.tmp 53), _, _, _, _⟩ : Go.Oper) :: _) _ _; refine step_get rfl 26 _ rfl b1 82 rfl Tryz.underlying26 rfl (.int .i8 (p 82)) ?_ ?_; exact HR1.out.cell 82 (by decide))
         | (guard_target = Go.wpList _ _ _ ((⟨some _, .load _ (.tmp 61), _, _, _, _⟩ : Go.Oper) :: _) _ _; refine step_get rfl 26 _ rfl b1 82 rfl Tryz.underlying26 rfl (.int .i8 (p 82)) ?_ ?_; exact HR1.out.cell 82 (by decide)))
        go_ret
        exact ⟨by rw [HS.out]; rfl, HB.out⟩
       ·have ga : decide (p 82 < -1) = false := decide_eq_false ha
        by_cases hb7 : 7 < p 82
        ·have gb : decide (7 < p 82) = true := decide_eq_true hb7
         have HS := Lib.hid (show argB p = false from Bool.eq_false_iff.2 fun h => by have h2 := ((argB_iff (HP.out.chk 84 (by decide) (by decide)).1 (HP.out.chk 85 (by decide) (by decide)).1).1 h).rk 3 (by decide); have h3 : p 82 ≤ 7 := h2.2; omega)
         clear ha hb7
         go_wp2_with (first
          | (guard_target = Go.wpList _ _ _ ((⟨some _, .load _ (.tmp 53), _, _, _, _⟩ : Go.Oper) :: _) _ _; refine step_get rfl 26 _ rfl b1 82 rfl Tryz.underlying26 rfl (.int .i8 (p 82)) ?_ ?_; exact HR1.out.cell 82 (by decide))
          | (guard_target = Go.wpList _ _ _ ((⟨some _, .load _ (.tmp 61), _, _, _, _⟩ : Go.Oper) :: _) _ _; refine step_get rfl 26 _ rfl b1 82 rfl Tryz.underlying26 rfl (.int .i8 (p 82)) ?_ ?_; exact HR1.out.cell 82 (by decide)))
         go_ret
         exact ⟨by rw [HS.out]; rfl, HB.out⟩
        ·have gb : decide (7 < p 82) = false := decide_eq_false hb7
         have HN := Lib.hid (show -1 ≤ p 82 ∧ p 82 ≤ 7 by omega)
         clear ha hb7
         go_wp2_with (first
          | (guard_target = Go.wpList _ _ _ ((⟨some _, .load _ (.tmp 53), _, _, _, _⟩ : Go.Oper) :: _) _ _; refine step_get rfl 26 _ rfl b1 82 rfl Tryz.underlying26 rfl (.int .i8 (p 82)) ?_ ?_; exact HR1.out.cell 82 (by decide))
          | (guard_target = Go.wpList _ _ _ ((⟨some _, .load _ (.tmp 61), _, _, _, _⟩ : Go.Oper) :: _) _ _; refine step_get rfl 26 _ rfl b1 82 rfl Tryz.underlying26 rfl (.int .i8 (p 82)) ?_ ?_; exact HR1.out.cell 82 (by decide)))
         go_roundw
         case rel => exact .inr (.inr ⟨rfl, H0.out, HN.out, HR1.out, HB.out⟩)
         case measure => simp [intOf]
      ·have HR1 := Lib.hid hr1
       have HB := Lib.hid hb
       have H0 := Lib.hid h0
       have H1 := Lib.hid h1
       clear hr1 hb h0 h1
       by_cases h3 : 3 < p 85
       ·have g3 : decide (3 < p 85) = true := decide_eq_true h3
        have HS := Lib.hid (show argB p = false from Bool.eq_false_iff.2 fun h => by have h2 := ((argB_iff (HP.out.chk 84 (by decide) (by decide)).1 (HP.out.chk 85 (by decide) (by decide)).1).1 h).chk 1 (by decide); have h4 : p 85 ≤ 3 := h2.1; omega)
        clear h3
        go_wp2_with (first
         | (guard_target = Go.wpList _ _ _ ((⟨some _, .load _ (.tmp 67), _, _, _, _⟩ : Go.Oper) :: _) _ _; refine step_get rfl 5 _ rfl b1 85 rfl Tryz.underlying5 rfl (.int .u8 (p 85)) ?_ ?_; exact HR1.out.cell 85 (by decide))
         | (guard_target = Go.wpList _ _ _ ((⟨some _, .load _ (.tmp 71), _, _, _, _⟩ : Go.Oper) :: _) _ _; refine step_get rfl 5 _ rfl b1 0 rfl Tryz.underlying5 rfl (.int .u8 (p 0)) ?_ ?_; exact HR1.out.cell 0 (by decide))
         | (guard_target = Go.wpList _ _ _ ((⟨some _, .load _ (.tmp 77), _, _, _, _⟩ : Go.Oper) :: _) _ _; refine step_get rfl 5 _ rfl b1 85 rfl Tryz.underlying5 rfl (.int .u8 (p 85)) ?_ ?_; exact HR1.out.cell 85 (by decide)))
        go_ret
        exact ⟨by rw [HS.out]; rfl, HB.out⟩
       ·have g3 : decide (3 < p 85) = false := decide_eq_false h3
        cases g5 : (p 0 == 5)
        ·have g5n : (p 0 != 5) = true := by rw [bne, g5]; rfl
         cases gc : (p 85 == 0)
         ·have gcn : (p 85 != 0) = true := by rw [bne, gc]; rfl
          have HS := Lib.hid (show argB p = false from Bool.eq_false_iff.2 fun h => by have h2 := ((argB_iff (HP.out.chk 84 (by decide) (by decide)).1 (HP.out.chk 85 (by decide) (by decide)).1).1 h).chk 1 (by decide); rcases h2.2 with h4 | h4; exact absurd (beq_iff_eq.2 h4) (by rw [g5]; decide); exact absurd (beq_iff_eq.2 h4) (by rw [gc]; decide))
          clear h3
          go_wp2_with (first
           | (guard_target = Go.wpList _ _ _ ((⟨some _, .load _ (.tmp 67), _, _, _, _⟩ : Go.Oper) :: _) _ _; refine step_get rfl 5 _ rfl b1 85 rfl Tryz.underlying5 rfl (.int .u8 (p 85)) ?_ ?_; exact HR1.out.cell 85 (by decide))
           | (guard_target = Go.wpList _ _ _ ((⟨some _, .load _ (.tmp 71), _, _, _, _⟩ : Go.Oper) :: _) _ _; refine step_get rfl 5 _ rfl b1 0 rfl Tryz.underlying5 rfl (.int .u8 (p 0)) ?_ ?_; exact HR1.out.cell 0 (by decide))
           | (guard_target = Go.wpList _ _ _ ((⟨some _, .load _ (.tmp 77), _, _, _, _⟩ : Go.Oper) :: _) _ _; refine step_get rfl 5 _ rfl b1 85 rfl Tryz.underlying5 rfl (.int .u8 (p 85)) ?_ ?_; exact HR1.out.cell 85 (by decide)))
          go_ret
          exact ⟨by rw [HS.out]; rfl, HB.out⟩
         ·have gcn : (p 85 != 0) = false := by rw [bne, gc]; rfl
          have HN := Lib.hid (show p 85 ≤ 3 ∧ (p 0 = 5 ∨ p 85 = 0) from ⟨by omega, .inr (beq_iff_eq.1 gc)⟩)
          clear h3
          go_wp2_with (first
           | (guard_target = Go.wpList _ _ _ ((⟨some _, .load _ (.tmp 67), _, _, _, _⟩ : Go.Oper) :: _) _ _; refine step_get rfl 5 _ rfl b1 85 rfl Tryz.underlying5 rfl (.int .u8 (p 85)) ?_ ?_; exact HR1.out.cell 85 (by decide))
           | (guard_target = Go.wpList _ _ _ ((⟨some _, .load _ (.tmp 71), _, _, _, _⟩ : Go.Oper) :: _) _ _; refine step_get rfl 5 _ rfl b1 0 rfl Tryz.underlying5 rfl (.int .u8 (p 0)) ?_ ?_; exact HR1.out.cell 0 (by decide))
           | (guard_target = Go.wpList _ _ _ ((⟨some _, .load _ (.tmp 77), _, _, _, _⟩ : Go.Oper) :: _) _ _; refine step_get rfl 5 _ rfl b1 85 rfl Tryz.underlying5 rfl (.int .u8 (p 85)) ?_ ?_; exact HR1.out.cell 85 (by decide)))
          go_roundw
          case rel => exact .inr (.inr ⟨rfl, HC0.out, ⟨H0.out, H1.out, HN.out⟩, HR1.out, HB.out⟩)
          case measure => simp [intOf]
        ·have g5n : (p 0 != 5) = false := by rw [bne, g5]; rfl
         have HN := Lib.hid (show p 85 ≤ 3 ∧ (p 0 = 5 ∨ p 85 = 0) from ⟨by omega, .inl (beq_iff_eq.1 g5)⟩)
         clear h3
         go_wp2_with (first
          | (guard_target = Go.wpList _ _ _ ((⟨some _, .load _ (.tmp 67), _, _, _, _⟩ : Go.Oper) :: _) _ _; refine step_get rfl 5 _ rfl b1 85 rfl Tryz.underlying5 rfl (.int .u8 (p 85)) ?_ ?_; exact HR1.out.cell 85 (by decide))
          | (guard_target = Go.wpList _ _ _ ((⟨some _, .load _ (.tmp 71), _, _, _, _⟩ : Go.Oper) :: _) _ _; refine step_get rfl 5 _ rfl b1 0 rfl Tryz.underlying5 rfl (.int .u8 (p 0)) ?_ ?_; exact HR1.out.cell 0 (by decide))
          | (guard_target = Go.wpList _ _ _ ((⟨some _, .load _ (.tmp 77), _, _, _, _⟩ : Go.Oper) :: _) _ _; refine step_get rfl 5 _ rfl b1 85 rfl Tryz.underlying5 rfl (.int .u8 (p 85)) ?_ ?_; exact HR1.out.cell 85 (by decide)))
         go_roundw
         case rel => exact .inr (.inr ⟨rfl, HC0.out, ⟨H0.out, H1.out, HN.out⟩, HR1.out, HB.out⟩)
         case measure => simp [intOf]
    ·have HR1 := Lib.hid hr1
     have HB := Lib.hid hb
     clear hr1 hb
     have HS := Lib.hid (show argB p = true from (argB_iff (HP.out.chk 84 (by decide) (by decide)).1 (HP.out.chk 85 (by decide) (by decide)).1).2 ⟨HH.out.1, HH.out.2.1, HH.out.2.2.1, HH.out.2.2.2, HLaw.out, fun i hi => by
      rcases (by omega : i = 0 ∨ i = 1 ∨ i = 2 ∨ i = 3) with rfl | rfl | rfl | rfl
      ·exact c0.1
      ·exact c0.2.1
      ·exact c1.1
      ·exact c1.2.1, fun c hc => by
      rcases (by omega : c = 0 ∨ c = 1) with rfl | rfl
      ·exact c0.2.2
      ·exact c1.2.2⟩)
     clear c0 c1
     go_wp2_with fail
     go_ret
     exact ⟨by rw [HS.out]; rfl, HB.out⟩
theorem vr_plain (p : Nat → Int) (w : World) (hp : FitP p) : Calls Tryz.prog 13 #[.agg (posA p)] w (BoL (argB p) w) := by
 by_cases hv : 8 < p 0
 ·exact plain_v p w hp hv
 ·by_cases ht : 1 < p 78
  ·exact plain_t p w hp hv ht
  ·by_cases ha : p 83 < -1
   ·exact plain_a p w hp hv ht ha
   ·by_cases hb : 63 < p 83
    ·exact plain_b p w hp hv ht ha hb
    ·exact plain_rest p w hp hv ht ha hb
end Go.Proofs.YtigkbccpkepdmaaGreatDoor
