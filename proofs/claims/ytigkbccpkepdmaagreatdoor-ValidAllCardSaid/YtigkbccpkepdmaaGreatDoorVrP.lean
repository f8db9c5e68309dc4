/-
 The document's own pockets of layer 12.
-/
import Derived.Test.YtigkbccpkepdmaaGreatDoorVrB
import Derived.Test.YtigkbccpkepdmaaGreatDoorVaC
namespace Go.Proofs.YtigkbccpkepdmaaGreatDoor
open Go.RowKit Go.Shelf
set_option linter.unusedVariables false
set_option linter.unusedSimpArgs false
attribute [local go_sem] Oper.semAt_some

theorem mnK {p : Nat → Int} {n : Int} (h : mnR p = n) (w : World) (hp : FitP p) : Calls Tryz.prog 31 #[.agg (posA p)] w (IntL n w) := h ▸ vr_men p w hp
set_option maxRecDepth 100000 in
set_option maxHeartbeats 4000000 in
theorem vr_pockets (p : Nat → Int) (w : World) (hp : FitP p) : Calls Tryz.prog 16 #[.agg (posA p)] w (BoL (pkB p) w) := by
 have HP := Lib.hid hp
 have hq : pkB p = (bif !(p 0 == 2) then pkz p && (p 65 == 0) else prmB p 64 && ((p 66 == 0) && ((p 72 == 0) && decide (mnR p ≤ 32)))) := (pkR_is hp.var.1).symm
 clear hp
 cases g2 : (p 0 == 2)
 ·have g2n : (p 0 != 2) = true := by rw [bne, g2]; rfl
  rw [g2, Bool.not_false, cond_true] at hq
  cases gz : pkz p
  ·have HZ := Lib.hid (show false = true ↔ ∀ i, 66 ≤ i → i < 78 → p i = 0 from by rw [← pkz_iff, gz])
   have HS := Lib.hid (show pkB p = false by rw [hq, gz]; rfl)
   clear hq gz
   have HB := Lib.hid (Below.refl w.heap.size w)
   go_enter Tryz.func16, Tryz.ntmps16
   go_wp2_with (first
    | (guard_target = Go.wpList _ _ _ ((⟨some 1, .box _ _, _, _, _, _⟩ : Go.Oper) :: _) _ _; refine step_box rfl _ rfl p rfl ?_; intro b1 w1 N R; have HG1 := Lib.hid (show w.heap.size ≤ b1 by have := HB.out.size; have := N.at_; omega); have HB := Lib.hid (below_on HB.out N.below); have HR1 := Lib.hid R; clear N R)
    | (guard_target = Go.wpList _ _ _ ((⟨some _, .load _ (.tmp 5), _, _, _, _⟩ : Go.Oper) :: _) _ _; refine step_get rfl 5 _ rfl b1 0 rfl Tryz.underlying5 rfl (.int .u8 (p 0)) ?_ ?_; exact HR1.out.cell 0 (by decide))
    | (guard_target = Go.wpList _ _ _ ((⟨some _, .load _ (.tmp 8), _, _, _, _⟩ : Go.Oper) :: _) _ _; refine step_read rfl 25 _ rfl b1 66 12 rfl p HR1.out (by decide) _ Tryz.underlying25 rfl vaSize ?_)
    | (guard_target = Go.wpList _ _ _ ((⟨some 10, .build _ _, _, _, _, _⟩ : Go.Oper) :: _) _ _; refine step_build (op := ⟨some 10, .build _ _, _, _, _, _⟩) rfl 25 _ rfl (partL zeroP 66 12).toArray (by kernel_rfl) ?_)
    | (guard_target = Go.wpList _ _ _ ((⟨some 11, .binOp _ _ _ _ _, _, _, _, _⟩ : Go.Oper) :: _) _ _; refine va_pk (op := ⟨some 11, .binOp _ _ _ _ _, _, _, _, _⟩) rfl _ _ rfl p rfl rfl (fun i h1 h2 => HP.out.pock i h1 h2) _ HZ.out ?_))
   go_ret
   exact ⟨by rw [HS.out]; rfl, HB.out⟩
  ·have HZ := Lib.hid (show true = true ↔ ∀ i, 66 ≤ i → i < 78 → p i = 0 from by rw [← pkz_iff, gz])
   cases g65 : (p 65 == 0)
   all_goals
    have HS := Lib.hid (by rw [gz, g65] at hq; exact hq)
    clear hq gz
    have HB := Lib.hid (Below.refl w.heap.size w)
    go_enter Tryz.func16, Tryz.ntmps16
    go_wp2_with (first
     | (guard_target = Go.wpList _ _ _ ((⟨some 1, .box _ _, _, _, _, _⟩ : Go.Oper) :: _) _ _; refine step_box rfl _ rfl p rfl ?_; intro b1 w1 N R; have HG1 := Lib.hid (show w.heap.size ≤ b1 by have := HB.out.size; have := N.at_; omega); have HB := Lib.hid (below_on HB.out N.below); have HR1 := Lib.hid R; clear N R)
     | (guard_target = Go.wpList _ _ _ ((⟨some _, .load _ (.tmp 5), _, _, _, _⟩ : Go.Oper) :: _) _ _; refine step_get rfl 5 _ rfl b1 0 rfl Tryz.underlying5 rfl (.int .u8 (p 0)) ?_ ?_; exact HR1.out.cell 0 (by decide))
     | (guard_target = Go.wpList _ _ _ ((⟨some _, .load _ (.tmp 8), _, _, _, _⟩ : Go.Oper) :: _) _ _; refine step_read rfl 25 _ rfl b1 66 12 rfl p HR1.out (by decide) _ Tryz.underlying25 rfl vaSize ?_)
     | (guard_target = Go.wpList _ _ _ ((⟨some 10, .build _ _, _, _, _, _⟩ : Go.Oper) :: _) _ _; refine step_build (op := ⟨some 10, .build _ _, _, _, _, _⟩) rfl 25 _ rfl (partL zeroP 66 12).toArray (by kernel_rfl) ?_)
     | (guard_target = Go.wpList _ _ _ ((⟨some 11, .binOp _ _ _ _ _, _, _, _, _⟩ : Go.Oper) :: _) _ _; refine va_pk (op := ⟨some 11, .binOp _ _ _ _ _, _, _, _, _⟩) rfl _ _ rfl p rfl rfl (fun i h1 h2 => HP.out.pock i h1 h2) _ HZ.out ?_)
     | (guard_target = Go.wpList _ _ _ ((⟨some _, .load _ (.tmp 13), _, _, _, _⟩ : Go.Oper) :: _) _ _; refine step_get rfl 23 _ rfl b1 65 rfl Tryz.underlying23 rfl (.int .u64 (p 65)) ?_ ?_; exact HR1.out.cell 65 (by decide)))
    go_ret
    exact ⟨by rw [HS.out]; rfl, HB.out⟩
 ·have g2n : (p 0 != 2) = false := by rw [bne, g2]; rfl
  rw [g2, Bool.not_true, cond_false] at hq
  obtain ⟨m, hm⟩ : ∃ m : Nat, p 65 = (m : Int) := ⟨(p 65).toNat, by have := HP.out.prom.1; omega⟩
  have hmw : m < W64 := by have := HP.out.prom.2; rw [hm] at this; exact this
  have HMw := Lib.hid hmw
  have HM0 := Lib.hid (show (p 65).toNat = m by rw [hm]; rfl)
  have HC65 := Lib.hid (fun (W : World) (b : Nat) (h : Row W b p) => show W.cell? ⟨b, 65, none⟩ = some (.int .u64 (m : Int)) by rw [h.cell 65 (by decide), hm]; rfl)
  have HQ := Lib.hid hq
  clear hm hmw hq
  have HB := Lib.hid (Below.refl w.heap.size w)
  go_enter Tryz.func16, Tryz.ntmps16
  go_wp2_with (first
   | (guard_target = Go.wpList _ _ _ ((⟨some 1, .box _ _, _, _, _, _⟩ : Go.Oper) :: _) _ _; refine step_box rfl _ rfl p rfl ?_; intro b1 w1 N R; have HG1 := Lib.hid (show w.heap.size ≤ b1 by have := HB.out.size; have := N.at_; omega); have HB := Lib.hid (below_on HB.out N.below); have HR1 := Lib.hid R; clear N R)
   | (guard_target = Go.wpList _ _ _ ((⟨some _, .load _ (.tmp 5), _, _, _, _⟩ : Go.Oper) :: _) _ _; refine step_get rfl 5 _ rfl b1 0 rfl Tryz.underlying5 rfl (.int .u8 (p 0)) ?_ ?_; exact HR1.out.cell 0 (by decide)))
  go_loopw [3] (fun i wr => ∃ k : Nat, k ≤ 64 ∧ i = .int .i64 (k : Int) ∧ prmB p k = true ∧ Row wr b1 p ∧ Below w.heap.size w wr) (fun i _ => 64 - (intOf i).toNat)
  case atStart => exact ⟨0, by omega, rfl, rfl, HR1.out, HB.out⟩
  case round =>
   clear HR1 HB
   obtain ⟨k, hk, rfl, hpr, hr1, hb⟩ := hrel
   have HR1 := Lib.hid hr1
   have HB := Lib.hid hb
   have Hi := Lib.hid hpr
   clear hr1 hb hpr
   by_cases hlt : k < 64
   ·have HLt := Lib.hid hlt
    have ga : decide (k < 64) = true := decide_eq_true hlt
    have ga2 : decide ((k : Int) < 64) = true := decide_eq_true (by omega)
    have hx := HP.out.bd k hlt
    obtain ⟨x, hxx⟩ : ∃ x, p (1 + k) = x := ⟨_, rfl⟩
    have HX := Lib.hid hxx
    rw [hxx] at hx
    have HX0 := Lib.hid hx
    obtain ⟨kx, hkx⟩ : ∃ a, kndZ x = a := ⟨_, rfl⟩
    have HKx := Lib.hid hkx
    have hkr := vknd_rng x
    rw [hkx] at hkr
    have hsh := vshr_bit (n := m) (a := k) HMw.out
    obtain ⟨tb, htb⟩ : ∃ b, m.testBit k = b := ⟨_, rfl⟩
    rw [htb] at hsh
    have HS := Lib.hid (show prmB p (k + 1) = (!tb || (decide (2 ≤ kx) && decide (kx ≤ 5))) by rw [prmB_succ, Hi.out, hxx, hkx, HM0.out, htb]; rfl)
    have HF := Lib.hid (fun h : prmB p (k + 1) = false => prmB_no h 64 (by omega))
    clear hxx hkx htb hx
    cases tb
    ·have HE := Lib.hid (show prmB p (k + 1) = true by rw [HS.out]; rfl)
     go_wp2_with (first
      | (guard_target = Go.wpList _ _ _ ((⟨some _, .load _ (.tmp 23), _, _, _, _⟩ : Go.Oper) :: _) _ _; refine step_get rfl 5 _ rfl b1 (1 + k) rfl Tryz.underlying5 rfl (.int .u8 x) ?_ ?_; exact (HR1.out.cell (1 + k) (by have := HLt.out; omega)).trans (by rw [kAt_board (Nat.zero_le _) HLt.out, HX.out]))
      | (go_at_call 29; refine (rkind_any x _ HX0.out.1 HX0.out.2).mono ?_; rintro e w3 ⟨rfl, rfl⟩; rw [HKx.out])
      | (guard_target = Go.wpList _ _ _ ((⟨some _, .load _ (.tmp 26), _, _, _, _⟩ : Go.Oper) :: _) _ _; refine step_get rfl 23 _ rfl b1 65 rfl Tryz.underlying23 rfl (.int .u64 ((m : Nat) : Int)) ?_ ?_; exact HC65.out _ _ HR1.out))
     go_roundw
     case rel => exact ⟨k + 1, by have := HLt.out; omega, by go_num, HE.out, HR1.out, HB.out⟩
     case measure => simp [intOf]; have := HLt.out; omega
    ·by_cases k0 : kx = 0
     ·have b0 : (kx == 0) = true := beq_iff_eq.2 k0
      have HG := Lib.hid (HF.out (by rw [HS.out, k0]; rfl))
      have HS2 := Lib.hid (show pkB p = false by rw [HQ.out, HG.out]; rfl)
      clear hkr k0
      go_wp2_with (first
       | (guard_target = Go.wpList _ _ _ ((⟨some _, .load _ (.tmp 23), _, _, _, _⟩ : Go.Oper) :: _) _ _; refine step_get rfl 5 _ rfl b1 (1 + k) rfl Tryz.underlying5 rfl (.int .u8 x) ?_ ?_; exact (HR1.out.cell (1 + k) (by have := HLt.out; omega)).trans (by rw [kAt_board (Nat.zero_le _) HLt.out, HX.out]))
       | (go_at_call 29; refine (rkind_any x _ HX0.out.1 HX0.out.2).mono ?_; rintro e w3 ⟨rfl, rfl⟩; rw [HKx.out])
       | (guard_target = Go.wpList _ _ _ ((⟨some _, .load _ (.tmp 26), _, _, _, _⟩ : Go.Oper) :: _) _ _; refine step_get rfl 23 _ rfl b1 65 rfl Tryz.underlying23 rfl (.int .u64 ((m : Nat) : Int)) ?_ ?_; exact HC65.out _ _ HR1.out))
      go_ret
      exact ⟨by rw [HS2.out]; rfl, HB.out⟩
     ·have b0 : (kx == 0) = false := beq_eq_false_iff_ne.2 k0
      by_cases k1 : kx = 1
      ·have b1' : (kx == 1) = true := beq_iff_eq.2 k1
       have HG := Lib.hid (HF.out (by rw [HS.out, k1]; rfl))
       have HS2 := Lib.hid (show pkB p = false by rw [HQ.out, HG.out]; rfl)
       clear hkr k0 k1
       go_wp2_with (first
        | (guard_target = Go.wpList _ _ _ ((⟨some _, .load _ (.tmp 23), _, _, _, _⟩ : Go.Oper) :: _) _ _; refine step_get rfl 5 _ rfl b1 (1 + k) rfl Tryz.underlying5 rfl (.int .u8 x) ?_ ?_; exact (HR1.out.cell (1 + k) (by have := HLt.out; omega)).trans (by rw [kAt_board (Nat.zero_le _) HLt.out, HX.out]))
        | (go_at_call 29; refine (rkind_any x _ HX0.out.1 HX0.out.2).mono ?_; rintro e w3 ⟨rfl, rfl⟩; rw [HKx.out])
        | (guard_target = Go.wpList _ _ _ ((⟨some _, .load _ (.tmp 26), _, _, _, _⟩ : Go.Oper) :: _) _ _; refine step_get rfl 23 _ rfl b1 65 rfl Tryz.underlying23 rfl (.int .u64 ((m : Nat) : Int)) ?_ ?_; exact HC65.out _ _ HR1.out))
       go_ret
       exact ⟨by rw [HS2.out]; rfl, HB.out⟩
      ·have b1' : (kx == 1) = false := beq_eq_false_iff_ne.2 k1
       by_cases k6 : kx = 6
       ·have b6 : (kx == 6) = true := beq_iff_eq.2 k6
        have HG := Lib.hid (HF.out (by rw [HS.out, k6]; rfl))
        have HS2 := Lib.hid (show pkB p = false by rw [HQ.out, HG.out]; rfl)
        clear hkr k0 k1 k6
        go_wp2_with (first
         | (guard_target = Go.wpList _ _ _ ((⟨some _, .load _ (.tmp 23), _, _, _, _⟩ : Go.Oper) :: _) _ _; refine step_get rfl 5 _ rfl b1 (1 + k) rfl Tryz.underlying5 rfl (.int .u8 x) ?_ ?_; exact (HR1.out.cell (1 + k) (by have := HLt.out; omega)).trans (by rw [kAt_board (Nat.zero_le _) HLt.out, HX.out]))
         | (go_at_call 29; refine (rkind_any x _ HX0.out.1 HX0.out.2).mono ?_; rintro e w3 ⟨rfl, rfl⟩; rw [HKx.out])
         | (guard_target = Go.wpList _ _ _ ((⟨some _, .load _ (.tmp 26), _, _, _, _⟩ : Go.Oper) :: _) _ _; refine step_get rfl 23 _ rfl b1 65 rfl Tryz.underlying23 rfl (.int .u64 ((m : Nat) : Int)) ?_ ?_; exact HC65.out _ _ HR1.out))
        go_ret
        exact ⟨by rw [HS2.out]; rfl, HB.out⟩
       ·have b6 : (kx == 6) = false := beq_eq_false_iff_ne.2 k6
        have HE := Lib.hid (show prmB p (k + 1) = true by rw [HS.out, decide_eq_true (show 2 ≤ kx by omega), decide_eq_true (show kx ≤ 5 by omega)]; rfl)
        clear hkr k0 k1 k6
        go_wp2_with (first
         | (guard_target = Go.wpList _ _ _ ((⟨some _, .load _ (.tmp 23), _, _, _, _⟩ : Go.Oper) :: _) _ _; refine step_get rfl 5 _ rfl b1 (1 + k) rfl Tryz.underlying5 rfl (.int .u8 x) ?_ ?_; exact (HR1.out.cell (1 + k) (by have := HLt.out; omega)).trans (by rw [kAt_board (Nat.zero_le _) HLt.out, HX.out]))
         | (go_at_call 29; refine (rkind_any x _ HX0.out.1 HX0.out.2).mono ?_; rintro e w3 ⟨rfl, rfl⟩; rw [HKx.out])
         | (guard_target = Go.wpList _ _ _ ((⟨some _, .load _ (.tmp 26), _, _, _, _⟩ : Go.Oper) :: _) _ _; refine step_get rfl 23 _ rfl b1 65 rfl Tryz.underlying23 rfl (.int .u64 ((m : Nat) : Int)) ?_ ?_; exact HC65.out _ _ HR1.out))
        go_roundw
        case rel => exact ⟨k + 1, by have := HLt.out; omega, by go_num, HE.out, HR1.out, HB.out⟩
        case measure => simp [intOf]; have := HLt.out; omega
   ·obtain rfl : k = 64 := by omega
    have hq := HQ.out
    rw [Hi.out, Bool.true_and] at hq
    obtain ⟨n, hn⟩ : ∃ n, mnR p = n := ⟨_, rfl⟩
    rw [hn] at hq
    have HMn := Lib.hid hn
    clear hn
    cases g66 : (p 66 == 0)
    ·have HS2 := Lib.hid (show pkB p = false by rw [hq, g66]; rfl)
     clear hq
     go_wp2_with (first
      | (guard_target = Go.wpList _ _ _ ((⟨some _, .load _ (.tmp 47), _, _, _, _⟩ : Go.Oper) :: _) _ _; refine step_get rfl 5 _ rfl b1 66 rfl Tryz.underlying5 rfl (.int .u8 (p 66)) ?_ ?_; exact HR1.out.cell 66 (by decide)))
     go_ret
     exact ⟨by rw [HS2.out]; rfl, HB.out⟩
    ·cases g72 : (p 72 == 0)
     ·have HS2 := Lib.hid (show pkB p = false by rw [hq, g66, g72]; rfl)
      clear hq
      go_wp2_with (first
       | (guard_target = Go.wpList _ _ _ ((⟨some _, .load _ (.tmp 47), _, _, _, _⟩ : Go.Oper) :: _) _ _; refine step_get rfl 5 _ rfl b1 66 rfl Tryz.underlying5 rfl (.int .u8 (p 66)) ?_ ?_; exact HR1.out.cell 66 (by decide))
       | (guard_target = Go.wpList _ _ _ ((⟨some _, .load _ (.tmp 53), _, _, _, _⟩ : Go.Oper) :: _) _ _; refine step_get rfl 5 _ rfl b1 72 rfl Tryz.underlying5 rfl (.int .u8 (p 72)) ?_ ?_; exact HR1.out.cell 72 (by decide)))
      go_ret
      exact ⟨by rw [HS2.out]; rfl, HB.out⟩
     ·have HS2 := Lib.hid (show pkB p = decide (n ≤ 32) by rw [hq, g66, g72]; rfl)
      clear hq
      go_wp2_with (first
       | (guard_target = Go.wpList _ _ _ ((⟨some _, .load _ (.tmp 47), _, _, _, _⟩ : Go.Oper) :: _) _ _; refine step_get rfl 5 _ rfl b1 66 rfl Tryz.underlying5 rfl (.int .u8 (p 66)) ?_ ?_; exact HR1.out.cell 66 (by decide))
       | (guard_target = Go.wpList _ _ _ ((⟨some _, .load _ (.tmp 53), _, _, _, _⟩ : Go.Oper) :: _) _ _; refine step_get rfl 5 _ rfl b1 72 rfl Tryz.underlying5 rfl (.int .u8 (p 72)) ?_ ?_; exact HR1.out.cell 72 (by decide))
       | (guard_target = Go.wpList _ _ _ ((⟨some _, .load _ (.tmp 1), _, _, _, _⟩ : Go.Oper) :: _) _ _; refine step_load rfl _ rfl b1 rfl p HR1.out ?_)
       | (go_at_call 31; refine (mnK HMn.out _ HP.out).mono ?_; rintro e w3 ⟨rfl, hb⟩; have HR1 := Lib.hid (HR1.out.later hb); have HB := Lib.hid (below_on HB.out hb); clear hb))
      go_ret
      exact ⟨by rw [HS2.out]; rfl, HB.out⟩
end Go.Proofs.YtigkbccpkepdmaaGreatDoor
