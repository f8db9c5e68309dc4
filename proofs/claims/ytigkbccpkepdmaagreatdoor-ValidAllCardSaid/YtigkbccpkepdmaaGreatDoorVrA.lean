/-
 The document's own count, kings, pawns of layer 12.
-/
import Derived.Test.YtigkbccpkepdmaaGreatDoorVrA0
namespace Go.Proofs.YtigkbccpkepdmaaGreatDoor
open Go.RowKit Go.Shelf
set_option linter.unusedVariables false
set_option linter.unusedSimpArgs false
attribute [local go_sem] Oper.semAt_some

set_option maxRecDepth 100000 in
set_option maxHeartbeats 1000000 in
theorem vr_count (p : Nat → Int) (c k : Int) (w : World) (hp : FitP p) : Calls Tryz.prog 30 #[.agg (posA p), .int .u8 c, .int .u8 k] w (IntL (cnR p c k 64 : Nat) w) := by
 have HP := Lib.hid hp
 clear hp
 have HB := Lib.hid (Below.refl w.heap.size w)
 go_enter Tryz.func30, Tryz.ntmps30
 go_wp2_with (first
   | (guard_target = Go.wpList _ _ _ ((⟨some 3, .box _ _, _, _, _, _⟩ : Go.Oper) :: _) _ _; refine step_box rfl _ rfl p rfl ?_; intro b3 w1 N R; have HG3 := Lib.hid (show w.heap.size ≤ b3 by have := HB.out.size; have := N.at_; omega); have HB := Lib.hid (below_on HB.out N.below); have HR3 := Lib.hid R; clear N R))
 go_loopw [7, 8] (fun v i wr => ∃ n : Nat, n ≤ 64 ∧ i = .int .i64 (n : Int) ∧ v = .int .i64 (cnR p c k n : Nat) ∧ Row wr b3 p ∧ Below w.heap.size w wr) (fun _ i _ => 64 - (intOf i).toNat)
 case atStart => exact ⟨0, by omega, rfl, rfl, HR3.out, HB.out⟩
 case round =>
  clear HR3 HB
  obtain ⟨n, hn, rfl, rfl, hr, hb⟩ := hrel
  have HR3 := Lib.hid hr
  have HB := Lib.hid hb
  clear hr hb
  by_cases hlt : n < 64
  ·have HLt := Lib.hid hlt
   have ga : decide (n < 64) = true := decide_eq_true hlt
   have ga2 : decide ((n : Int) < 64) = true := decide_eq_true (by omega)
   have HC := Lib.hid (cnR_succ p c k n)
   obtain ⟨m, hm⟩ : ∃ m, cnR p c k n = m := ⟨_, rfl⟩
   have hm64 : m ≤ n := by rw [← hm]; exact cnR_le p c k n
   rw [hm] at HC ⊢
   cases gi : isB p n c k
   all_goals
    have HIs := Lib.hid gi
    have HC := Lib.hid (by have := HC.out; rw [gi] at this; exact this)
    clear gi hm
    go_wp2_with (first
     | (guard_target = Go.wpList _ _ _ ((⟨some _, .load _ (.tmp 3), _, _, _, _⟩ : Go.Oper) :: _) _ _; refine step_load rfl _ rfl b3 rfl p HR3.out ?_)
     | (go_at_call 34; refine (isK HIs.out HLt.out _ HP.out.bd).mono ?_; rintro e w3 ⟨rfl, hb⟩; have HR3 := Lib.hid (HR3.out.later hb); have HB := Lib.hid (below_on HB.out hb); clear hb))
    go_roundw
    case rel => exact ⟨n + 1, by have := HLt.out; omega, by go_num, by rw [HC.out]; first | rfl | go_num, HR3.out, HB.out⟩
    case measure => simp [intOf]; have := HLt.out; omega
  ·obtain rfl : n = 64 := by omega
   go_wp2_with fail
   go_ret
   exact ⟨rfl, HB.out⟩
set_option maxRecDepth 100000 in
set_option maxHeartbeats 4000000 in
theorem vr_pawns (p : Nat → Int) (w : World) (hp : FitP p) (h9 : p 0 < 9) : Calls Tryz.prog 15 #[.agg (posA p)] w (BoL (pwnB p 64) w) := by
 have HP := Lib.hid hp
 have H9 := Lib.hid h9
 clear hp h9
 have HB := Lib.hid (Below.refl w.heap.size w)
 go_enter Tryz.func15, Tryz.ntmps15
 go_wp2_with (first
   | (guard_target = Go.wpList _ _ _ ((⟨some 1, .box _ _, _, _, _, _⟩ : Go.Oper) :: _) _ _; refine step_box rfl _ rfl p rfl ?_; intro b1 w1 N R; have HG1 := Lib.hid (show w.heap.size ≤ b1 by have := HB.out.size; have := N.at_; omega); have HB := Lib.hid (below_on HB.out N.below); have HR1 := Lib.hid R; clear N R))
 go_loopw [3] (fun i wr => ∃ k : Nat, k ≤ 64 ∧ i = .int .i64 (k : Int) ∧ pwnB p k = true ∧ Row wr b1 p ∧ Below w.heap.size w wr) (fun i _ => 64 - (intOf i).toNat)
 case atStart => exact ⟨0, by omega, rfl, rfl, HR1.out, HB.out⟩
 case round =>
  clear HR1 HB
  obtain ⟨k, hk, rfl, hpw, hr, hb⟩ := hrel
  have HR1 := Lib.hid hr
  have HB := Lib.hid hb
  have HPw := Lib.hid hpw
  clear hr hb hpw
  by_cases hlt : k < 64
  ·have HLt := Lib.hid hlt
   have ga : decide (k < 64) = true := decide_eq_true hlt
   have ga2 : decide ((k : Int) < 64) = true := decide_eq_true (by omega)
   have HS := Lib.hid (show pwnB p (k + 1) = pwR p k by rw [pwnB_succ, HPw.out, Bool.true_and, pwR_is p hlt HP.out.var.1 H9.out])
   have hq : pwR p k = (bif kndZ (p (1 + k)) == 1 then bif (p 0 == 8) || decide (55 < k) then false else bif decide (k < 8) && (!(p 0 == 7) || !(p (1 + k) == 1)) then false else true else true) := rfl
   obtain ⟨kd, hkd⟩ : ∃ kd, kndZ (p (1 + k)) = kd := ⟨_, rfl⟩
   rw [hkd] at hq
   have HKd := Lib.hid hkd
   clear hkd
   cases gk : kd == 1
   ·have gk2 : (kd != 1) = true := by rw [bne, gk]; rfl
    have HQ := Lib.hid (show pwR p k = true by rw [hq, gk]; rfl)
    clear hq gk
    go_wp2_with (first
      | (guard_target = Go.wpList _ _ _ ((⟨some _, .load _ (.tmp 10), _, _, _, _⟩ : Go.Oper) :: _) _ _; refine step_get rfl 5 _ rfl b1 (1 + k) rfl Tryz.underlying5 rfl (.int .u8 (p (1 + k))) ?_ ?_; exact (HR1.out.cell (1 + k) (by have := HLt.out; omega)).trans (by rw [kAt_board (Nat.zero_le _) HLt.out]))
      | (guard_target = Go.wpList _ _ _ ((⟨some _, .load _ (.tmp 30), _, _, _, _⟩ : Go.Oper) :: _) _ _; refine step_get rfl 5 _ rfl b1 (1 + k) rfl Tryz.underlying5 rfl (.int .u8 (p (1 + k))) ?_ ?_; exact (HR1.out.cell (1 + k) (by have := HLt.out; omega)).trans (by rw [kAt_board (Nat.zero_le _) HLt.out]))
      | (go_at_call 29; refine (rkind_any _ _ (HP.out.bd k HLt.out).1 (HP.out.bd k HLt.out).2).mono ?_; rintro e w3 ⟨rfl, rfl⟩; rw [HKd.out])
      | (guard_target = Go.wpList _ _ _ ((⟨some _, .load _ (.tmp 14), _, _, _, _⟩ : Go.Oper) :: _) _ _; refine step_get rfl 5 _ rfl b1 0 rfl Tryz.underlying5 rfl (.int .u8 (p 0)) ?_ ?_; exact HR1.out.cell 0 (by decide))
      | (guard_target = Go.wpList _ _ _ ((⟨some _, .load _ (.tmp 24), _, _, _, _⟩ : Go.Oper) :: _) _ _; refine step_get rfl 5 _ rfl b1 0 rfl Tryz.underlying5 rfl (.int .u8 (p 0)) ?_ ?_; exact HR1.out.cell 0 (by decide)))
    go_roundw
    case rel => exact ⟨k + 1, by have := HLt.out; omega, by go_num, by rw [HS.out, HQ.out], HR1.out, HB.out⟩
    case measure => simp [intOf]; have := HLt.out; omega
   ·have gk2 : (kd != 1) = false := by rw [bne, gk]; rfl
    rw [gk, cond_true] at hq
    clear gk
    cases g8 : p 0 == 8
    ·rw [g8, Bool.false_or] at hq
     cases g55 : decide (55 < k)
     ·have g55i : decide (55 < (k : Int)) = false := by rw [← g55]; exact decide_eq_decide.2 (by omega)
      rw [g55, cond_false] at hq
      cases g0 : decide (k < 8)
      ·have g0i : decide ((k : Int) < 8) = false := by rw [← g0]; exact decide_eq_decide.2 (by omega)
       have HQ := Lib.hid (show pwR p k = true by rw [hq, g0]; rfl)
       clear hq
       go_wp2_with (first
      | (guard_target = Go.wpList _ _ _ ((⟨some _, .load _ (.tmp 10), _, _, _, _⟩ : Go.Oper) :: _) _ _; refine step_get rfl 5 _ rfl b1 (1 + k) rfl Tryz.underlying5 rfl (.int .u8 (p (1 + k))) ?_ ?_; exact (HR1.out.cell (1 + k) (by have := HLt.out; omega)).trans (by rw [kAt_board (Nat.zero_le _) HLt.out]))
      | (guard_target = Go.wpList _ _ _ ((⟨some _, .load _ (.tmp 30), _, _, _, _⟩ : Go.Oper) :: _) _ _; refine step_get rfl 5 _ rfl b1 (1 + k) rfl Tryz.underlying5 rfl (.int .u8 (p (1 + k))) ?_ ?_; exact (HR1.out.cell (1 + k) (by have := HLt.out; omega)).trans (by rw [kAt_board (Nat.zero_le _) HLt.out]))
      | (go_at_call 29; refine (rkind_any _ _ (HP.out.bd k HLt.out).1 (HP.out.bd k HLt.out).2).mono ?_; rintro e w3 ⟨rfl, rfl⟩; rw [HKd.out])
      | (guard_target = Go.wpList _ _ _ ((⟨some _, .load _ (.tmp 14), _, _, _, _⟩ : Go.Oper) :: _) _ _; refine step_get rfl 5 _ rfl b1 0 rfl Tryz.underlying5 rfl (.int .u8 (p 0)) ?_ ?_; exact HR1.out.cell 0 (by decide))
      | (guard_target = Go.wpList _ _ _ ((⟨some _, .load _ (.tmp 24), _, _, _, _⟩ : Go.Oper) :: _) _ _; refine step_get rfl 5 _ rfl b1 0 rfl Tryz.underlying5 rfl (.int .u8 (p 0)) ?_ ?_; exact HR1.out.cell 0 (by decide)))
       go_roundw
       case rel => exact ⟨k + 1, by have := HLt.out; omega, by go_num, by rw [HS.out, HQ.out], HR1.out, HB.out⟩
       case measure => simp [intOf]; have := HLt.out; omega
      ·have g0i : decide ((k : Int) < 8) = true := by rw [← g0]; exact decide_eq_decide.2 (by omega)
       rw [g0, Bool.true_and] at hq
       cases g7 : p 0 == 7
       ·have g7i : (p 0 != 7) = true := by rw [bne, g7]; rfl
        have HQ := Lib.hid (show pwR p k = false by rw [hq, g7]; rfl)
        clear hq g7
        have HF := Lib.hid (show pwnB p 64 = false from pwnB_no (by rw [HS.out, HQ.out]) 64 (by have := HLt.out; omega))
        go_wp2_with (first
      | (guard_target = Go.wpList _ _ _ ((⟨some _, .load _ (.tmp 10), _, _, _, _⟩ : Go.Oper) :: _) _ _; refine step_get rfl 5 _ rfl b1 (1 + k) rfl Tryz.underlying5 rfl (.int .u8 (p (1 + k))) ?_ ?_; exact (HR1.out.cell (1 + k) (by have := HLt.out; omega)).trans (by rw [kAt_board (Nat.zero_le _) HLt.out]))
      | (guard_target = Go.wpList _ _ _ ((⟨some _, .load _ (.tmp 30), _, _, _, _⟩ : Go.Oper) :: _) _ _; refine step_get rfl 5 _ rfl b1 (1 + k) rfl Tryz.underlying5 rfl (.int .u8 (p (1 + k))) ?_ ?_; exact (HR1.out.cell (1 + k) (by have := HLt.out; omega)).trans (by rw [kAt_board (Nat.zero_le _) HLt.out]))
      | (go_at_call 29; refine (rkind_any _ _ (HP.out.bd k HLt.out).1 (HP.out.bd k HLt.out).2).mono ?_; rintro e w3 ⟨rfl, rfl⟩; rw [HKd.out])
      | (guard_target = Go.wpList _ _ _ ((⟨some _, .load _ (.tmp 14), _, _, _, _⟩ : Go.Oper) :: _) _ _; refine step_get rfl 5 _ rfl b1 0 rfl Tryz.underlying5 rfl (.int .u8 (p 0)) ?_ ?_; exact HR1.out.cell 0 (by decide))
      | (guard_target = Go.wpList _ _ _ ((⟨some _, .load _ (.tmp 24), _, _, _, _⟩ : Go.Oper) :: _) _ _; refine step_get rfl 5 _ rfl b1 0 rfl Tryz.underlying5 rfl (.int .u8 (p 0)) ?_ ?_; exact HR1.out.cell 0 (by decide)))
        go_ret
        exact ⟨by rw [HF.out]; rfl, HB.out⟩
       ·have g7i : (p 0 != 7) = false := by rw [bne, g7]; rfl
        rw [g7] at hq
        clear g7
        cases gx : p (1 + k) == 1
        ·have gxi : (p (1 + k) != 1) = true := by rw [bne, gx]; rfl
         have HQ := Lib.hid (show pwR p k = false by rw [hq, gx]; rfl)
         clear hq gx
         have HF := Lib.hid (show pwnB p 64 = false from pwnB_no (by rw [HS.out, HQ.out]) 64 (by have := HLt.out; omega))
         go_wp2_with (first
      | (guard_target = Go.wpList _ _ _ ((⟨some _, .load _ (.tmp 10), _, _, _, _⟩ : Go.Oper) :: _) _ _; refine step_get rfl 5 _ rfl b1 (1 + k) rfl Tryz.underlying5 rfl (.int .u8 (p (1 + k))) ?_ ?_; exact (HR1.out.cell (1 + k) (by have := HLt.out; omega)).trans (by rw [kAt_board (Nat.zero_le _) HLt.out]))
      | (guard_target = Go.wpList _ _ _ ((⟨some _, .load _ (.tmp 30), _, _, _, _⟩ : Go.Oper) :: _) _ _; refine step_get rfl 5 _ rfl b1 (1 + k) rfl Tryz.underlying5 rfl (.int .u8 (p (1 + k))) ?_ ?_; exact (HR1.out.cell (1 + k) (by have := HLt.out; omega)).trans (by rw [kAt_board (Nat.zero_le _) HLt.out]))
      | (go_at_call 29; refine (rkind_any _ _ (HP.out.bd k HLt.out).1 (HP.out.bd k HLt.out).2).mono ?_; rintro e w3 ⟨rfl, rfl⟩; rw [HKd.out])
      | (guard_target = Go.wpList _ _ _ ((⟨some _, .load _ (.tmp 14), _, _, _, _⟩ : Go.Oper) :: _) _ _; refine step_get rfl 5 _ rfl b1 0 rfl Tryz.underlying5 rfl (.int .u8 (p 0)) ?_ ?_; exact HR1.out.cell 0 (by decide))
      | (guard_target = Go.wpList _ _ _ ((⟨some _, .load _ (.tmp 24), _, _, _, _⟩ : Go.Oper) :: _) _ _; refine step_get rfl 5 _ rfl b1 0 rfl Tryz.underlying5 rfl (.int .u8 (p 0)) ?_ ?_; exact HR1.out.cell 0 (by decide)))
         go_ret
         exact ⟨by rw [HF.out]; rfl, HB.out⟩
        ·have gxi : (p (1 + k) != 1) = false := by rw [bne, gx]; rfl
         have HQ := Lib.hid (show pwR p k = true by rw [hq, gx]; rfl)
         clear hq gx
         go_wp2_with (first
      | (guard_target = Go.wpList _ _ _ ((⟨some _, .load _ (.tmp 10), _, _, _, _⟩ : Go.Oper) :: _) _ _; refine step_get rfl 5 _ rfl b1 (1 + k) rfl Tryz.underlying5 rfl (.int .u8 (p (1 + k))) ?_ ?_; exact (HR1.out.cell (1 + k) (by have := HLt.out; omega)).trans (by rw [kAt_board (Nat.zero_le _) HLt.out]))
      | (guard_target = Go.wpList _ _ _ ((⟨some _, .load _ (.tmp 30), _, _, _, _⟩ : Go.Oper) :: _) _ _; refine step_get rfl 5 _ rfl b1 (1 + k) rfl Tryz.underlying5 rfl (.int .u8 (p (1 + k))) ?_ ?_; exact (HR1.out.cell (1 + k) (by have := HLt.out; omega)).trans (by rw [kAt_board (Nat.zero_le _) HLt.out]))
      | (go_at_call 29; refine (rkind_any _ _ (HP.out.bd k HLt.out).1 (HP.out.bd k HLt.out).2).mono ?_; rintro e w3 ⟨rfl, rfl⟩; rw [HKd.out])
      | (guard_target = Go.wpList _ _ _ ((⟨some _, .load _ (.tmp 14), _, _, _, _⟩ : Go.Oper) :: _) _ _; refine step_get rfl 5 _ rfl b1 0 rfl Tryz.underlying5 rfl (.int .u8 (p 0)) ?_ ?_; exact HR1.out.cell 0 (by decide))
      | (guard_target = Go.wpList _ _ _ ((⟨some _, .load _ (.tmp 24), _, _, _, _⟩ : Go.Oper) :: _) _ _; refine step_get rfl 5 _ rfl b1 0 rfl Tryz.underlying5 rfl (.int .u8 (p 0)) ?_ ?_; exact HR1.out.cell 0 (by decide)))
         go_roundw
         case rel => exact ⟨k + 1, by have := HLt.out; omega, by go_num, by rw [HS.out, HQ.out], HR1.out, HB.out⟩
         case measure => simp [intOf]; have := HLt.out; omega
     ·have g55i : decide (55 < (k : Int)) = true := by rw [← g55]; exact decide_eq_decide.2 (by omega)
      have HQ := Lib.hid (show pwR p k = false by rw [hq, g55]; rfl)
      clear hq
      have HF := Lib.hid (show pwnB p 64 = false from pwnB_no (by rw [HS.out, HQ.out]) 64 (by have := HLt.out; omega))
      go_wp2_with (first
      | (guard_target = Go.wpList _ _ _ ((⟨some _, .load _ (.tmp 10), _, _, _, _⟩ : Go.Oper) :: _) _ _; refine step_get rfl 5 _ rfl b1 (1 + k) rfl Tryz.underlying5 rfl (.int .u8 (p (1 + k))) ?_ ?_; exact (HR1.out.cell (1 + k) (by have := HLt.out; omega)).trans (by rw [kAt_board (Nat.zero_le _) HLt.out]))
      | (guard_target = Go.wpList _ _ _ ((⟨some _, .load _ (.tmp 30), _, _, _, _⟩ : Go.Oper) :: _) _ _; refine step_get rfl 5 _ rfl b1 (1 + k) rfl Tryz.underlying5 rfl (.int .u8 (p (1 + k))) ?_ ?_; exact (HR1.out.cell (1 + k) (by have := HLt.out; omega)).trans (by rw [kAt_board (Nat.zero_le _) HLt.out]))
      | (go_at_call 29; refine (rkind_any _ _ (HP.out.bd k HLt.out).1 (HP.out.bd k HLt.out).2).mono ?_; rintro e w3 ⟨rfl, rfl⟩; rw [HKd.out])
      | (guard_target = Go.wpList _ _ _ ((⟨some _, .load _ (.tmp 14), _, _, _, _⟩ : Go.Oper) :: _) _ _; refine step_get rfl 5 _ rfl b1 0 rfl Tryz.underlying5 rfl (.int .u8 (p 0)) ?_ ?_; exact HR1.out.cell 0 (by decide))
      | (guard_target = Go.wpList _ _ _ ((⟨some _, .load _ (.tmp 24), _, _, _, _⟩ : Go.Oper) :: _) _ _; refine step_get rfl 5 _ rfl b1 0 rfl Tryz.underlying5 rfl (.int .u8 (p 0)) ?_ ?_; exact HR1.out.cell 0 (by decide)))
      go_ret
      exact ⟨by rw [HF.out]; rfl, HB.out⟩
    ·have HQ := Lib.hid (show pwR p k = false by rw [hq, g8]; rfl)
     clear hq
     have HF := Lib.hid (show pwnB p 64 = false from pwnB_no (by rw [HS.out, HQ.out]) 64 (by have := HLt.out; omega))
     go_wp2_with (first
      | (guard_target = Go.wpList _ _ _ ((⟨some _, .load _ (.tmp 10), _, _, _, _⟩ : Go.Oper) :: _) _ _; refine step_get rfl 5 _ rfl b1 (1 + k) rfl Tryz.underlying5 rfl (.int .u8 (p (1 + k))) ?_ ?_; exact (HR1.out.cell (1 + k) (by have := HLt.out; omega)).trans (by rw [kAt_board (Nat.zero_le _) HLt.out]))
      | (guard_target = Go.wpList _ _ _ ((⟨some _, .load _ (.tmp 30), _, _, _, _⟩ : Go.Oper) :: _) _ _; refine step_get rfl 5 _ rfl b1 (1 + k) rfl Tryz.underlying5 rfl (.int .u8 (p (1 + k))) ?_ ?_; exact (HR1.out.cell (1 + k) (by have := HLt.out; omega)).trans (by rw [kAt_board (Nat.zero_le _) HLt.out]))
      | (go_at_call 29; refine (rkind_any _ _ (HP.out.bd k HLt.out).1 (HP.out.bd k HLt.out).2).mono ?_; rintro e w3 ⟨rfl, rfl⟩; rw [HKd.out])
      | (guard_target = Go.wpList _ _ _ ((⟨some _, .load _ (.tmp 14), _, _, _, _⟩ : Go.Oper) :: _) _ _; refine step_get rfl 5 _ rfl b1 0 rfl Tryz.underlying5 rfl (.int .u8 (p 0)) ?_ ?_; exact HR1.out.cell 0 (by decide))
      | (guard_target = Go.wpList _ _ _ ((⟨some _, .load _ (.tmp 24), _, _, _, _⟩ : Go.Oper) :: _) _ _; refine step_get rfl 5 _ rfl b1 0 rfl Tryz.underlying5 rfl (.int .u8 (p 0)) ?_ ?_; exact HR1.out.cell 0 (by decide)))
     go_ret
     exact ⟨by rw [HF.out]; rfl, HB.out⟩
  ·obtain rfl : k = 64 := by omega
   go_wp2_with fail
   go_ret
   exact ⟨by rw [HPw.out]; rfl, HB.out⟩
theorem cnK {p : Nat → Int} {c k : Int} {n : Nat} (h : cnR p c k 64 = n) (w : World) (hp : FitP p) : Calls Tryz.prog 30 #[.agg (posA p), .int .u8 c, .int .u8 k] w (IntL (n : Nat) w) := h ▸ vr_count p c k w hp
set_option maxRecDepth 100000 in
set_option maxHeartbeats 8000000 in
theorem vr_kings (p : Nat → Int) (w : World) (hp : FitP p) : Calls Tryz.prog 14 #[.agg (posA p)] w (BoL (kgB p) w) := by
 have HP := Lib.hid hp
 clear hp
 have HB := Lib.hid (Below.refl w.heap.size w)
 go_enter Tryz.func14, Tryz.ntmps14
 go_wp2_with (first
   | (guard_target = Go.wpList _ _ _ ((⟨some 1, .box _ _, _, _, _, _⟩ : Go.Oper) :: _) _ _; refine step_box rfl _ rfl p rfl ?_; intro b1 w1 N R; have HG1 := Lib.hid (show w.heap.size ≤ b1 by have := HB.out.size; have := N.at_; omega); have HB := Lib.hid (below_on HB.out N.below); have HR1 := Lib.hid R; clear N R))
 go_loopw [3] (fun i wr => (i = .int .u8 0 ∧ Row wr b1 p ∧ Below w.heap.size w wr) ∨ (i = .int .u8 1 ∧ kmB p 0 = true ∧ Row wr b1 p ∧ Below w.heap.size w wr) ∨ (i = .int .u8 2 ∧ kmB p 0 = true ∧ kmB p 1 = true ∧ Row wr b1 p ∧ Below w.heap.size w wr)) (fun i _ => 2 - (intOf i).toNat)
 case atStart => exact .inl ⟨rfl, HR1.out, HB.out⟩
 case round =>
 clear HR1 HB
 rcases hrel with ⟨rfl, hr, hb⟩ | ⟨rfl, hk0, hr, hb⟩ | ⟨rfl, hk0, hk1, hr, hb⟩
 ·have HR1 := Lib.hid hr
  have HB := Lib.hid hb
  clear hr hb
  obtain ⟨n, hcn⟩ : ∃ n, cnR p 0 6 64 = n := ⟨_, rfl⟩
  have hq : kgR p 0 = (bif p 0 == 4 then true else bif p 0 == 7 then !decide (0 < n) else bif (n == 0) && ((p 0 == 3) && ((0 : Int) == p 78)) then true else n == 1) := by unfold kgR; rw [show ((0 : Int) == 0) = true from rfl, Bool.and_true, hcn]
  have HCn := Lib.hid hcn
  have hn64 : n ≤ 64 := by rw [← hcn]; exact cnR_le p 0 6 64
  clear hcn
  cases g4 : p 0 == 4
  ·skip
   cases g7 : p 0 == 7
   ·skip
    cases gn0 : (n : Int) == 0
    ·skip
     have gn0n : (n == 0) = false := by rw [beq_eq_false_iff_ne] at gn0 ⊢; omega
     cases gn1 : (n : Int) == 1
     ·skip
      have gn1i : ((n : Int) != 1) = true := by rw [bne, gn1]; rfl
      have gn1n : (n == 1) = false := by rw [beq_eq_false_iff_ne] at gn1 ⊢; omega
      have HF := Lib.hid (show kgB p = false by unfold kgB; rw [← kgR_is p 0, hq, g4, g7, gn0n, gn1n]; simp)
      go_wp2_with (first
      | (guard_target = Go.wpList _ _ _ ((⟨some _, .load _ (.tmp 1), _, _, _, _⟩ : Go.Oper) :: _) _ _; refine step_load rfl _ rfl b1 rfl p HR1.out ?_)
      | (go_at_call 30; refine (cnK HCn.out _ HP.out).mono ?_; rintro e w3 ⟨rfl, hb⟩; have HR1 := Lib.hid (HR1.out.later hb); have HB := Lib.hid (below_on HB.out hb); clear hb)
      | (guard_target = Go.wpList _ _ _ ((⟨some _, .load _ (.tmp 13), _, _, _, _⟩ : Go.Oper) :: _) _ _; refine step_get rfl 5 _ rfl b1 0 rfl Tryz.underlying5 rfl (.int .u8 (p 0)) ?_ ?_; exact HR1.out.cell 0 (by decide))
      | (guard_target = Go.wpList _ _ _ ((⟨some _, .load _ (.tmp 17), _, _, _, _⟩ : Go.Oper) :: _) _ _; refine step_get rfl 5 _ rfl b1 0 rfl Tryz.underlying5 rfl (.int .u8 (p 0)) ?_ ?_; exact HR1.out.cell 0 (by decide))
      | (guard_target = Go.wpList _ _ _ ((⟨some _, .load _ (.tmp 30), _, _, _, _⟩ : Go.Oper) :: _) _ _; refine step_get rfl 5 _ rfl b1 0 rfl Tryz.underlying5 rfl (.int .u8 (p 0)) ?_ ?_; exact HR1.out.cell 0 (by decide))
      | (guard_target = Go.wpList _ _ _ ((⟨some _, .load _ (.tmp 36), _, _, _, _⟩ : Go.Oper) :: _) _ _; refine step_get rfl 5 _ rfl b1 78 rfl Tryz.underlying5 rfl (.int .u8 (p 78)) ?_ ?_; exact HR1.out.cell 78 (by decide)))
      go_ret
      exact ⟨by rw [HF.out]; rfl, HB.out⟩
     ·skip
      have gn1i : ((n : Int) != 1) = false := by rw [bne, gn1]; rfl
      have gn1n : (n == 1) = true := by rw [beq_iff_eq] at gn1 ⊢; omega
      have HQ := Lib.hid (show kmB p 0 = true by rw [← kgR_is p 0, hq, g4, g7, gn0n, gn1n]; simp)
      go_wp2_with (first
      | (guard_target = Go.wpList _ _ _ ((⟨some _, .load _ (.tmp 1), _, _, _, _⟩ : Go.Oper) :: _) _ _; refine step_load rfl _ rfl b1 rfl p HR1.out ?_)
      | (go_at_call 30; refine (cnK HCn.out _ HP.out).mono ?_; rintro e w3 ⟨rfl, hb⟩; have HR1 := Lib.hid (HR1.out.later hb); have HB := Lib.hid (below_on HB.out hb); clear hb)
      | (guard_target = Go.wpList _ _ _ ((⟨some _, .load _ (.tmp 13), _, _, _, _⟩ : Go.Oper) :: _) _ _; refine step_get rfl 5 _ rfl b1 0 rfl Tryz.underlying5 rfl (.int .u8 (p 0)) ?_ ?_; exact HR1.out.cell 0 (by decide))
      | (guard_target = Go.wpList _ _ _ ((⟨some _, .load _ (.tmp 17), _, _, _, _⟩ : Go.Oper) :: _) _ _; refine step_get rfl 5 _ rfl b1 0 rfl Tryz.underlying5 rfl (.int .u8 (p 0)) ?_ ?_; exact HR1.out.cell 0 (by decide))
      | (guard_target = Go.wpList _ _ _ ((⟨some _, .load _ (.tmp 30), _, _, _, _⟩ : Go.Oper) :: _) _ _; refine step_get rfl 5 _ rfl b1 0 rfl Tryz.underlying5 rfl (.int .u8 (p 0)) ?_ ?_; exact HR1.out.cell 0 (by decide))
      | (guard_target = Go.wpList _ _ _ ((⟨some _, .load _ (.tmp 36), _, _, _, _⟩ : Go.Oper) :: _) _ _; refine step_get rfl 5 _ rfl b1 78 rfl Tryz.underlying5 rfl (.int .u8 (p 78)) ?_ ?_; exact HR1.out.cell 78 (by decide)))
      go_roundw
      case rel => exact .inr (.inl ⟨rfl, HQ.out, HR1.out, HB.out⟩)
      case measure => simp [intOf]
    ·skip
     have gn0n : (n == 0) = true := by rw [beq_iff_eq] at gn0 ⊢; omega
     cases g3 : p 0 == 3
     ·skip
      have gn1 : ((n : Int) != 1) = true := by rw [beq_iff_eq] at gn0; rw [gn0]; rfl
      have gn1n : (n == 1) = false := by rw [beq_iff_eq] at gn0; rw [beq_eq_false_iff_ne]; omega
      have HF := Lib.hid (show kgB p = false by unfold kgB; rw [← kgR_is p 0, hq, g4, g7, gn0n, g3, gn1n]; simp)
      go_wp2_with (first
      | (guard_target = Go.wpList _ _ _ ((⟨some _, .load _ (.tmp 1), _, _, _, _⟩ : Go.Oper) :: _) _ _; refine step_load rfl _ rfl b1 rfl p HR1.out ?_)
      | (go_at_call 30; refine (cnK HCn.out _ HP.out).mono ?_; rintro e w3 ⟨rfl, hb⟩; have HR1 := Lib.hid (HR1.out.later hb); have HB := Lib.hid (below_on HB.out hb); clear hb)
      | (guard_target = Go.wpList _ _ _ ((⟨some _, .load _ (.tmp 13), _, _, _, _⟩ : Go.Oper) :: _) _ _; refine step_get rfl 5 _ rfl b1 0 rfl Tryz.underlying5 rfl (.int .u8 (p 0)) ?_ ?_; exact HR1.out.cell 0 (by decide))
      | (guard_target = Go.wpList _ _ _ ((⟨some _, .load _ (.tmp 17), _, _, _, _⟩ : Go.Oper) :: _) _ _; refine step_get rfl 5 _ rfl b1 0 rfl Tryz.underlying5 rfl (.int .u8 (p 0)) ?_ ?_; exact HR1.out.cell 0 (by decide))
      | (guard_target = Go.wpList _ _ _ ((⟨some _, .load _ (.tmp 30), _, _, _, _⟩ : Go.Oper) :: _) _ _; refine step_get rfl 5 _ rfl b1 0 rfl Tryz.underlying5 rfl (.int .u8 (p 0)) ?_ ?_; exact HR1.out.cell 0 (by decide))
      | (guard_target = Go.wpList _ _ _ ((⟨some _, .load _ (.tmp 36), _, _, _, _⟩ : Go.Oper) :: _) _ _; refine step_get rfl 5 _ rfl b1 78 rfl Tryz.underlying5 rfl (.int .u8 (p 78)) ?_ ?_; exact HR1.out.cell 78 (by decide)))
      go_ret
      exact ⟨by rw [HF.out]; rfl, HB.out⟩
     ·skip
      cases gt : (0 : Int) == p 78
      ·skip
       have gn1 : ((n : Int) != 1) = true := by rw [beq_iff_eq] at gn0; rw [gn0]; rfl
       have gn1n : (n == 1) = false := by rw [beq_iff_eq] at gn0; rw [beq_eq_false_iff_ne]; omega
       have HF := Lib.hid (show kgB p = false by unfold kgB; rw [← kgR_is p 0, hq, g4, g7, gn0n, g3, gt, gn1n]; simp)
       go_wp2_with (first
      | (guard_target = Go.wpList _ _ _ ((⟨some _, .load _ (.tmp 1), _, _, _, _⟩ : Go.Oper) :: _) _ _; refine step_load rfl _ rfl b1 rfl p HR1.out ?_)
      | (go_at_call 30; refine (cnK HCn.out _ HP.out).mono ?_; rintro e w3 ⟨rfl, hb⟩; have HR1 := Lib.hid (HR1.out.later hb); have HB := Lib.hid (below_on HB.out hb); clear hb)
      | (guard_target = Go.wpList _ _ _ ((⟨some _, .load _ (.tmp 13), _, _, _, _⟩ : Go.Oper) :: _) _ _; refine step_get rfl 5 _ rfl b1 0 rfl Tryz.underlying5 rfl (.int .u8 (p 0)) ?_ ?_; exact HR1.out.cell 0 (by decide))
      | (guard_target = Go.wpList _ _ _ ((⟨some _, .load _ (.tmp 17), _, _, _, _⟩ : Go.Oper) :: _) _ _; refine step_get rfl 5 _ rfl b1 0 rfl Tryz.underlying5 rfl (.int .u8 (p 0)) ?_ ?_; exact HR1.out.cell 0 (by decide))
      | (guard_target = Go.wpList _ _ _ ((⟨some _, .load _ (.tmp 30), _, _, _, _⟩ : Go.Oper) :: _) _ _; refine step_get rfl 5 _ rfl b1 0 rfl Tryz.underlying5 rfl (.int .u8 (p 0)) ?_ ?_; exact HR1.out.cell 0 (by decide))
      | (guard_target = Go.wpList _ _ _ ((⟨some _, .load _ (.tmp 36), _, _, _, _⟩ : Go.Oper) :: _) _ _; refine step_get rfl 5 _ rfl b1 78 rfl Tryz.underlying5 rfl (.int .u8 (p 78)) ?_ ?_; exact HR1.out.cell 78 (by decide)))
       go_ret
       exact ⟨by rw [HF.out]; rfl, HB.out⟩
      ·skip
       have HQ := Lib.hid (show kmB p 0 = true by rw [← kgR_is p 0, hq, g4, g7, gn0n, g3, gt]; simp)
       go_wp2_with (first
      | (guard_target = Go.wpList _ _ _ ((⟨some _, .load _ (.tmp 1), _, _, _, _⟩ : Go.Oper) :: _) _ _; refine step_load rfl _ rfl b1 rfl p HR1.out ?_)
      | (go_at_call 30; refine (cnK HCn.out _ HP.out).mono ?_; rintro e w3 ⟨rfl, hb⟩; have HR1 := Lib.hid (HR1.out.later hb); have HB := Lib.hid (below_on HB.out hb); clear hb)
      | (guard_target = Go.wpList _ _ _ ((⟨some _, .load _ (.tmp 13), _, _, _, _⟩ : Go.Oper) :: _) _ _; refine step_get rfl 5 _ rfl b1 0 rfl Tryz.underlying5 rfl (.int .u8 (p 0)) ?_ ?_; exact HR1.out.cell 0 (by decide))
      | (guard_target = Go.wpList _ _ _ ((⟨some _, .load _ (.tmp 17), _, _, _, _⟩ : Go.Oper) :: _) _ _; refine step_get rfl 5 _ rfl b1 0 rfl Tryz.underlying5 rfl (.int .u8 (p 0)) ?_ ?_; exact HR1.out.cell 0 (by decide))
      | (guard_target = Go.wpList _ _ _ ((⟨some _, .load _ (.tmp 30), _, _, _, _⟩ : Go.Oper) :: _) _ _; refine step_get rfl 5 _ rfl b1 0 rfl Tryz.underlying5 rfl (.int .u8 (p 0)) ?_ ?_; exact HR1.out.cell 0 (by decide))
      | (guard_target = Go.wpList _ _ _ ((⟨some _, .load _ (.tmp 36), _, _, _, _⟩ : Go.Oper) :: _) _ _; refine step_get rfl 5 _ rfl b1 78 rfl Tryz.underlying5 rfl (.int .u8 (p 78)) ?_ ?_; exact HR1.out.cell 78 (by decide)))
       go_roundw
       case rel => exact .inr (.inl ⟨rfl, HQ.out, HR1.out, HB.out⟩)
       case measure => simp [intOf]
   ·skip
    cases gp : decide (0 < n)
    ·skip
     have gpi : decide (0 < (n : Int)) = false := by rw [← gp]; exact decide_eq_decide.2 (by omega)
     have HQ := Lib.hid (show kmB p 0 = true by rw [← kgR_is p 0, hq, g4, g7, gp]; simp)
     go_wp2_with (first
      | (guard_target = Go.wpList _ _ _ ((⟨some _, .load _ (.tmp 1), _, _, _, _⟩ : Go.Oper) :: _) _ _; refine step_load rfl _ rfl b1 rfl p HR1.out ?_)
      | (go_at_call 30; refine (cnK HCn.out _ HP.out).mono ?_; rintro e w3 ⟨rfl, hb⟩; have HR1 := Lib.hid (HR1.out.later hb); have HB := Lib.hid (below_on HB.out hb); clear hb)
      | (guard_target = Go.wpList _ _ _ ((⟨some _, .load _ (.tmp 13), _, _, _, _⟩ : Go.Oper) :: _) _ _; refine step_get rfl 5 _ rfl b1 0 rfl Tryz.underlying5 rfl (.int .u8 (p 0)) ?_ ?_; exact HR1.out.cell 0 (by decide))
      | (guard_target = Go.wpList _ _ _ ((⟨some _, .load _ (.tmp 17), _, _, _, _⟩ : Go.Oper) :: _) _ _; refine step_get rfl 5 _ rfl b1 0 rfl Tryz.underlying5 rfl (.int .u8 (p 0)) ?_ ?_; exact HR1.out.cell 0 (by decide))
      | (guard_target = Go.wpList _ _ _ ((⟨some _, .load _ (.tmp 30), _, _, _, _⟩ : Go.Oper) :: _) _ _; refine step_get rfl 5 _ rfl b1 0 rfl Tryz.underlying5 rfl (.int .u8 (p 0)) ?_ ?_; exact HR1.out.cell 0 (by decide))
      | (guard_target = Go.wpList _ _ _ ((⟨some _, .load _ (.tmp 36), _, _, _, _⟩ : Go.Oper) :: _) _ _; refine step_get rfl 5 _ rfl b1 78 rfl Tryz.underlying5 rfl (.int .u8 (p 78)) ?_ ?_; exact HR1.out.cell 78 (by decide)))
     go_roundw
     case rel => exact .inr (.inl ⟨rfl, HQ.out, HR1.out, HB.out⟩)
     case measure => simp [intOf]
    ·skip
     have gpi : decide (0 < (n : Int)) = true := by rw [← gp]; exact decide_eq_decide.2 (by omega)
     have HF := Lib.hid (show kgB p = false by unfold kgB; rw [← kgR_is p 0, hq, g4, g7, gp]; simp)
     go_wp2_with (first
      | (guard_target = Go.wpList _ _ _ ((⟨some _, .load _ (.tmp 1), _, _, _, _⟩ : Go.Oper) :: _) _ _; refine step_load rfl _ rfl b1 rfl p HR1.out ?_)
      | (go_at_call 30; refine (cnK HCn.out _ HP.out).mono ?_; rintro e w3 ⟨rfl, hb⟩; have HR1 := Lib.hid (HR1.out.later hb); have HB := Lib.hid (below_on HB.out hb); clear hb)
      | (guard_target = Go.wpList _ _ _ ((⟨some _, .load _ (.tmp 13), _, _, _, _⟩ : Go.Oper) :: _) _ _; refine step_get rfl 5 _ rfl b1 0 rfl Tryz.underlying5 rfl (.int .u8 (p 0)) ?_ ?_; exact HR1.out.cell 0 (by decide))
      | (guard_target = Go.wpList _ _ _ ((⟨some _, .load _ (.tmp 17), _, _, _, _⟩ : Go.Oper) :: _) _ _; refine step_get rfl 5 _ rfl b1 0 rfl Tryz.underlying5 rfl (.int .u8 (p 0)) ?_ ?_; exact HR1.out.cell 0 (by decide))
      | (guard_target = Go.wpList _ _ _ ((⟨some _, .load _ (.tmp 30), _, _, _, _⟩ : Go.Oper) :: _) _ _; refine step_get rfl 5 _ rfl b1 0 rfl Tryz.underlying5 rfl (.int .u8 (p 0)) ?_ ?_; exact HR1.out.cell 0 (by decide))
      | (guard_target = Go.wpList _ _ _ ((⟨some _, .load _ (.tmp 36), _, _, _, _⟩ : Go.Oper) :: _) _ _; refine step_get rfl 5 _ rfl b1 78 rfl Tryz.underlying5 rfl (.int .u8 (p 78)) ?_ ?_; exact HR1.out.cell 78 (by decide)))
     go_ret
     exact ⟨by rw [HF.out]; rfl, HB.out⟩
  ·skip
   have HQ := Lib.hid (show kmB p 0 = true by rw [← kgR_is p 0, hq, g4]; simp)
   go_wp2_with (first
      | (guard_target = Go.wpList _ _ _ ((⟨some _, .load _ (.tmp 1), _, _, _, _⟩ : Go.Oper) :: _) _ _; refine step_load rfl _ rfl b1 rfl p HR1.out ?_)
      | (go_at_call 30; refine (cnK HCn.out _ HP.out).mono ?_; rintro e w3 ⟨rfl, hb⟩; have HR1 := Lib.hid (HR1.out.later hb); have HB := Lib.hid (below_on HB.out hb); clear hb)
      | (guard_target = Go.wpList _ _ _ ((⟨some _, .load _ (.tmp 13), _, _, _, _⟩ : Go.Oper) :: _) _ _; refine step_get rfl 5 _ rfl b1 0 rfl Tryz.underlying5 rfl (.int .u8 (p 0)) ?_ ?_; exact HR1.out.cell 0 (by decide))
      | (guard_target = Go.wpList _ _ _ ((⟨some _, .load _ (.tmp 17), _, _, _, _⟩ : Go.Oper) :: _) _ _; refine step_get rfl 5 _ rfl b1 0 rfl Tryz.underlying5 rfl (.int .u8 (p 0)) ?_ ?_; exact HR1.out.cell 0 (by decide))
      | (guard_target = Go.wpList _ _ _ ((⟨some _, .load _ (.tmp 30), _, _, _, _⟩ : Go.Oper) :: _) _ _; refine step_get rfl 5 _ rfl b1 0 rfl Tryz.underlying5 rfl (.int .u8 (p 0)) ?_ ?_; exact HR1.out.cell 0 (by decide))
      | (guard_target = Go.wpList _ _ _ ((⟨some _, .load _ (.tmp 36), _, _, _, _⟩ : Go.Oper) :: _) _ _; refine step_get rfl 5 _ rfl b1 78 rfl Tryz.underlying5 rfl (.int .u8 (p 78)) ?_ ?_; exact HR1.out.cell 78 (by decide)))
   go_roundw
   case rel => exact .inr (.inl ⟨rfl, HQ.out, HR1.out, HB.out⟩)
   case measure => simp [intOf]
 ·have HR1 := Lib.hid hr
  have HB := Lib.hid hb
  have Hk0 := Lib.hid hk0
  clear hr hb hk0
  obtain ⟨n, hcn⟩ : ∃ n, cnR p 1 6 64 = n := ⟨_, rfl⟩
  have hq : kgR p 1 = (bif p 0 == 4 then true else bif (n == 0) && ((p 0 == 3) && ((1 : Int) == p 78)) then true else n == 1) := by unfold kgR; rw [show ((1 : Int) == 0) = false from rfl, Bool.and_false, cond_false, hcn]
  have HCn := Lib.hid hcn
  have hn64 : n ≤ 64 := by rw [← hcn]; exact cnR_le p 1 6 64
  clear hcn
  cases g4 : p 0 == 4
  ·skip
   cases g7 : p 0 == 7
   ·skip
    cases gn0 : (n : Int) == 0
    ·skip
     have gn0n : (n == 0) = false := by rw [beq_eq_false_iff_ne] at gn0 ⊢; omega
     cases gn1 : (n : Int) == 1
     ·skip
      have gn1i : ((n : Int) != 1) = true := by rw [bne, gn1]; rfl
      have gn1n : (n == 1) = false := by rw [beq_eq_false_iff_ne] at gn1 ⊢; omega
      have HF := Lib.hid (show kgB p = false by unfold kgB; rw [Hk0.out, Bool.true_and, ← kgR_is p 1, hq, g4, gn0n, gn1n]; simp)
      go_wp2_with (first
      | (guard_target = Go.wpList _ _ _ ((⟨some _, .load _ (.tmp 1), _, _, _, _⟩ : Go.Oper) :: _) _ _; refine step_load rfl _ rfl b1 rfl p HR1.out ?_)
      | (go_at_call 30; refine (cnK HCn.out _ HP.out).mono ?_; rintro e w3 ⟨rfl, hb⟩; have HR1 := Lib.hid (HR1.out.later hb); have HB := Lib.hid (below_on HB.out hb); clear hb)
      | (guard_target = Go.wpList _ _ _ ((⟨some _, .load _ (.tmp 13), _, _, _, _⟩ : Go.Oper) :: _) _ _; refine step_get rfl 5 _ rfl b1 0 rfl Tryz.underlying5 rfl (.int .u8 (p 0)) ?_ ?_; exact HR1.out.cell 0 (by decide))
      | (guard_target = Go.wpList _ _ _ ((⟨some _, .load _ (.tmp 17), _, _, _, _⟩ : Go.Oper) :: _) _ _; refine step_get rfl 5 _ rfl b1 0 rfl Tryz.underlying5 rfl (.int .u8 (p 0)) ?_ ?_; exact HR1.out.cell 0 (by decide))
      | (guard_target = Go.wpList _ _ _ ((⟨some _, .load _ (.tmp 30), _, _, _, _⟩ : Go.Oper) :: _) _ _; refine step_get rfl 5 _ rfl b1 0 rfl Tryz.underlying5 rfl (.int .u8 (p 0)) ?_ ?_; exact HR1.out.cell 0 (by decide))
      | (guard_target = Go.wpList _ _ _ ((⟨some _, .load _ (.tmp 36), _, _, _, _⟩ : Go.Oper) :: _) _ _; refine step_get rfl 5 _ rfl b1 78 rfl Tryz.underlying5 rfl (.int .u8 (p 78)) ?_ ?_; exact HR1.out.cell 78 (by decide)))
      go_ret
      exact ⟨by rw [HF.out]; rfl, HB.out⟩
     ·skip
      have gn1i : ((n : Int) != 1) = false := by rw [bne, gn1]; rfl
      have gn1n : (n == 1) = true := by rw [beq_iff_eq] at gn1 ⊢; omega
      have HQ := Lib.hid (show kmB p 1 = true by rw [← kgR_is p 1, hq, g4, gn0n, gn1n]; simp)
      go_wp2_with (first
      | (guard_target = Go.wpList _ _ _ ((⟨some _, .load _ (.tmp 1), _, _, _, _⟩ : Go.Oper) :: _) _ _; refine step_load rfl _ rfl b1 rfl p HR1.out ?_)
      | (go_at_call 30; refine (cnK HCn.out _ HP.out).mono ?_; rintro e w3 ⟨rfl, hb⟩; have HR1 := Lib.hid (HR1.out.later hb); have HB := Lib.hid (below_on HB.out hb); clear hb)
      | (guard_target = Go.wpList _ _ _ ((⟨some _, .load _ (.tmp 13), _, _, _, _⟩ : Go.Oper) :: _) _ _; refine step_get rfl 5 _ rfl b1 0 rfl Tryz.underlying5 rfl (.int .u8 (p 0)) ?_ ?_; exact HR1.out.cell 0 (by decide))
      | (guard_target = Go.wpList _ _ _ ((⟨some _, .load _ (.tmp 17), _, _, _, _⟩ : Go.Oper) :: _) _ _; refine step_get rfl 5 _ rfl b1 0 rfl Tryz.underlying5 rfl (.int .u8 (p 0)) ?_ ?_; exact HR1.out.cell 0 (by decide))
      | (guard_target = Go.wpList _ _ _ ((⟨some _, .load _ (.tmp 30), _, _, _, _⟩ : Go.Oper) :: _) _ _; refine step_get rfl 5 _ rfl b1 0 rfl Tryz.underlying5 rfl (.int .u8 (p 0)) ?_ ?_; exact HR1.out.cell 0 (by decide))
      | (guard_target = Go.wpList _ _ _ ((⟨some _, .load _ (.tmp 36), _, _, _, _⟩ : Go.Oper) :: _) _ _; refine step_get rfl 5 _ rfl b1 78 rfl Tryz.underlying5 rfl (.int .u8 (p 78)) ?_ ?_; exact HR1.out.cell 78 (by decide)))
      go_roundw
      case rel => exact .inr (.inr ⟨rfl, Hk0.out, HQ.out, HR1.out, HB.out⟩)
      case measure => simp [intOf]
    ·skip
     have gn0n : (n == 0) = true := by rw [beq_iff_eq] at gn0 ⊢; omega
     cases g3 : p 0 == 3
     ·skip
      have gn1 : ((n : Int) != 1) = true := by rw [beq_iff_eq] at gn0; rw [gn0]; rfl
      have gn1n : (n == 1) = false := by rw [beq_iff_eq] at gn0; rw [beq_eq_false_iff_ne]; omega
      have HF := Lib.hid (show kgB p = false by unfold kgB; rw [Hk0.out, Bool.true_and, ← kgR_is p 1, hq, g4, gn0n, g3, gn1n]; simp)
      go_wp2_with (first
      | (guard_target = Go.wpList _ _ _ ((⟨some _, .load _ (.tmp 1), _, _, _, _⟩ : Go.Oper) :: _) _ _; refine step_load rfl _ rfl b1 rfl p HR1.out ?_)
      | (go_at_call 30; refine (cnK HCn.out _ HP.out).mono ?_; rintro e w3 ⟨rfl, hb⟩; have HR1 := Lib.hid (HR1.out.later hb); have HB := Lib.hid (below_on HB.out hb); clear hb)
      | (guard_target = Go.wpList _ _ _ ((⟨some _, .load _ (.tmp 13), _, _, _, _⟩ : Go.Oper) :: _) _ _; refine step_get rfl 5 _ rfl b1 0 rfl Tryz.underlying5 rfl (.int .u8 (p 0)) ?_ ?_; exact HR1.out.cell 0 (by decide))
      | (guard_target = Go.wpList _ _ _ ((⟨some _, .load _ (.tmp 17), _, _, _, _⟩ : Go.Oper) :: _) _ _; refine step_get rfl 5 _ rfl b1 0 rfl Tryz.underlying5 rfl (.int .u8 (p 0)) ?_ ?_; exact HR1.out.cell 0 (by decide))
      | (guard_target = Go.wpList _ _ _ ((⟨some _, .load _ (.tmp 30), _, _, _, _⟩ : Go.Oper) :: _) _ _; refine step_get rfl 5 _ rfl b1 0 rfl Tryz.underlying5 rfl (.int .u8 (p 0)) ?_ ?_; exact HR1.out.cell 0 (by decide))
      | (guard_target = Go.wpList _ _ _ ((⟨some _, .load _ (.tmp 36), _, _, _, _⟩ : Go.Oper) :: _) _ _; refine step_get rfl 5 _ rfl b1 78 rfl Tryz.underlying5 rfl (.int .u8 (p 78)) ?_ ?_; exact HR1.out.cell 78 (by decide)))
      go_ret
      exact ⟨by rw [HF.out]; rfl, HB.out⟩
     ·skip
      cases gt : (1 : Int) == p 78
      ·skip
       have gn1 : ((n : Int) != 1) = true := by rw [beq_iff_eq] at gn0; rw [gn0]; rfl
       have gn1n : (n == 1) = false := by rw [beq_iff_eq] at gn0; rw [beq_eq_false_iff_ne]; omega
       have HF := Lib.hid (show kgB p = false by unfold kgB; rw [Hk0.out, Bool.true_and, ← kgR_is p 1, hq, g4, gn0n, g3, gt, gn1n]; simp)
       go_wp2_with (first
      | (guard_target = Go.wpList _ _ _ ((⟨some _, .load _ (.tmp 1), _, _, _, _⟩ : Go.Oper) :: _) _ _; refine step_load rfl _ rfl b1 rfl p HR1.out ?_)
      | (go_at_call 30; refine (cnK HCn.out _ HP.out).mono ?_; rintro e w3 ⟨rfl, hb⟩; have HR1 := Lib.hid (HR1.out.later hb); have HB := Lib.hid (below_on HB.out hb); clear hb)
      | (guard_target = Go.wpList _ _ _ ((⟨some _, .load _ (.tmp 13), _, _, _, _⟩ : Go.Oper) :: _) _ _; refine step_get rfl 5 _ rfl b1 0 rfl Tryz.underlying5 rfl (.int .u8 (p 0)) ?_ ?_; exact HR1.out.cell 0 (by decide))
      | (guard_target = Go.wpList _ _ _ ((⟨some _, .load _ (.tmp 17), _, _, _, _⟩ : Go.Oper) :: _) _ _; refine step_get rfl 5 _ rfl b1 0 rfl Tryz.underlying5 rfl (.int .u8 (p 0)) ?_ ?_; exact HR1.out.cell 0 (by decide))
      | (guard_target = Go.wpList _ _ _ ((⟨some _, .load _ (.tmp 30), _, _, _, _⟩ : Go.Oper) :: _) _ _; refine step_get rfl 5 _ rfl b1 0 rfl Tryz.underlying5 rfl (.int .u8 (p 0)) ?_ ?_; exact HR1.out.cell 0 (by decide))
      | (guard_target = Go.wpList _ _ _ ((⟨some _, .load _ (.tmp 36), _, _, _, _⟩ : Go.Oper) :: _) _ _; refine step_get rfl 5 _ rfl b1 78 rfl Tryz.underlying5 rfl (.int .u8 (p 78)) ?_ ?_; exact HR1.out.cell 78 (by decide)))
       go_ret
       exact ⟨by rw [HF.out]; rfl, HB.out⟩
      ·skip
       have HQ := Lib.hid (show kmB p 1 = true by rw [← kgR_is p 1, hq, g4, gn0n, g3, gt]; simp)
       go_wp2_with (first
      | (guard_target = Go.wpList _ _ _ ((⟨some _, .load _ (.tmp 1), _, _, _, _⟩ : Go.Oper) :: _) _ _; refine step_load rfl _ rfl b1 rfl p HR1.out ?_)
      | (go_at_call 30; refine (cnK HCn.out _ HP.out).mono ?_; rintro e w3 ⟨rfl, hb⟩; have HR1 := Lib.hid (HR1.out.later hb); have HB := Lib.hid (below_on HB.out hb); clear hb)
      | (guard_target = Go.wpList _ _ _ ((⟨some _, .load _ (.tmp 13), _, _, _, _⟩ : Go.Oper) :: _) _ _; refine step_get rfl 5 _ rfl b1 0 rfl Tryz.underlying5 rfl (.int .u8 (p 0)) ?_ ?_; exact HR1.out.cell 0 (by decide))
      | (guard_target = Go.wpList _ _ _ ((⟨some _, .load _ (.tmp 17), _, _, _, _⟩ : Go.Oper) :: _) _ _; refine step_get rfl 5 _ rfl b1 0 rfl Tryz.underlying5 rfl (.int .u8 (p 0)) ?_ ?_; exact HR1.out.cell 0 (by decide))
      | (guard_target = Go.wpList _ _ _ ((⟨some _, .load _ (.tmp 30), _, _, _, _⟩ : Go.Oper) :: _) _ _; refine step_get rfl 5 _ rfl b1 0 rfl Tryz.underlying5 rfl (.int .u8 (p 0)) ?_ ?_; exact HR1.out.cell 0 (by decide))
      | (guard_target = Go.wpList _ _ _ ((⟨some _, .load _ (.tmp 36), _, _, _, _⟩ : Go.Oper) :: _) _ _; refine step_get rfl 5 _ rfl b1 78 rfl Tryz.underlying5 rfl (.int .u8 (p 78)) ?_ ?_; exact HR1.out.cell 78 (by decide)))
       go_roundw
       case rel => exact .inr (.inr ⟨rfl, Hk0.out, HQ.out, HR1.out, HB.out⟩)
       case measure => simp [intOf]
   ·skip
    cases gn0 : (n : Int) == 0
    ·skip
     have gn0n : (n == 0) = false := by rw [beq_eq_false_iff_ne] at gn0 ⊢; omega
     cases gn1 : (n : Int) == 1
     ·skip
      have gn1i : ((n : Int) != 1) = true := by rw [bne, gn1]; rfl
      have gn1n : (n == 1) = false := by rw [beq_eq_false_iff_ne] at gn1 ⊢; omega
      have HF := Lib.hid (show kgB p = false by unfold kgB; rw [Hk0.out, Bool.true_and, ← kgR_is p 1, hq, g4, gn0n, gn1n]; simp)
      go_wp2_with (first
      | (guard_target = Go.wpList _ _ _ ((⟨some _, .load _ (.tmp 1), _, _, _, _⟩ : Go.Oper) :: _) _ _; refine step_load rfl _ rfl b1 rfl p HR1.out ?_)
      | (go_at_call 30; refine (cnK HCn.out _ HP.out).mono ?_; rintro e w3 ⟨rfl, hb⟩; have HR1 := Lib.hid (HR1.out.later hb); have HB := Lib.hid (below_on HB.out hb); clear hb)
      | (guard_target = Go.wpList _ _ _ ((⟨some _, .load _ (.tmp 13), _, _, _, _⟩ : Go.Oper) :: _) _ _; refine step_get rfl 5 _ rfl b1 0 rfl Tryz.underlying5 rfl (.int .u8 (p 0)) ?_ ?_; exact HR1.out.cell 0 (by decide))
      | (guard_target = Go.wpList _ _ _ ((⟨some _, .load _ (.tmp 17), _, _, _, _⟩ : Go.Oper) :: _) _ _; refine step_get rfl 5 _ rfl b1 0 rfl Tryz.underlying5 rfl (.int .u8 (p 0)) ?_ ?_; exact HR1.out.cell 0 (by decide))
      | (guard_target = Go.wpList _ _ _ ((⟨some _, .load _ (.tmp 30), _, _, _, _⟩ : Go.Oper) :: _) _ _; refine step_get rfl 5 _ rfl b1 0 rfl Tryz.underlying5 rfl (.int .u8 (p 0)) ?_ ?_; exact HR1.out.cell 0 (by decide))
      | (guard_target = Go.wpList _ _ _ ((⟨some _, .load _ (.tmp 36), _, _, _, _⟩ : Go.Oper) :: _) _ _; refine step_get rfl 5 _ rfl b1 78 rfl Tryz.underlying5 rfl (.int .u8 (p 78)) ?_ ?_; exact HR1.out.cell 78 (by decide)))
      go_ret
      exact ⟨by rw [HF.out]; rfl, HB.out⟩
     ·skip
      have gn1i : ((n : Int) != 1) = false := by rw [bne, gn1]; rfl
      have gn1n : (n == 1) = true := by rw [beq_iff_eq] at gn1 ⊢; omega
      have HQ := Lib.hid (show kmB p 1 = true by rw [← kgR_is p 1, hq, g4, gn0n, gn1n]; simp)
      go_wp2_with (first
      | (guard_target = Go.wpList _ _ _ ((⟨some _, .load _ (.tmp 1), _, _, _, _⟩ : Go.Oper) :: _) _ _; refine step_load rfl _ rfl b1 rfl p HR1.out ?_)
      | (go_at_call 30; refine (cnK HCn.out _ HP.out).mono ?_; rintro e w3 ⟨rfl, hb⟩; have HR1 := Lib.hid (HR1.out.later hb); have HB := Lib.hid (below_on HB.out hb); clear hb)
      | (guard_target = Go.wpList _ _ _ ((⟨some _, .load _ (.tmp 13), _, _, _, _⟩ : Go.Oper) :: _) _ _; refine step_get rfl 5 _ rfl b1 0 rfl Tryz.underlying5 rfl (.int .u8 (p 0)) ?_ ?_; exact HR1.out.cell 0 (by decide))
      | (guard_target = Go.wpList _ _ _ ((⟨some _, .load _ (.tmp 17), _, _, _, _⟩ : Go.Oper) :: _) _ _; refine step_get rfl 5 _ rfl b1 0 rfl Tryz.underlying5 rfl (.int .u8 (p 0)) ?_ ?_; exact HR1.out.cell 0 (by decide))
      | (guard_target = Go.wpList _ _ _ ((⟨some _, .load _ (.tmp 30), _, _, _, _⟩ : Go.Oper) :: _) _ _; refine step_get rfl 5 _ rfl b1 0 rfl Tryz.underlying5 rfl (.int .u8 (p 0)) ?_ ?_; exact HR1.out.cell 0 (by decide))
      | (guard_target = Go.wpList _ _ _ ((⟨some _, .load _ (.tmp 36), _, _, _, _⟩ : Go.Oper) :: _) _ _; refine step_get rfl 5 _ rfl b1 78 rfl Tryz.underlying5 rfl (.int .u8 (p 78)) ?_ ?_; exact HR1.out.cell 78 (by decide)))
      go_roundw
      case rel => exact .inr (.inr ⟨rfl, Hk0.out, HQ.out, HR1.out, HB.out⟩)
      case measure => simp [intOf]
    ·skip
     have gn0n : (n == 0) = true := by rw [beq_iff_eq] at gn0 ⊢; omega
     cases g3 : p 0 == 3
     ·skip
      have gn1 : ((n : Int) != 1) = true := by rw [beq_iff_eq] at gn0; rw [gn0]; rfl
      have gn1n : (n == 1) = false := by rw [beq_iff_eq] at gn0; rw [beq_eq_false_iff_ne]; omega
      have HF := Lib.hid (show kgB p = false by unfold kgB; rw [Hk0.out, Bool.true_and, ← kgR_is p 1, hq, g4, gn0n, g3, gn1n]; simp)
      go_wp2_with (first
      | (guard_target = Go.wpList _ _ _ ((⟨some _, .load _ (.tmp 1), _, _, _, _⟩ : Go.Oper) :: _) _ _; refine step_load rfl _ rfl b1 rfl p HR1.out ?_)
      | (go_at_call 30; refine (cnK HCn.out _ HP.out).mono ?_; rintro e w3 ⟨rfl, hb⟩; have HR1 := Lib.hid (HR1.out.later hb); have HB := Lib.hid (below_on HB.out hb); clear hb)
      | (guard_target = Go.wpList _ _ _ ((⟨some _, .load _ (.tmp 13), _, _, _, _⟩ : Go.Oper) :: _) _ _; refine step_get rfl 5 _ rfl b1 0 rfl Tryz.underlying5 rfl (.int .u8 (p 0)) ?_ ?_; exact HR1.out.cell 0 (by decide))
      | (guard_target = Go.wpList _ _ _ ((⟨some _, .load _ (.tmp 17), _, _, _, _⟩ : Go.Oper) :: _) _ _; refine step_get rfl 5 _ rfl b1 0 rfl Tryz.underlying5 rfl (.int .u8 (p 0)) ?_ ?_; exact HR1.out.cell 0 (by decide))
      | (guard_target = Go.wpList _ _ _ ((⟨some _, .load _ (.tmp 30), _, _, _, _⟩ : Go.Oper) :: _) _ _; refine step_get rfl 5 _ rfl b1 0 rfl Tryz.underlying5 rfl (.int .u8 (p 0)) ?_ ?_; exact HR1.out.cell 0 (by decide))
      | (guard_target = Go.wpList _ _ _ ((⟨some _, .load _ (.tmp 36), _, _, _, _⟩ : Go.Oper) :: _) _ _; refine step_get rfl 5 _ rfl b1 78 rfl Tryz.underlying5 rfl (.int .u8 (p 78)) ?_ ?_; exact HR1.out.cell 78 (by decide)))
      go_ret
      exact ⟨by rw [HF.out]; rfl, HB.out⟩
     ·skip
      cases gt : (1 : Int) == p 78
      ·skip
       have gn1 : ((n : Int) != 1) = true := by rw [beq_iff_eq] at gn0; rw [gn0]; rfl
       have gn1n : (n == 1) = false := by rw [beq_iff_eq] at gn0; rw [beq_eq_false_iff_ne]; omega
       have HF := Lib.hid (show kgB p = false by unfold kgB; rw [Hk0.out, Bool.true_and, ← kgR_is p 1, hq, g4, gn0n, g3, gt, gn1n]; simp)
       go_wp2_with (first
      | (guard_target = Go.wpList _ _ _ ((⟨some _, .load _ (.tmp 1), _, _, _, _⟩ : Go.Oper) :: _) _ _; refine step_load rfl _ rfl b1 rfl p HR1.out ?_)
      | (go_at_call 30; refine (cnK HCn.out _ HP.out).mono ?_; rintro e w3 ⟨rfl, hb⟩; have HR1 := Lib.hid (HR1.out.later hb); have HB := Lib.hid (below_on HB.out hb); clear hb)
      | (guard_target = Go.wpList _ _ _ ((⟨some _, .load _ (.tmp 13), _, _, _, _⟩ : Go.Oper) :: _) _ _; refine step_get rfl 5 _ rfl b1 0 rfl Tryz.underlying5 rfl (.int .u8 (p 0)) ?_ ?_; exact HR1.out.cell 0 (by decide))
      | (guard_target = Go.wpList _ _ _ ((⟨some _, .load _ (.tmp 17), _, _, _, _⟩ : Go.Oper) :: _) _ _; refine step_get rfl 5 _ rfl b1 0 rfl Tryz.underlying5 rfl (.int .u8 (p 0)) ?_ ?_; exact HR1.out.cell 0 (by decide))
      | (guard_target = Go.wpList _ _ _ ((⟨some _, .load _ (.tmp 30), _, _, _, _⟩ : Go.Oper) :: _) _ _; refine step_get rfl 5 _ rfl b1 0 rfl Tryz.underlying5 rfl (.int .u8 (p 0)) ?_ ?_; exact HR1.out.cell 0 (by decide))
      | (guard_target = Go.wpList _ _ _ ((⟨some _, .load _ (.tmp 36), _, _, _, _⟩ : Go.Oper) :: _) _ _; refine step_get rfl 5 _ rfl b1 78 rfl Tryz.underlying5 rfl (.int .u8 (p 78)) ?_ ?_; exact HR1.out.cell 78 (by decide)))
       go_ret
       exact ⟨by rw [HF.out]; rfl, HB.out⟩
      ·skip
       have HQ := Lib.hid (show kmB p 1 = true by rw [← kgR_is p 1, hq, g4, gn0n, g3, gt]; simp)
       go_wp2_with (first
      | (guard_target = Go.wpList _ _ _ ((⟨some _, .load _ (.tmp 1), _, _, _, _⟩ : Go.Oper) :: _) _ _; refine step_load rfl _ rfl b1 rfl p HR1.out ?_)
      | (go_at_call 30; refine (cnK HCn.out _ HP.out).mono ?_; rintro e w3 ⟨rfl, hb⟩; have HR1 := Lib.hid (HR1.out.later hb); have HB := Lib.hid (below_on HB.out hb); clear hb)
      | (guard_target = Go.wpList _ _ _ ((⟨some _, .load _ (.tmp 13), _, _, _, _⟩ : Go.Oper) :: _) _ _; refine step_get rfl 5 _ rfl b1 0 rfl Tryz.underlying5 rfl (.int .u8 (p 0)) ?_ ?_; exact HR1.out.cell 0 (by decide))
      | (guard_target = Go.wpList _ _ _ ((⟨some _, .load _ (.tmp 17), _, _, _, _⟩ : Go.Oper) :: _) _ _; refine step_get rfl 5 _ rfl b1 0 rfl Tryz.underlying5 rfl (.int .u8 (p 0)) ?_ ?_; exact HR1.out.cell 0 (by decide))
      | (guard_target = Go.wpList _ _ _ ((⟨some _, .load _ (.tmp 30), _, _, _, _⟩ : Go.Oper) :: _) _ _; refine step_get rfl 5 _ rfl b1 0 rfl Tryz.underlying5 rfl (.int .u8 (p 0)) ?_ ?_; exact HR1.out.cell 0 (by decide))
      | (guard_target = Go.wpList _ _ _ ((⟨some _, .load _ (.tmp 36), _, _, _, _⟩ : Go.Oper) :: _) _ _; refine step_get rfl 5 _ rfl b1 78 rfl Tryz.underlying5 rfl (.int .u8 (p 78)) ?_ ?_; exact HR1.out.cell 78 (by decide)))
       go_roundw
       case rel => exact .inr (.inr ⟨rfl, Hk0.out, HQ.out, HR1.out, HB.out⟩)
       case measure => simp [intOf]
  ·skip
   have HQ := Lib.hid (show kmB p 1 = true by rw [← kgR_is p 1, hq, g4]; simp)
   go_wp2_with (first
      | (guard_target = Go.wpList _ _ _ ((⟨some _, .load _ (.tmp 1), _, _, _, _⟩ : Go.Oper) :: _) _ _; refine step_load rfl _ rfl b1 rfl p HR1.out ?_)
      | (go_at_call 30; refine (cnK HCn.out _ HP.out).mono ?_; rintro e w3 ⟨rfl, hb⟩; have HR1 := Lib.hid (HR1.out.later hb); have HB := Lib.hid (below_on HB.out hb); clear hb)
      | (guard_target = Go.wpList _ _ _ ((⟨some _, .load _ (.tmp 13), _, _, _, _⟩ : Go.Oper) :: _) _ _; refine step_get rfl 5 _ rfl b1 0 rfl Tryz.underlying5 rfl (.int .u8 (p 0)) ?_ ?_; exact HR1.out.cell 0 (by decide))
      | (guard_target = Go.wpList _ _ _ ((⟨some _, .load _ (.tmp 17), _, _, _, _⟩ : Go.Oper) :: _) _ _; refine step_get rfl 5 _ rfl b1 0 rfl Tryz.underlying5 rfl (.int .u8 (p 0)) ?_ ?_; exact HR1.out.cell 0 (by decide))
      | (guard_target = Go.wpList _ _ _ ((⟨some _, .load _ (.tmp 30), _, _, _, _⟩ : Go.Oper) :: _) _ _; refine step_get rfl 5 _ rfl b1 0 rfl Tryz.underlying5 rfl (.int .u8 (p 0)) ?_ ?_; exact HR1.out.cell 0 (by decide))
      | (guard_target = Go.wpList _ _ _ ((⟨some _, .load _ (.tmp 36), _, _, _, _⟩ : Go.Oper) :: _) _ _; refine step_get rfl 5 _ rfl b1 78 rfl Tryz.underlying5 rfl (.int .u8 (p 78)) ?_ ?_; exact HR1.out.cell 78 (by decide)))
   go_roundw
   case rel => exact .inr (.inr ⟨rfl, Hk0.out, HQ.out, HR1.out, HB.out⟩)
   case measure => simp [intOf]
 ·have HR1 := Lib.hid hr
  have HB := Lib.hid hb
  have HF := Lib.hid (show kgB p = true by unfold kgB; rw [hk0, hk1]; rfl)
  clear hr hb hk0 hk1
  go_wp2_with fail
  go_ret
  exact ⟨by rw [HF.out]; rfl, HB.out⟩
end Go.Proofs.YtigkbccpkepdmaaGreatDoor
