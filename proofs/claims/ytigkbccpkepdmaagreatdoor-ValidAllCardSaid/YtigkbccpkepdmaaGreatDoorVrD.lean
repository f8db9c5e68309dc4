/-
 The document's own Right of layer 12.
-/
import Derived.Test.YtigkbccpkepdmaaGreatDoorAtRefF
import Derived.Test.YtigkbccpkepdmaaGreatDoorVrA0
namespace Go.Proofs.YtigkbccpkepdmaaGreatDoor
open Go.RowKit Go.Shelf
set_option linter.unusedVariables false
set_option linter.unusedSimpArgs false
attribute [local go_sem] Oper.semAt_some

theorem isK56 {p : Nat → Int} {r : Nat} {x : Bool} (h : isB p (56 + r) 1 4 = x) (hr : r < 8) (w : World) (hp : ∀ i, i < 64 → 0 ≤ p (1 + i) ∧ p (1 + i) ≤ 255) : Calls Tryz.prog 34 #[.agg (posA p), .int .i64 (56 + (r : Int)), .int .u8 1, .int .u8 4] w (BoL x w) := by
 have := isK (c := 1) (k := 4) h (by omega) w hp
 rwa [show ((56 + r : Nat) : Int) = 56 + (r : Int) by omega] at this
theorem isK0 {p : Nat → Int} {r : Nat} {x : Bool} (h : isB p (0 + r) 0 4 = x) (hr : r < 8) (w : World) (hp : ∀ i, i < 64 → 0 ≤ p (1 + i) ∧ p (1 + i) ≤ 255) : Calls Tryz.prog 34 #[.agg (posA p), .int .i64 (r : Int), .int .u8 0, .int .u8 4] w (BoL x w) := by
 rw [Nat.zero_add] at h
 exact isK (c := 0) (k := 4) h (by omega) w hp
theorem rcasK {v : Nat} {x : Bool} (h : casB v = x) (w : World) : Calls Tryz.prog 32 #[.int .u8 (v : Int)] w (BoE x w) := h ▸ rcas_any v w
theorem rfindK {p : Nat → Int} {c z : Int} (h : kingZ p c = z) (w : World) (hp : BdR p) : Calls Tryz.prog 33 #[.agg (posA p), .int .u8 c, .int .u8 6] w (IntL z w) := h ▸ rfind_any p c w hp
set_option maxRecDepth 100000 in
set_option maxHeartbeats 4000000 in
theorem vr_right00 (p : Nat → Int) (w : World) (hp : FitP p) (hr : -1 ≤ roA p 0 0 ∧ roA p 0 0 < 8) : Calls Tryz.prog 17 #[.agg (posA p), .int .u8 0, .int .i64 0] w (BoL (rkB p 0 0) w) := by
 have HP := Lib.hid hp
 obtain ⟨v, hv⟩ := Int.eq_ofNat_of_zero_le hp.var.1
 have hv : p 0 = (v : Int) := hv
 have HVv := Lib.hid hv
 have hv255 : v ≤ 255 := by have := hp.var; omega
 have hq : rtR p 0 0 = (bif roA p 0 0 == -1 then true else bif !casB v then false else bif decide (kingZ p 0 < 0) || (!(kingZ p 0 / 8 == 0) || !isB p (0 + (roA p 0 0).toNat) 0 4) then false else bif !((v : Int) == 1) && (!(kingZ p 0 % 8 == 4) || ((true && !(roA p 0 0 == 7)) || (false && !(roA p 0 0 == 0)))) then false else decide (kingZ p 0 % 8 < roA p 0 0)) := by
  unfold rtR
  rw [hv, Int.toNat_natCast]
  rfl
 clear hp hv
 cases g1 : (roA p 0 0 == -1)
 ·obtain ⟨r, hrr⟩ : ∃ r : Nat, roA p 0 0 = (r : Int) := ⟨(roA p 0 0).toNat, by have := beq_eq_false_iff_ne.1 g1; omega⟩
  have hr8 : r < 8 := by omega
  have HF := Lib.hid (show p 79 = (r : Int) from hrr)
  rw [hrr, Int.toNat_natCast] at hq
  have g1 : ((r : Int) == -1) = false := by rw [beq_eq_false_iff_ne]; omega
  clear hrr
  obtain ⟨cb, hcb⟩ : ∃ cb, casB v = cb := ⟨_, rfl⟩
  have HCb := Lib.hid hcb
  rw [hcb] at hq
  clear hcb
  cases cb
  ·skip
   have HS := Lib.hid (show rkB p 0 0 = false by rw [← rtR_is (by decide) (by decide) hr, hq, g1]; rfl)
   clear hq hr
   have HB := Lib.hid (Below.refl w.heap.size w)
   go_enter Tryz.func17, Tryz.ntmps17
   go_wp2_with (first
    | (guard_target = wpList _ _ _ ((⟨some 3, .box _ _, _, _, _, _⟩ : Oper) :: _) _ _; refine step_box rfl _ rfl p rfl ?_; intro b3 w1 N R; have HG3 := Lib.hid (show w.heap.size ≤ b3 by have := HB.out.size; have := N.at_; omega); have HB := Lib.hid (below_on HB.out N.below); have HR3 := Lib.hid R; clear N R)
    | (guard_target = wpList _ _ _ ((⟨some _, .load _ (.tmp 15), _, _, _, _⟩ : Oper) :: _) _ _; refine step_get rfl 26 _ rfl b3 79 rfl Tryz.underlying26 rfl (.int .i8 (r : Int)) ?_ ?_; exact (HR3.out.cell 79 (by decide)).trans (by rw [HF.out]; rfl))
    | (guard_target = wpList _ _ _ ((⟨some _, .load _ (.tmp 20), _, _, _, _⟩ : Oper) :: _) _ _; refine step_get rfl 5 _ rfl b3 0 rfl Tryz.underlying5 rfl (.int .u8 ((v : Nat) : Int)) ?_ ?_; exact (HR3.out.cell 0 (by decide)).trans (by rw [HVv.out]; rfl))
    | (go_at_call 32; refine (rcasK HCb.out _).mono ?_; rintro e w3 ⟨rfl, rfl⟩))
   go_ret
   exact ⟨by rw [HS.out]; rfl, HB.out⟩
  ·obtain ⟨ib, hib⟩ : ∃ ib, isB p (0 + r) 0 4 = ib := ⟨_, rfl⟩
   have HIb := Lib.hid hib
   rw [hib] at hq
   clear hib
   by_cases hk : kingZ p 0 < 0
   ·obtain ⟨z, hz⟩ : ∃ z, kingZ p 0 = z := ⟨_, rfl⟩
    have HZ := Lib.hid hz
    rw [hz] at hq hk
    have g3 : decide (z < 0) = true := decide_eq_true hk
    clear hz hk
    have HS := Lib.hid (show rkB p 0 0 = false by rw [← rtR_is (by decide) (by decide) hr, hq, g1, g3]; rfl)
    clear hq hr
    have HB := Lib.hid (Below.refl w.heap.size w)
    go_enter Tryz.func17, Tryz.ntmps17
    go_wp2_with (first
     | (guard_target = wpList _ _ _ ((⟨some 3, .box _ _, _, _, _, _⟩ : Oper) :: _) _ _; refine step_box rfl _ rfl p rfl ?_; intro b3 w1 N R; have HG3 := Lib.hid (show w.heap.size ≤ b3 by have := HB.out.size; have := N.at_; omega); have HB := Lib.hid (below_on HB.out N.below); have HR3 := Lib.hid R; clear N R)
     | (guard_target = wpList _ _ _ ((⟨some _, .load _ (.tmp 15), _, _, _, _⟩ : Oper) :: _) _ _; refine step_get rfl 26 _ rfl b3 79 rfl Tryz.underlying26 rfl (.int .i8 (r : Int)) ?_ ?_; exact (HR3.out.cell 79 (by decide)).trans (by rw [HF.out]; rfl))
     | (guard_target = wpList _ _ _ ((⟨some _, .load _ (.tmp 20), _, _, _, _⟩ : Oper) :: _) _ _; refine step_get rfl 5 _ rfl b3 0 rfl Tryz.underlying5 rfl (.int .u8 ((v : Nat) : Int)) ?_ ?_; exact (HR3.out.cell 0 (by decide)).trans (by rw [HVv.out]; rfl))
     | (go_at_call 32; refine (rcasK HCb.out _).mono ?_; rintro e w3 ⟨rfl, rfl⟩)
     | (guard_target = wpList _ _ _ ((⟨some 27, .load _ (.tmp 3), _, _, _, _⟩ : Oper) :: _) _ _; refine step_load (op := ⟨some 27, .load _ (.tmp 3), _, _, _, _⟩) rfl _ rfl b3 rfl p HR3.out ?_)
     | (go_at_call 33; refine (rfindK HZ.out _ HP.out.bd).mono ?_; rintro e w3 ⟨rfl, hb⟩; have HR3 := Lib.hid (HR3.out.later hb); have HB := Lib.hid (below_on HB.out hb); clear hb))
    go_ret
    exact ⟨by rw [HS.out]; rfl, HB.out⟩
   ·obtain ⟨n, hn, hkn⟩ := vking_sq (p := p) (c := 0) (by omega)
    have HZ := Lib.hid hkn
    rw [hkn] at hq
    have g3 : decide ((n : Int) < 0) = false := decide_eq_false (by omega)
    clear hk hkn
    cases g4 : ((n : Int) / 8 == 0)
    ·have g4' : (((n / 8 : Nat) : Int) == 0) = false := g4
     have g4n : ((n : Int) / 8 != 0) = true := by rw [bne, g4]; rfl
     have g4m : (((n / 8 : Nat) : Int) != 0) = true := by rw [bne, g4']; rfl
     have HS := Lib.hid (show rkB p 0 0 = false by rw [← rtR_is (by decide) (by decide) hr, hq, g1, g3, g4]; rfl)
     clear hq hr
     have HB := Lib.hid (Below.refl w.heap.size w)
     go_enter Tryz.func17, Tryz.ntmps17
     go_wp2_with (first
      | (guard_target = wpList _ _ _ ((⟨some 3, .box _ _, _, _, _, _⟩ : Oper) :: _) _ _; refine step_box rfl _ rfl p rfl ?_; intro b3 w1 N R; have HG3 := Lib.hid (show w.heap.size ≤ b3 by have := HB.out.size; have := N.at_; omega); have HB := Lib.hid (below_on HB.out N.below); have HR3 := Lib.hid R; clear N R)
      | (guard_target = wpList _ _ _ ((⟨some _, .load _ (.tmp 15), _, _, _, _⟩ : Oper) :: _) _ _; refine step_get rfl 26 _ rfl b3 79 rfl Tryz.underlying26 rfl (.int .i8 (r : Int)) ?_ ?_; exact (HR3.out.cell 79 (by decide)).trans (by rw [HF.out]; rfl))
      | (guard_target = wpList _ _ _ ((⟨some _, .load _ (.tmp 20), _, _, _, _⟩ : Oper) :: _) _ _; refine step_get rfl 5 _ rfl b3 0 rfl Tryz.underlying5 rfl (.int .u8 ((v : Nat) : Int)) ?_ ?_; exact (HR3.out.cell 0 (by decide)).trans (by rw [HVv.out]; rfl))
      | (go_at_call 32; refine (rcasK HCb.out _).mono ?_; rintro e w3 ⟨rfl, rfl⟩)
      | (guard_target = wpList _ _ _ ((⟨some 27, .load _ (.tmp 3), _, _, _, _⟩ : Oper) :: _) _ _; refine step_load (op := ⟨some 27, .load _ (.tmp 3), _, _, _, _⟩) rfl _ rfl b3 rfl p HR3.out ?_)
      | (go_at_call 33; refine (rfindK HZ.out _ HP.out.bd).mono ?_; rintro e w3 ⟨rfl, hb⟩; have HR3 := Lib.hid (HR3.out.later hb); have HB := Lib.hid (below_on HB.out hb); clear hb))
     go_ret
     exact ⟨by rw [HS.out]; rfl, HB.out⟩
    ·have g4' : (((n / 8 : Nat) : Int) == 0) = true := g4
     have g4n : ((n : Int) / 8 != 0) = false := by rw [bne, g4]; rfl
     have g4m : (((n / 8 : Nat) : Int) != 0) = false := by rw [bne, g4']; rfl
     cases ib
     ·skip
      have HS := Lib.hid (show rkB p 0 0 = false by rw [← rtR_is (by decide) (by decide) hr, hq, g1, g3, g4]; rfl)
      clear hq hr
      have HB := Lib.hid (Below.refl w.heap.size w)
      go_enter Tryz.func17, Tryz.ntmps17
      go_wp2_with (first
       | (guard_target = wpList _ _ _ ((⟨some 3, .box _ _, _, _, _, _⟩ : Oper) :: _) _ _; refine step_box rfl _ rfl p rfl ?_; intro b3 w1 N R; have HG3 := Lib.hid (show w.heap.size ≤ b3 by have := HB.out.size; have := N.at_; omega); have HB := Lib.hid (below_on HB.out N.below); have HR3 := Lib.hid R; clear N R)
       | (guard_target = wpList _ _ _ ((⟨some _, .load _ (.tmp 15), _, _, _, _⟩ : Oper) :: _) _ _; refine step_get rfl 26 _ rfl b3 79 rfl Tryz.underlying26 rfl (.int .i8 (r : Int)) ?_ ?_; exact (HR3.out.cell 79 (by decide)).trans (by rw [HF.out]; rfl))
       | (guard_target = wpList _ _ _ ((⟨some _, .load _ (.tmp 20), _, _, _, _⟩ : Oper) :: _) _ _; refine step_get rfl 5 _ rfl b3 0 rfl Tryz.underlying5 rfl (.int .u8 ((v : Nat) : Int)) ?_ ?_; exact (HR3.out.cell 0 (by decide)).trans (by rw [HVv.out]; rfl))
       | (go_at_call 32; refine (rcasK HCb.out _).mono ?_; rintro e w3 ⟨rfl, rfl⟩)
       | (guard_target = wpList _ _ _ ((⟨some 27, .load _ (.tmp 3), _, _, _, _⟩ : Oper) :: _) _ _; refine step_load (op := ⟨some 27, .load _ (.tmp 3), _, _, _, _⟩) rfl _ rfl b3 rfl p HR3.out ?_)
       | (go_at_call 33; refine (rfindK HZ.out _ HP.out.bd).mono ?_; rintro e w3 ⟨rfl, hb⟩; have HR3 := Lib.hid (HR3.out.later hb); have HB := Lib.hid (below_on HB.out hb); clear hb)
       | (guard_target = wpList _ _ _ ((⟨some 39, .load _ (.tmp 3), _, _, _, _⟩ : Oper) :: _) _ _; refine step_load (op := ⟨some 39, .load _ (.tmp 3), _, _, _, _⟩) rfl _ rfl b3 rfl p HR3.out ?_)
       | (go_at_call 34; refine (isK0 HIb.out hr8 _ HP.out.bd).mono ?_; rintro e w3 ⟨rfl, hb⟩; have HR3 := Lib.hid (HR3.out.later hb); have HB := Lib.hid (below_on HB.out hb); clear hb))
      go_ret
      exact ⟨by rw [HS.out]; rfl, HB.out⟩
     ·obtain ⟨e, he⟩ : ∃ e, n % 8 = e := ⟨_, rfl⟩
      have he8 : e < 8 := by omega
      have hei : (n : Int) % 8 = (e : Int) := by omega
      rw [hei] at hq
      clear he
      cases g6 : ((v : Int) == 1)
      ·have g6n : ((v : Int) != 1) = true := by rw [bne, g6]; rfl
       cases g7 : ((e : Int) == 4)
       ·have g7n : ((e : Int) != 4) = true := by rw [bne, g7]; rfl
        have HS := Lib.hid (show rkB p 0 0 = false by rw [← rtR_is (by decide) (by decide) hr, hq, g1, g3, g4, g6, g7]; rfl)
        clear hq hr
        have HB := Lib.hid (Below.refl w.heap.size w)
        go_enter Tryz.func17, Tryz.ntmps17
        go_wp2_with (first
         | (guard_target = wpList _ _ _ ((⟨some 3, .box _ _, _, _, _, _⟩ : Oper) :: _) _ _; refine step_box rfl _ rfl p rfl ?_; intro b3 w1 N R; have HG3 := Lib.hid (show w.heap.size ≤ b3 by have := HB.out.size; have := N.at_; omega); have HB := Lib.hid (below_on HB.out N.below); have HR3 := Lib.hid R; clear N R)
         | (guard_target = wpList _ _ _ ((⟨some _, .load _ (.tmp 15), _, _, _, _⟩ : Oper) :: _) _ _; refine step_get rfl 26 _ rfl b3 79 rfl Tryz.underlying26 rfl (.int .i8 (r : Int)) ?_ ?_; exact (HR3.out.cell 79 (by decide)).trans (by rw [HF.out]; rfl))
         | (guard_target = wpList _ _ _ ((⟨some _, .load _ (.tmp 20), _, _, _, _⟩ : Oper) :: _) _ _; refine step_get rfl 5 _ rfl b3 0 rfl Tryz.underlying5 rfl (.int .u8 ((v : Nat) : Int)) ?_ ?_; exact (HR3.out.cell 0 (by decide)).trans (by rw [HVv.out]; rfl))
         | (go_at_call 32; refine (rcasK HCb.out _).mono ?_; rintro e w3 ⟨rfl, rfl⟩)
         | (guard_target = wpList _ _ _ ((⟨some 27, .load _ (.tmp 3), _, _, _, _⟩ : Oper) :: _) _ _; refine step_load (op := ⟨some 27, .load _ (.tmp 3), _, _, _, _⟩) rfl _ rfl b3 rfl p HR3.out ?_)
         | (go_at_call 33; refine (rfindK HZ.out _ HP.out.bd).mono ?_; rintro e w3 ⟨rfl, hb⟩; have HR3 := Lib.hid (HR3.out.later hb); have HB := Lib.hid (below_on HB.out hb); clear hb)
         | (guard_target = wpList _ _ _ ((⟨some 39, .load _ (.tmp 3), _, _, _, _⟩ : Oper) :: _) _ _; refine step_load (op := ⟨some 39, .load _ (.tmp 3), _, _, _, _⟩) rfl _ rfl b3 rfl p HR3.out ?_)
         | (go_at_call 34; refine (isK0 HIb.out hr8 _ HP.out.bd).mono ?_; rintro e w3 ⟨rfl, hb⟩; have HR3 := Lib.hid (HR3.out.later hb); have HB := Lib.hid (below_on HB.out hb); clear hb)
         | (guard_target = wpList _ _ _ ((⟨some _, .load _ (.tmp 50), _, _, _, _⟩ : Oper) :: _) _ _; refine step_get rfl 5 _ rfl b3 0 rfl Tryz.underlying5 rfl (.int .u8 ((v : Nat) : Int)) ?_ ?_; exact (HR3.out.cell 0 (by decide)).trans (by rw [HVv.out]; rfl)))
        go_ret
        exact ⟨by rw [HS.out]; rfl, HB.out⟩
       ·have g7n : ((e : Int) != 4) = false := by rw [bne, g7]; rfl
        cases g8 : ((r : Int) == 7)
        ·have g8n : ((r : Int) != 7) = true := by rw [bne, g8]; rfl
         have HS := Lib.hid (show rkB p 0 0 = false by rw [← rtR_is (by decide) (by decide) hr, hq, g1, g3, g4, g6, g7, g8]; rfl)
         clear hq hr
         have HB := Lib.hid (Below.refl w.heap.size w)
         go_enter Tryz.func17, Tryz.ntmps17
         go_wp2_with (first
          | (guard_target = wpList _ _ _ ((⟨some 3, .box _ _, _, _, _, _⟩ : Oper) :: _) _ _; refine step_box rfl _ rfl p rfl ?_; intro b3 w1 N R; have HG3 := Lib.hid (show w.heap.size ≤ b3 by have := HB.out.size; have := N.at_; omega); have HB := Lib.hid (below_on HB.out N.below); have HR3 := Lib.hid R; clear N R)
          | (guard_target = wpList _ _ _ ((⟨some _, .load _ (.tmp 15), _, _, _, _⟩ : Oper) :: _) _ _; refine step_get rfl 26 _ rfl b3 79 rfl Tryz.underlying26 rfl (.int .i8 (r : Int)) ?_ ?_; exact (HR3.out.cell 79 (by decide)).trans (by rw [HF.out]; rfl))
          | (guard_target = wpList _ _ _ ((⟨some _, .load _ (.tmp 20), _, _, _, _⟩ : Oper) :: _) _ _; refine step_get rfl 5 _ rfl b3 0 rfl Tryz.underlying5 rfl (.int .u8 ((v : Nat) : Int)) ?_ ?_; exact (HR3.out.cell 0 (by decide)).trans (by rw [HVv.out]; rfl))
          | (go_at_call 32; refine (rcasK HCb.out _).mono ?_; rintro e w3 ⟨rfl, rfl⟩)
          | (guard_target = wpList _ _ _ ((⟨some 27, .load _ (.tmp 3), _, _, _, _⟩ : Oper) :: _) _ _; refine step_load (op := ⟨some 27, .load _ (.tmp 3), _, _, _, _⟩) rfl _ rfl b3 rfl p HR3.out ?_)
          | (go_at_call 33; refine (rfindK HZ.out _ HP.out.bd).mono ?_; rintro e w3 ⟨rfl, hb⟩; have HR3 := Lib.hid (HR3.out.later hb); have HB := Lib.hid (below_on HB.out hb); clear hb)
          | (guard_target = wpList _ _ _ ((⟨some 39, .load _ (.tmp 3), _, _, _, _⟩ : Oper) :: _) _ _; refine step_load (op := ⟨some 39, .load _ (.tmp 3), _, _, _, _⟩) rfl _ rfl b3 rfl p HR3.out ?_)
          | (go_at_call 34; refine (isK0 HIb.out hr8 _ HP.out.bd).mono ?_; rintro e w3 ⟨rfl, hb⟩; have HR3 := Lib.hid (HR3.out.later hb); have HB := Lib.hid (below_on HB.out hb); clear hb)
          | (guard_target = wpList _ _ _ ((⟨some _, .load _ (.tmp 50), _, _, _, _⟩ : Oper) :: _) _ _; refine step_get rfl 5 _ rfl b3 0 rfl Tryz.underlying5 rfl (.int .u8 ((v : Nat) : Int)) ?_ ?_; exact (HR3.out.cell 0 (by decide)).trans (by rw [HVv.out]; rfl)))
         go_ret
         exact ⟨by rw [HS.out]; rfl, HB.out⟩
        ·have g8n : ((r : Int) != 7) = false := by rw [bne, g8]; rfl
         cases g9 : decide ((e : Int) < (r : Int))
         ·have g9n : decide (e < r) = false := by rw [← g9]; exact decide_eq_decide.2 (by omega)
          have HS := Lib.hid (show rkB p 0 0 = false by rw [← rtR_is (by decide) (by decide) hr, hq, g1, g3, g4, g6, g7, g8, g9]; rfl)
          clear hq hr
          have HB := Lib.hid (Below.refl w.heap.size w)
          go_enter Tryz.func17, Tryz.ntmps17
          go_wp2_with (first
           | (guard_target = wpList _ _ _ ((⟨some 3, .box _ _, _, _, _, _⟩ : Oper) :: _) _ _; refine step_box rfl _ rfl p rfl ?_; intro b3 w1 N R; have HG3 := Lib.hid (show w.heap.size ≤ b3 by have := HB.out.size; have := N.at_; omega); have HB := Lib.hid (below_on HB.out N.below); have HR3 := Lib.hid R; clear N R)
           | (guard_target = wpList _ _ _ ((⟨some _, .load _ (.tmp 15), _, _, _, _⟩ : Oper) :: _) _ _; refine step_get rfl 26 _ rfl b3 79 rfl Tryz.underlying26 rfl (.int .i8 (r : Int)) ?_ ?_; exact (HR3.out.cell 79 (by decide)).trans (by rw [HF.out]; rfl))
           | (guard_target = wpList _ _ _ ((⟨some _, .load _ (.tmp 20), _, _, _, _⟩ : Oper) :: _) _ _; refine step_get rfl 5 _ rfl b3 0 rfl Tryz.underlying5 rfl (.int .u8 ((v : Nat) : Int)) ?_ ?_; exact (HR3.out.cell 0 (by decide)).trans (by rw [HVv.out]; rfl))
           | (go_at_call 32; refine (rcasK HCb.out _).mono ?_; rintro e w3 ⟨rfl, rfl⟩)
           | (guard_target = wpList _ _ _ ((⟨some 27, .load _ (.tmp 3), _, _, _, _⟩ : Oper) :: _) _ _; refine step_load (op := ⟨some 27, .load _ (.tmp 3), _, _, _, _⟩) rfl _ rfl b3 rfl p HR3.out ?_)
           | (go_at_call 33; refine (rfindK HZ.out _ HP.out.bd).mono ?_; rintro e w3 ⟨rfl, hb⟩; have HR3 := Lib.hid (HR3.out.later hb); have HB := Lib.hid (below_on HB.out hb); clear hb)
           | (guard_target = wpList _ _ _ ((⟨some 39, .load _ (.tmp 3), _, _, _, _⟩ : Oper) :: _) _ _; refine step_load (op := ⟨some 39, .load _ (.tmp 3), _, _, _, _⟩) rfl _ rfl b3 rfl p HR3.out ?_)
           | (go_at_call 34; refine (isK0 HIb.out hr8 _ HP.out.bd).mono ?_; rintro e w3 ⟨rfl, hb⟩; have HR3 := Lib.hid (HR3.out.later hb); have HB := Lib.hid (below_on HB.out hb); clear hb)
           | (guard_target = wpList _ _ _ ((⟨some _, .load _ (.tmp 50), _, _, _, _⟩ : Oper) :: _) _ _; refine step_get rfl 5 _ rfl b3 0 rfl Tryz.underlying5 rfl (.int .u8 ((v : Nat) : Int)) ?_ ?_; exact (HR3.out.cell 0 (by decide)).trans (by rw [HVv.out]; rfl)))
          go_ret
          exact ⟨by rw [HS.out]; rfl, HB.out⟩
         ·have g9n : decide (e < r) = true := by rw [← g9]; exact decide_eq_decide.2 (by omega)
          have HS := Lib.hid (show rkB p 0 0 = true by rw [← rtR_is (by decide) (by decide) hr, hq, g1, g3, g4, g6, g7, g8, g9]; rfl)
          clear hq hr
          have HB := Lib.hid (Below.refl w.heap.size w)
          go_enter Tryz.func17, Tryz.ntmps17
          go_wp2_with (first
           | (guard_target = wpList _ _ _ ((⟨some 3, .box _ _, _, _, _, _⟩ : Oper) :: _) _ _; refine step_box rfl _ rfl p rfl ?_; intro b3 w1 N R; have HG3 := Lib.hid (show w.heap.size ≤ b3 by have := HB.out.size; have := N.at_; omega); have HB := Lib.hid (below_on HB.out N.below); have HR3 := Lib.hid R; clear N R)
           | (guard_target = wpList _ _ _ ((⟨some _, .load _ (.tmp 15), _, _, _, _⟩ : Oper) :: _) _ _; refine step_get rfl 26 _ rfl b3 79 rfl Tryz.underlying26 rfl (.int .i8 (r : Int)) ?_ ?_; exact (HR3.out.cell 79 (by decide)).trans (by rw [HF.out]; rfl))
           | (guard_target = wpList _ _ _ ((⟨some _, .load _ (.tmp 20), _, _, _, _⟩ : Oper) :: _) _ _; refine step_get rfl 5 _ rfl b3 0 rfl Tryz.underlying5 rfl (.int .u8 ((v : Nat) : Int)) ?_ ?_; exact (HR3.out.cell 0 (by decide)).trans (by rw [HVv.out]; rfl))
           | (go_at_call 32; refine (rcasK HCb.out _).mono ?_; rintro e w3 ⟨rfl, rfl⟩)
           | (guard_target = wpList _ _ _ ((⟨some 27, .load _ (.tmp 3), _, _, _, _⟩ : Oper) :: _) _ _; refine step_load (op := ⟨some 27, .load _ (.tmp 3), _, _, _, _⟩) rfl _ rfl b3 rfl p HR3.out ?_)
           | (go_at_call 33; refine (rfindK HZ.out _ HP.out.bd).mono ?_; rintro e w3 ⟨rfl, hb⟩; have HR3 := Lib.hid (HR3.out.later hb); have HB := Lib.hid (below_on HB.out hb); clear hb)
           | (guard_target = wpList _ _ _ ((⟨some 39, .load _ (.tmp 3), _, _, _, _⟩ : Oper) :: _) _ _; refine step_load (op := ⟨some 39, .load _ (.tmp 3), _, _, _, _⟩) rfl _ rfl b3 rfl p HR3.out ?_)
           | (go_at_call 34; refine (isK0 HIb.out hr8 _ HP.out.bd).mono ?_; rintro e w3 ⟨rfl, hb⟩; have HR3 := Lib.hid (HR3.out.later hb); have HB := Lib.hid (below_on HB.out hb); clear hb)
           | (guard_target = wpList _ _ _ ((⟨some _, .load _ (.tmp 50), _, _, _, _⟩ : Oper) :: _) _ _; refine step_get rfl 5 _ rfl b3 0 rfl Tryz.underlying5 rfl (.int .u8 ((v : Nat) : Int)) ?_ ?_; exact (HR3.out.cell 0 (by decide)).trans (by rw [HVv.out]; rfl)))
          go_ret
          exact ⟨by rw [HS.out]; rfl, HB.out⟩
      ·have g6n : ((v : Int) != 1) = false := by rw [bne, g6]; rfl
       cases g9 : decide ((e : Int) < (r : Int))
       ·have g9n : decide (e < r) = false := by rw [← g9]; exact decide_eq_decide.2 (by omega)
        have HS := Lib.hid (show rkB p 0 0 = false by rw [← rtR_is (by decide) (by decide) hr, hq, g1, g3, g4, g6, g9]; rfl)
        clear hq hr
        have HB := Lib.hid (Below.refl w.heap.size w)
        go_enter Tryz.func17, Tryz.ntmps17
        go_wp2_with (first
         | (guard_target = wpList _ _ _ ((⟨some 3, .box _ _, _, _, _, _⟩ : Oper) :: _) _ _; refine step_box rfl _ rfl p rfl ?_; intro b3 w1 N R; have HG3 := Lib.hid (show w.heap.size ≤ b3 by have := HB.out.size; have := N.at_; omega); have HB := Lib.hid (below_on HB.out N.below); have HR3 := Lib.hid R; clear N R)
         | (guard_target = wpList _ _ _ ((⟨some _, .load _ (.tmp 15), _, _, _, _⟩ : Oper) :: _) _ _; refine step_get rfl 26 _ rfl b3 79 rfl Tryz.underlying26 rfl (.int .i8 (r : Int)) ?_ ?_; exact (HR3.out.cell 79 (by decide)).trans (by rw [HF.out]; rfl))
         | (guard_target = wpList _ _ _ ((⟨some _, .load _ (.tmp 20), _, _, _, _⟩ : Oper) :: _) _ _; refine step_get rfl 5 _ rfl b3 0 rfl Tryz.underlying5 rfl (.int .u8 ((v : Nat) : Int)) ?_ ?_; exact (HR3.out.cell 0 (by decide)).trans (by rw [HVv.out]; rfl))
         | (go_at_call 32; refine (rcasK HCb.out _).mono ?_; rintro e w3 ⟨rfl, rfl⟩)
         | (guard_target = wpList _ _ _ ((⟨some 27, .load _ (.tmp 3), _, _, _, _⟩ : Oper) :: _) _ _; refine step_load (op := ⟨some 27, .load _ (.tmp 3), _, _, _, _⟩) rfl _ rfl b3 rfl p HR3.out ?_)
         | (go_at_call 33; refine (rfindK HZ.out _ HP.out.bd).mono ?_; rintro e w3 ⟨rfl, hb⟩; have HR3 := Lib.hid (HR3.out.later hb); have HB := Lib.hid (below_on HB.out hb); clear hb)
         | (guard_target = wpList _ _ _ ((⟨some 39, .load _ (.tmp 3), _, _, _, _⟩ : Oper) :: _) _ _; refine step_load (op := ⟨some 39, .load _ (.tmp 3), _, _, _, _⟩) rfl _ rfl b3 rfl p HR3.out ?_)
         | (go_at_call 34; refine (isK0 HIb.out hr8 _ HP.out.bd).mono ?_; rintro e w3 ⟨rfl, hb⟩; have HR3 := Lib.hid (HR3.out.later hb); have HB := Lib.hid (below_on HB.out hb); clear hb)
         | (guard_target = wpList _ _ _ ((⟨some _, .load _ (.tmp 50), _, _, _, _⟩ : Oper) :: _) _ _; refine step_get rfl 5 _ rfl b3 0 rfl Tryz.underlying5 rfl (.int .u8 ((v : Nat) : Int)) ?_ ?_; exact (HR3.out.cell 0 (by decide)).trans (by rw [HVv.out]; rfl)))
        go_ret
        exact ⟨by rw [HS.out]; rfl, HB.out⟩
       ·have g9n : decide (e < r) = true := by rw [← g9]; exact decide_eq_decide.2 (by omega)
        have HS := Lib.hid (show rkB p 0 0 = true by rw [← rtR_is (by decide) (by decide) hr, hq, g1, g3, g4, g6, g9]; rfl)
        clear hq hr
        have HB := Lib.hid (Below.refl w.heap.size w)
        go_enter Tryz.func17, Tryz.ntmps17
        go_wp2_with (first
         | (guard_target = wpList _ _ _ ((⟨some 3, .box _ _, _, _, _, _⟩ : Oper) :: _) _ _; refine step_box rfl _ rfl p rfl ?_; intro b3 w1 N R; have HG3 := Lib.hid (show w.heap.size ≤ b3 by have := HB.out.size; have := N.at_; omega); have HB := Lib.hid (below_on HB.out N.below); have HR3 := Lib.hid R; clear N R)
         | (guard_target = wpList _ _ _ ((⟨some _, .load _ (.tmp 15), _, _, _, _⟩ : Oper) :: _) _ _; refine step_get rfl 26 _ rfl b3 79 rfl Tryz.underlying26 rfl (.int .i8 (r : Int)) ?_ ?_; exact (HR3.out.cell 79 (by decide)).trans (by rw [HF.out]; rfl))
         | (guard_target = wpList _ _ _ ((⟨some _, .load _ (.tmp 20), _, _, _, _⟩ : Oper) :: _) _ _; refine step_get rfl 5 _ rfl b3 0 rfl Tryz.underlying5 rfl (.int .u8 ((v : Nat) : Int)) ?_ ?_; exact (HR3.out.cell 0 (by decide)).trans (by rw [HVv.out]; rfl))
         | (go_at_call 32; refine (rcasK HCb.out _).mono ?_; rintro e w3 ⟨rfl, rfl⟩)
         | (guard_target = wpList _ _ _ ((⟨some 27, .load _ (.tmp 3), _, _, _, _⟩ : Oper) :: _) _ _; refine step_load (op := ⟨some 27, .load _ (.tmp 3), _, _, _, _⟩) rfl _ rfl b3 rfl p HR3.out ?_)
         | (go_at_call 33; refine (rfindK HZ.out _ HP.out.bd).mono ?_; rintro e w3 ⟨rfl, hb⟩; have HR3 := Lib.hid (HR3.out.later hb); have HB := Lib.hid (below_on HB.out hb); clear hb)
         | (guard_target = wpList _ _ _ ((⟨some 39, .load _ (.tmp 3), _, _, _, _⟩ : Oper) :: _) _ _; refine step_load (op := ⟨some 39, .load _ (.tmp 3), _, _, _, _⟩) rfl _ rfl b3 rfl p HR3.out ?_)
         | (go_at_call 34; refine (isK0 HIb.out hr8 _ HP.out.bd).mono ?_; rintro e w3 ⟨rfl, hb⟩; have HR3 := Lib.hid (HR3.out.later hb); have HB := Lib.hid (below_on HB.out hb); clear hb)
         | (guard_target = wpList _ _ _ ((⟨some _, .load _ (.tmp 50), _, _, _, _⟩ : Oper) :: _) _ _; refine step_get rfl 5 _ rfl b3 0 rfl Tryz.underlying5 rfl (.int .u8 ((v : Nat) : Int)) ?_ ?_; exact (HR3.out.cell 0 (by decide)).trans (by rw [HVv.out]; rfl)))
        go_ret
        exact ⟨by rw [HS.out]; rfl, HB.out⟩
 ·obtain ⟨f, hf⟩ : ∃ f, roA p 0 0 = f := ⟨_, rfl⟩
  have HF := Lib.hid (show p 79 = f from hf)
  rw [hf] at hq g1
  have hfr : f = -1 := beq_iff_eq.1 g1
  have hfr1 : -128 ≤ f ∧ f ≤ 127 := by omega
  clear hf hfr
  have HS := Lib.hid (show rkB p 0 0 = true by rw [← rtR_is (by decide) (by decide) hr, hq, g1]; rfl)
  clear hq hr
  have HB := Lib.hid (Below.refl w.heap.size w)
  go_enter Tryz.func17, Tryz.ntmps17
  go_wp2_with (first
   | (guard_target = wpList _ _ _ ((⟨some 3, .box _ _, _, _, _, _⟩ : Oper) :: _) _ _; refine step_box rfl _ rfl p rfl ?_; intro b3 w1 N R; have HG3 := Lib.hid (show w.heap.size ≤ b3 by have := HB.out.size; have := N.at_; omega); have HB := Lib.hid (below_on HB.out N.below); have HR3 := Lib.hid R; clear N R)
   | (guard_target = wpList _ _ _ ((⟨some _, .load _ (.tmp 15), _, _, _, _⟩ : Oper) :: _) _ _; refine step_get rfl 26 _ rfl b3 79 rfl Tryz.underlying26 rfl (.int .i8 f) ?_ ?_; exact (HR3.out.cell 79 (by decide)).trans (by rw [HF.out]; rfl)))
  go_ret
  exact ⟨by rw [HS.out]; rfl, HB.out⟩
set_option maxRecDepth 100000 in
set_option maxHeartbeats 4000000 in
theorem vr_right01 (p : Nat → Int) (w : World) (hp : FitP p) (hr : -1 ≤ roA p 0 1 ∧ roA p 0 1 < 8) : Calls Tryz.prog 17 #[.agg (posA p), .int .u8 0, .int .i64 1] w (BoL (rkB p 0 1) w) := by
 have HP := Lib.hid hp
 obtain ⟨v, hv⟩ := Int.eq_ofNat_of_zero_le hp.var.1
 have hv : p 0 = (v : Int) := hv
 have HVv := Lib.hid hv
 have hv255 : v ≤ 255 := by have := hp.var; omega
 have hq : rtR p 0 1 = (bif roA p 0 1 == -1 then true else bif !casB v then false else bif decide (kingZ p 0 < 0) || (!(kingZ p 0 / 8 == 0) || !isB p (0 + (roA p 0 1).toNat) 0 4) then false else bif !((v : Int) == 1) && (!(kingZ p 0 % 8 == 4) || ((false && !(roA p 0 1 == 7)) || (true && !(roA p 0 1 == 0)))) then false else decide (roA p 0 1 < kingZ p 0 % 8)) := by
  unfold rtR
  rw [hv, Int.toNat_natCast]
  rfl
 clear hp hv
 cases g1 : (roA p 0 1 == -1)
 ·obtain ⟨r, hrr⟩ : ∃ r : Nat, roA p 0 1 = (r : Int) := ⟨(roA p 0 1).toNat, by have := beq_eq_false_iff_ne.1 g1; omega⟩
  have hr8 : r < 8 := by omega
  have HF := Lib.hid (show p 80 = (r : Int) from hrr)
  rw [hrr, Int.toNat_natCast] at hq
  have g1 : ((r : Int) == -1) = false := by rw [beq_eq_false_iff_ne]; omega
  clear hrr
  obtain ⟨cb, hcb⟩ : ∃ cb, casB v = cb := ⟨_, rfl⟩
  have HCb := Lib.hid hcb
  rw [hcb] at hq
  clear hcb
  cases cb
  ·skip
   have HS := Lib.hid (show rkB p 0 1 = false by rw [← rtR_is (by decide) (by decide) hr, hq, g1]; rfl)
   clear hq hr
   have HB := Lib.hid (Below.refl w.heap.size w)
   go_enter Tryz.func17, Tryz.ntmps17
   go_wp2_with (first
    | (guard_target = wpList _ _ _ ((⟨some 3, .box _ _, _, _, _, _⟩ : Oper) :: _) _ _; refine step_box rfl _ rfl p rfl ?_; intro b3 w1 N R; have HG3 := Lib.hid (show w.heap.size ≤ b3 by have := HB.out.size; have := N.at_; omega); have HB := Lib.hid (below_on HB.out N.below); have HR3 := Lib.hid R; clear N R)
    | (guard_target = wpList _ _ _ ((⟨some _, .load _ (.tmp 15), _, _, _, _⟩ : Oper) :: _) _ _; refine step_get rfl 26 _ rfl b3 80 rfl Tryz.underlying26 rfl (.int .i8 (r : Int)) ?_ ?_; exact (HR3.out.cell 80 (by decide)).trans (by rw [HF.out]; rfl))
    | (guard_target = wpList _ _ _ ((⟨some _, .load _ (.tmp 20), _, _, _, _⟩ : Oper) :: _) _ _; refine step_get rfl 5 _ rfl b3 0 rfl Tryz.underlying5 rfl (.int .u8 ((v : Nat) : Int)) ?_ ?_; exact (HR3.out.cell 0 (by decide)).trans (by rw [HVv.out]; rfl))
    | (go_at_call 32; refine (rcasK HCb.out _).mono ?_; rintro e w3 ⟨rfl, rfl⟩))
   go_ret
   exact ⟨by rw [HS.out]; rfl, HB.out⟩
  ·obtain ⟨ib, hib⟩ : ∃ ib, isB p (0 + r) 0 4 = ib := ⟨_, rfl⟩
   have HIb := Lib.hid hib
   rw [hib] at hq
   clear hib
   by_cases hk : kingZ p 0 < 0
   ·obtain ⟨z, hz⟩ : ∃ z, kingZ p 0 = z := ⟨_, rfl⟩
    have HZ := Lib.hid hz
    rw [hz] at hq hk
    have g3 : decide (z < 0) = true := decide_eq_true hk
    clear hz hk
    have HS := Lib.hid (show rkB p 0 1 = false by rw [← rtR_is (by decide) (by decide) hr, hq, g1, g3]; rfl)
    clear hq hr
    have HB := Lib.hid (Below.refl w.heap.size w)
    go_enter Tryz.func17, Tryz.ntmps17
    go_wp2_with (first
     | (guard_target = wpList _ _ _ ((⟨some 3, .box _ _, _, _, _, _⟩ : Oper) :: _) _ _; refine step_box rfl _ rfl p rfl ?_; intro b3 w1 N R; have HG3 := Lib.hid (show w.heap.size ≤ b3 by have := HB.out.size; have := N.at_; omega); have HB := Lib.hid (below_on HB.out N.below); have HR3 := Lib.hid R; clear N R)
     | (guard_target = wpList _ _ _ ((⟨some _, .load _ (.tmp 15), _, _, _, _⟩ : Oper) :: _) _ _; refine step_get rfl 26 _ rfl b3 80 rfl Tryz.underlying26 rfl (.int .i8 (r : Int)) ?_ ?_; exact (HR3.out.cell 80 (by decide)).trans (by rw [HF.out]; rfl))
     | (guard_target = wpList _ _ _ ((⟨some _, .load _ (.tmp 20), _, _, _, _⟩ : Oper) :: _) _ _; refine step_get rfl 5 _ rfl b3 0 rfl Tryz.underlying5 rfl (.int .u8 ((v : Nat) : Int)) ?_ ?_; exact (HR3.out.cell 0 (by decide)).trans (by rw [HVv.out]; rfl))
     | (go_at_call 32; refine (rcasK HCb.out _).mono ?_; rintro e w3 ⟨rfl, rfl⟩)
     | (guard_target = wpList _ _ _ ((⟨some 27, .load _ (.tmp 3), _, _, _, _⟩ : Oper) :: _) _ _; refine step_load (op := ⟨some 27, .load _ (.tmp 3), _, _, _, _⟩) rfl _ rfl b3 rfl p HR3.out ?_)
     | (go_at_call 33; refine (rfindK HZ.out _ HP.out.bd).mono ?_; rintro e w3 ⟨rfl, hb⟩; have HR3 := Lib.hid (HR3.out.later hb); have HB := Lib.hid (below_on HB.out hb); clear hb))
    go_ret
    exact ⟨by rw [HS.out]; rfl, HB.out⟩
   ·obtain ⟨n, hn, hkn⟩ := vking_sq (p := p) (c := 0) (by omega)
    have HZ := Lib.hid hkn
    rw [hkn] at hq
    have g3 : decide ((n : Int) < 0) = false := decide_eq_false (by omega)
    clear hk hkn
    cases g4 : ((n : Int) / 8 == 0)
    ·have g4' : (((n / 8 : Nat) : Int) == 0) = false := g4
     have g4n : ((n : Int) / 8 != 0) = true := by rw [bne, g4]; rfl
     have g4m : (((n / 8 : Nat) : Int) != 0) = true := by rw [bne, g4']; rfl
     have HS := Lib.hid (show rkB p 0 1 = false by rw [← rtR_is (by decide) (by decide) hr, hq, g1, g3, g4]; rfl)
     clear hq hr
     have HB := Lib.hid (Below.refl w.heap.size w)
     go_enter Tryz.func17, Tryz.ntmps17
     go_wp2_with (first
      | (guard_target = wpList _ _ _ ((⟨some 3, .box _ _, _, _, _, _⟩ : Oper) :: _) _ _; refine step_box rfl _ rfl p rfl ?_; intro b3 w1 N R; have HG3 := Lib.hid (show w.heap.size ≤ b3 by have := HB.out.size; have := N.at_; omega); have HB := Lib.hid (below_on HB.out N.below); have HR3 := Lib.hid R; clear N R)
      | (guard_target = wpList _ _ _ ((⟨some _, .load _ (.tmp 15), _, _, _, _⟩ : Oper) :: _) _ _; refine step_get rfl 26 _ rfl b3 80 rfl Tryz.underlying26 rfl (.int .i8 (r : Int)) ?_ ?_; exact (HR3.out.cell 80 (by decide)).trans (by rw [HF.out]; rfl))
      | (guard_target = wpList _ _ _ ((⟨some _, .load _ (.tmp 20), _, _, _, _⟩ : Oper) :: _) _ _; refine step_get rfl 5 _ rfl b3 0 rfl Tryz.underlying5 rfl (.int .u8 ((v : Nat) : Int)) ?_ ?_; exact (HR3.out.cell 0 (by decide)).trans (by rw [HVv.out]; rfl))
      | (go_at_call 32; refine (rcasK HCb.out _).mono ?_; rintro e w3 ⟨rfl, rfl⟩)
      | (guard_target = wpList _ _ _ ((⟨some 27, .load _ (.tmp 3), _, _, _, _⟩ : Oper) :: _) _ _; refine step_load (op := ⟨some 27, .load _ (.tmp 3), _, _, _, _⟩) rfl _ rfl b3 rfl p HR3.out ?_)
      | (go_at_call 33; refine (rfindK HZ.out _ HP.out.bd).mono ?_; rintro e w3 ⟨rfl, hb⟩; have HR3 := Lib.hid (HR3.out.later hb); have HB := Lib.hid (below_on HB.out hb); clear hb))
     go_ret
     exact ⟨by rw [HS.out]; rfl, HB.out⟩
    ·have g4' : (((n / 8 : Nat) : Int) == 0) = true := g4
     have g4n : ((n : Int) / 8 != 0) = false := by rw [bne, g4]; rfl
     have g4m : (((n / 8 : Nat) : Int) != 0) = false := by rw [bne, g4']; rfl
     cases ib
     ·skip
      have HS := Lib.hid (show rkB p 0 1 = false by rw [← rtR_is (by decide) (by decide) hr, hq, g1, g3, g4]; rfl)
      clear hq hr
      have HB := Lib.hid (Below.refl w.heap.size w)
      go_enter Tryz.func17, Tryz.ntmps17
      go_wp2_with (first
       | (guard_target = wpList _ _ _ ((⟨some 3, .box _ _, _, _, _, _⟩ : Oper) :: _) _ _; refine step_box rfl _ rfl p rfl ?_; intro b3 w1 N R; have HG3 := Lib.hid (show w.heap.size ≤ b3 by have := HB.out.size; have := N.at_; omega); have HB := Lib.hid (below_on HB.out N.below); have HR3 := Lib.hid R; clear N R)
       | (guard_target = wpList _ _ _ ((⟨some _, .load _ (.tmp 15), _, _, _, _⟩ : Oper) :: _) _ _; refine step_get rfl 26 _ rfl b3 80 rfl Tryz.underlying26 rfl (.int .i8 (r : Int)) ?_ ?_; exact (HR3.out.cell 80 (by decide)).trans (by rw [HF.out]; rfl))
       | (guard_target = wpList _ _ _ ((⟨some _, .load _ (.tmp 20), _, _, _, _⟩ : Oper) :: _) _ _; refine step_get rfl 5 _ rfl b3 0 rfl Tryz.underlying5 rfl (.int .u8 ((v : Nat) : Int)) ?_ ?_; exact (HR3.out.cell 0 (by decide)).trans (by rw [HVv.out]; rfl))
       | (go_at_call 32; refine (rcasK HCb.out _).mono ?_; rintro e w3 ⟨rfl, rfl⟩)
       | (guard_target = wpList _ _ _ ((⟨some 27, .load _ (.tmp 3), _, _, _, _⟩ : Oper) :: _) _ _; refine step_load (op := ⟨some 27, .load _ (.tmp 3), _, _, _, _⟩) rfl _ rfl b3 rfl p HR3.out ?_)
       | (go_at_call 33; refine (rfindK HZ.out _ HP.out.bd).mono ?_; rintro e w3 ⟨rfl, hb⟩; have HR3 := Lib.hid (HR3.out.later hb); have HB := Lib.hid (below_on HB.out hb); clear hb)
       | (guard_target = wpList _ _ _ ((⟨some 39, .load _ (.tmp 3), _, _, _, _⟩ : Oper) :: _) _ _; refine step_load (op := ⟨some 39, .load _ (.tmp 3), _, _, _, _⟩) rfl _ rfl b3 rfl p HR3.out ?_)
       | (go_at_call 34; refine (isK0 HIb.out hr8 _ HP.out.bd).mono ?_; rintro e w3 ⟨rfl, hb⟩; have HR3 := Lib.hid (HR3.out.later hb); have HB := Lib.hid (below_on HB.out hb); clear hb))
      go_ret
      exact ⟨by rw [HS.out]; rfl, HB.out⟩
     ·obtain ⟨e, he⟩ : ∃ e, n % 8 = e := ⟨_, rfl⟩
      have he8 : e < 8 := by omega
      have hei : (n : Int) % 8 = (e : Int) := by omega
      rw [hei] at hq
      clear he
      cases g6 : ((v : Int) == 1)
      ·have g6n : ((v : Int) != 1) = true := by rw [bne, g6]; rfl
       cases g7 : ((e : Int) == 4)
       ·have g7n : ((e : Int) != 4) = true := by rw [bne, g7]; rfl
        have HS := Lib.hid (show rkB p 0 1 = false by rw [← rtR_is (by decide) (by decide) hr, hq, g1, g3, g4, g6, g7]; rfl)
        clear hq hr
        have HB := Lib.hid (Below.refl w.heap.size w)
        go_enter Tryz.func17, Tryz.ntmps17
        go_wp2_with (first
         | (guard_target = wpList _ _ _ ((⟨some 3, .box _ _, _, _, _, _⟩ : Oper) :: _) _ _; refine step_box rfl _ rfl p rfl ?_; intro b3 w1 N R; have HG3 := Lib.hid (show w.heap.size ≤ b3 by have := HB.out.size; have := N.at_; omega); have HB := Lib.hid (below_on HB.out N.below); have HR3 := Lib.hid R; clear N R)
         | (guard_target = wpList _ _ _ ((⟨some _, .load _ (.tmp 15), _, _, _, _⟩ : Oper) :: _) _ _; refine step_get rfl 26 _ rfl b3 80 rfl Tryz.underlying26 rfl (.int .i8 (r : Int)) ?_ ?_; exact (HR3.out.cell 80 (by decide)).trans (by rw [HF.out]; rfl))
         | (guard_target = wpList _ _ _ ((⟨some _, .load _ (.tmp 20), _, _, _, _⟩ : Oper) :: _) _ _; refine step_get rfl 5 _ rfl b3 0 rfl Tryz.underlying5 rfl (.int .u8 ((v : Nat) : Int)) ?_ ?_; exact (HR3.out.cell 0 (by decide)).trans (by rw [HVv.out]; rfl))
         | (go_at_call 32; refine (rcasK HCb.out _).mono ?_; rintro e w3 ⟨rfl, rfl⟩)
         | (guard_target = wpList _ _ _ ((⟨some 27, .load _ (.tmp 3), _, _, _, _⟩ : Oper) :: _) _ _; refine step_load (op := ⟨some 27, .load _ (.tmp 3), _, _, _, _⟩) rfl _ rfl b3 rfl p HR3.out ?_)
         | (go_at_call 33; refine (rfindK HZ.out _ HP.out.bd).mono ?_; rintro e w3 ⟨rfl, hb⟩; have HR3 := Lib.hid (HR3.out.later hb); have HB := Lib.hid (below_on HB.out hb); clear hb)
         | (guard_target = wpList _ _ _ ((⟨some 39, .load _ (.tmp 3), _, _, _, _⟩ : Oper) :: _) _ _; refine step_load (op := ⟨some 39, .load _ (.tmp 3), _, _, _, _⟩) rfl _ rfl b3 rfl p HR3.out ?_)
         | (go_at_call 34; refine (isK0 HIb.out hr8 _ HP.out.bd).mono ?_; rintro e w3 ⟨rfl, hb⟩; have HR3 := Lib.hid (HR3.out.later hb); have HB := Lib.hid (below_on HB.out hb); clear hb)
         | (guard_target = wpList _ _ _ ((⟨some _, .load _ (.tmp 50), _, _, _, _⟩ : Oper) :: _) _ _; refine step_get rfl 5 _ rfl b3 0 rfl Tryz.underlying5 rfl (.int .u8 ((v : Nat) : Int)) ?_ ?_; exact (HR3.out.cell 0 (by decide)).trans (by rw [HVv.out]; rfl)))
        go_ret
        exact ⟨by rw [HS.out]; rfl, HB.out⟩
       ·have g7n : ((e : Int) != 4) = false := by rw [bne, g7]; rfl
        cases g8 : ((r : Int) == 0)
        ·have g8n : ((r : Int) != 0) = true := by rw [bne, g8]; rfl
         have HS := Lib.hid (show rkB p 0 1 = false by rw [← rtR_is (by decide) (by decide) hr, hq, g1, g3, g4, g6, g7, g8]; rfl)
         clear hq hr
         have HB := Lib.hid (Below.refl w.heap.size w)
         go_enter Tryz.func17, Tryz.ntmps17
         go_wp2_with (first
          | (guard_target = wpList _ _ _ ((⟨some 3, .box _ _, _, _, _, _⟩ : Oper) :: _) _ _; refine step_box rfl _ rfl p rfl ?_; intro b3 w1 N R; have HG3 := Lib.hid (show w.heap.size ≤ b3 by have := HB.out.size; have := N.at_; omega); have HB := Lib.hid (below_on HB.out N.below); have HR3 := Lib.hid R; clear N R)
          | (guard_target = wpList _ _ _ ((⟨some _, .load _ (.tmp 15), _, _, _, _⟩ : Oper) :: _) _ _; refine step_get rfl 26 _ rfl b3 80 rfl Tryz.underlying26 rfl (.int .i8 (r : Int)) ?_ ?_; exact (HR3.out.cell 80 (by decide)).trans (by rw [HF.out]; rfl))
          | (guard_target = wpList _ _ _ ((⟨some _, .load _ (.tmp 20), _, _, _, _⟩ : Oper) :: _) _ _; refine step_get rfl 5 _ rfl b3 0 rfl Tryz.underlying5 rfl (.int .u8 ((v : Nat) : Int)) ?_ ?_; exact (HR3.out.cell 0 (by decide)).trans (by rw [HVv.out]; rfl))
          | (go_at_call 32; refine (rcasK HCb.out _).mono ?_; rintro e w3 ⟨rfl, rfl⟩)
          | (guard_target = wpList _ _ _ ((⟨some 27, .load _ (.tmp 3), _, _, _, _⟩ : Oper) :: _) _ _; refine step_load (op := ⟨some 27, .load _ (.tmp 3), _, _, _, _⟩) rfl _ rfl b3 rfl p HR3.out ?_)
          | (go_at_call 33; refine (rfindK HZ.out _ HP.out.bd).mono ?_; rintro e w3 ⟨rfl, hb⟩; have HR3 := Lib.hid (HR3.out.later hb); have HB := Lib.hid (below_on HB.out hb); clear hb)
          | (guard_target = wpList _ _ _ ((⟨some 39, .load _ (.tmp 3), _, _, _, _⟩ : Oper) :: _) _ _; refine step_load (op := ⟨some 39, .load _ (.tmp 3), _, _, _, _⟩) rfl _ rfl b3 rfl p HR3.out ?_)
          | (go_at_call 34; refine (isK0 HIb.out hr8 _ HP.out.bd).mono ?_; rintro e w3 ⟨rfl, hb⟩; have HR3 := Lib.hid (HR3.out.later hb); have HB := Lib.hid (below_on HB.out hb); clear hb)
          | (guard_target = wpList _ _ _ ((⟨some _, .load _ (.tmp 50), _, _, _, _⟩ : Oper) :: _) _ _; refine step_get rfl 5 _ rfl b3 0 rfl Tryz.underlying5 rfl (.int .u8 ((v : Nat) : Int)) ?_ ?_; exact (HR3.out.cell 0 (by decide)).trans (by rw [HVv.out]; rfl)))
         go_ret
         exact ⟨by rw [HS.out]; rfl, HB.out⟩
        ·have g8n : ((r : Int) != 0) = false := by rw [bne, g8]; rfl
         cases g9 : decide ((r : Int) < (e : Int))
         ·have g9n : decide (r < e) = false := by rw [← g9]; exact decide_eq_decide.2 (by omega)
          have HS := Lib.hid (show rkB p 0 1 = false by rw [← rtR_is (by decide) (by decide) hr, hq, g1, g3, g4, g6, g7, g8, g9]; rfl)
          clear hq hr
          have HB := Lib.hid (Below.refl w.heap.size w)
          go_enter Tryz.func17, Tryz.ntmps17
          go_wp2_with (first
           | (guard_target = wpList _ _ _ ((⟨some 3, .box _ _, _, _, _, _⟩ : Oper) :: _) _ _; refine step_box rfl _ rfl p rfl ?_; intro b3 w1 N R; have HG3 := Lib.hid (show w.heap.size ≤ b3 by have := HB.out.size; have := N.at_; omega); have HB := Lib.hid (below_on HB.out N.below); have HR3 := Lib.hid R; clear N R)
           | (guard_target = wpList _ _ _ ((⟨some _, .load _ (.tmp 15), _, _, _, _⟩ : Oper) :: _) _ _; refine step_get rfl 26 _ rfl b3 80 rfl Tryz.underlying26 rfl (.int .i8 (r : Int)) ?_ ?_; exact (HR3.out.cell 80 (by decide)).trans (by rw [HF.out]; rfl))
           | (guard_target = wpList _ _ _ ((⟨some _, .load _ (.tmp 20), _, _, _, _⟩ : Oper) :: _) _ _; refine step_get rfl 5 _ rfl b3 0 rfl Tryz.underlying5 rfl (.int .u8 ((v : Nat) : Int)) ?_ ?_; exact (HR3.out.cell 0 (by decide)).trans (by rw [HVv.out]; rfl))
           | (go_at_call 32; refine (rcasK HCb.out _).mono ?_; rintro e w3 ⟨rfl, rfl⟩)
           | (guard_target = wpList _ _ _ ((⟨some 27, .load _ (.tmp 3), _, _, _, _⟩ : Oper) :: _) _ _; refine step_load (op := ⟨some 27, .load _ (.tmp 3), _, _, _, _⟩) rfl _ rfl b3 rfl p HR3.out ?_)
           | (go_at_call 33; refine (rfindK HZ.out _ HP.out.bd).mono ?_; rintro e w3 ⟨rfl, hb⟩; have HR3 := Lib.hid (HR3.out.later hb); have HB := Lib.hid (below_on HB.out hb); clear hb)
           | (guard_target = wpList _ _ _ ((⟨some 39, .load _ (.tmp 3), _, _, _, _⟩ : Oper) :: _) _ _; refine step_load (op := ⟨some 39, .load _ (.tmp 3), _, _, _, _⟩) rfl _ rfl b3 rfl p HR3.out ?_)
           | (go_at_call 34; refine (isK0 HIb.out hr8 _ HP.out.bd).mono ?_; rintro e w3 ⟨rfl, hb⟩; have HR3 := Lib.hid (HR3.out.later hb); have HB := Lib.hid (below_on HB.out hb); clear hb)
           | (guard_target = wpList _ _ _ ((⟨some _, .load _ (.tmp 50), _, _, _, _⟩ : Oper) :: _) _ _; refine step_get rfl 5 _ rfl b3 0 rfl Tryz.underlying5 rfl (.int .u8 ((v : Nat) : Int)) ?_ ?_; exact (HR3.out.cell 0 (by decide)).trans (by rw [HVv.out]; rfl)))
          go_ret
          exact ⟨by rw [HS.out]; rfl, HB.out⟩
         ·have g9n : decide (r < e) = true := by rw [← g9]; exact decide_eq_decide.2 (by omega)
          have HS := Lib.hid (show rkB p 0 1 = true by rw [← rtR_is (by decide) (by decide) hr, hq, g1, g3, g4, g6, g7, g8, g9]; rfl)
          clear hq hr
          have HB := Lib.hid (Below.refl w.heap.size w)
          go_enter Tryz.func17, Tryz.ntmps17
          go_wp2_with (first
           | (guard_target = wpList _ _ _ ((⟨some 3, .box _ _, _, _, _, _⟩ : Oper) :: _) _ _; refine step_box rfl _ rfl p rfl ?_; intro b3 w1 N R; have HG3 := Lib.hid (show w.heap.size ≤ b3 by have := HB.out.size; have := N.at_; omega); have HB := Lib.hid (below_on HB.out N.below); have HR3 := Lib.hid R; clear N R)
           | (guard_target = wpList _ _ _ ((⟨some _, .load _ (.tmp 15), _, _, _, _⟩ : Oper) :: _) _ _; refine step_get rfl 26 _ rfl b3 80 rfl Tryz.underlying26 rfl (.int .i8 (r : Int)) ?_ ?_; exact (HR3.out.cell 80 (by decide)).trans (by rw [HF.out]; rfl))
           | (guard_target = wpList _ _ _ ((⟨some _, .load _ (.tmp 20), _, _, _, _⟩ : Oper) :: _) _ _; refine step_get rfl 5 _ rfl b3 0 rfl Tryz.underlying5 rfl (.int .u8 ((v : Nat) : Int)) ?_ ?_; exact (HR3.out.cell 0 (by decide)).trans (by rw [HVv.out]; rfl))
           | (go_at_call 32; refine (rcasK HCb.out _).mono ?_; rintro e w3 ⟨rfl, rfl⟩)
           | (guard_target = wpList _ _ _ ((⟨some 27, .load _ (.tmp 3), _, _, _, _⟩ : Oper) :: _) _ _; refine step_load (op := ⟨some 27, .load _ (.tmp 3), _, _, _, _⟩) rfl _ rfl b3 rfl p HR3.out ?_)
           | (go_at_call 33; refine (rfindK HZ.out _ HP.out.bd).mono ?_; rintro e w3 ⟨rfl, hb⟩; have HR3 := Lib.hid (HR3.out.later hb); have HB := Lib.hid (below_on HB.out hb); clear hb)
           | (guard_target = wpList _ _ _ ((⟨some 39, .load _ (.tmp 3), _, _, _, _⟩ : Oper) :: _) _ _; refine step_load (op := ⟨some 39, .load _ (.tmp 3), _, _, _, _⟩) rfl _ rfl b3 rfl p HR3.out ?_)
           | (go_at_call 34; refine (isK0 HIb.out hr8 _ HP.out.bd).mono ?_; rintro e w3 ⟨rfl, hb⟩; have HR3 := Lib.hid (HR3.out.later hb); have HB := Lib.hid (below_on HB.out hb); clear hb)
           | (guard_target = wpList _ _ _ ((⟨some _, .load _ (.tmp 50), _, _, _, _⟩ : Oper) :: _) _ _; refine step_get rfl 5 _ rfl b3 0 rfl Tryz.underlying5 rfl (.int .u8 ((v : Nat) : Int)) ?_ ?_; exact (HR3.out.cell 0 (by decide)).trans (by rw [HVv.out]; rfl)))
          go_ret
          exact ⟨by rw [HS.out]; rfl, HB.out⟩
      ·have g6n : ((v : Int) != 1) = false := by rw [bne, g6]; rfl
       cases g9 : decide ((r : Int) < (e : Int))
       ·have g9n : decide (r < e) = false := by rw [← g9]; exact decide_eq_decide.2 (by omega)
        have HS := Lib.hid (show rkB p 0 1 = false by rw [← rtR_is (by decide) (by decide) hr, hq, g1, g3, g4, g6, g9]; rfl)
        clear hq hr
        have HB := Lib.hid (Below.refl w.heap.size w)
        go_enter Tryz.func17, Tryz.ntmps17
        go_wp2_with (first
         | (guard_target = wpList _ _ _ ((⟨some 3, .box _ _, _, _, _, _⟩ : Oper) :: _) _ _; refine step_box rfl _ rfl p rfl ?_; intro b3 w1 N R; have HG3 := Lib.hid (show w.heap.size ≤ b3 by have := HB.out.size; have := N.at_; omega); have HB := Lib.hid (below_on HB.out N.below); have HR3 := Lib.hid R; clear N R)
         | (guard_target = wpList _ _ _ ((⟨some _, .load _ (.tmp 15), _, _, _, _⟩ : Oper) :: _) _ _; refine step_get rfl 26 _ rfl b3 80 rfl Tryz.underlying26 rfl (.int .i8 (r : Int)) ?_ ?_; exact (HR3.out.cell 80 (by decide)).trans (by rw [HF.out]; rfl))
         | (guard_target = wpList _ _ _ ((⟨some _, .load _ (.tmp 20), _, _, _, _⟩ : Oper) :: _) _ _; refine step_get rfl 5 _ rfl b3 0 rfl Tryz.underlying5 rfl (.int .u8 ((v : Nat) : Int)) ?_ ?_; exact (HR3.out.cell 0 (by decide)).trans (by rw [HVv.out]; rfl))
         | (go_at_call 32; refine (rcasK HCb.out _).mono ?_; rintro e w3 ⟨rfl, rfl⟩)
         | (guard_target = wpList _ _ _ ((⟨some 27, .load _ (.tmp 3), _, _, _, _⟩ : Oper) :: _) _ _; refine step_load (op := ⟨some 27, .load _ (.tmp 3), _, _, _, _⟩) rfl _ rfl b3 rfl p HR3.out ?_)
         | (go_at_call 33; refine (rfindK HZ.out _ HP.out.bd).mono ?_; rintro e w3 ⟨rfl, hb⟩; have HR3 := Lib.hid (HR3.out.later hb); have HB := Lib.hid (below_on HB.out hb); clear hb)
         | (guard_target = wpList _ _ _ ((⟨some 39, .load _ (.tmp 3), _, _, _, _⟩ : Oper) :: _) _ _; refine step_load (op := ⟨some 39, .load _ (.tmp 3), _, _, _, _⟩) rfl _ rfl b3 rfl p HR3.out ?_)
         | (go_at_call 34; refine (isK0 HIb.out hr8 _ HP.out.bd).mono ?_; rintro e w3 ⟨rfl, hb⟩; have HR3 := Lib.hid (HR3.out.later hb); have HB := Lib.hid (below_on HB.out hb); clear hb)
         | (guard_target = wpList _ _ _ ((⟨some _, .load _ (.tmp 50), _, _, _, _⟩ : Oper) :: _) _ _; refine step_get rfl 5 _ rfl b3 0 rfl Tryz.underlying5 rfl (.int .u8 ((v : Nat) : Int)) ?_ ?_; exact (HR3.out.cell 0 (by decide)).trans (by rw [HVv.out]; rfl)))
        go_ret
        exact ⟨by rw [HS.out]; rfl, HB.out⟩
       ·have g9n : decide (r < e) = true := by rw [← g9]; exact decide_eq_decide.2 (by omega)
        have HS := Lib.hid (show rkB p 0 1 = true by rw [← rtR_is (by decide) (by decide) hr, hq, g1, g3, g4, g6, g9]; rfl)
        clear hq hr
        have HB := Lib.hid (Below.refl w.heap.size w)
        go_enter Tryz.func17, Tryz.ntmps17
        go_wp2_with (first
         | (guard_target = wpList _ _ _ ((⟨some 3, .box _ _, _, _, _, _⟩ : Oper) :: _) _ _; refine step_box rfl _ rfl p rfl ?_; intro b3 w1 N R; have HG3 := Lib.hid (show w.heap.size ≤ b3 by have := HB.out.size; have := N.at_; omega); have HB := Lib.hid (below_on HB.out N.below); have HR3 := Lib.hid R; clear N R)
         | (guard_target = wpList _ _ _ ((⟨some _, .load _ (.tmp 15), _, _, _, _⟩ : Oper) :: _) _ _; refine step_get rfl 26 _ rfl b3 80 rfl Tryz.underlying26 rfl (.int .i8 (r : Int)) ?_ ?_; exact (HR3.out.cell 80 (by decide)).trans (by rw [HF.out]; rfl))
         | (guard_target = wpList _ _ _ ((⟨some _, .load _ (.tmp 20), _, _, _, _⟩ : Oper) :: _) _ _; refine step_get rfl 5 _ rfl b3 0 rfl Tryz.underlying5 rfl (.int .u8 ((v : Nat) : Int)) ?_ ?_; exact (HR3.out.cell 0 (by decide)).trans (by rw [HVv.out]; rfl))
         | (go_at_call 32; refine (rcasK HCb.out _).mono ?_; rintro e w3 ⟨rfl, rfl⟩)
         | (guard_target = wpList _ _ _ ((⟨some 27, .load _ (.tmp 3), _, _, _, _⟩ : Oper) :: _) _ _; refine step_load (op := ⟨some 27, .load _ (.tmp 3), _, _, _, _⟩) rfl _ rfl b3 rfl p HR3.out ?_)
         | (go_at_call 33; refine (rfindK HZ.out _ HP.out.bd).mono ?_; rintro e w3 ⟨rfl, hb⟩; have HR3 := Lib.hid (HR3.out.later hb); have HB := Lib.hid (below_on HB.out hb); clear hb)
         | (guard_target = wpList _ _ _ ((⟨some 39, .load _ (.tmp 3), _, _, _, _⟩ : Oper) :: _) _ _; refine step_load (op := ⟨some 39, .load _ (.tmp 3), _, _, _, _⟩) rfl _ rfl b3 rfl p HR3.out ?_)
         | (go_at_call 34; refine (isK0 HIb.out hr8 _ HP.out.bd).mono ?_; rintro e w3 ⟨rfl, hb⟩; have HR3 := Lib.hid (HR3.out.later hb); have HB := Lib.hid (below_on HB.out hb); clear hb)
         | (guard_target = wpList _ _ _ ((⟨some _, .load _ (.tmp 50), _, _, _, _⟩ : Oper) :: _) _ _; refine step_get rfl 5 _ rfl b3 0 rfl Tryz.underlying5 rfl (.int .u8 ((v : Nat) : Int)) ?_ ?_; exact (HR3.out.cell 0 (by decide)).trans (by rw [HVv.out]; rfl)))
        go_ret
        exact ⟨by rw [HS.out]; rfl, HB.out⟩
 ·obtain ⟨f, hf⟩ : ∃ f, roA p 0 1 = f := ⟨_, rfl⟩
  have HF := Lib.hid (show p 80 = f from hf)
  rw [hf] at hq g1
  have hfr : f = -1 := beq_iff_eq.1 g1
  have hfr1 : -128 ≤ f ∧ f ≤ 127 := by omega
  clear hf hfr
  have HS := Lib.hid (show rkB p 0 1 = true by rw [← rtR_is (by decide) (by decide) hr, hq, g1]; rfl)
  clear hq hr
  have HB := Lib.hid (Below.refl w.heap.size w)
  go_enter Tryz.func17, Tryz.ntmps17
  go_wp2_with (first
   | (guard_target = wpList _ _ _ ((⟨some 3, .box _ _, _, _, _, _⟩ : Oper) :: _) _ _; refine step_box rfl _ rfl p rfl ?_; intro b3 w1 N R; have HG3 := Lib.hid (show w.heap.size ≤ b3 by have := HB.out.size; have := N.at_; omega); have HB := Lib.hid (below_on HB.out N.below); have HR3 := Lib.hid R; clear N R)
   | (guard_target = wpList _ _ _ ((⟨some _, .load _ (.tmp 15), _, _, _, _⟩ : Oper) :: _) _ _; refine step_get rfl 26 _ rfl b3 80 rfl Tryz.underlying26 rfl (.int .i8 f) ?_ ?_; exact (HR3.out.cell 80 (by decide)).trans (by rw [HF.out]; rfl)))
  go_ret
  exact ⟨by rw [HS.out]; rfl, HB.out⟩
set_option maxRecDepth 100000 in
set_option maxHeartbeats 4000000 in
theorem vr_right10 (p : Nat → Int) (w : World) (hp : FitP p) (hr : -1 ≤ roA p 1 0 ∧ roA p 1 0 < 8) : Calls Tryz.prog 17 #[.agg (posA p), .int .u8 1, .int .i64 0] w (BoL (rkB p 1 0) w) := by
 have HP := Lib.hid hp
 obtain ⟨v, hv⟩ := Int.eq_ofNat_of_zero_le hp.var.1
 have hv : p 0 = (v : Int) := hv
 have HVv := Lib.hid hv
 have hv255 : v ≤ 255 := by have := hp.var; omega
 have hq : rtR p 1 0 = (bif roA p 1 0 == -1 then true else bif !casB v then false else bif decide (kingZ p 1 < 0) || (!(kingZ p 1 / 8 == 7) || !isB p (56 + (roA p 1 0).toNat) 1 4) then false else bif !((v : Int) == 1) && (!(kingZ p 1 % 8 == 4) || ((true && !(roA p 1 0 == 7)) || (false && !(roA p 1 0 == 0)))) then false else decide (kingZ p 1 % 8 < roA p 1 0)) := by
  unfold rtR
  rw [hv, Int.toNat_natCast]
  rfl
 clear hp hv
 cases g1 : (roA p 1 0 == -1)
 ·obtain ⟨r, hrr⟩ : ∃ r : Nat, roA p 1 0 = (r : Int) := ⟨(roA p 1 0).toNat, by have := beq_eq_false_iff_ne.1 g1; omega⟩
  have hr8 : r < 8 := by omega
  have HF := Lib.hid (show p 81 = (r : Int) from hrr)
  rw [hrr, Int.toNat_natCast] at hq
  have g1 : ((r : Int) == -1) = false := by rw [beq_eq_false_iff_ne]; omega
  clear hrr
  obtain ⟨cb, hcb⟩ : ∃ cb, casB v = cb := ⟨_, rfl⟩
  have HCb := Lib.hid hcb
  rw [hcb] at hq
  clear hcb
  cases cb
  ·skip
   have HS := Lib.hid (show rkB p 1 0 = false by rw [← rtR_is (by decide) (by decide) hr, hq, g1]; rfl)
   clear hq hr
   have HB := Lib.hid (Below.refl w.heap.size w)
   go_enter Tryz.func17, Tryz.ntmps17
   go_wp2_with (first
    | (guard_target = wpList _ _ _ ((⟨some 3, .box _ _, _, _, _, _⟩ : Oper) :: _) _ _; refine step_box rfl _ rfl p rfl ?_; intro b3 w1 N R; have HG3 := Lib.hid (show w.heap.size ≤ b3 by have := HB.out.size; have := N.at_; omega); have HB := Lib.hid (below_on HB.out N.below); have HR3 := Lib.hid R; clear N R)
    | (guard_target = wpList _ _ _ ((⟨some _, .load _ (.tmp 15), _, _, _, _⟩ : Oper) :: _) _ _; refine step_get rfl 26 _ rfl b3 81 rfl Tryz.underlying26 rfl (.int .i8 (r : Int)) ?_ ?_; exact (HR3.out.cell 81 (by decide)).trans (by rw [HF.out]; rfl))
    | (guard_target = wpList _ _ _ ((⟨some _, .load _ (.tmp 20), _, _, _, _⟩ : Oper) :: _) _ _; refine step_get rfl 5 _ rfl b3 0 rfl Tryz.underlying5 rfl (.int .u8 ((v : Nat) : Int)) ?_ ?_; exact (HR3.out.cell 0 (by decide)).trans (by rw [HVv.out]; rfl))
    | (go_at_call 32; refine (rcasK HCb.out _).mono ?_; rintro e w3 ⟨rfl, rfl⟩))
   go_ret
   exact ⟨by rw [HS.out]; rfl, HB.out⟩
  ·obtain ⟨ib, hib⟩ : ∃ ib, isB p (56 + r) 1 4 = ib := ⟨_, rfl⟩
   have HIb := Lib.hid hib
   rw [hib] at hq
   clear hib
   by_cases hk : kingZ p 1 < 0
   ·obtain ⟨z, hz⟩ : ∃ z, kingZ p 1 = z := ⟨_, rfl⟩
    have HZ := Lib.hid hz
    rw [hz] at hq hk
    have g3 : decide (z < 0) = true := decide_eq_true hk
    clear hz hk
    have HS := Lib.hid (show rkB p 1 0 = false by rw [← rtR_is (by decide) (by decide) hr, hq, g1, g3]; rfl)
    clear hq hr
    have HB := Lib.hid (Below.refl w.heap.size w)
    go_enter Tryz.func17, Tryz.ntmps17
    go_wp2_with (first
     | (guard_target = wpList _ _ _ ((⟨some 3, .box _ _, _, _, _, _⟩ : Oper) :: _) _ _; refine step_box rfl _ rfl p rfl ?_; intro b3 w1 N R; have HG3 := Lib.hid (show w.heap.size ≤ b3 by have := HB.out.size; have := N.at_; omega); have HB := Lib.hid (below_on HB.out N.below); have HR3 := Lib.hid R; clear N R)
     | (guard_target = wpList _ _ _ ((⟨some _, .load _ (.tmp 15), _, _, _, _⟩ : Oper) :: _) _ _; refine step_get rfl 26 _ rfl b3 81 rfl Tryz.underlying26 rfl (.int .i8 (r : Int)) ?_ ?_; exact (HR3.out.cell 81 (by decide)).trans (by rw [HF.out]; rfl))
     | (guard_target = wpList _ _ _ ((⟨some _, .load _ (.tmp 20), _, _, _, _⟩ : Oper) :: _) _ _; refine step_get rfl 5 _ rfl b3 0 rfl Tryz.underlying5 rfl (.int .u8 ((v : Nat) : Int)) ?_ ?_; exact (HR3.out.cell 0 (by decide)).trans (by rw [HVv.out]; rfl))
     | (go_at_call 32; refine (rcasK HCb.out _).mono ?_; rintro e w3 ⟨rfl, rfl⟩)
     | (guard_target = wpList _ _ _ ((⟨some 27, .load _ (.tmp 3), _, _, _, _⟩ : Oper) :: _) _ _; refine step_load (op := ⟨some 27, .load _ (.tmp 3), _, _, _, _⟩) rfl _ rfl b3 rfl p HR3.out ?_)
     | (go_at_call 33; refine (rfindK HZ.out _ HP.out.bd).mono ?_; rintro e w3 ⟨rfl, hb⟩; have HR3 := Lib.hid (HR3.out.later hb); have HB := Lib.hid (below_on HB.out hb); clear hb))
    go_ret
    exact ⟨by rw [HS.out]; rfl, HB.out⟩
   ·obtain ⟨n, hn, hkn⟩ := vking_sq (p := p) (c := 1) (by omega)
    have HZ := Lib.hid hkn
    rw [hkn] at hq
    have g3 : decide ((n : Int) < 0) = false := decide_eq_false (by omega)
    clear hk hkn
    cases g4 : ((n : Int) / 8 == 7)
    ·have g4' : (((n / 8 : Nat) : Int) == 7) = false := g4
     have g4n : ((n : Int) / 8 != 7) = true := by rw [bne, g4]; rfl
     have g4m : (((n / 8 : Nat) : Int) != 7) = true := by rw [bne, g4']; rfl
     have HS := Lib.hid (show rkB p 1 0 = false by rw [← rtR_is (by decide) (by decide) hr, hq, g1, g3, g4]; rfl)
     clear hq hr
     have HB := Lib.hid (Below.refl w.heap.size w)
     go_enter Tryz.func17, Tryz.ntmps17
     go_wp2_with (first
      | (guard_target = wpList _ _ _ ((⟨some 3, .box _ _, _, _, _, _⟩ : Oper) :: _) _ _; refine step_box rfl _ rfl p rfl ?_; intro b3 w1 N R; have HG3 := Lib.hid (show w.heap.size ≤ b3 by have := HB.out.size; have := N.at_; omega); have HB := Lib.hid (below_on HB.out N.below); have HR3 := Lib.hid R; clear N R)
      | (guard_target = wpList _ _ _ ((⟨some _, .load _ (.tmp 15), _, _, _, _⟩ : Oper) :: _) _ _; refine step_get rfl 26 _ rfl b3 81 rfl Tryz.underlying26 rfl (.int .i8 (r : Int)) ?_ ?_; exact (HR3.out.cell 81 (by decide)).trans (by rw [HF.out]; rfl))
      | (guard_target = wpList _ _ _ ((⟨some _, .load _ (.tmp 20), _, _, _, _⟩ : Oper) :: _) _ _; refine step_get rfl 5 _ rfl b3 0 rfl Tryz.underlying5 rfl (.int .u8 ((v : Nat) : Int)) ?_ ?_; exact (HR3.out.cell 0 (by decide)).trans (by rw [HVv.out]; rfl))
      | (go_at_call 32; refine (rcasK HCb.out _).mono ?_; rintro e w3 ⟨rfl, rfl⟩)
      | (guard_target = wpList _ _ _ ((⟨some 27, .load _ (.tmp 3), _, _, _, _⟩ : Oper) :: _) _ _; refine step_load (op := ⟨some 27, .load _ (.tmp 3), _, _, _, _⟩) rfl _ rfl b3 rfl p HR3.out ?_)
      | (go_at_call 33; refine (rfindK HZ.out _ HP.out.bd).mono ?_; rintro e w3 ⟨rfl, hb⟩; have HR3 := Lib.hid (HR3.out.later hb); have HB := Lib.hid (below_on HB.out hb); clear hb))
     go_ret
     exact ⟨by rw [HS.out]; rfl, HB.out⟩
    ·have g4' : (((n / 8 : Nat) : Int) == 7) = true := g4
     have g4n : ((n : Int) / 8 != 7) = false := by rw [bne, g4]; rfl
     have g4m : (((n / 8 : Nat) : Int) != 7) = false := by rw [bne, g4']; rfl
     cases ib
     ·skip
      have HS := Lib.hid (show rkB p 1 0 = false by rw [← rtR_is (by decide) (by decide) hr, hq, g1, g3, g4]; rfl)
      clear hq hr
      have HB := Lib.hid (Below.refl w.heap.size w)
      go_enter Tryz.func17, Tryz.ntmps17
      go_wp2_with (first
       | (guard_target = wpList _ _ _ ((⟨some 3, .box _ _, _, _, _, _⟩ : Oper) :: _) _ _; refine step_box rfl _ rfl p rfl ?_; intro b3 w1 N R; have HG3 := Lib.hid (show w.heap.size ≤ b3 by have := HB.out.size; have := N.at_; omega); have HB := Lib.hid (below_on HB.out N.below); have HR3 := Lib.hid R; clear N R)
       | (guard_target = wpList _ _ _ ((⟨some _, .load _ (.tmp 15), _, _, _, _⟩ : Oper) :: _) _ _; refine step_get rfl 26 _ rfl b3 81 rfl Tryz.underlying26 rfl (.int .i8 (r : Int)) ?_ ?_; exact (HR3.out.cell 81 (by decide)).trans (by rw [HF.out]; rfl))
       | (guard_target = wpList _ _ _ ((⟨some _, .load _ (.tmp 20), _, _, _, _⟩ : Oper) :: _) _ _; refine step_get rfl 5 _ rfl b3 0 rfl Tryz.underlying5 rfl (.int .u8 ((v : Nat) : Int)) ?_ ?_; exact (HR3.out.cell 0 (by decide)).trans (by rw [HVv.out]; rfl))
       | (go_at_call 32; refine (rcasK HCb.out _).mono ?_; rintro e w3 ⟨rfl, rfl⟩)
       | (guard_target = wpList _ _ _ ((⟨some 27, .load _ (.tmp 3), _, _, _, _⟩ : Oper) :: _) _ _; refine step_load (op := ⟨some 27, .load _ (.tmp 3), _, _, _, _⟩) rfl _ rfl b3 rfl p HR3.out ?_)
       | (go_at_call 33; refine (rfindK HZ.out _ HP.out.bd).mono ?_; rintro e w3 ⟨rfl, hb⟩; have HR3 := Lib.hid (HR3.out.later hb); have HB := Lib.hid (below_on HB.out hb); clear hb)
       | (guard_target = wpList _ _ _ ((⟨some 39, .load _ (.tmp 3), _, _, _, _⟩ : Oper) :: _) _ _; refine step_load (op := ⟨some 39, .load _ (.tmp 3), _, _, _, _⟩) rfl _ rfl b3 rfl p HR3.out ?_)
       | (go_at_call 34; refine (isK56 HIb.out hr8 _ HP.out.bd).mono ?_; rintro e w3 ⟨rfl, hb⟩; have HR3 := Lib.hid (HR3.out.later hb); have HB := Lib.hid (below_on HB.out hb); clear hb))
      go_ret
      exact ⟨by rw [HS.out]; rfl, HB.out⟩
     ·obtain ⟨e, he⟩ : ∃ e, n % 8 = e := ⟨_, rfl⟩
      have he8 : e < 8 := by omega
      have hei : (n : Int) % 8 = (e : Int) := by omega
      rw [hei] at hq
      clear he
      cases g6 : ((v : Int) == 1)
      ·have g6n : ((v : Int) != 1) = true := by rw [bne, g6]; rfl
       cases g7 : ((e : Int) == 4)
       ·have g7n : ((e : Int) != 4) = true := by rw [bne, g7]; rfl
        have HS := Lib.hid (show rkB p 1 0 = false by rw [← rtR_is (by decide) (by decide) hr, hq, g1, g3, g4, g6, g7]; rfl)
        clear hq hr
        have HB := Lib.hid (Below.refl w.heap.size w)
        go_enter Tryz.func17, Tryz.ntmps17
        go_wp2_with (first
         | (guard_target = wpList _ _ _ ((⟨some 3, .box _ _, _, _, _, _⟩ : Oper) :: _) _ _; refine step_box rfl _ rfl p rfl ?_; intro b3 w1 N R; have HG3 := Lib.hid (show w.heap.size ≤ b3 by have := HB.out.size; have := N.at_; omega); have HB := Lib.hid (below_on HB.out N.below); have HR3 := Lib.hid R; clear N R)
         | (guard_target = wpList _ _ _ ((⟨some _, .load _ (.tmp 15), _, _, _, _⟩ : Oper) :: _) _ _; refine step_get rfl 26 _ rfl b3 81 rfl Tryz.underlying26 rfl (.int .i8 (r : Int)) ?_ ?_; exact (HR3.out.cell 81 (by decide)).trans (by rw [HF.out]; rfl))
         | (guard_target = wpList _ _ _ ((⟨some _, .load _ (.tmp 20), _, _, _, _⟩ : Oper) :: _) _ _; refine step_get rfl 5 _ rfl b3 0 rfl Tryz.underlying5 rfl (.int .u8 ((v : Nat) : Int)) ?_ ?_; exact (HR3.out.cell 0 (by decide)).trans (by rw [HVv.out]; rfl))
         | (go_at_call 32; refine (rcasK HCb.out _).mono ?_; rintro e w3 ⟨rfl, rfl⟩)
         | (guard_target = wpList _ _ _ ((⟨some 27, .load _ (.tmp 3), _, _, _, _⟩ : Oper) :: _) _ _; refine step_load (op := ⟨some 27, .load _ (.tmp 3), _, _, _, _⟩) rfl _ rfl b3 rfl p HR3.out ?_)
         | (go_at_call 33; refine (rfindK HZ.out _ HP.out.bd).mono ?_; rintro e w3 ⟨rfl, hb⟩; have HR3 := Lib.hid (HR3.out.later hb); have HB := Lib.hid (below_on HB.out hb); clear hb)
         | (guard_target = wpList _ _ _ ((⟨some 39, .load _ (.tmp 3), _, _, _, _⟩ : Oper) :: _) _ _; refine step_load (op := ⟨some 39, .load _ (.tmp 3), _, _, _, _⟩) rfl _ rfl b3 rfl p HR3.out ?_)
         | (go_at_call 34; refine (isK56 HIb.out hr8 _ HP.out.bd).mono ?_; rintro e w3 ⟨rfl, hb⟩; have HR3 := Lib.hid (HR3.out.later hb); have HB := Lib.hid (below_on HB.out hb); clear hb)
         | (guard_target = wpList _ _ _ ((⟨some _, .load _ (.tmp 50), _, _, _, _⟩ : Oper) :: _) _ _; refine step_get rfl 5 _ rfl b3 0 rfl Tryz.underlying5 rfl (.int .u8 ((v : Nat) : Int)) ?_ ?_; exact (HR3.out.cell 0 (by decide)).trans (by rw [HVv.out]; rfl)))
        go_ret
        exact ⟨by rw [HS.out]; rfl, HB.out⟩
       ·have g7n : ((e : Int) != 4) = false := by rw [bne, g7]; rfl
        cases g8 : ((r : Int) == 7)
        ·have g8n : ((r : Int) != 7) = true := by rw [bne, g8]; rfl
         have HS := Lib.hid (show rkB p 1 0 = false by rw [← rtR_is (by decide) (by decide) hr, hq, g1, g3, g4, g6, g7, g8]; rfl)
         clear hq hr
         have HB := Lib.hid (Below.refl w.heap.size w)
         go_enter Tryz.func17, Tryz.ntmps17
         go_wp2_with (first
          | (guard_target = wpList _ _ _ ((⟨some 3, .box _ _, _, _, _, _⟩ : Oper) :: _) _ _; refine step_box rfl _ rfl p rfl ?_; intro b3 w1 N R; have HG3 := Lib.hid (show w.heap.size ≤ b3 by have := HB.out.size; have := N.at_; omega); have HB := Lib.hid (below_on HB.out N.below); have HR3 := Lib.hid R; clear N R)
          | (guard_target = wpList _ _ _ ((⟨some _, .load _ (.tmp 15), _, _, _, _⟩ : Oper) :: _) _ _; refine step_get rfl 26 _ rfl b3 81 rfl Tryz.underlying26 rfl (.int .i8 (r : Int)) ?_ ?_; exact (HR3.out.cell 81 (by decide)).trans (by rw [HF.out]; rfl))
          | (guard_target = wpList _ _ _ ((⟨some _, .load _ (.tmp 20), _, _, _, _⟩ : Oper) :: _) _ _; refine step_get rfl 5 _ rfl b3 0 rfl Tryz.underlying5 rfl (.int .u8 ((v : Nat) : Int)) ?_ ?_; exact (HR3.out.cell 0 (by decide)).trans (by rw [HVv.out]; rfl))
          | (go_at_call 32; refine (rcasK HCb.out _).mono ?_; rintro e w3 ⟨rfl, rfl⟩)
          | (guard_target = wpList _ _ _ ((⟨some 27, .load _ (.tmp 3), _, _, _, _⟩ : Oper) :: _) _ _; refine step_load (op := ⟨some 27, .load _ (.tmp 3), _, _, _, _⟩) rfl _ rfl b3 rfl p HR3.out ?_)
          | (go_at_call 33; refine (rfindK HZ.out _ HP.out.bd).mono ?_; rintro e w3 ⟨rfl, hb⟩; have HR3 := Lib.hid (HR3.out.later hb); have HB := Lib.hid (below_on HB.out hb); clear hb)
          | (guard_target = wpList _ _ _ ((⟨some 39, .load _ (.tmp 3), _, _, _, _⟩ : Oper) :: _) _ _; refine step_load (op := ⟨some 39, .load _ (.tmp 3), _, _, _, _⟩) rfl _ rfl b3 rfl p HR3.out ?_)
          | (go_at_call 34; refine (isK56 HIb.out hr8 _ HP.out.bd).mono ?_; rintro e w3 ⟨rfl, hb⟩; have HR3 := Lib.hid (HR3.out.later hb); have HB := Lib.hid (below_on HB.out hb); clear hb)
          | (guard_target = wpList _ _ _ ((⟨some _, .load _ (.tmp 50), _, _, _, _⟩ : Oper) :: _) _ _; refine step_get rfl 5 _ rfl b3 0 rfl Tryz.underlying5 rfl (.int .u8 ((v : Nat) : Int)) ?_ ?_; exact (HR3.out.cell 0 (by decide)).trans (by rw [HVv.out]; rfl)))
         go_ret
         exact ⟨by rw [HS.out]; rfl, HB.out⟩
        ·have g8n : ((r : Int) != 7) = false := by rw [bne, g8]; rfl
         cases g9 : decide ((e : Int) < (r : Int))
         ·have g9n : decide (e < r) = false := by rw [← g9]; exact decide_eq_decide.2 (by omega)
          have HS := Lib.hid (show rkB p 1 0 = false by rw [← rtR_is (by decide) (by decide) hr, hq, g1, g3, g4, g6, g7, g8, g9]; rfl)
          clear hq hr
          have HB := Lib.hid (Below.refl w.heap.size w)
          go_enter Tryz.func17, Tryz.ntmps17
          go_wp2_with (first
           | (guard_target = wpList _ _ _ ((⟨some 3, .box _ _, _, _, _, _⟩ : Oper) :: _) _ _; refine step_box rfl _ rfl p rfl ?_; intro b3 w1 N R; have HG3 := Lib.hid (show w.heap.size ≤ b3 by have := HB.out.size; have := N.at_; omega); have HB := Lib.hid (below_on HB.out N.below); have HR3 := Lib.hid R; clear N R)
           | (guard_target = wpList _ _ _ ((⟨some _, .load _ (.tmp 15), _, _, _, _⟩ : Oper) :: _) _ _; refine step_get rfl 26 _ rfl b3 81 rfl Tryz.underlying26 rfl (.int .i8 (r : Int)) ?_ ?_; exact (HR3.out.cell 81 (by decide)).trans (by rw [HF.out]; rfl))
           | (guard_target = wpList _ _ _ ((⟨some _, .load _ (.tmp 20), _, _, _, _⟩ : Oper) :: _) _ _; refine step_get rfl 5 _ rfl b3 0 rfl Tryz.underlying5 rfl (.int .u8 ((v : Nat) : Int)) ?_ ?_; exact (HR3.out.cell 0 (by decide)).trans (by rw [HVv.out]; rfl))
           | (go_at_call 32; refine (rcasK HCb.out _).mono ?_; rintro e w3 ⟨rfl, rfl⟩)
           | (guard_target = wpList _ _ _ ((⟨some 27, .load _ (.tmp 3), _, _, _, _⟩ : Oper) :: _) _ _; refine step_load (op := ⟨some 27, .load _ (.tmp 3), _, _, _, _⟩) rfl _ rfl b3 rfl p HR3.out ?_)
           | (go_at_call 33; refine (rfindK HZ.out _ HP.out.bd).mono ?_; rintro e w3 ⟨rfl, hb⟩; have HR3 := Lib.hid (HR3.out.later hb); have HB := Lib.hid (below_on HB.out hb); clear hb)
           | (guard_target = wpList _ _ _ ((⟨some 39, .load _ (.tmp 3), _, _, _, _⟩ : Oper) :: _) _ _; refine step_load (op := ⟨some 39, .load _ (.tmp 3), _, _, _, _⟩) rfl _ rfl b3 rfl p HR3.out ?_)
           | (go_at_call 34; refine (isK56 HIb.out hr8 _ HP.out.bd).mono ?_; rintro e w3 ⟨rfl, hb⟩; have HR3 := Lib.hid (HR3.out.later hb); have HB := Lib.hid (below_on HB.out hb); clear hb)
           | (guard_target = wpList _ _ _ ((⟨some _, .load _ (.tmp 50), _, _, _, _⟩ : Oper) :: _) _ _; refine step_get rfl 5 _ rfl b3 0 rfl Tryz.underlying5 rfl (.int .u8 ((v : Nat) : Int)) ?_ ?_; exact (HR3.out.cell 0 (by decide)).trans (by rw [HVv.out]; rfl)))
          go_ret
          exact ⟨by rw [HS.out]; rfl, HB.out⟩
         ·have g9n : decide (e < r) = true := by rw [← g9]; exact decide_eq_decide.2 (by omega)
          have HS := Lib.hid (show rkB p 1 0 = true by rw [← rtR_is (by decide) (by decide) hr, hq, g1, g3, g4, g6, g7, g8, g9]; rfl)
          clear hq hr
          have HB := Lib.hid (Below.refl w.heap.size w)
          go_enter Tryz.func17, Tryz.ntmps17
          go_wp2_with (first
           | (guard_target = wpList _ _ _ ((⟨some 3, .box _ _, _, _, _, _⟩ : Oper) :: _) _ _; refine step_box rfl _ rfl p rfl ?_; intro b3 w1 N R; have HG3 := Lib.hid (show w.heap.size ≤ b3 by have := HB.out.size; have := N.at_; omega); have HB := Lib.hid (below_on HB.out N.below); have HR3 := Lib.hid R; clear N R)
           | (guard_target = wpList _ _ _ ((⟨some _, .load _ (.tmp 15), _, _, _, _⟩ : Oper) :: _) _ _; refine step_get rfl 26 _ rfl b3 81 rfl Tryz.underlying26 rfl (.int .i8 (r : Int)) ?_ ?_; exact (HR3.out.cell 81 (by decide)).trans (by rw [HF.out]; rfl))
           | (guard_target = wpList _ _ _ ((⟨some _, .load _ (.tmp 20), _, _, _, _⟩ : Oper) :: _) _ _; refine step_get rfl 5 _ rfl b3 0 rfl Tryz.underlying5 rfl (.int .u8 ((v : Nat) : Int)) ?_ ?_; exact (HR3.out.cell 0 (by decide)).trans (by rw [HVv.out]; rfl))
           | (go_at_call 32; refine (rcasK HCb.out _).mono ?_; rintro e w3 ⟨rfl, rfl⟩)
           | (guard_target = wpList _ _ _ ((⟨some 27, .load _ (.tmp 3), _, _, _, _⟩ : Oper) :: _) _ _; refine step_load (op := ⟨some 27, .load _ (.tmp 3), _, _, _, _⟩) rfl _ rfl b3 rfl p HR3.out ?_)
           | (go_at_call 33; refine (rfindK HZ.out _ HP.out.bd).mono ?_; rintro e w3 ⟨rfl, hb⟩; have HR3 := Lib.hid (HR3.out.later hb); have HB := Lib.hid (below_on HB.out hb); clear hb)
           | (guard_target = wpList _ _ _ ((⟨some 39, .load _ (.tmp 3), _, _, _, _⟩ : Oper) :: _) _ _; refine step_load (op := ⟨some 39, .load _ (.tmp 3), _, _, _, _⟩) rfl _ rfl b3 rfl p HR3.out ?_)
           | (go_at_call 34; refine (isK56 HIb.out hr8 _ HP.out.bd).mono ?_; rintro e w3 ⟨rfl, hb⟩; have HR3 := Lib.hid (HR3.out.later hb); have HB := Lib.hid (below_on HB.out hb); clear hb)
           | (guard_target = wpList _ _ _ ((⟨some _, .load _ (.tmp 50), _, _, _, _⟩ : Oper) :: _) _ _; refine step_get rfl 5 _ rfl b3 0 rfl Tryz.underlying5 rfl (.int .u8 ((v : Nat) : Int)) ?_ ?_; exact (HR3.out.cell 0 (by decide)).trans (by rw [HVv.out]; rfl)))
          go_ret
          exact ⟨by rw [HS.out]; rfl, HB.out⟩
      ·have g6n : ((v : Int) != 1) = false := by rw [bne, g6]; rfl
       cases g9 : decide ((e : Int) < (r : Int))
       ·have g9n : decide (e < r) = false := by rw [← g9]; exact decide_eq_decide.2 (by omega)
        have HS := Lib.hid (show rkB p 1 0 = false by rw [← rtR_is (by decide) (by decide) hr, hq, g1, g3, g4, g6, g9]; rfl)
        clear hq hr
        have HB := Lib.hid (Below.refl w.heap.size w)
        go_enter Tryz.func17, Tryz.ntmps17
        go_wp2_with (first
         | (guard_target = wpList _ _ _ ((⟨some 3, .box _ _, _, _, _, _⟩ : Oper) :: _) _ _; refine step_box rfl _ rfl p rfl ?_; intro b3 w1 N R; have HG3 := Lib.hid (show w.heap.size ≤ b3 by have := HB.out.size; have := N.at_; omega); have HB := Lib.hid (below_on HB.out N.below); have HR3 := Lib.hid R; clear N R)
         | (guard_target = wpList _ _ _ ((⟨some _, .load _ (.tmp 15), _, _, _, _⟩ : Oper) :: _) _ _; refine step_get rfl 26 _ rfl b3 81 rfl Tryz.underlying26 rfl (.int .i8 (r : Int)) ?_ ?_; exact (HR3.out.cell 81 (by decide)).trans (by rw [HF.out]; rfl))
         | (guard_target = wpList _ _ _ ((⟨some _, .load _ (.tmp 20), _, _, _, _⟩ : Oper) :: _) _ _; refine step_get rfl 5 _ rfl b3 0 rfl Tryz.underlying5 rfl (.int .u8 ((v : Nat) : Int)) ?_ ?_; exact (HR3.out.cell 0 (by decide)).trans (by rw [HVv.out]; rfl))
         | (go_at_call 32; refine (rcasK HCb.out _).mono ?_; rintro e w3 ⟨rfl, rfl⟩)
         | (guard_target = wpList _ _ _ ((⟨some 27, .load _ (.tmp 3), _, _, _, _⟩ : Oper) :: _) _ _; refine step_load (op := ⟨some 27, .load _ (.tmp 3), _, _, _, _⟩) rfl _ rfl b3 rfl p HR3.out ?_)
         | (go_at_call 33; refine (rfindK HZ.out _ HP.out.bd).mono ?_; rintro e w3 ⟨rfl, hb⟩; have HR3 := Lib.hid (HR3.out.later hb); have HB := Lib.hid (below_on HB.out hb); clear hb)
         | (guard_target = wpList _ _ _ ((⟨some 39, .load _ (.tmp 3), _, _, _, _⟩ : Oper) :: _) _ _; refine step_load (op := ⟨some 39, .load _ (.tmp 3), _, _, _, _⟩) rfl _ rfl b3 rfl p HR3.out ?_)
         | (go_at_call 34; refine (isK56 HIb.out hr8 _ HP.out.bd).mono ?_; rintro e w3 ⟨rfl, hb⟩; have HR3 := Lib.hid (HR3.out.later hb); have HB := Lib.hid (below_on HB.out hb); clear hb)
         | (guard_target = wpList _ _ _ ((⟨some _, .load _ (.tmp 50), _, _, _, _⟩ : Oper) :: _) _ _; refine step_get rfl 5 _ rfl b3 0 rfl Tryz.underlying5 rfl (.int .u8 ((v : Nat) : Int)) ?_ ?_; exact (HR3.out.cell 0 (by decide)).trans (by rw [HVv.out]; rfl)))
        go_ret
        exact ⟨by rw [HS.out]; rfl, HB.out⟩
       ·have g9n : decide (e < r) = true := by rw [← g9]; exact decide_eq_decide.2 (by omega)
        have HS := Lib.hid (show rkB p 1 0 = true by rw [← rtR_is (by decide) (by decide) hr, hq, g1, g3, g4, g6, g9]; rfl)
        clear hq hr
        have HB := Lib.hid (Below.refl w.heap.size w)
        go_enter Tryz.func17, Tryz.ntmps17
        go_wp2_with (first
         | (guard_target = wpList _ _ _ ((⟨some 3, .box _ _, _, _, _, _⟩ : Oper) :: _) _ _; refine step_box rfl _ rfl p rfl ?_; intro b3 w1 N R; have HG3 := Lib.hid (show w.heap.size ≤ b3 by have := HB.out.size; have := N.at_; omega); have HB := Lib.hid (below_on HB.out N.below); have HR3 := Lib.hid R; clear N R)
         | (guard_target = wpList _ _ _ ((⟨some _, .load _ (.tmp 15), _, _, _, _⟩ : Oper) :: _) _ _; refine step_get rfl 26 _ rfl b3 81 rfl Tryz.underlying26 rfl (.int .i8 (r : Int)) ?_ ?_; exact (HR3.out.cell 81 (by decide)).trans (by rw [HF.out]; rfl))
         | (guard_target = wpList _ _ _ ((⟨some _, .load _ (.tmp 20), _, _, _, _⟩ : Oper) :: _) _ _; refine step_get rfl 5 _ rfl b3 0 rfl Tryz.underlying5 rfl (.int .u8 ((v : Nat) : Int)) ?_ ?_; exact (HR3.out.cell 0 (by decide)).trans (by rw [HVv.out]; rfl))
         | (go_at_call 32; refine (rcasK HCb.out _).mono ?_; rintro e w3 ⟨rfl, rfl⟩)
         | (guard_target = wpList _ _ _ ((⟨some 27, .load _ (.tmp 3), _, _, _, _⟩ : Oper) :: _) _ _; refine step_load (op := ⟨some 27, .load _ (.tmp 3), _, _, _, _⟩) rfl _ rfl b3 rfl p HR3.out ?_)
         | (go_at_call 33; refine (rfindK HZ.out _ HP.out.bd).mono ?_; rintro e w3 ⟨rfl, hb⟩; have HR3 := Lib.hid (HR3.out.later hb); have HB := Lib.hid (below_on HB.out hb); clear hb)
         | (guard_target = wpList _ _ _ ((⟨some 39, .load _ (.tmp 3), _, _, _, _⟩ : Oper) :: _) _ _; refine step_load (op := ⟨some 39, .load _ (.tmp 3), _, _, _, _⟩) rfl _ rfl b3 rfl p HR3.out ?_)
         | (go_at_call 34; refine (isK56 HIb.out hr8 _ HP.out.bd).mono ?_; rintro e w3 ⟨rfl, hb⟩; have HR3 := Lib.hid (HR3.out.later hb); have HB := Lib.hid (below_on HB.out hb); clear hb)
         | (guard_target = wpList _ _ _ ((⟨some _, .load _ (.tmp 50), _, _, _, _⟩ : Oper) :: _) _ _; refine step_get rfl 5 _ rfl b3 0 rfl Tryz.underlying5 rfl (.int .u8 ((v : Nat) : Int)) ?_ ?_; exact (HR3.out.cell 0 (by decide)).trans (by rw [HVv.out]; rfl)))
        go_ret
        exact ⟨by rw [HS.out]; rfl, HB.out⟩
 ·obtain ⟨f, hf⟩ : ∃ f, roA p 1 0 = f := ⟨_, rfl⟩
  have HF := Lib.hid (show p 81 = f from hf)
  rw [hf] at hq g1
  have hfr : f = -1 := beq_iff_eq.1 g1
  have hfr1 : -128 ≤ f ∧ f ≤ 127 := by omega
  clear hf hfr
  have HS := Lib.hid (show rkB p 1 0 = true by rw [← rtR_is (by decide) (by decide) hr, hq, g1]; rfl)
  clear hq hr
  have HB := Lib.hid (Below.refl w.heap.size w)
  go_enter Tryz.func17, Tryz.ntmps17
  go_wp2_with (first
   | (guard_target = wpList _ _ _ ((⟨some 3, .box _ _, _, _, _, _⟩ : Oper) :: _) _ _; refine step_box rfl _ rfl p rfl ?_; intro b3 w1 N R; have HG3 := Lib.hid (show w.heap.size ≤ b3 by have := HB.out.size; have := N.at_; omega); have HB := Lib.hid (below_on HB.out N.below); have HR3 := Lib.hid R; clear N R)
   | (guard_target = wpList _ _ _ ((⟨some _, .load _ (.tmp 15), _, _, _, _⟩ : Oper) :: _) _ _; refine step_get rfl 26 _ rfl b3 81 rfl Tryz.underlying26 rfl (.int .i8 f) ?_ ?_; exact (HR3.out.cell 81 (by decide)).trans (by rw [HF.out]; rfl)))
  go_ret
  exact ⟨by rw [HS.out]; rfl, HB.out⟩
set_option maxRecDepth 100000 in
set_option maxHeartbeats 4000000 in
theorem vr_right11 (p : Nat → Int) (w : World) (hp : FitP p) (hr : -1 ≤ roA p 1 1 ∧ roA p 1 1 < 8) : Calls Tryz.prog 17 #[.agg (posA p), .int .u8 1, .int .i64 1] w (BoL (rkB p 1 1) w) := by
 have HP := Lib.hid hp
 obtain ⟨v, hv⟩ := Int.eq_ofNat_of_zero_le hp.var.1
 have hv : p 0 = (v : Int) := hv
 have HVv := Lib.hid hv
 have hv255 : v ≤ 255 := by have := hp.var; omega
 have hq : rtR p 1 1 = (bif roA p 1 1 == -1 then true else bif !casB v then false else bif decide (kingZ p 1 < 0) || (!(kingZ p 1 / 8 == 7) || !isB p (56 + (roA p 1 1).toNat) 1 4) then false else bif !((v : Int) == 1) && (!(kingZ p 1 % 8 == 4) || ((false && !(roA p 1 1 == 7)) || (true && !(roA p 1 1 == 0)))) then false else decide (roA p 1 1 < kingZ p 1 % 8)) := by
  unfold rtR
  rw [hv, Int.toNat_natCast]
  rfl
 clear hp hv
 cases g1 : (roA p 1 1 == -1)
 ·obtain ⟨r, hrr⟩ : ∃ r : Nat, roA p 1 1 = (r : Int) := ⟨(roA p 1 1).toNat, by have := beq_eq_false_iff_ne.1 g1; omega⟩
  have hr8 : r < 8 := by omega
  have HF := Lib.hid (show p 82 = (r : Int) from hrr)
  rw [hrr, Int.toNat_natCast] at hq
  have g1 : ((r : Int) == -1) = false := by rw [beq_eq_false_iff_ne]; omega
  clear hrr
  obtain ⟨cb, hcb⟩ : ∃ cb, casB v = cb := ⟨_, rfl⟩
  have HCb := Lib.hid hcb
  rw [hcb] at hq
  clear hcb
  cases cb
  ·skip
   have HS := Lib.hid (show rkB p 1 1 = false by rw [← rtR_is (by decide) (by decide) hr, hq, g1]; rfl)
   clear hq hr
   have HB := Lib.hid (Below.refl w.heap.size w)
   go_enter Tryz.func17, Tryz.ntmps17
   go_wp2_with (first
    | (guard_target = wpList _ _ _ ((⟨some 3, .box _ _, _, _, _, _⟩ : Oper) :: _) _ _; refine step_box rfl _ rfl p rfl ?_; intro b3 w1 N R; have HG3 := Lib.hid (show w.heap.size ≤ b3 by have := HB.out.size; have := N.at_; omega); have HB := Lib.hid (below_on HB.out N.below); have HR3 := Lib.hid R; clear N R)
    | (guard_target = wpList _ _ _ ((⟨some _, .load _ (.tmp 15), _, _, _, _⟩ : Oper) :: _) _ _; refine step_get rfl 26 _ rfl b3 82 rfl Tryz.underlying26 rfl (.int .i8 (r : Int)) ?_ ?_; exact (HR3.out.cell 82 (by decide)).trans (by rw [HF.out]; rfl))
    | (guard_target = wpList _ _ _ ((⟨some _, .load _ (.tmp 20), _, _, _, _⟩ : Oper) :: _) _ _; refine step_get rfl 5 _ rfl b3 0 rfl Tryz.underlying5 rfl (.int .u8 ((v : Nat) : Int)) ?_ ?_; exact (HR3.out.cell 0 (by decide)).trans (by rw [HVv.out]; rfl))
    | (go_at_call 32; refine (rcasK HCb.out _).mono ?_; rintro e w3 ⟨rfl, rfl⟩))
   go_ret
   exact ⟨by rw [HS.out]; rfl, HB.out⟩
  ·obtain ⟨ib, hib⟩ : ∃ ib, isB p (56 + r) 1 4 = ib := ⟨_, rfl⟩
   have HIb := Lib.hid hib
   rw [hib] at hq
   clear hib
   by_cases hk : kingZ p 1 < 0
   ·obtain ⟨z, hz⟩ : ∃ z, kingZ p 1 = z := ⟨_, rfl⟩
    have HZ := Lib.hid hz
    rw [hz] at hq hk
    have g3 : decide (z < 0) = true := decide_eq_true hk
    clear hz hk
    have HS := Lib.hid (show rkB p 1 1 = false by rw [← rtR_is (by decide) (by decide) hr, hq, g1, g3]; rfl)
    clear hq hr
    have HB := Lib.hid (Below.refl w.heap.size w)
    go_enter Tryz.func17, Tryz.ntmps17
    go_wp2_with (first
     | (guard_target = wpList _ _ _ ((⟨some 3, .box _ _, _, _, _, _⟩ : Oper) :: _) _ _; refine step_box rfl _ rfl p rfl ?_; intro b3 w1 N R; have HG3 := Lib.hid (show w.heap.size ≤ b3 by have := HB.out.size; have := N.at_; omega); have HB := Lib.hid (below_on HB.out N.below); have HR3 := Lib.hid R; clear N R)
     | (guard_target = wpList _ _ _ ((⟨some _, .load _ (.tmp 15), _, _, _, _⟩ : Oper) :: _) _ _; refine step_get rfl 26 _ rfl b3 82 rfl Tryz.underlying26 rfl (.int .i8 (r : Int)) ?_ ?_; exact (HR3.out.cell 82 (by decide)).trans (by rw [HF.out]; rfl))
     | (guard_target = wpList _ _ _ ((⟨some _, .load _ (.tmp 20), _, _, _, _⟩ : Oper) :: _) _ _; refine step_get rfl 5 _ rfl b3 0 rfl Tryz.underlying5 rfl (.int .u8 ((v : Nat) : Int)) ?_ ?_; exact (HR3.out.cell 0 (by decide)).trans (by rw [HVv.out]; rfl))
     | (go_at_call 32; refine (rcasK HCb.out _).mono ?_; rintro e w3 ⟨rfl, rfl⟩)
     | (guard_target = wpList _ _ _ ((⟨some 27, .load _ (.tmp 3), _, _, _, _⟩ : Oper) :: _) _ _; refine step_load (op := ⟨some 27, .load _ (.tmp 3), _, _, _, _⟩) rfl _ rfl b3 rfl p HR3.out ?_)
     | (go_at_call 33; refine (rfindK HZ.out _ HP.out.bd).mono ?_; rintro e w3 ⟨rfl, hb⟩; have HR3 := Lib.hid (HR3.out.later hb); have HB := Lib.hid (below_on HB.out hb); clear hb))
    go_ret
    exact ⟨by rw [HS.out]; rfl, HB.out⟩
   ·obtain ⟨n, hn, hkn⟩ := vking_sq (p := p) (c := 1) (by omega)
    have HZ := Lib.hid hkn
    rw [hkn] at hq
    have g3 : decide ((n : Int) < 0) = false := decide_eq_false (by omega)
    clear hk hkn
    cases g4 : ((n : Int) / 8 == 7)
    ·have g4' : (((n / 8 : Nat) : Int) == 7) = false := g4
     have g4n : ((n : Int) / 8 != 7) = true := by rw [bne, g4]; rfl
     have g4m : (((n / 8 : Nat) : Int) != 7) = true := by rw [bne, g4']; rfl
     have HS := Lib.hid (show rkB p 1 1 = false by rw [← rtR_is (by decide) (by decide) hr, hq, g1, g3, g4]; rfl)
     clear hq hr
     have HB := Lib.hid (Below.refl w.heap.size w)
     go_enter Tryz.func17, Tryz.ntmps17
     go_wp2_with (first
      | (guard_target = wpList _ _ _ ((⟨some 3, .box _ _, _, _, _, _⟩ : Oper) :: _) _ _; refine step_box rfl _ rfl p rfl ?_; intro b3 w1 N R; have HG3 := Lib.hid (show w.heap.size ≤ b3 by have := HB.out.size; have := N.at_; omega); have HB := Lib.hid (below_on HB.out N.below); have HR3 := Lib.hid R; clear N R)
      | (guard_target = wpList _ _ _ ((⟨some _, .load _ (.tmp 15), _, _, _, _⟩ : Oper) :: _) _ _; refine step_get rfl 26 _ rfl b3 82 rfl Tryz.underlying26 rfl (.int .i8 (r : Int)) ?_ ?_; exact (HR3.out.cell 82 (by decide)).trans (by rw [HF.out]; rfl))
      | (guard_target = wpList _ _ _ ((⟨some _, .load _ (.tmp 20), _, _, _, _⟩ : Oper) :: _) _ _; refine step_get rfl 5 _ rfl b3 0 rfl Tryz.underlying5 rfl (.int .u8 ((v : Nat) : Int)) ?_ ?_; exact (HR3.out.cell 0 (by decide)).trans (by rw [HVv.out]; rfl))
      | (go_at_call 32; refine (rcasK HCb.out _).mono ?_; rintro e w3 ⟨rfl, rfl⟩)
      | (guard_target = wpList _ _ _ ((⟨some 27, .load _ (.tmp 3), _, _, _, _⟩ : Oper) :: _) _ _; refine step_load (op := ⟨some 27, .load _ (.tmp 3), _, _, _, _⟩) rfl _ rfl b3 rfl p HR3.out ?_)
      | (go_at_call 33; refine (rfindK HZ.out _ HP.out.bd).mono ?_; rintro e w3 ⟨rfl, hb⟩; have HR3 := Lib.hid (HR3.out.later hb); have HB := Lib.hid (below_on HB.out hb); clear hb))
     go_ret
     exact ⟨by rw [HS.out]; rfl, HB.out⟩
    ·have g4' : (((n / 8 : Nat) : Int) == 7) = true := g4
     have g4n : ((n : Int) / 8 != 7) = false := by rw [bne, g4]; rfl
     have g4m : (((n / 8 : Nat) : Int) != 7) = false := by rw [bne, g4']; rfl
     cases ib
     ·skip
      have HS := Lib.hid (show rkB p 1 1 = false by rw [← rtR_is (by decide) (by decide) hr, hq, g1, g3, g4]; rfl)
      clear hq hr
      have HB := Lib.hid (Below.refl w.heap.size w)
      go_enter Tryz.func17, Tryz.ntmps17
      go_wp2_with (first
       | (guard_target = wpList _ _ _ ((⟨some 3, .box _ _, _, _, _, _⟩ : Oper) :: _) _ _; refine step_box rfl _ rfl p rfl ?_; intro b3 w1 N R; have HG3 := Lib.hid (show w.heap.size ≤ b3 by have := HB.out.size; have := N.at_; omega); have HB := Lib.hid (below_on HB.out N.below); have HR3 := Lib.hid R; clear N R)
       | (guard_target = wpList _ _ _ ((⟨some _, .load _ (.tmp 15), _, _, _, _⟩ : Oper) :: _) _ _; refine step_get rfl 26 _ rfl b3 82 rfl Tryz.underlying26 rfl (.int .i8 (r : Int)) ?_ ?_; exact (HR3.out.cell 82 (by decide)).trans (by rw [HF.out]; rfl))
       | (guard_target = wpList _ _ _ ((⟨some _, .load _ (.tmp 20), _, _, _, _⟩ : Oper) :: _) _ _; refine step_get rfl 5 _ rfl b3 0 rfl Tryz.underlying5 rfl (.int .u8 ((v : Nat) : Int)) ?_ ?_; exact (HR3.out.cell 0 (by decide)).trans (by rw [HVv.out]; rfl))
       | (go_at_call 32; refine (rcasK HCb.out _).mono ?_; rintro e w3 ⟨rfl, rfl⟩)
       | (guard_target = wpList _ _ _ ((⟨some 27, .load _ (.tmp 3), _, _, _, _⟩ : Oper) :: _) _ _; refine step_load (op := ⟨some 27, .load _ (.tmp 3), _, _, _, _⟩) rfl _ rfl b3 rfl p HR3.out ?_)
       | (go_at_call 33; refine (rfindK HZ.out _ HP.out.bd).mono ?_; rintro e w3 ⟨rfl, hb⟩; have HR3 := Lib.hid (HR3.out.later hb); have HB := Lib.hid (below_on HB.out hb); clear hb)
       | (guard_target = wpList _ _ _ ((⟨some 39, .load _ (.tmp 3), _, _, _, _⟩ : Oper) :: _) _ _; refine step_load (op := ⟨some 39, .load _ (.tmp 3), _, _, _, _⟩) rfl _ rfl b3 rfl p HR3.out ?_)
       | (go_at_call 34; refine (isK56 HIb.out hr8 _ HP.out.bd).mono ?_; rintro e w3 ⟨rfl, hb⟩; have HR3 := Lib.hid (HR3.out.later hb); have HB := Lib.hid (below_on HB.out hb); clear hb))
      go_ret
      exact ⟨by rw [HS.out]; rfl, HB.out⟩
     ·obtain ⟨e, he⟩ : ∃ e, n % 8 = e := ⟨_, rfl⟩
      have he8 : e < 8 := by omega
      have hei : (n : Int) % 8 = (e : Int) := by omega
      rw [hei] at hq
      clear he
      cases g6 : ((v : Int) == 1)
      ·have g6n : ((v : Int) != 1) = true := by rw [bne, g6]; rfl
       cases g7 : ((e : Int) == 4)
       ·have g7n : ((e : Int) != 4) = true := by rw [bne, g7]; rfl
        have HS := Lib.hid (show rkB p 1 1 = false by rw [← rtR_is (by decide) (by decide) hr, hq, g1, g3, g4, g6, g7]; rfl)
        clear hq hr
        have HB := Lib.hid (Below.refl w.heap.size w)
        go_enter Tryz.func17, Tryz.ntmps17
        go_wp2_with (first
         | (guard_target = wpList _ _ _ ((⟨some 3, .box _ _, _, _, _, _⟩ : Oper) :: _) _ _; refine step_box rfl _ rfl p rfl ?_; intro b3 w1 N R; have HG3 := Lib.hid (show w.heap.size ≤ b3 by have := HB.out.size; have := N.at_; omega); have HB := Lib.hid (below_on HB.out N.below); have HR3 := Lib.hid R; clear N R)
         | (guard_target = wpList _ _ _ ((⟨some _, .load _ (.tmp 15), _, _, _, _⟩ : Oper) :: _) _ _; refine step_get rfl 26 _ rfl b3 82 rfl Tryz.underlying26 rfl (.int .i8 (r : Int)) ?_ ?_; exact (HR3.out.cell 82 (by decide)).trans (by rw [HF.out]; rfl))
         | (guard_target = wpList _ _ _ ((⟨some _, .load _ (.tmp 20), _, _, _, _⟩ : Oper) :: _) _ _; refine step_get rfl 5 _ rfl b3 0 rfl Tryz.underlying5 rfl (.int .u8 ((v : Nat) : Int)) ?_ ?_; exact (HR3.out.cell 0 (by decide)).trans (by rw [HVv.out]; rfl))
         | (go_at_call 32; refine (rcasK HCb.out _).mono ?_; rintro e w3 ⟨rfl, rfl⟩)
         | (guard_target = wpList _ _ _ ((⟨some 27, .load _ (.tmp 3), _, _, _, _⟩ : Oper) :: _) _ _; refine step_load (op := ⟨some 27, .load _ (.tmp 3), _, _, _, _⟩) rfl _ rfl b3 rfl p HR3.out ?_)
         | (go_at_call 33; refine (rfindK HZ.out _ HP.out.bd).mono ?_; rintro e w3 ⟨rfl, hb⟩; have HR3 := Lib.hid (HR3.out.later hb); have HB := Lib.hid (below_on HB.out hb); clear hb)
         | (guard_target = wpList _ _ _ ((⟨some 39, .load _ (.tmp 3), _, _, _, _⟩ : Oper) :: _) _ _; refine step_load (op := ⟨some 39, .load _ (.tmp 3), _, _, _, _⟩) rfl _ rfl b3 rfl p HR3.out ?_)
         | (go_at_call 34; refine (isK56 HIb.out hr8 _ HP.out.bd).mono ?_; rintro e w3 ⟨rfl, hb⟩; have HR3 := Lib.hid (HR3.out.later hb); have HB := Lib.hid (below_on HB.out hb); clear hb)
         | (guard_target = wpList _ _ _ ((⟨some _, .load _ (.tmp 50), _, _, _, _⟩ : Oper) :: _) _ _; refine step_get rfl 5 _ rfl b3 0 rfl Tryz.underlying5 rfl (.int .u8 ((v : Nat) : Int)) ?_ ?_; exact (HR3.out.cell 0 (by decide)).trans (by rw [HVv.out]; rfl)))
        go_ret
        exact ⟨by rw [HS.out]; rfl, HB.out⟩
       ·have g7n : ((e : Int) != 4) = false := by rw [bne, g7]; rfl
        cases g8 : ((r : Int) == 0)
        ·have g8n : ((r : Int) != 0) = true := by rw [bne, g8]; rfl
         have HS := Lib.hid (show rkB p 1 1 = false by rw [← rtR_is (by decide) (by decide) hr, hq, g1, g3, g4, g6, g7, g8]; rfl)
         clear hq hr
         have HB := Lib.hid (Below.refl w.heap.size w)
         go_enter Tryz.func17, Tryz.ntmps17
         go_wp2_with (first
          | (guard_target = wpList _ _ _ ((⟨some 3, .box _ _, _, _, _, _⟩ : Oper) :: _) _ _; refine step_box rfl _ rfl p rfl ?_; intro b3 w1 N R; have HG3 := Lib.hid (show w.heap.size ≤ b3 by have := HB.out.size; have := N.at_; omega); have HB := Lib.hid (below_on HB.out N.below); have HR3 := Lib.hid R; clear N R)
          | (guard_target = wpList _ _ _ ((⟨some _, .load _ (.tmp 15), _, _, _, _⟩ : Oper) :: _) _ _; refine step_get rfl 26 _ rfl b3 82 rfl Tryz.underlying26 rfl (.int .i8 (r : Int)) ?_ ?_; exact (HR3.out.cell 82 (by decide)).trans (by rw [HF.out]; rfl))
          | (guard_target = wpList _ _ _ ((⟨some _, .load _ (.tmp 20), _, _, _, _⟩ : Oper) :: _) _ _; refine step_get rfl 5 _ rfl b3 0 rfl Tryz.underlying5 rfl (.int .u8 ((v : Nat) : Int)) ?_ ?_; exact (HR3.out.cell 0 (by decide)).trans (by rw [HVv.out]; rfl))
          | (go_at_call 32; refine (rcasK HCb.out _).mono ?_; rintro e w3 ⟨rfl, rfl⟩)
          | (guard_target = wpList _ _ _ ((⟨some 27, .load _ (.tmp 3), _, _, _, _⟩ : Oper) :: _) _ _; refine step_load (op := ⟨some 27, .load _ (.tmp 3), _, _, _, _⟩) rfl _ rfl b3 rfl p HR3.out ?_)
          | (go_at_call 33; refine (rfindK HZ.out _ HP.out.bd).mono ?_; rintro e w3 ⟨rfl, hb⟩; have HR3 := Lib.hid (HR3.out.later hb); have HB := Lib.hid (below_on HB.out hb); clear hb)
          | (guard_target = wpList _ _ _ ((⟨some 39, .load _ (.tmp 3), _, _, _, _⟩ : Oper) :: _) _ _; refine step_load (op := ⟨some 39, .load _ (.tmp 3), _, _, _, _⟩) rfl _ rfl b3 rfl p HR3.out ?_)
          | (go_at_call 34; refine (isK56 HIb.out hr8 _ HP.out.bd).mono ?_; rintro e w3 ⟨rfl, hb⟩; have HR3 := Lib.hid (HR3.out.later hb); have HB := Lib.hid (below_on HB.out hb); clear hb)
          | (guard_target = wpList _ _ _ ((⟨some _, .load _ (.tmp 50), _, _, _, _⟩ : Oper) :: _) _ _; refine step_get rfl 5 _ rfl b3 0 rfl Tryz.underlying5 rfl (.int .u8 ((v : Nat) : Int)) ?_ ?_; exact (HR3.out.cell 0 (by decide)).trans (by rw [HVv.out]; rfl)))
         go_ret
         exact ⟨by rw [HS.out]; rfl, HB.out⟩
        ·have g8n : ((r : Int) != 0) = false := by rw [bne, g8]; rfl
         cases g9 : decide ((r : Int) < (e : Int))
         ·have g9n : decide (r < e) = false := by rw [← g9]; exact decide_eq_decide.2 (by omega)
          have HS := Lib.hid (show rkB p 1 1 = false by rw [← rtR_is (by decide) (by decide) hr, hq, g1, g3, g4, g6, g7, g8, g9]; rfl)
          clear hq hr
          have HB := Lib.hid (Below.refl w.heap.size w)
          go_enter Tryz.func17, Tryz.ntmps17
          go_wp2_with (first
           | (guard_target = wpList _ _ _ ((⟨some 3, .box _ _, _, _, _, _⟩ : Oper) :: _) _ _; refine step_box rfl _ rfl p rfl ?_; intro b3 w1 N R; have HG3 := Lib.hid (show w.heap.size ≤ b3 by have := HB.out.size; have := N.at_; omega); have HB := Lib.hid (below_on HB.out N.below); have HR3 := Lib.hid R; clear N R)
           | (guard_target = wpList _ _ _ ((⟨some _, .load _ (.tmp 15), _, _, _, _⟩ : Oper) :: _) _ _; refine step_get rfl 26 _ rfl b3 82 rfl Tryz.underlying26 rfl (.int .i8 (r : Int)) ?_ ?_; exact (HR3.out.cell 82 (by decide)).trans (by rw [HF.out]; rfl))
           | (guard_target = wpList _ _ _ ((⟨some _, .load _ (.tmp 20), _, _, _, _⟩ : Oper) :: _) _ _; refine step_get rfl 5 _ rfl b3 0 rfl Tryz.underlying5 rfl (.int .u8 ((v : Nat) : Int)) ?_ ?_; exact (HR3.out.cell 0 (by decide)).trans (by rw [HVv.out]; rfl))
           | (go_at_call 32; refine (rcasK HCb.out _).mono ?_; rintro e w3 ⟨rfl, rfl⟩)
           | (guard_target = wpList _ _ _ ((⟨some 27, .load _ (.tmp 3), _, _, _, _⟩ : Oper) :: _) _ _; refine step_load (op := ⟨some 27, .load _ (.tmp 3), _, _, _, _⟩) rfl _ rfl b3 rfl p HR3.out ?_)
           | (go_at_call 33; refine (rfindK HZ.out _ HP.out.bd).mono ?_; rintro e w3 ⟨rfl, hb⟩; have HR3 := Lib.hid (HR3.out.later hb); have HB := Lib.hid (below_on HB.out hb); clear hb)
           | (guard_target = wpList _ _ _ ((⟨some 39, .load _ (.tmp 3), _, _, _, _⟩ : Oper) :: _) _ _; refine step_load (op := ⟨some 39, .load _ (.tmp 3), _, _, _, _⟩) rfl _ rfl b3 rfl p HR3.out ?_)
           | (go_at_call 34; refine (isK56 HIb.out hr8 _ HP.out.bd).mono ?_; rintro e w3 ⟨rfl, hb⟩; have HR3 := Lib.hid (HR3.out.later hb); have HB := Lib.hid (below_on HB.out hb); clear hb)
           | (guard_target = wpList _ _ _ ((⟨some _, .load _ (.tmp 50), _, _, _, _⟩ : Oper) :: _) _ _; refine step_get rfl 5 _ rfl b3 0 rfl Tryz.underlying5 rfl (.int .u8 ((v : Nat) : Int)) ?_ ?_; exact (HR3.out.cell 0 (by decide)).trans (by rw [HVv.out]; rfl)))
          go_ret
          exact ⟨by rw [HS.out]; rfl, HB.out⟩
         ·have g9n : decide (r < e) = true := by rw [← g9]; exact decide_eq_decide.2 (by omega)
          have HS := Lib.hid (show rkB p 1 1 = true by rw [← rtR_is (by decide) (by decide) hr, hq, g1, g3, g4, g6, g7, g8, g9]; rfl)
          clear hq hr
          have HB := Lib.hid (Below.refl w.heap.size w)
          go_enter Tryz.func17, Tryz.ntmps17
          go_wp2_with (first
           | (guard_target = wpList _ _ _ ((⟨some 3, .box _ _, _, _, _, _⟩ : Oper) :: _) _ _; refine step_box rfl _ rfl p rfl ?_; intro b3 w1 N R; have HG3 := Lib.hid (show w.heap.size ≤ b3 by have := HB.out.size; have := N.at_; omega); have HB := Lib.hid (below_on HB.out N.below); have HR3 := Lib.hid R; clear N R)
           | (guard_target = wpList _ _ _ ((⟨some _, .load _ (.tmp 15), _, _, _, _⟩ : Oper) :: _) _ _; refine step_get rfl 26 _ rfl b3 82 rfl Tryz.underlying26 rfl (.int .i8 (r : Int)) ?_ ?_; exact (HR3.out.cell 82 (by decide)).trans (by rw [HF.out]; rfl))
           | (guard_target = wpList _ _ _ ((⟨some _, .load _ (.tmp 20), _, _, _, _⟩ : Oper) :: _) _ _; refine step_get rfl 5 _ rfl b3 0 rfl Tryz.underlying5 rfl (.int .u8 ((v : Nat) : Int)) ?_ ?_; exact (HR3.out.cell 0 (by decide)).trans (by rw [HVv.out]; rfl))
           | (go_at_call 32; refine (rcasK HCb.out _).mono ?_; rintro e w3 ⟨rfl, rfl⟩)
           | (guard_target = wpList _ _ _ ((⟨some 27, .load _ (.tmp 3), _, _, _, _⟩ : Oper) :: _) _ _; refine step_load (op := ⟨some 27, .load _ (.tmp 3), _, _, _, _⟩) rfl _ rfl b3 rfl p HR3.out ?_)
           | (go_at_call 33; refine (rfindK HZ.out _ HP.out.bd).mono ?_; rintro e w3 ⟨rfl, hb⟩; have HR3 := Lib.hid (HR3.out.later hb); have HB := Lib.hid (below_on HB.out hb); clear hb)
           | (guard_target = wpList _ _ _ ((⟨some 39, .load _ (.tmp 3), _, _, _, _⟩ : Oper) :: _) _ _; refine step_load (op := ⟨some 39, .load _ (.tmp 3), _, _, _, _⟩) rfl _ rfl b3 rfl p HR3.out ?_)
           | (go_at_call 34; refine (isK56 HIb.out hr8 _ HP.out.bd).mono ?_; rintro e w3 ⟨rfl, hb⟩; have HR3 := Lib.hid (HR3.out.later hb); have HB := Lib.hid (below_on HB.out hb); clear hb)
           | (guard_target = wpList _ _ _ ((⟨some _, .load _ (.tmp 50), _, _, _, _⟩ : Oper) :: _) _ _; refine step_get rfl 5 _ rfl b3 0 rfl Tryz.underlying5 rfl (.int .u8 ((v : Nat) : Int)) ?_ ?_; exact (HR3.out.cell 0 (by decide)).trans (by rw [HVv.out]; rfl)))
          go_ret
          exact ⟨by rw [HS.out]; rfl, HB.out⟩
      ·have g6n : ((v : Int) != 1) = false := by rw [bne, g6]; rfl
       cases g9 : decide ((r : Int) < (e : Int))
       ·have g9n : decide (r < e) = false := by rw [← g9]; exact decide_eq_decide.2 (by omega)
        have HS := Lib.hid (show rkB p 1 1 = false by rw [← rtR_is (by decide) (by decide) hr, hq, g1, g3, g4, g6, g9]; rfl)
        clear hq hr
        have HB := Lib.hid (Below.refl w.heap.size w)
        go_enter Tryz.func17, Tryz.ntmps17
        go_wp2_with (first
         | (guard_target = wpList _ _ _ ((⟨some 3, .box _ _, _, _, _, _⟩ : Oper) :: _) _ _; refine step_box rfl _ rfl p rfl ?_; intro b3 w1 N R; have HG3 := Lib.hid (show w.heap.size ≤ b3 by have := HB.out.size; have := N.at_; omega); have HB := Lib.hid (below_on HB.out N.below); have HR3 := Lib.hid R; clear N R)
         | (guard_target = wpList _ _ _ ((⟨some _, .load _ (.tmp 15), _, _, _, _⟩ : Oper) :: _) _ _; refine step_get rfl 26 _ rfl b3 82 rfl Tryz.underlying26 rfl (.int .i8 (r : Int)) ?_ ?_; exact (HR3.out.cell 82 (by decide)).trans (by rw [HF.out]; rfl))
         | (guard_target = wpList _ _ _ ((⟨some _, .load _ (.tmp 20), _, _, _, _⟩ : Oper) :: _) _ _; refine step_get rfl 5 _ rfl b3 0 rfl Tryz.underlying5 rfl (.int .u8 ((v : Nat) : Int)) ?_ ?_; exact (HR3.out.cell 0 (by decide)).trans (by rw [HVv.out]; rfl))
         | (go_at_call 32; refine (rcasK HCb.out _).mono ?_; rintro e w3 ⟨rfl, rfl⟩)
         | (guard_target = wpList _ _ _ ((⟨some 27, .load _ (.tmp 3), _, _, _, _⟩ : Oper) :: _) _ _; refine step_load (op := ⟨some 27, .load _ (.tmp 3), _, _, _, _⟩) rfl _ rfl b3 rfl p HR3.out ?_)
         | (go_at_call 33; refine (rfindK HZ.out _ HP.out.bd).mono ?_; rintro e w3 ⟨rfl, hb⟩; have HR3 := Lib.hid (HR3.out.later hb); have HB := Lib.hid (below_on HB.out hb); clear hb)
         | (guard_target = wpList _ _ _ ((⟨some 39, .load _ (.tmp 3), _, _, _, _⟩ : Oper) :: _) _ _; refine step_load (op := ⟨some 39, .load _ (.tmp 3), _, _, _, _⟩) rfl _ rfl b3 rfl p HR3.out ?_)
         | (go_at_call 34; refine (isK56 HIb.out hr8 _ HP.out.bd).mono ?_; rintro e w3 ⟨rfl, hb⟩; have HR3 := Lib.hid (HR3.out.later hb); have HB := Lib.hid (below_on HB.out hb); clear hb)
         | (guard_target = wpList _ _ _ ((⟨some _, .load _ (.tmp 50), _, _, _, _⟩ : Oper) :: _) _ _; refine step_get rfl 5 _ rfl b3 0 rfl Tryz.underlying5 rfl (.int .u8 ((v : Nat) : Int)) ?_ ?_; exact (HR3.out.cell 0 (by decide)).trans (by rw [HVv.out]; rfl)))
        go_ret
        exact ⟨by rw [HS.out]; rfl, HB.out⟩
       ·have g9n : decide (r < e) = true := by rw [← g9]; exact decide_eq_decide.2 (by omega)
        have HS := Lib.hid (show rkB p 1 1 = true by rw [← rtR_is (by decide) (by decide) hr, hq, g1, g3, g4, g6, g9]; rfl)
        clear hq hr
        have HB := Lib.hid (Below.refl w.heap.size w)
        go_enter Tryz.func17, Tryz.ntmps17
        go_wp2_with (first
         | (guard_target = wpList _ _ _ ((⟨some 3, .box _ _, _, _, _, _⟩ : Oper) :: _) _ _; refine step_box rfl _ rfl p rfl ?_; intro b3 w1 N R; have HG3 := Lib.hid (show w.heap.size ≤ b3 by have := HB.out.size; have := N.at_; omega); have HB := Lib.hid (below_on HB.out N.below); have HR3 := Lib.hid R; clear N R)
         | (guard_target = wpList _ _ _ ((⟨some _, .load _ (.tmp 15), _, _, _, _⟩ : Oper) :: _) _ _; refine step_get rfl 26 _ rfl b3 82 rfl Tryz.underlying26 rfl (.int .i8 (r : Int)) ?_ ?_; exact (HR3.out.cell 82 (by decide)).trans (by rw [HF.out]; rfl))
         | (guard_target = wpList _ _ _ ((⟨some _, .load _ (.tmp 20), _, _, _, _⟩ : Oper) :: _) _ _; refine step_get rfl 5 _ rfl b3 0 rfl Tryz.underlying5 rfl (.int .u8 ((v : Nat) : Int)) ?_ ?_; exact (HR3.out.cell 0 (by decide)).trans (by rw [HVv.out]; rfl))
         | (go_at_call 32; refine (rcasK HCb.out _).mono ?_; rintro e w3 ⟨rfl, rfl⟩)
         | (guard_target = wpList _ _ _ ((⟨some 27, .load _ (.tmp 3), _, _, _, _⟩ : Oper) :: _) _ _; refine step_load (op := ⟨some 27, .load _ (.tmp 3), _, _, _, _⟩) rfl _ rfl b3 rfl p HR3.out ?_)
         | (go_at_call 33; refine (rfindK HZ.out _ HP.out.bd).mono ?_; rintro e w3 ⟨rfl, hb⟩; have HR3 := Lib.hid (HR3.out.later hb); have HB := Lib.hid (below_on HB.out hb); clear hb)
         | (guard_target = wpList _ _ _ ((⟨some 39, .load _ (.tmp 3), _, _, _, _⟩ : Oper) :: _) _ _; refine step_load (op := ⟨some 39, .load _ (.tmp 3), _, _, _, _⟩) rfl _ rfl b3 rfl p HR3.out ?_)
         | (go_at_call 34; refine (isK56 HIb.out hr8 _ HP.out.bd).mono ?_; rintro e w3 ⟨rfl, hb⟩; have HR3 := Lib.hid (HR3.out.later hb); have HB := Lib.hid (below_on HB.out hb); clear hb)
         | (guard_target = wpList _ _ _ ((⟨some _, .load _ (.tmp 50), _, _, _, _⟩ : Oper) :: _) _ _; refine step_get rfl 5 _ rfl b3 0 rfl Tryz.underlying5 rfl (.int .u8 ((v : Nat) : Int)) ?_ ?_; exact (HR3.out.cell 0 (by decide)).trans (by rw [HVv.out]; rfl)))
        go_ret
        exact ⟨by rw [HS.out]; rfl, HB.out⟩
 ·obtain ⟨f, hf⟩ : ∃ f, roA p 1 1 = f := ⟨_, rfl⟩
  have HF := Lib.hid (show p 82 = f from hf)
  rw [hf] at hq g1
  have hfr : f = -1 := beq_iff_eq.1 g1
  have hfr1 : -128 ≤ f ∧ f ≤ 127 := by omega
  clear hf hfr
  have HS := Lib.hid (show rkB p 1 1 = true by rw [← rtR_is (by decide) (by decide) hr, hq, g1]; rfl)
  clear hq hr
  have HB := Lib.hid (Below.refl w.heap.size w)
  go_enter Tryz.func17, Tryz.ntmps17
  go_wp2_with (first
   | (guard_target = wpList _ _ _ ((⟨some 3, .box _ _, _, _, _, _⟩ : Oper) :: _) _ _; refine step_box rfl _ rfl p rfl ?_; intro b3 w1 N R; have HG3 := Lib.hid (show w.heap.size ≤ b3 by have := HB.out.size; have := N.at_; omega); have HB := Lib.hid (below_on HB.out N.below); have HR3 := Lib.hid R; clear N R)
   | (guard_target = wpList _ _ _ ((⟨some _, .load _ (.tmp 15), _, _, _, _⟩ : Oper) :: _) _ _; refine step_get rfl 26 _ rfl b3 82 rfl Tryz.underlying26 rfl (.int .i8 f) ?_ ?_; exact (HR3.out.cell 82 (by decide)).trans (by rw [HF.out]; rfl)))
  go_ret
  exact ⟨by rw [HS.out]; rfl, HB.out⟩
end Go.Proofs.YtigkbccpkepdmaaGreatDoor
