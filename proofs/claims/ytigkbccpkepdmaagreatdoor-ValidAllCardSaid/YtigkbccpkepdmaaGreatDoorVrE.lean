/-
 The document's own Passing of layer 12.
-/
import Derived.Test.YtigkbccpkepdmaaGreatDoorVrA0
import Derived.Test.YtigkbccpkepdmaaGreatDoorAtHits
namespace Go.Proofs.YtigkbccpkepdmaaGreatDoor
open Go.RowKit Go.Shelf
set_option linter.unusedVariables false
set_option linter.unusedSimpArgs false
attribute [local go_sem] Oper.semAt_some

theorem hitK {p : Nat → Int} {a b : Nat} {x : Bool} (h : (fromN p (a : Int)).testBit b = x) (ha : a < 64) (hb : b < 64) (w : World) (hp : BdR p) : Calls Tryz.prog 35 #[.agg (posA p), .int .i64 (a : Int), .int .i64 (b : Int)] w (BoL x w) := h ▸ rhits_any p a b w hp ha hb
set_option maxRecDepth 100000 in
set_option maxHeartbeats 4000000 in
theorem vr_pass0 (p : Nat → Int) (w : World) (hp : FitP p) (h78 : p 78 = 0) (hr : -1 ≤ p 83 ∧ p 83 < 64) : Calls Tryz.prog 18 #[.agg (posA p)] w (BoL (pasB p) w) := by
 have HP := Lib.hid hp
 have HTu := Lib.hid h78
 have HT0 := Lib.hid (show 0 ≤ p 78 by omega)
 have HT1 := Lib.hid (show p 78 ≤ 1 by omega)
 have hq : psR p = (bif p 83 == -1 then true else bif !((((p 83).toNat / 8 : Nat) : Int) == 5) || (!(p (1 + (p 83).toNat) == 0) || (!(p (1 + (p 83 + 8).toNat) == 0) || !isB p (p 83 - 8).toNat 1 1)) then false else exR p (p 83).toNat 64) := by
  unfold psR prkZ pupZ
  rw [h78]
  rw [show (bif (0 : Int) == 1 then (8 : Int) else -8) = -8 from rfl, show p 83 - -8 = p 83 + 8 by omega, show p 83 + -8 = p 83 - 8 by omega]; rfl
 clear hp
 cases g0 : (p 83 == -1)
 ·obtain ⟨s, hs⟩ : ∃ s : Nat, p 83 = (s : Int) := ⟨(p 83).toNat, by have := beq_eq_false_iff_ne.1 g0; omega⟩
  have hs64 : s < 64 := by omega
  have HF := Lib.hid hs
  have g0s : ((s : Int) == -1) = false := by rw [beq_eq_false_iff_ne]; omega
  rw [hs, Int.toNat_natCast, g0s] at hq
  cases gr : (((s / 8 : Nat) : Int) == 5)
  ·have gr2 : ((s : Int) / 8 == 5) = false := gr
   have grn : (((s / 8 : Nat) : Int) != 5) = true := by rw [bne, gr]; rfl
   have grm : ((s : Int) / 8 != 5) = true := by rw [bne, gr2]; rfl
   clear hs g0
   have HS := Lib.hid (show pasB p = false by rw [← psR_is HT0.out HT1.out hr.1 hr.2, hq, gr]; rfl)
   clear hq
   have HB := Lib.hid (Below.refl w.heap.size w)
   go_enter Tryz.func18, Tryz.ntmps18
   go_wp2_with (first
    | (guard_target = Go.wpList _ _ _ ((⟨some 1, .box _ _, _, _, _, _⟩ : Go.Oper) :: _) _ _; refine step_box rfl _ rfl p rfl ?_; intro b1 w1 N R; have HG1 := Lib.hid (show w.heap.size ≤ b1 by have := HB.out.size; have := N.at_; omega); have HB := Lib.hid (below_on HB.out N.below); have HR1 := Lib.hid R; clear N R)
    | (guard_target = Go.wpList _ _ _ ((⟨some _, .load _ (.tmp 7), _, _, _, _⟩ : Go.Oper) :: _) _ _; refine step_get rfl 26 _ rfl b1 83 rfl Tryz.underlying26 rfl (.int .i8 (s : Int)) ?_ ?_; exact (HR1.out.cell 83 (by decide)).trans (by rw [HF.out]; rfl))
    | (guard_target = Go.wpList _ _ _ ((⟨some _, .load _ (.tmp 12), _, _, _, _⟩ : Go.Oper) :: _) _ _; refine step_get rfl 5 _ rfl b1 78 rfl Tryz.underlying5 rfl (.int .u8 0) ?_ ?_; exact (HR1.out.cell 78 (by decide)).trans (by rw [HTu.out]; rfl)))
   go_ret
   exact ⟨by rw [HS.out]; rfl, HB.out⟩
  ·have gr2 : ((s : Int) / 8 == 5) = true := gr
   have hrg : s / 8 = 5 := by have := beq_iff_eq.1 gr; omega
   have grn : (((s / 8 : Nat) : Int) != 5) = false := by rw [bne, gr]; rfl
   have grm : ((s : Int) / 8 != 5) = false := by rw [bne, gr2]; rfl
   obtain ⟨m, hm⟩ : ∃ m : Nat, m + 8 = s := ⟨s - 8, by omega⟩
   obtain ⟨u, hu⟩ : ∃ u : Nat, s + 8 = u := ⟨_, rfl⟩
   have hu1 : (s : Int) + 8 = (u : Int) := by omega
   have hm1 : (s : Int) - 8 = (m : Int) := by omega
   have hm2 : (s : Int) + -8 = (m : Int) := by omega
   have hu64 : u < 64 := by omega
   have hm64 : m < 64 := by omega
   rw [hu1, hm1, Int.toNat_natCast, Int.toNat_natCast] at hq
   obtain ⟨y, hy⟩ : ∃ y, p (1 + s) = y := ⟨_, rfl⟩
   obtain ⟨z, hz⟩ : ∃ z, p (1 + u) = z := ⟨_, rfl⟩
   obtain ⟨ib, hib⟩ : ∃ ib, isB p m 1 1 = ib := ⟨_, rfl⟩
   have HY := Lib.hid hy
   have HZ := Lib.hid hz
   have HIb := Lib.hid hib
   rw [hy, hz, hib] at hq
   clear hs g0 hy hz hib hrg
   cases gy : (y == 0)
   ·have gyn : (y != 0) = true := by rw [bne, gy]; rfl
    have HS := Lib.hid (show pasB p = false by rw [← psR_is HT0.out HT1.out hr.1 hr.2, hq, gr, gy]; rfl)
    clear hq
    have HB := Lib.hid (Below.refl w.heap.size w)
    go_enter Tryz.func18, Tryz.ntmps18
    go_wp2_with (first
     | (guard_target = Go.wpList _ _ _ ((⟨some 1, .box _ _, _, _, _, _⟩ : Go.Oper) :: _) _ _; refine step_box rfl _ rfl p rfl ?_; intro b1 w1 N R; have HG1 := Lib.hid (show w.heap.size ≤ b1 by have := HB.out.size; have := N.at_; omega); have HB := Lib.hid (below_on HB.out N.below); have HR1 := Lib.hid R; clear N R)
     | (guard_target = Go.wpList _ _ _ ((⟨some _, .load _ (.tmp 7), _, _, _, _⟩ : Go.Oper) :: _) _ _; refine step_get rfl 26 _ rfl b1 83 rfl Tryz.underlying26 rfl (.int .i8 (s : Int)) ?_ ?_; exact (HR1.out.cell 83 (by decide)).trans (by rw [HF.out]; rfl))
     | (guard_target = Go.wpList _ _ _ ((⟨some _, .load _ (.tmp 12), _, _, _, _⟩ : Go.Oper) :: _) _ _; refine step_get rfl 5 _ rfl b1 78 rfl Tryz.underlying5 rfl (.int .u8 0) ?_ ?_; exact (HR1.out.cell 78 (by decide)).trans (by rw [HTu.out]; rfl))
     | (guard_target = Go.wpList _ _ _ ((⟨some _, .load _ (.tmp 22), _, _, _, _⟩ : Go.Oper) :: _) _ _; refine step_get rfl 5 _ rfl b1 (1 + s) rfl Tryz.underlying5 rfl (.int .u8 y) ?_ ?_; exact (HR1.out.cell (1 + s) (by omega)).trans (by rw [kAt_board (Nat.zero_le _) (by omega), HY.out])))
    go_ret
    exact ⟨by rw [HS.out]; rfl, HB.out⟩
   ·have gyn : (y != 0) = false := by rw [bne, gy]; rfl
    cases gz : (z == 0)
    ·have gzn : (z != 0) = true := by rw [bne, gz]; rfl
     have HS := Lib.hid (show pasB p = false by rw [← psR_is HT0.out HT1.out hr.1 hr.2, hq, gr, gy, gz]; rfl)
     clear hq
     have HB := Lib.hid (Below.refl w.heap.size w)
     go_enter Tryz.func18, Tryz.ntmps18
     go_wp2_with (first
      | (guard_target = Go.wpList _ _ _ ((⟨some 1, .box _ _, _, _, _, _⟩ : Go.Oper) :: _) _ _; refine step_box rfl _ rfl p rfl ?_; intro b1 w1 N R; have HG1 := Lib.hid (show w.heap.size ≤ b1 by have := HB.out.size; have := N.at_; omega); have HB := Lib.hid (below_on HB.out N.below); have HR1 := Lib.hid R; clear N R)
      | (guard_target = Go.wpList _ _ _ ((⟨some _, .load _ (.tmp 7), _, _, _, _⟩ : Go.Oper) :: _) _ _; refine step_get rfl 26 _ rfl b1 83 rfl Tryz.underlying26 rfl (.int .i8 (s : Int)) ?_ ?_; exact (HR1.out.cell 83 (by decide)).trans (by rw [HF.out]; rfl))
      | (guard_target = Go.wpList _ _ _ ((⟨some _, .load _ (.tmp 12), _, _, _, _⟩ : Go.Oper) :: _) _ _; refine step_get rfl 5 _ rfl b1 78 rfl Tryz.underlying5 rfl (.int .u8 0) ?_ ?_; exact (HR1.out.cell 78 (by decide)).trans (by rw [HTu.out]; rfl))
      | (guard_target = Go.wpList _ _ _ ((⟨some _, .load _ (.tmp 22), _, _, _, _⟩ : Go.Oper) :: _) _ _; refine step_get rfl 5 _ rfl b1 (1 + s) rfl Tryz.underlying5 rfl (.int .u8 y) ?_ ?_; exact (HR1.out.cell (1 + s) (by omega)).trans (by rw [kAt_board (Nat.zero_le _) (by omega), HY.out]))
      | (guard_target = Go.wpList _ _ _ ((⟨some _, .load _ (.tmp 31), _, _, _, _⟩ : Go.Oper) :: _) _ _; refine step_get rfl 5 _ rfl b1 (1 + u) rfl Tryz.underlying5 rfl (.int .u8 z) ?_ ?_; exact (HR1.out.cell (1 + u) (by omega)).trans (by rw [kAt_board (Nat.zero_le _) (by omega), HZ.out])))
     go_ret
     exact ⟨by rw [HS.out]; rfl, HB.out⟩
    ·have gzn : (z != 0) = false := by rw [bne, gz]; rfl
     cases ib
     ·skip
      have HS := Lib.hid (show pasB p = false by rw [← psR_is HT0.out HT1.out hr.1 hr.2, hq, gr, gy, gz]; rfl)
      clear hq
      have HB := Lib.hid (Below.refl w.heap.size w)
      go_enter Tryz.func18, Tryz.ntmps18
      go_wp2_with (first
       | (guard_target = Go.wpList _ _ _ ((⟨some 1, .box _ _, _, _, _, _⟩ : Go.Oper) :: _) _ _; refine step_box rfl _ rfl p rfl ?_; intro b1 w1 N R; have HG1 := Lib.hid (show w.heap.size ≤ b1 by have := HB.out.size; have := N.at_; omega); have HB := Lib.hid (below_on HB.out N.below); have HR1 := Lib.hid R; clear N R)
       | (guard_target = Go.wpList _ _ _ ((⟨some _, .load _ (.tmp 7), _, _, _, _⟩ : Go.Oper) :: _) _ _; refine step_get rfl 26 _ rfl b1 83 rfl Tryz.underlying26 rfl (.int .i8 (s : Int)) ?_ ?_; exact (HR1.out.cell 83 (by decide)).trans (by rw [HF.out]; rfl))
       | (guard_target = Go.wpList _ _ _ ((⟨some _, .load _ (.tmp 12), _, _, _, _⟩ : Go.Oper) :: _) _ _; refine step_get rfl 5 _ rfl b1 78 rfl Tryz.underlying5 rfl (.int .u8 0) ?_ ?_; exact (HR1.out.cell 78 (by decide)).trans (by rw [HTu.out]; rfl))
       | (guard_target = Go.wpList _ _ _ ((⟨some _, .load _ (.tmp 22), _, _, _, _⟩ : Go.Oper) :: _) _ _; refine step_get rfl 5 _ rfl b1 (1 + s) rfl Tryz.underlying5 rfl (.int .u8 y) ?_ ?_; exact (HR1.out.cell (1 + s) (by omega)).trans (by rw [kAt_board (Nat.zero_le _) (by omega), HY.out]))
       | (guard_target = Go.wpList _ _ _ ((⟨some _, .load _ (.tmp 31), _, _, _, _⟩ : Go.Oper) :: _) _ _; refine step_get rfl 5 _ rfl b1 (1 + u) rfl Tryz.underlying5 rfl (.int .u8 z) ?_ ?_; exact (HR1.out.cell (1 + u) (by omega)).trans (by rw [kAt_board (Nat.zero_le _) (by omega), HZ.out]))
       | (guard_target = Go.wpList _ _ _ ((⟨some 36, .load _ (.tmp 1), _, _, _, _⟩ : Go.Oper) :: _) _ _; refine step_load (op := ⟨some 36, .load _ (.tmp 1), _, _, _, _⟩) rfl _ rfl b1 rfl p HR1.out ?_)
       | (guard_target = Go.wpList _ _ _ ((⟨some _, .load _ (.tmp 40), _, _, _, _⟩ : Go.Oper) :: _) _ _; refine step_get rfl 5 _ rfl b1 78 rfl Tryz.underlying5 rfl (.int .u8 0) ?_ ?_; exact (HR1.out.cell 78 (by decide)).trans (by rw [HTu.out]; rfl))
       | (go_at_call 34; guard_target = Go.Calls _ _ #[_, Go.Value.int _ ((m : Nat) : Int), _, _] _ _; refine (isK (c := 1) (k := 1) HIb.out hm64 _ HP.out.bd).mono ?_; rintro e w3 ⟨rfl, hb⟩; have HR1 := Lib.hid (HR1.out.later hb); have HB := Lib.hid (below_on HB.out hb); clear hb))
      go_ret
      exact ⟨by rw [HS.out]; rfl, HB.out⟩
     ·have HS := Lib.hid (show pasB p = exR p s 64 by rw [← psR_is HT0.out HT1.out hr.1 hr.2, hq, gr, gy, gz]; rfl)
      clear hq
      have HS64 := Lib.hid hs64
      have HB := Lib.hid (Below.refl w.heap.size w)
      go_enter Tryz.func18, Tryz.ntmps18
      go_wp2_with (first
       | (guard_target = Go.wpList _ _ _ ((⟨some 1, .box _ _, _, _, _, _⟩ : Go.Oper) :: _) _ _; refine step_box rfl _ rfl p rfl ?_; intro b1 w1 N R; have HG1 := Lib.hid (show w.heap.size ≤ b1 by have := HB.out.size; have := N.at_; omega); have HB := Lib.hid (below_on HB.out N.below); have HR1 := Lib.hid R; clear N R)
       | (guard_target = Go.wpList _ _ _ ((⟨some _, .load _ (.tmp 7), _, _, _, _⟩ : Go.Oper) :: _) _ _; refine step_get rfl 26 _ rfl b1 83 rfl Tryz.underlying26 rfl (.int .i8 (s : Int)) ?_ ?_; exact (HR1.out.cell 83 (by decide)).trans (by rw [HF.out]; rfl))
       | (guard_target = Go.wpList _ _ _ ((⟨some _, .load _ (.tmp 12), _, _, _, _⟩ : Go.Oper) :: _) _ _; refine step_get rfl 5 _ rfl b1 78 rfl Tryz.underlying5 rfl (.int .u8 0) ?_ ?_; exact (HR1.out.cell 78 (by decide)).trans (by rw [HTu.out]; rfl))
       | (guard_target = Go.wpList _ _ _ ((⟨some _, .load _ (.tmp 22), _, _, _, _⟩ : Go.Oper) :: _) _ _; refine step_get rfl 5 _ rfl b1 (1 + s) rfl Tryz.underlying5 rfl (.int .u8 y) ?_ ?_; exact (HR1.out.cell (1 + s) (by omega)).trans (by rw [kAt_board (Nat.zero_le _) (by omega), HY.out]))
       | (guard_target = Go.wpList _ _ _ ((⟨some _, .load _ (.tmp 31), _, _, _, _⟩ : Go.Oper) :: _) _ _; refine step_get rfl 5 _ rfl b1 (1 + u) rfl Tryz.underlying5 rfl (.int .u8 z) ?_ ?_; exact (HR1.out.cell (1 + u) (by omega)).trans (by rw [kAt_board (Nat.zero_le _) (by omega), HZ.out]))
       | (guard_target = Go.wpList _ _ _ ((⟨some 36, .load _ (.tmp 1), _, _, _, _⟩ : Go.Oper) :: _) _ _; refine step_load (op := ⟨some 36, .load _ (.tmp 1), _, _, _, _⟩) rfl _ rfl b1 rfl p HR1.out ?_)
       | (guard_target = Go.wpList _ _ _ ((⟨some _, .load _ (.tmp 40), _, _, _, _⟩ : Go.Oper) :: _) _ _; refine step_get rfl 5 _ rfl b1 78 rfl Tryz.underlying5 rfl (.int .u8 0) ?_ ?_; exact (HR1.out.cell 78 (by decide)).trans (by rw [HTu.out]; rfl))
       | (go_at_call 34; guard_target = Go.Calls _ _ #[_, Go.Value.int _ ((m : Nat) : Int), _, _] _ _; refine (isK (c := 1) (k := 1) HIb.out hm64 _ HP.out.bd).mono ?_; rintro e w3 ⟨rfl, hb⟩; have HR1 := Lib.hid (HR1.out.later hb); have HB := Lib.hid (below_on HB.out hb); clear hb))
      go_loopw [6] (fun i wr => ∃ a : Nat, a ≤ 64 ∧ i = .int .i64 (a : Int) ∧ exR p s a = false ∧ Row wr b1 p ∧ Below w.heap.size w wr) (fun i _ => 64 - (intOf i).toNat)
      case atStart => exact ⟨0, by omega, rfl, rfl, HR1.out, HB.out⟩
      case round =>
       clear HR1 HB
       obtain ⟨a, ha, rfl, hex, hr1, hb⟩ := hrel
       have HR1 := Lib.hid hr1
       have HB := Lib.hid hb
       have HEx := Lib.hid hex
       clear hr1 hb hex
       by_cases hlt : a < 64
       ·have HA := Lib.hid hlt
        have ga : decide (a < 64) = true := decide_eq_true hlt
        have ga2 : decide ((a : Int) < 64) = true := decide_eq_true (by omega)
        have hxs := exR_succ p s a
        rw [HEx.out, Bool.false_or, HTu.out] at hxs
        obtain ⟨ia, hia⟩ : ∃ ia, isB p a 0 1 = ia := ⟨_, rfl⟩
        obtain ⟨hi, hhi⟩ : ∃ hi, (fromN p (a : Int)).testBit s = hi := ⟨_, rfl⟩
        rw [hia, hhi] at hxs
        have HIa := Lib.hid hia
        have HHi := Lib.hid hhi
        have HXs := Lib.hid hxs
        clear hia hhi hxs
        cases ia
        ·go_wp2_with (first
         | (guard_target = Go.wpList _ _ _ ((⟨some 50, .load _ (.tmp 1), _, _, _, _⟩ : Go.Oper) :: _) _ _; refine step_load (op := ⟨some 50, .load _ (.tmp 1), _, _, _, _⟩) rfl _ rfl b1 rfl p HR1.out ?_)
         | (guard_target = Go.wpList _ _ _ ((⟨some _, .load _ (.tmp 52), _, _, _, _⟩ : Go.Oper) :: _) _ _; refine step_get rfl 5 _ rfl b1 78 rfl Tryz.underlying5 rfl (.int .u8 0) ?_ ?_; exact (HR1.out.cell 78 (by decide)).trans (by rw [HTu.out]; rfl))
         | (go_at_call 34; guard_target = Go.Calls _ _ #[_, Go.Value.int _ ((a : Nat) : Int), _, _] _ _; refine (isK (c := 0) (k := 1) HIa.out HA.out _ HP.out.bd).mono ?_; rintro e w3 ⟨rfl, hb⟩; have HR1 := Lib.hid (HR1.out.later hb); have HB := Lib.hid (below_on HB.out hb); clear hb))
         go_roundw
         case rel => exact ⟨a + 1, by have := HA.out; omega, by go_num, by rw [HXs.out]; rfl, HR1.out, HB.out⟩
         case measure => simp [intOf]; have := HA.out; omega
        ·cases hi
         ·go_wp2_with (first
          | (guard_target = Go.wpList _ _ _ ((⟨some 50, .load _ (.tmp 1), _, _, _, _⟩ : Go.Oper) :: _) _ _; refine step_load (op := ⟨some 50, .load _ (.tmp 1), _, _, _, _⟩) rfl _ rfl b1 rfl p HR1.out ?_)
          | (guard_target = Go.wpList _ _ _ ((⟨some 56, .load _ (.tmp 1), _, _, _, _⟩ : Go.Oper) :: _) _ _; refine step_load (op := ⟨some 56, .load _ (.tmp 1), _, _, _, _⟩) rfl _ rfl b1 rfl p HR1.out ?_)
          | (guard_target = Go.wpList _ _ _ ((⟨some _, .load _ (.tmp 52), _, _, _, _⟩ : Go.Oper) :: _) _ _; refine step_get rfl 5 _ rfl b1 78 rfl Tryz.underlying5 rfl (.int .u8 0) ?_ ?_; exact (HR1.out.cell 78 (by decide)).trans (by rw [HTu.out]; rfl))
          | (go_at_call 34; guard_target = Go.Calls _ _ #[_, Go.Value.int _ ((a : Nat) : Int), _, _] _ _; refine (isK (c := 0) (k := 1) HIa.out HA.out _ HP.out.bd).mono ?_; rintro e w3 ⟨rfl, hb⟩; have HR1 := Lib.hid (HR1.out.later hb); have HB := Lib.hid (below_on HB.out hb); clear hb)
          | (go_at_call 35; refine (hitK HHi.out HA.out HS64.out _ HP.out.bd).mono ?_; rintro e w3 ⟨rfl, hb⟩; have HR1 := Lib.hid (HR1.out.later hb); have HB := Lib.hid (below_on HB.out hb); clear hb))
          go_roundw
          case rel => exact ⟨a + 1, by have := HA.out; omega, by go_num, by rw [HXs.out]; rfl, HR1.out, HB.out⟩
          case measure => simp [intOf]; have := HA.out; omega
         ·have HE := Lib.hid (show exR p s 64 = true by
           have h1 := HXs.out
           unfold exR at h1 ⊢
           obtain ⟨j, hj, hx⟩ := List.any_eq_true.1 h1
           exact List.any_eq_true.2 ⟨j, List.mem_range.2 (by have := List.mem_range.1 hj; have := HA.out; omega), hx⟩)
          go_wp2_with (first
          | (guard_target = Go.wpList _ _ _ ((⟨some 50, .load _ (.tmp 1), _, _, _, _⟩ : Go.Oper) :: _) _ _; refine step_load (op := ⟨some 50, .load _ (.tmp 1), _, _, _, _⟩) rfl _ rfl b1 rfl p HR1.out ?_)
          | (guard_target = Go.wpList _ _ _ ((⟨some 56, .load _ (.tmp 1), _, _, _, _⟩ : Go.Oper) :: _) _ _; refine step_load (op := ⟨some 56, .load _ (.tmp 1), _, _, _, _⟩) rfl _ rfl b1 rfl p HR1.out ?_)
          | (guard_target = Go.wpList _ _ _ ((⟨some _, .load _ (.tmp 52), _, _, _, _⟩ : Go.Oper) :: _) _ _; refine step_get rfl 5 _ rfl b1 78 rfl Tryz.underlying5 rfl (.int .u8 0) ?_ ?_; exact (HR1.out.cell 78 (by decide)).trans (by rw [HTu.out]; rfl))
          | (go_at_call 34; guard_target = Go.Calls _ _ #[_, Go.Value.int _ ((a : Nat) : Int), _, _] _ _; refine (isK (c := 0) (k := 1) HIa.out HA.out _ HP.out.bd).mono ?_; rintro e w3 ⟨rfl, hb⟩; have HR1 := Lib.hid (HR1.out.later hb); have HB := Lib.hid (below_on HB.out hb); clear hb)
          | (go_at_call 35; refine (hitK HHi.out HA.out HS64.out _ HP.out.bd).mono ?_; rintro e w3 ⟨rfl, hb⟩; have HR1 := Lib.hid (HR1.out.later hb); have HB := Lib.hid (below_on HB.out hb); clear hb))
          go_ret
          exact ⟨by rw [HS.out, HE.out]; rfl, HB.out⟩
       ·obtain rfl : a = 64 := by omega
        go_wp2_with fail
        go_ret
        exact ⟨by rw [HS.out, HEx.out]; rfl, HB.out⟩
 ·obtain ⟨f, hf⟩ : ∃ f, p 83 = f := ⟨_, rfl⟩
  have HF := Lib.hid hf
  rw [hf] at g0
  have hfr : f = -1 := beq_iff_eq.1 g0
  have hfr1 : -128 ≤ f ∧ f ≤ 127 := by omega
  have HS := Lib.hid (show pasB p = true by rw [← psR_is HT0.out HT1.out hr.1 hr.2, hq, hf, g0]; rfl)
  clear hq hf hfr hr
  have HB := Lib.hid (Below.refl w.heap.size w)
  go_enter Tryz.func18, Tryz.ntmps18
  go_wp2_with (first
   | (guard_target = Go.wpList _ _ _ ((⟨some 1, .box _ _, _, _, _, _⟩ : Go.Oper) :: _) _ _; refine step_box rfl _ rfl p rfl ?_; intro b1 w1 N R; have HG1 := Lib.hid (show w.heap.size ≤ b1 by have := HB.out.size; have := N.at_; omega); have HB := Lib.hid (below_on HB.out N.below); have HR1 := Lib.hid R; clear N R)
   | (guard_target = Go.wpList _ _ _ ((⟨some _, .load _ (.tmp 7), _, _, _, _⟩ : Go.Oper) :: _) _ _; refine step_get rfl 26 _ rfl b1 83 rfl Tryz.underlying26 rfl (.int .i8 f) ?_ ?_; exact (HR1.out.cell 83 (by decide)).trans (by rw [HF.out]; rfl)))
  go_ret
  exact ⟨by rw [HS.out]; rfl, HB.out⟩
set_option maxRecDepth 100000 in
set_option maxHeartbeats 4000000 in
theorem vr_pass1 (p : Nat → Int) (w : World) (hp : FitP p) (h78 : p 78 = 1) (hr : -1 ≤ p 83 ∧ p 83 < 64) : Calls Tryz.prog 18 #[.agg (posA p)] w (BoL (pasB p) w) := by
 have HP := Lib.hid hp
 have HTu := Lib.hid h78
 have HT0 := Lib.hid (show 0 ≤ p 78 by omega)
 have HT1 := Lib.hid (show p 78 ≤ 1 by omega)
 have hq : psR p = (bif p 83 == -1 then true else bif !((((p 83).toNat / 8 : Nat) : Int) == 2) || (!(p (1 + (p 83).toNat) == 0) || (!(p (1 + (p 83 - 8).toNat) == 0) || !isB p (p 83 + 8).toNat 0 1)) then false else exR p (p 83).toNat 64) := by
  unfold psR prkZ pupZ
  rw [h78]
  rfl
 clear hp
 cases g0 : (p 83 == -1)
 ·obtain ⟨s, hs⟩ : ∃ s : Nat, p 83 = (s : Int) := ⟨(p 83).toNat, by have := beq_eq_false_iff_ne.1 g0; omega⟩
  have hs64 : s < 64 := by omega
  have HF := Lib.hid hs
  have g0s : ((s : Int) == -1) = false := by rw [beq_eq_false_iff_ne]; omega
  rw [hs, Int.toNat_natCast, g0s] at hq
  cases gr : (((s / 8 : Nat) : Int) == 2)
  ·have gr2 : ((s : Int) / 8 == 2) = false := gr
   have grn : (((s / 8 : Nat) : Int) != 2) = true := by rw [bne, gr]; rfl
   have grm : ((s : Int) / 8 != 2) = true := by rw [bne, gr2]; rfl
   clear hs g0
   have HS := Lib.hid (show pasB p = false by rw [← psR_is HT0.out HT1.out hr.1 hr.2, hq, gr]; rfl)
   clear hq
   have HB := Lib.hid (Below.refl w.heap.size w)
   go_enter Tryz.func18, Tryz.ntmps18
   go_wp2_with (first
    | (guard_target = Go.wpList _ _ _ ((⟨some 1, .box _ _, _, _, _, _⟩ : Go.Oper) :: _) _ _; refine step_box rfl _ rfl p rfl ?_; intro b1 w1 N R; have HG1 := Lib.hid (show w.heap.size ≤ b1 by have := HB.out.size; have := N.at_; omega); have HB := Lib.hid (below_on HB.out N.below); have HR1 := Lib.hid R; clear N R)
    | (guard_target = Go.wpList _ _ _ ((⟨some _, .load _ (.tmp 7), _, _, _, _⟩ : Go.Oper) :: _) _ _; refine step_get rfl 26 _ rfl b1 83 rfl Tryz.underlying26 rfl (.int .i8 (s : Int)) ?_ ?_; exact (HR1.out.cell 83 (by decide)).trans (by rw [HF.out]; rfl))
    | (guard_target = Go.wpList _ _ _ ((⟨some _, .load _ (.tmp 12), _, _, _, _⟩ : Go.Oper) :: _) _ _; refine step_get rfl 5 _ rfl b1 78 rfl Tryz.underlying5 rfl (.int .u8 1) ?_ ?_; exact (HR1.out.cell 78 (by decide)).trans (by rw [HTu.out]; rfl)))
   go_ret
   exact ⟨by rw [HS.out]; rfl, HB.out⟩
  ·have gr2 : ((s : Int) / 8 == 2) = true := gr
   have hrg : s / 8 = 2 := by have := beq_iff_eq.1 gr; omega
   have grn : (((s / 8 : Nat) : Int) != 2) = false := by rw [bne, gr]; rfl
   have grm : ((s : Int) / 8 != 2) = false := by rw [bne, gr2]; rfl
   obtain ⟨m, hm⟩ : ∃ m : Nat, m + 8 = s := ⟨s - 8, by omega⟩
   obtain ⟨u, hu⟩ : ∃ u : Nat, s + 8 = u := ⟨_, rfl⟩
   have hu1 : (s : Int) + 8 = (u : Int) := by omega
   have hm1 : (s : Int) - 8 = (m : Int) := by omega
   have hm2 : (s : Int) + -8 = (m : Int) := by omega
   have hu64 : u < 64 := by omega
   have hm64 : m < 64 := by omega
   rw [hu1, hm1, Int.toNat_natCast, Int.toNat_natCast] at hq
   obtain ⟨y, hy⟩ : ∃ y, p (1 + s) = y := ⟨_, rfl⟩
   obtain ⟨z, hz⟩ : ∃ z, p (1 + m) = z := ⟨_, rfl⟩
   obtain ⟨ib, hib⟩ : ∃ ib, isB p u 0 1 = ib := ⟨_, rfl⟩
   have HY := Lib.hid hy
   have HZ := Lib.hid hz
   have HIb := Lib.hid hib
   rw [hy, hz, hib] at hq
   clear hs g0 hy hz hib hrg
   cases gy : (y == 0)
   ·have gyn : (y != 0) = true := by rw [bne, gy]; rfl
    have HS := Lib.hid (show pasB p = false by rw [← psR_is HT0.out HT1.out hr.1 hr.2, hq, gr, gy]; rfl)
    clear hq
    have HB := Lib.hid (Below.refl w.heap.size w)
    go_enter Tryz.func18, Tryz.ntmps18
    go_wp2_with (first
     | (guard_target = Go.wpList _ _ _ ((⟨some 1, .box _ _, _, _, _, _⟩ : Go.Oper) :: _) _ _; refine step_box rfl _ rfl p rfl ?_; intro b1 w1 N R; have HG1 := Lib.hid (show w.heap.size ≤ b1 by have := HB.out.size; have := N.at_; omega); have HB := Lib.hid (below_on HB.out N.below); have HR1 := Lib.hid R; clear N R)
     | (guard_target = Go.wpList _ _ _ ((⟨some _, .load _ (.tmp 7), _, _, _, _⟩ : Go.Oper) :: _) _ _; refine step_get rfl 26 _ rfl b1 83 rfl Tryz.underlying26 rfl (.int .i8 (s : Int)) ?_ ?_; exact (HR1.out.cell 83 (by decide)).trans (by rw [HF.out]; rfl))
     | (guard_target = Go.wpList _ _ _ ((⟨some _, .load _ (.tmp 12), _, _, _, _⟩ : Go.Oper) :: _) _ _; refine step_get rfl 5 _ rfl b1 78 rfl Tryz.underlying5 rfl (.int .u8 1) ?_ ?_; exact (HR1.out.cell 78 (by decide)).trans (by rw [HTu.out]; rfl))
     | (guard_target = Go.wpList _ _ _ ((⟨some _, .load _ (.tmp 22), _, _, _, _⟩ : Go.Oper) :: _) _ _; refine step_get rfl 5 _ rfl b1 (1 + s) rfl Tryz.underlying5 rfl (.int .u8 y) ?_ ?_; exact (HR1.out.cell (1 + s) (by omega)).trans (by rw [kAt_board (Nat.zero_le _) (by omega), HY.out])))
    go_ret
    exact ⟨by rw [HS.out]; rfl, HB.out⟩
   ·have gyn : (y != 0) = false := by rw [bne, gy]; rfl
    cases gz : (z == 0)
    ·have gzn : (z != 0) = true := by rw [bne, gz]; rfl
     have HS := Lib.hid (show pasB p = false by rw [← psR_is HT0.out HT1.out hr.1 hr.2, hq, gr, gy, gz]; rfl)
     clear hq
     have HB := Lib.hid (Below.refl w.heap.size w)
     go_enter Tryz.func18, Tryz.ntmps18
     go_wp2_with (first
      | (guard_target = Go.wpList _ _ _ ((⟨some 1, .box _ _, _, _, _, _⟩ : Go.Oper) :: _) _ _; refine step_box rfl _ rfl p rfl ?_; intro b1 w1 N R; have HG1 := Lib.hid (show w.heap.size ≤ b1 by have := HB.out.size; have := N.at_; omega); have HB := Lib.hid (below_on HB.out N.below); have HR1 := Lib.hid R; clear N R)
      | (guard_target = Go.wpList _ _ _ ((⟨some _, .load _ (.tmp 7), _, _, _, _⟩ : Go.Oper) :: _) _ _; refine step_get rfl 26 _ rfl b1 83 rfl Tryz.underlying26 rfl (.int .i8 (s : Int)) ?_ ?_; exact (HR1.out.cell 83 (by decide)).trans (by rw [HF.out]; rfl))
      | (guard_target = Go.wpList _ _ _ ((⟨some _, .load _ (.tmp 12), _, _, _, _⟩ : Go.Oper) :: _) _ _; refine step_get rfl 5 _ rfl b1 78 rfl Tryz.underlying5 rfl (.int .u8 1) ?_ ?_; exact (HR1.out.cell 78 (by decide)).trans (by rw [HTu.out]; rfl))
      | (guard_target = Go.wpList _ _ _ ((⟨some _, .load _ (.tmp 22), _, _, _, _⟩ : Go.Oper) :: _) _ _; refine step_get rfl 5 _ rfl b1 (1 + s) rfl Tryz.underlying5 rfl (.int .u8 y) ?_ ?_; exact (HR1.out.cell (1 + s) (by omega)).trans (by rw [kAt_board (Nat.zero_le _) (by omega), HY.out]))
      | (guard_target = Go.wpList _ _ _ ((⟨some _, .load _ (.tmp 31), _, _, _, _⟩ : Go.Oper) :: _) _ _; refine step_get rfl 5 _ rfl b1 (1 + m) rfl Tryz.underlying5 rfl (.int .u8 z) ?_ ?_; exact (HR1.out.cell (1 + m) (by omega)).trans (by rw [kAt_board (Nat.zero_le _) (by omega), HZ.out])))
     go_ret
     exact ⟨by rw [HS.out]; rfl, HB.out⟩
    ·have gzn : (z != 0) = false := by rw [bne, gz]; rfl
     cases ib
     ·skip
      have HS := Lib.hid (show pasB p = false by rw [← psR_is HT0.out HT1.out hr.1 hr.2, hq, gr, gy, gz]; rfl)
      clear hq
      have HB := Lib.hid (Below.refl w.heap.size w)
      go_enter Tryz.func18, Tryz.ntmps18
      go_wp2_with (first
       | (guard_target = Go.wpList _ _ _ ((⟨some 1, .box _ _, _, _, _, _⟩ : Go.Oper) :: _) _ _; refine step_box rfl _ rfl p rfl ?_; intro b1 w1 N R; have HG1 := Lib.hid (show w.heap.size ≤ b1 by have := HB.out.size; have := N.at_; omega); have HB := Lib.hid (below_on HB.out N.below); have HR1 := Lib.hid R; clear N R)
       | (guard_target = Go.wpList _ _ _ ((⟨some _, .load _ (.tmp 7), _, _, _, _⟩ : Go.Oper) :: _) _ _; refine step_get rfl 26 _ rfl b1 83 rfl Tryz.underlying26 rfl (.int .i8 (s : Int)) ?_ ?_; exact (HR1.out.cell 83 (by decide)).trans (by rw [HF.out]; rfl))
       | (guard_target = Go.wpList _ _ _ ((⟨some _, .load _ (.tmp 12), _, _, _, _⟩ : Go.Oper) :: _) _ _; refine step_get rfl 5 _ rfl b1 78 rfl Tryz.underlying5 rfl (.int .u8 1) ?_ ?_; exact (HR1.out.cell 78 (by decide)).trans (by rw [HTu.out]; rfl))
       | (guard_target = Go.wpList _ _ _ ((⟨some _, .load _ (.tmp 22), _, _, _, _⟩ : Go.Oper) :: _) _ _; refine step_get rfl 5 _ rfl b1 (1 + s) rfl Tryz.underlying5 rfl (.int .u8 y) ?_ ?_; exact (HR1.out.cell (1 + s) (by omega)).trans (by rw [kAt_board (Nat.zero_le _) (by omega), HY.out]))
       | (guard_target = Go.wpList _ _ _ ((⟨some _, .load _ (.tmp 31), _, _, _, _⟩ : Go.Oper) :: _) _ _; refine step_get rfl 5 _ rfl b1 (1 + m) rfl Tryz.underlying5 rfl (.int .u8 z) ?_ ?_; exact (HR1.out.cell (1 + m) (by omega)).trans (by rw [kAt_board (Nat.zero_le _) (by omega), HZ.out]))
       | (guard_target = Go.wpList _ _ _ ((⟨some 36, .load _ (.tmp 1), _, _, _, _⟩ : Go.Oper) :: _) _ _; refine step_load (op := ⟨some 36, .load _ (.tmp 1), _, _, _, _⟩) rfl _ rfl b1 rfl p HR1.out ?_)
       | (guard_target = Go.wpList _ _ _ ((⟨some _, .load _ (.tmp 40), _, _, _, _⟩ : Go.Oper) :: _) _ _; refine step_get rfl 5 _ rfl b1 78 rfl Tryz.underlying5 rfl (.int .u8 1) ?_ ?_; exact (HR1.out.cell 78 (by decide)).trans (by rw [HTu.out]; rfl))
       | (go_at_call 34; guard_target = Go.Calls _ _ #[_, Go.Value.int _ ((u : Nat) : Int), _, _] _ _; refine (isK (c := 0) (k := 1) HIb.out hu64 _ HP.out.bd).mono ?_; rintro e w3 ⟨rfl, hb⟩; have HR1 := Lib.hid (HR1.out.later hb); have HB := Lib.hid (below_on HB.out hb); clear hb))
      go_ret
      exact ⟨by rw [HS.out]; rfl, HB.out⟩
     ·have HS := Lib.hid (show pasB p = exR p s 64 by rw [← psR_is HT0.out HT1.out hr.1 hr.2, hq, gr, gy, gz]; rfl)
      clear hq
      have HS64 := Lib.hid hs64
      have HB := Lib.hid (Below.refl w.heap.size w)
      go_enter Tryz.func18, Tryz.ntmps18
      go_wp2_with (first
       | (guard_target = Go.wpList _ _ _ ((⟨some 1, .box _ _, _, _, _, _⟩ : Go.Oper) :: _) _ _; refine step_box rfl _ rfl p rfl ?_; intro b1 w1 N R; have HG1 := Lib.hid (show w.heap.size ≤ b1 by have := HB.out.size; have := N.at_; omega); have HB := Lib.hid (below_on HB.out N.below); have HR1 := Lib.hid R; clear N R)
       | (guard_target = Go.wpList _ _ _ ((⟨some _, .load _ (.tmp 7), _, _, _, _⟩ : Go.Oper) :: _) _ _; refine step_get rfl 26 _ rfl b1 83 rfl Tryz.underlying26 rfl (.int .i8 (s : Int)) ?_ ?_; exact (HR1.out.cell 83 (by decide)).trans (by rw [HF.out]; rfl))
       | (guard_target = Go.wpList _ _ _ ((⟨some _, .load _ (.tmp 12), _, _, _, _⟩ : Go.Oper) :: _) _ _; refine step_get rfl 5 _ rfl b1 78 rfl Tryz.underlying5 rfl (.int .u8 1) ?_ ?_; exact (HR1.out.cell 78 (by decide)).trans (by rw [HTu.out]; rfl))
       | (guard_target = Go.wpList _ _ _ ((⟨some _, .load _ (.tmp 22), _, _, _, _⟩ : Go.Oper) :: _) _ _; refine step_get rfl 5 _ rfl b1 (1 + s) rfl Tryz.underlying5 rfl (.int .u8 y) ?_ ?_; exact (HR1.out.cell (1 + s) (by omega)).trans (by rw [kAt_board (Nat.zero_le _) (by omega), HY.out]))
       | (guard_target = Go.wpList _ _ _ ((⟨some _, .load _ (.tmp 31), _, _, _, _⟩ : Go.Oper) :: _) _ _; refine step_get rfl 5 _ rfl b1 (1 + m) rfl Tryz.underlying5 rfl (.int .u8 z) ?_ ?_; exact (HR1.out.cell (1 + m) (by omega)).trans (by rw [kAt_board (Nat.zero_le _) (by omega), HZ.out]))
       | (guard_target = Go.wpList _ _ _ ((⟨some 36, .load _ (.tmp 1), _, _, _, _⟩ : Go.Oper) :: _) _ _; refine step_load (op := ⟨some 36, .load _ (.tmp 1), _, _, _, _⟩) rfl _ rfl b1 rfl p HR1.out ?_)
       | (guard_target = Go.wpList _ _ _ ((⟨some _, .load _ (.tmp 40), _, _, _, _⟩ : Go.Oper) :: _) _ _; refine step_get rfl 5 _ rfl b1 78 rfl Tryz.underlying5 rfl (.int .u8 1) ?_ ?_; exact (HR1.out.cell 78 (by decide)).trans (by rw [HTu.out]; rfl))
       | (go_at_call 34; guard_target = Go.Calls _ _ #[_, Go.Value.int _ ((u : Nat) : Int), _, _] _ _; refine (isK (c := 0) (k := 1) HIb.out hu64 _ HP.out.bd).mono ?_; rintro e w3 ⟨rfl, hb⟩; have HR1 := Lib.hid (HR1.out.later hb); have HB := Lib.hid (below_on HB.out hb); clear hb))
      go_loopw [6] (fun i wr => ∃ a : Nat, a ≤ 64 ∧ i = .int .i64 (a : Int) ∧ exR p s a = false ∧ Row wr b1 p ∧ Below w.heap.size w wr) (fun i _ => 64 - (intOf i).toNat)
      case atStart => exact ⟨0, by omega, rfl, rfl, HR1.out, HB.out⟩
      case round =>
       clear HR1 HB
       obtain ⟨a, ha, rfl, hex, hr1, hb⟩ := hrel
       have HR1 := Lib.hid hr1
       have HB := Lib.hid hb
       have HEx := Lib.hid hex
       clear hr1 hb hex
       by_cases hlt : a < 64
       ·have HA := Lib.hid hlt
        have ga : decide (a < 64) = true := decide_eq_true hlt
        have ga2 : decide ((a : Int) < 64) = true := decide_eq_true (by omega)
        have hxs := exR_succ p s a
        rw [HEx.out, Bool.false_or, HTu.out] at hxs
        obtain ⟨ia, hia⟩ : ∃ ia, isB p a 1 1 = ia := ⟨_, rfl⟩
        obtain ⟨hi, hhi⟩ : ∃ hi, (fromN p (a : Int)).testBit s = hi := ⟨_, rfl⟩
        rw [hia, hhi] at hxs
        have HIa := Lib.hid hia
        have HHi := Lib.hid hhi
        have HXs := Lib.hid hxs
        clear hia hhi hxs
        cases ia
        ·go_wp2_with (first
         | (guard_target = Go.wpList _ _ _ ((⟨some 50, .load _ (.tmp 1), _, _, _, _⟩ : Go.Oper) :: _) _ _; refine step_load (op := ⟨some 50, .load _ (.tmp 1), _, _, _, _⟩) rfl _ rfl b1 rfl p HR1.out ?_)
         | (guard_target = Go.wpList _ _ _ ((⟨some _, .load _ (.tmp 52), _, _, _, _⟩ : Go.Oper) :: _) _ _; refine step_get rfl 5 _ rfl b1 78 rfl Tryz.underlying5 rfl (.int .u8 1) ?_ ?_; exact (HR1.out.cell 78 (by decide)).trans (by rw [HTu.out]; rfl))
         | (go_at_call 34; guard_target = Go.Calls _ _ #[_, Go.Value.int _ ((a : Nat) : Int), _, _] _ _; refine (isK (c := 1) (k := 1) HIa.out HA.out _ HP.out.bd).mono ?_; rintro e w3 ⟨rfl, hb⟩; have HR1 := Lib.hid (HR1.out.later hb); have HB := Lib.hid (below_on HB.out hb); clear hb))
         go_roundw
         case rel => exact ⟨a + 1, by have := HA.out; omega, by go_num, by rw [HXs.out]; rfl, HR1.out, HB.out⟩
         case measure => simp [intOf]; have := HA.out; omega
        ·cases hi
         ·go_wp2_with (first
          | (guard_target = Go.wpList _ _ _ ((⟨some 50, .load _ (.tmp 1), _, _, _, _⟩ : Go.Oper) :: _) _ _; refine step_load (op := ⟨some 50, .load _ (.tmp 1), _, _, _, _⟩) rfl _ rfl b1 rfl p HR1.out ?_)
          | (guard_target = Go.wpList _ _ _ ((⟨some 56, .load _ (.tmp 1), _, _, _, _⟩ : Go.Oper) :: _) _ _; refine step_load (op := ⟨some 56, .load _ (.tmp 1), _, _, _, _⟩) rfl _ rfl b1 rfl p HR1.out ?_)
          | (guard_target = Go.wpList _ _ _ ((⟨some _, .load _ (.tmp 52), _, _, _, _⟩ : Go.Oper) :: _) _ _; refine step_get rfl 5 _ rfl b1 78 rfl Tryz.underlying5 rfl (.int .u8 1) ?_ ?_; exact (HR1.out.cell 78 (by decide)).trans (by rw [HTu.out]; rfl))
          | (go_at_call 34; guard_target = Go.Calls _ _ #[_, Go.Value.int _ ((a : Nat) : Int), _, _] _ _; refine (isK (c := 1) (k := 1) HIa.out HA.out _ HP.out.bd).mono ?_; rintro e w3 ⟨rfl, hb⟩; have HR1 := Lib.hid (HR1.out.later hb); have HB := Lib.hid (below_on HB.out hb); clear hb)
          | (go_at_call 35; refine (hitK HHi.out HA.out HS64.out _ HP.out.bd).mono ?_; rintro e w3 ⟨rfl, hb⟩; have HR1 := Lib.hid (HR1.out.later hb); have HB := Lib.hid (below_on HB.out hb); clear hb))
          go_roundw
          case rel => exact ⟨a + 1, by have := HA.out; omega, by go_num, by rw [HXs.out]; rfl, HR1.out, HB.out⟩
          case measure => simp [intOf]; have := HA.out; omega
         ·have HE := Lib.hid (show exR p s 64 = true by
           have h1 := HXs.out
           unfold exR at h1 ⊢
           obtain ⟨j, hj, hx⟩ := List.any_eq_true.1 h1
           exact List.any_eq_true.2 ⟨j, List.mem_range.2 (by have := List.mem_range.1 hj; have := HA.out; omega), hx⟩)
          go_wp2_with (first
          | (guard_target = Go.wpList _ _ _ ((⟨some 50, .load _ (.tmp 1), _, _, _, _⟩ : Go.Oper) :: _) _ _; refine step_load (op := ⟨some 50, .load _ (.tmp 1), _, _, _, _⟩) rfl _ rfl b1 rfl p HR1.out ?_)
          | (guard_target = Go.wpList _ _ _ ((⟨some 56, .load _ (.tmp 1), _, _, _, _⟩ : Go.Oper) :: _) _ _; refine step_load (op := ⟨some 56, .load _ (.tmp 1), _, _, _, _⟩) rfl _ rfl b1 rfl p HR1.out ?_)
          | (guard_target = Go.wpList _ _ _ ((⟨some _, .load _ (.tmp 52), _, _, _, _⟩ : Go.Oper) :: _) _ _; refine step_get rfl 5 _ rfl b1 78 rfl Tryz.underlying5 rfl (.int .u8 1) ?_ ?_; exact (HR1.out.cell 78 (by decide)).trans (by rw [HTu.out]; rfl))
          | (go_at_call 34; guard_target = Go.Calls _ _ #[_, Go.Value.int _ ((a : Nat) : Int), _, _] _ _; refine (isK (c := 1) (k := 1) HIa.out HA.out _ HP.out.bd).mono ?_; rintro e w3 ⟨rfl, hb⟩; have HR1 := Lib.hid (HR1.out.later hb); have HB := Lib.hid (below_on HB.out hb); clear hb)
          | (go_at_call 35; refine (hitK HHi.out HA.out HS64.out _ HP.out.bd).mono ?_; rintro e w3 ⟨rfl, hb⟩; have HR1 := Lib.hid (HR1.out.later hb); have HB := Lib.hid (below_on HB.out hb); clear hb))
          go_ret
          exact ⟨by rw [HS.out, HE.out]; rfl, HB.out⟩
       ·obtain rfl : a = 64 := by omega
        go_wp2_with fail
        go_ret
        exact ⟨by rw [HS.out, HEx.out]; rfl, HB.out⟩
 ·obtain ⟨f, hf⟩ : ∃ f, p 83 = f := ⟨_, rfl⟩
  have HF := Lib.hid hf
  rw [hf] at g0
  have hfr : f = -1 := beq_iff_eq.1 g0
  have hfr1 : -128 ≤ f ∧ f ≤ 127 := by omega
  have HS := Lib.hid (show pasB p = true by rw [← psR_is HT0.out HT1.out hr.1 hr.2, hq, hf, g0]; rfl)
  clear hq hf hfr hr
  have HB := Lib.hid (Below.refl w.heap.size w)
  go_enter Tryz.func18, Tryz.ntmps18
  go_wp2_with (first
   | (guard_target = Go.wpList _ _ _ ((⟨some 1, .box _ _, _, _, _, _⟩ : Go.Oper) :: _) _ _; refine step_box rfl _ rfl p rfl ?_; intro b1 w1 N R; have HG1 := Lib.hid (show w.heap.size ≤ b1 by have := HB.out.size; have := N.at_; omega); have HB := Lib.hid (below_on HB.out N.below); have HR1 := Lib.hid R; clear N R)
   | (guard_target = Go.wpList _ _ _ ((⟨some _, .load _ (.tmp 7), _, _, _, _⟩ : Go.Oper) :: _) _ _; refine step_get rfl 26 _ rfl b1 83 rfl Tryz.underlying26 rfl (.int .i8 f) ?_ ?_; exact (HR1.out.cell 83 (by decide)).trans (by rw [HF.out]; rfl)))
  go_ret
  exact ⟨by rw [HS.out]; rfl, HB.out⟩
theorem vr_pass (p : Nat → Int) (w : World) (hp : FitP p) (h1 : p 78 ≤ 1) (hr : -1 ≤ p 83 ∧ p 83 < 64) : Calls Tryz.prog 18 #[.agg (posA p)] w (BoL (pasB p) w) := by
 have h0 := hp.turn.1
 rcases (by omega : p 78 = 0 ∨ p 78 = 1) with e | e
 ·exact vr_pass0 p w hp e hr
 ·exact vr_pass1 p w hp e hr
end Go.Proofs.YtigkbccpkepdmaaGreatDoor
