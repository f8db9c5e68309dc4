/-
  The walk of CastleChess.
-/
import Derived.Test.YtmlmilmfnioheaaDoorCsT
import Derived.Test.YtmlmilmfnioheaaDoorCsH
import Derived.Test.YtmlmilmfnioheaaDoorBdOpen
import Derived.WalkKit
import Derived.OpenShut
namespace Go.Proofs.YtmlmilmfnioheaaDoor.castleChess
open Go.RowKit
set_option linter.unusedVariables false
set_option linter.unusedSimpArgs false
theorem chkK {p : Nat → Int} {b : Bool} (h : chkB p 0 = b) (w : World) (hp : AtR p) (hT : CsT w) : Calls Tryd.prog 17 #[.agg (posA p), .int .u8 0] w (BoL b w) := h ▸ check_any p 0 w hp ⟨by decide, by decide⟩ hT.db hT.lead hT.var
theorem onK {p : Nat → Int} {s : Int} {b : Bool} (h : anyB p s 1 = b) (w : World) (hp : AtR p) (hT : CsT w) : Calls Tryd.prog 18 #[.agg (posA p), .int .i64 s, .int .u8 1] w (BoL b w) := h ▸ on_any p s 1 w hp.bd (by decide) hT.db hT.lead
set_option maxRecDepth 100000 in
set_option maxHeartbeats 8000000 in
theorem walk (bd : Nat → Int) (w0 : Wf64 bd) (w : World) (hD : TabDb w) (hL : TabLead w) (hV : TabVar w) (hG : TabGl w) : Calls Tryd.prog 5 #[.agg (arrA 64 .u8 bd)] w fun e w' => e = .returned (.bool true) ∧ Below w.heap.size w w' := by
  have HT := Lib.hid (show CsT w from ⟨hD, hL, hV, hG⟩)
  have HW := Lib.hid w0
  obtain ⟨F0, HQ0⟩ : ∃ F0, Hid (fpC = F0) := ⟨_, Lib.hid rfl⟩
  clear hD hL hV hG w0
  have HB := Lib.hid (Below.refl w.heap.size w)
  go_enter Tryd.func5, Tryd.ntmps5
  go_wp2_with (first
      | (guard_target = Go.wpList _ _ _ ((⟨some 1, .box _ _, _, _, _, _⟩ : Go.Oper) :: _) _ _; refine blk_box rfl 22 _ rfl (arrA 64 .u8 bd) rfl ?_; intro b1 w1 N R; have HG1 := Lib.hid (show w.heap.size ≤ b1 by have := HB.out.size; have := N.at_; omega); have HB := Lib.hid (below_on HB.out N.below); have HR1 := Lib.hid R; clear N R)
      | (go_at_call 16; refine (firstK HQ0.out _).mono ?_; rintro e w3 ⟨rfl, hb⟩; have HR1 := Lib.hid (HR1.out.later hb); have HB := Lib.hid (below_on HB.out hb); clear hb)
      | (guard_target = Go.wpList _ _ _ ((⟨some 3, .alloc _, _, _, _, _⟩ : Go.Oper) :: _) _ _; refine step_alloc (op := ⟨some 3, _, _, _, _, _⟩) rfl rfl ?_; intro b3 wn N R; have HG3 := Lib.hid (show w.heap.size ≤ b3 by have := HB.out.size; have := N.at_; omega); have HY3 := Lib.hid (show b1 ≠ b3 from Nat.ne_of_lt (by have h1 := Blk.lt HR1.out; have := N.at_; omega)); have HR1 := Lib.hid (HR1.out.later N.below); have HR3 := Lib.hid R; have HB := Lib.hid (below_on HB.out N.below); clear N R)
      | (guard_target = Go.wpList _ _ _ ((⟨none, .store _ (.tmp 3) _, _, _, _, _⟩ : Go.Oper) :: _) _ _; refine step_store (op := ⟨none, .store _ (.tmp 3) _, _, _, _, _⟩) rfl _ _ rfl b3 rfl zeroP F0 rfl HR3.out ?_; intro wn U R; have HR1 := Lib.hid (HR1.out.apart U HY3.out); have HR3 := Lib.hid R; have HB := Lib.hid (HB.out.trans (U.below HG3.out)); clear U R))
  go_loopw [4] (fun i wr => ∃ k : Nat, k ≤ 64 ∧ i = .int .i64 (k : Int) ∧ Blk wr b1 22 (arrA 64 .u8 bd) ∧ Row wr b3 (PkC bd k) ∧ Below w.heap.size w wr) (fun i _ => 64 - (intOf i).toNat)
  case atStart => exact ⟨0, by omega, rfl, HR1.out, by rw [pk_zero, HQ0.out]; exact HR3.out, HB.out⟩
  case round =>
    clear HR1 HR3 HB
    obtain ⟨k, hk, rfl, hr1, hr3, hb⟩ := hrel
    have HR1 := Lib.hid hr1
    have HB := Lib.hid hb
    clear hr1 hb
    by_cases hlt : k < 64
    · have Hlt := Lib.hid hlt
      have gk : decide (k < 64) = true := decide_eq_true hlt
      have gk2 : decide ((k : Int) < 64) = true := decide_eq_true (by omega)
      obtain ⟨Q0, hQ0⟩ : ∃ Q0, PkC bd k = Q0 := ⟨_, rfl⟩
      obtain ⟨Q1, hQ1⟩ : ∃ Q1, PkC bd (k + 1) = Q1 := ⟨_, rfl⟩
      rw [hQ0] at hr3
      have HR3 := Lib.hid hr3
      have HQ1 := Lib.hid hQ1
      obtain ⟨y, hy⟩ : ∃ y, fpC (1 + k) = y := ⟨_, rfl⟩
      have HYy := Lib.hid (show Q0 (1 + k) = y by rw [← hQ0, pk_here]; exact hy)
      obtain ⟨x, hx⟩ : ∃ x, bd k % 16 = x := ⟨_, rfl⟩
      have hb0 := HW.out k hlt
      have hx1 : 0 ≤ x ∧ x ≤ 15 := by omega
      have hok : okB bd k = (!decide (x % 8 < 1) && (!decide (5 < x % 8) && (y == 0))) := by unfold okB xC; rw [hx, hy]
      have hnx : Q1 = upd Q0 (1 + k) (vC bd k) := by rw [← hQ1, ← hQ0]; exact pk_next bd k
      have hsm : okB bd k = false → Q1 = Q0 := fun h => by rw [← hQ1, ← hQ0]; exact pk_same h
      have hv : okB bd k = true → vC bd k = bif decide (k < 8) && decide (8 < x) then x - 8 else x := fun h => by unfold vC; rw [h]; unfold xC; rw [hx]; rfl
      clear hr3 hQ0 hQ1 hy
      cases g1 : decide (x % 8 < 1)
      · cases g2 : decide (5 < x % 8)
        · cases g3 : (y == 0)
          · have g3' : (y != 0) = true := by rw [bne, g3]; rfl
            have HSm := Lib.hid (hsm (by rw [hok, g3]; simp))
            clear hok hnx hsm hv g3
            go_wp2_with (first
              | (guard_target = Go.wpList _ _ _ ((⟨some 17, .load _ (.tmp 16), _, _, _, _⟩ : Go.Oper) :: _) _ _; refine step_get rfl 5 _ rfl b1 k rfl Tryd.underlying5 rfl (.int .u8 (bd k)) ?_ ?_; exact HR1.out.at k Hlt.out)
              | (guard_target = Go.wpList _ _ _ ((⟨some 31, .load _ (.tmp 30), _, _, _, _⟩ : Go.Oper) :: _) _ _; refine step_get rfl 5 _ rfl b3 (1 + k) rfl Tryd.underlying5 rfl (.int .u8 y) ?_ ?_; exact (HR3.out.cell (1 + k) (by have := Hlt.out; omega)).trans (by rw [kAt_board (Nat.zero_le _) Hlt.out, HYy.out])))
            go_roundw
            case rel => exact ⟨k + 1, by have := Hlt.out; omega, by go_num, HR1.out, by rw [HQ1.out, HSm.out]; exact HR3.out, HB.out⟩
            case measure => simp [intOf]; have := Hlt.out; omega
          · have g3' : (y != 0) = false := by rw [bne, g3]; rfl
            have hok' : okB bd k = true := by rw [hok, g1, g2, g3]; rfl
            have hv' := hv hok'
            clear hok hok' hsm hv g3
            by_cases g4 : k < 8
            · have q4 : decide (k < 8) = true := decide_eq_true g4
              have q4' : decide ((k : Int) < 8) = true := decide_eq_true (by omega)
              by_cases g5 : 8 < x
              · have q5 : decide (8 < x) = true := decide_eq_true g5
                have hw8 : IntKind.u8.wrap (x - 8) = x - 8 := by rw [IntKind.wrap_u8]; omega
                have HNx := Lib.hid (show upd Q0 (1 + k) (x - 8) = Q1 by rw [hnx, hv', q4, q5]; rfl)
                clear hnx hv' g4 g5
                go_wp2_with (first
                  | (guard_target = Go.wpList _ _ _ ((⟨some 17, .load _ (.tmp 16), _, _, _, _⟩ : Go.Oper) :: _) _ _; refine step_get rfl 5 _ rfl b1 k rfl Tryd.underlying5 rfl (.int .u8 (bd k)) ?_ ?_; exact HR1.out.at k Hlt.out)
                  | (guard_target = Go.wpList _ _ _ ((⟨some 31, .load _ (.tmp 30), _, _, _, _⟩ : Go.Oper) :: _) _ _; refine step_get rfl 5 _ rfl b3 (1 + k) rfl Tryd.underlying5 rfl (.int .u8 y) ?_ ?_; exact (HR3.out.cell (1 + k) (by have := Hlt.out; omega)).trans (by rw [kAt_board (Nat.zero_le _) Hlt.out, HYy.out]))
                  | (guard_target = Go.wpList _ _ _ ((⟨none, .store _ (.tmp 45) _, _, _, _, _⟩ : Go.Oper) :: _) _ _; refine step_cell (op := ⟨none, .store _ (.tmp 45) _, _, _, _, _⟩) rfl 5 _ _ rfl b3 (1 + k) rfl .u8 (x - 8) rfl _ HR3.out (by have := Hlt.out; omega) (kAt_board (Nat.zero_le _) Hlt.out) size5 ?_; intro wn U R; rw [HNx.out] at R; have HR1 := Lib.hid (HR1.out.apart U HY3.out); have HR3 := Lib.hid R; have HB := Lib.hid (HB.out.trans (U.below HG3.out)); clear U R))
                go_roundw
                case rel => exact ⟨k + 1, by have := Hlt.out; omega, by go_num, HR1.out, by rw [HQ1.out]; exact HR3.out, HB.out⟩
                case measure => simp [intOf]; have := Hlt.out; omega
              · have q5 : decide (8 < x) = false := decide_eq_false g5
                have HNx := Lib.hid (show upd Q0 (1 + k) x = Q1 by rw [hnx, hv', q4, q5]; rfl)
                clear hnx hv' g4 g5
                go_wp2_with (first
                  | (guard_target = Go.wpList _ _ _ ((⟨some 17, .load _ (.tmp 16), _, _, _, _⟩ : Go.Oper) :: _) _ _; refine step_get rfl 5 _ rfl b1 k rfl Tryd.underlying5 rfl (.int .u8 (bd k)) ?_ ?_; exact HR1.out.at k Hlt.out)
                  | (guard_target = Go.wpList _ _ _ ((⟨some 31, .load _ (.tmp 30), _, _, _, _⟩ : Go.Oper) :: _) _ _; refine step_get rfl 5 _ rfl b3 (1 + k) rfl Tryd.underlying5 rfl (.int .u8 y) ?_ ?_; exact (HR3.out.cell (1 + k) (by have := Hlt.out; omega)).trans (by rw [kAt_board (Nat.zero_le _) Hlt.out, HYy.out]))
                  | (guard_target = Go.wpList _ _ _ ((⟨none, .store _ (.tmp 45) _, _, _, _, _⟩ : Go.Oper) :: _) _ _; refine step_cell (op := ⟨none, .store _ (.tmp 45) _, _, _, _, _⟩) rfl 5 _ _ rfl b3 (1 + k) rfl .u8 (x) rfl _ HR3.out (by have := Hlt.out; omega) (kAt_board (Nat.zero_le _) Hlt.out) size5 ?_; intro wn U R; rw [HNx.out] at R; have HR1 := Lib.hid (HR1.out.apart U HY3.out); have HR3 := Lib.hid R; have HB := Lib.hid (HB.out.trans (U.below HG3.out)); clear U R))
                go_roundw
                case rel => exact ⟨k + 1, by have := Hlt.out; omega, by go_num, HR1.out, by rw [HQ1.out]; exact HR3.out, HB.out⟩
                case measure => simp [intOf]; have := Hlt.out; omega
            · have q4 : decide (k < 8) = false := decide_eq_false g4
              have q4' : decide ((k : Int) < 8) = false := decide_eq_false (by omega)
              have HNx := Lib.hid (show upd Q0 (1 + k) x = Q1 by rw [hnx, hv', q4]; rfl)
              clear hnx hv' g4
              go_wp2_with (first
                | (guard_target = Go.wpList _ _ _ ((⟨some 17, .load _ (.tmp 16), _, _, _, _⟩ : Go.Oper) :: _) _ _; refine step_get rfl 5 _ rfl b1 k rfl Tryd.underlying5 rfl (.int .u8 (bd k)) ?_ ?_; exact HR1.out.at k Hlt.out)
                | (guard_target = Go.wpList _ _ _ ((⟨some 31, .load _ (.tmp 30), _, _, _, _⟩ : Go.Oper) :: _) _ _; refine step_get rfl 5 _ rfl b3 (1 + k) rfl Tryd.underlying5 rfl (.int .u8 y) ?_ ?_; exact (HR3.out.cell (1 + k) (by have := Hlt.out; omega)).trans (by rw [kAt_board (Nat.zero_le _) Hlt.out, HYy.out]))
                | (guard_target = Go.wpList _ _ _ ((⟨none, .store _ (.tmp 45) _, _, _, _, _⟩ : Go.Oper) :: _) _ _; refine step_cell (op := ⟨none, .store _ (.tmp 45) _, _, _, _, _⟩) rfl 5 _ _ rfl b3 (1 + k) rfl .u8 (x) rfl _ HR3.out (by have := Hlt.out; omega) (kAt_board (Nat.zero_le _) Hlt.out) size5 ?_; intro wn U R; rw [HNx.out] at R; have HR1 := Lib.hid (HR1.out.apart U HY3.out); have HR3 := Lib.hid R; have HB := Lib.hid (HB.out.trans (U.below HG3.out)); clear U R))
              go_roundw
              case rel => exact ⟨k + 1, by have := Hlt.out; omega, by go_num, HR1.out, by rw [HQ1.out]; exact HR3.out, HB.out⟩
              case measure => simp [intOf]; have := Hlt.out; omega
        · have HSm := Lib.hid (hsm (by rw [hok, g2]; simp))
          clear hok hnx hsm hv
          go_wp2_with (first
            | (guard_target = Go.wpList _ _ _ ((⟨some 17, .load _ (.tmp 16), _, _, _, _⟩ : Go.Oper) :: _) _ _; refine step_get rfl 5 _ rfl b1 k rfl Tryd.underlying5 rfl (.int .u8 (bd k)) ?_ ?_; exact HR1.out.at k Hlt.out)
            | (guard_target = Go.wpList _ _ _ ((⟨some 31, .load _ (.tmp 30), _, _, _, _⟩ : Go.Oper) :: _) _ _; refine step_get rfl 5 _ rfl b3 (1 + k) rfl Tryd.underlying5 rfl (.int .u8 y) ?_ ?_; exact (HR3.out.cell (1 + k) (by have := Hlt.out; omega)).trans (by rw [kAt_board (Nat.zero_le _) Hlt.out, HYy.out])))
          go_roundw
          case rel => exact ⟨k + 1, by have := Hlt.out; omega, by go_num, HR1.out, by rw [HQ1.out, HSm.out]; exact HR3.out, HB.out⟩
          case measure => simp [intOf]; have := Hlt.out; omega
      · have HSm := Lib.hid (hsm (by rw [hok, g1]; simp))
        clear hok hnx hsm hv
        go_wp2_with (first
          | (guard_target = Go.wpList _ _ _ ((⟨some 17, .load _ (.tmp 16), _, _, _, _⟩ : Go.Oper) :: _) _ _; refine step_get rfl 5 _ rfl b1 k rfl Tryd.underlying5 rfl (.int .u8 (bd k)) ?_ ?_; exact HR1.out.at k Hlt.out)
          | (guard_target = Go.wpList _ _ _ ((⟨some 31, .load _ (.tmp 30), _, _, _, _⟩ : Go.Oper) :: _) _ _; refine step_get rfl 5 _ rfl b3 (1 + k) rfl Tryd.underlying5 rfl (.int .u8 y) ?_ ?_; exact (HR3.out.cell (1 + k) (by have := Hlt.out; omega)).trans (by rw [kAt_board (Nat.zero_le _) Hlt.out, HYy.out])))
        go_roundw
        case rel => exact ⟨k + 1, by have := Hlt.out; omega, by go_num, HR1.out, by rw [HQ1.out, HSm.out]; exact HR3.out, HB.out⟩
        case measure => simp [intOf]; have := Hlt.out; omega
    · obtain rfl : k = 64 := by omega
      obtain ⟨P, hP⟩ : ∃ P, PkC bd 64 = P := ⟨_, rfl⟩
      rw [hP] at hr3
      have HR3 := Lib.hid hr3
      have HHm := Lib.hid (show HomeC P by rw [← hP]; exact pk_home bd)
      have HPP := Lib.hid (show CsR P by rw [← hP]; exact pk_fit bd 64 (by decide))
      have HBb := Lib.hid (home_both HHm.out)
      clear hP hr3
      obtain ⟨x4, h4⟩ : ∃ x4, anyB P 4 1 = x4 := ⟨_, rfl⟩
      have HCh := Lib.hid (show chkB P 0 = x4 by rw [home_chk HHm.out]; exact h4)
      obtain ⟨x2, h2⟩ : ∃ x, anyB P 2 1 = x := ⟨_, rfl⟩
      obtain ⟨x3, h3⟩ : ∃ x, anyB P 3 1 = x := ⟨_, rfl⟩
      obtain ⟨x5, h5⟩ : ∃ x, anyB P 5 1 = x := ⟨_, rfl⟩
      obtain ⟨x6, h6⟩ : ∃ x, anyB P 6 1 = x := ⟨_, rfl⟩
      have HO2 := Lib.hid h2
      have HO3 := Lib.hid h3
      have HO5 := Lib.hid h5
      have HO6 := Lib.hid h6
      obtain ⟨z1, e1⟩ : ∃ z, P 2 = z := ⟨_, rfl⟩
      obtain ⟨z2, e2⟩ : ∃ z, P 3 = z := ⟨_, rfl⟩
      obtain ⟨z3, e3⟩ : ∃ z, P 4 = z := ⟨_, rfl⟩
      obtain ⟨z5, e5⟩ : ∃ z, P 6 = z := ⟨_, rfl⟩
      obtain ⟨z6, e6⟩ : ∃ z, P 7 = z := ⟨_, rfl⟩
      have HZ1 := Lib.hid (show P (1 + 1) = z1 from e1)
      have HZ2 := Lib.hid (show P (1 + 2) = z2 from e2)
      have HZ3 := Lib.hid (show P (1 + 3) = z3 from e3)
      have HZ5 := Lib.hid (show P (1 + 5) = z5 from e5)
      have HZ6 := Lib.hid (show P (1 + 6) = z6 from e6)
      have ha : aC P = (!x4 && ((z1 == 0) && ((z2 == 0) && ((z3 == 0) && (!x2 && !x3))))) := by unfold aC; rw [h4, h2, h3, e1, e2, e3]
      have hh : hC P = (!x4 && ((z5 == 0) && ((z6 == 0) && (!x5 && !x6)))) := by unfold hC; rw [h4, h5, h6, e5, e6]
      rw [ha, hh] at HBb
      clear ha hh h2 h3 h4 h5 h6 e1 e2 e3 e5 e6 HHm
      cases x4
      · skip
        cases g_z1 : (z1 == 0)
        · skip
          cases g_z5 : (z5 == 0)
          · skip
            have HBo := Lib.hid (show bothV (camL P) false false = true by have h := HBb.out; simpa [g_z1, g_z5] using h)
            go_wp2_with (first
              | (guard_target = Go.wpList _ _ _ ((⟨some _, .load _ (.tmp 3), _, _, _, _⟩ : Go.Oper) :: _) _ _; refine step_load rfl _ rfl b3 rfl P HR3.out ?_)
              | (go_at_call 17; refine (chkK HCh.out _ HPP.out.at_ (HT.out.on HB.out)).mono ?_; rintro e w3 ⟨rfl, hb⟩; have HR3 := Lib.hid (HR3.out.later hb); have HB := Lib.hid (below_on HB.out hb); clear hb)
              | (guard_target = Go.wpList _ _ _ ((⟨some _, .load _ (.tmp 52), _, _, _, _⟩ : Go.Oper) :: _) _ _; refine step_get rfl 5 _ rfl b3 (1 + 1) rfl Tryd.underlying5 rfl (.int .u8 z1) ?_ ?_; exact (HR3.out.cell (1 + 1) (by decide)).trans (by rw [HZ1.out]; rfl))
              | (guard_target = Go.wpList _ _ _ ((⟨some _, .load _ (.tmp 81), _, _, _, _⟩ : Go.Oper) :: _) _ _; refine step_get rfl 5 _ rfl b3 (1 + 5) rfl Tryd.underlying5 rfl (.int .u8 z5) ?_ ?_; exact (HR3.out.cell (1 + 5) (by decide)).trans (by rw [HZ5.out]; rfl))
              | (go_at_call 19; refine (bothK HBo.out _ HPP.out (HT.out.on HB.out)).mono ?_; rintro e w3 ⟨rfl, hb⟩; have HR3 := Lib.hid (HR3.out.later hb); have HB := Lib.hid (below_on HB.out hb); clear hb)
              | (go_at_call 11; refine (cs_awake _ (HT.out.on HB.out)).mono ?_; rintro e w3 ⟨rfl, hb⟩; have HB := Lib.hid (below_on HB.out hb); clear hb))
            go_ret
            exact ⟨rfl, HB.out⟩
          · skip
            cases g_z6 : (z6 == 0)
            · skip
              have HBo := Lib.hid (show bothV (camL P) false false = true by have h := HBb.out; simpa [g_z1, g_z5, g_z6] using h)
              go_wp2_with (first
                | (guard_target = Go.wpList _ _ _ ((⟨some _, .load _ (.tmp 3), _, _, _, _⟩ : Go.Oper) :: _) _ _; refine step_load rfl _ rfl b3 rfl P HR3.out ?_)
                | (go_at_call 17; refine (chkK HCh.out _ HPP.out.at_ (HT.out.on HB.out)).mono ?_; rintro e w3 ⟨rfl, hb⟩; have HR3 := Lib.hid (HR3.out.later hb); have HB := Lib.hid (below_on HB.out hb); clear hb)
                | (guard_target = Go.wpList _ _ _ ((⟨some _, .load _ (.tmp 52), _, _, _, _⟩ : Go.Oper) :: _) _ _; refine step_get rfl 5 _ rfl b3 (1 + 1) rfl Tryd.underlying5 rfl (.int .u8 z1) ?_ ?_; exact (HR3.out.cell (1 + 1) (by decide)).trans (by rw [HZ1.out]; rfl))
                | (guard_target = Go.wpList _ _ _ ((⟨some _, .load _ (.tmp 81), _, _, _, _⟩ : Go.Oper) :: _) _ _; refine step_get rfl 5 _ rfl b3 (1 + 5) rfl Tryd.underlying5 rfl (.int .u8 z5) ?_ ?_; exact (HR3.out.cell (1 + 5) (by decide)).trans (by rw [HZ5.out]; rfl))
                | (guard_target = Go.wpList _ _ _ ((⟨some _, .load _ (.tmp 87), _, _, _, _⟩ : Go.Oper) :: _) _ _; refine step_get rfl 5 _ rfl b3 (1 + 6) rfl Tryd.underlying5 rfl (.int .u8 z6) ?_ ?_; exact (HR3.out.cell (1 + 6) (by decide)).trans (by rw [HZ6.out]; rfl))
                | (go_at_call 19; refine (bothK HBo.out _ HPP.out (HT.out.on HB.out)).mono ?_; rintro e w3 ⟨rfl, hb⟩; have HR3 := Lib.hid (HR3.out.later hb); have HB := Lib.hid (below_on HB.out hb); clear hb)
                | (go_at_call 11; refine (cs_awake _ (HT.out.on HB.out)).mono ?_; rintro e w3 ⟨rfl, hb⟩; have HB := Lib.hid (below_on HB.out hb); clear hb))
              go_ret
              exact ⟨rfl, HB.out⟩
            · skip
              cases x5
              · skip
                cases x6
                · skip
                  have HBo := Lib.hid (show bothV (camL P) false true = true by have h := HBb.out; simpa [g_z1, g_z5, g_z6] using h)
                  go_wp2_with (first
                    | (guard_target = Go.wpList _ _ _ ((⟨some _, .load _ (.tmp 3), _, _, _, _⟩ : Go.Oper) :: _) _ _; refine step_load rfl _ rfl b3 rfl P HR3.out ?_)
                    | (go_at_call 17; refine (chkK HCh.out _ HPP.out.at_ (HT.out.on HB.out)).mono ?_; rintro e w3 ⟨rfl, hb⟩; have HR3 := Lib.hid (HR3.out.later hb); have HB := Lib.hid (below_on HB.out hb); clear hb)
                    | (guard_target = Go.wpList _ _ _ ((⟨some _, .load _ (.tmp 52), _, _, _, _⟩ : Go.Oper) :: _) _ _; refine step_get rfl 5 _ rfl b3 (1 + 1) rfl Tryd.underlying5 rfl (.int .u8 z1) ?_ ?_; exact (HR3.out.cell (1 + 1) (by decide)).trans (by rw [HZ1.out]; rfl))
                    | (guard_target = Go.wpList _ _ _ ((⟨some _, .load _ (.tmp 81), _, _, _, _⟩ : Go.Oper) :: _) _ _; refine step_get rfl 5 _ rfl b3 (1 + 5) rfl Tryd.underlying5 rfl (.int .u8 z5) ?_ ?_; exact (HR3.out.cell (1 + 5) (by decide)).trans (by rw [HZ5.out]; rfl))
                    | (guard_target = Go.wpList _ _ _ ((⟨some _, .load _ (.tmp 87), _, _, _, _⟩ : Go.Oper) :: _) _ _; refine step_get rfl 5 _ rfl b3 (1 + 6) rfl Tryd.underlying5 rfl (.int .u8 z6) ?_ ?_; exact (HR3.out.cell (1 + 6) (by decide)).trans (by rw [HZ6.out]; rfl))
                    | (go_at_call 18; guard_target = Go.Calls _ _ #[_, Go.Value.int _ 5, _] _ _; refine (onK (s := 5) HO5.out _ HPP.out.at_ (HT.out.on HB.out)).mono ?_; rintro e w3 ⟨rfl, hb⟩; have HR3 := Lib.hid (HR3.out.later hb); have HB := Lib.hid (below_on HB.out hb); clear hb)
                    | (go_at_call 18; guard_target = Go.Calls _ _ #[_, Go.Value.int _ 6, _] _ _; refine (onK (s := 6) HO6.out _ HPP.out.at_ (HT.out.on HB.out)).mono ?_; rintro e w3 ⟨rfl, hb⟩; have HR3 := Lib.hid (HR3.out.later hb); have HB := Lib.hid (below_on HB.out hb); clear hb)
                    | (go_at_call 19; refine (bothK HBo.out _ HPP.out (HT.out.on HB.out)).mono ?_; rintro e w3 ⟨rfl, hb⟩; have HR3 := Lib.hid (HR3.out.later hb); have HB := Lib.hid (below_on HB.out hb); clear hb)
                    | (go_at_call 11; refine (cs_awake _ (HT.out.on HB.out)).mono ?_; rintro e w3 ⟨rfl, hb⟩; have HB := Lib.hid (below_on HB.out hb); clear hb))
                  go_ret
                  exact ⟨rfl, HB.out⟩
                · skip
                  have HBo := Lib.hid (show bothV (camL P) false false = true by have h := HBb.out; simpa [g_z1, g_z5, g_z6] using h)
                  go_wp2_with (first
                    | (guard_target = Go.wpList _ _ _ ((⟨some _, .load _ (.tmp 3), _, _, _, _⟩ : Go.Oper) :: _) _ _; refine step_load rfl _ rfl b3 rfl P HR3.out ?_)
                    | (go_at_call 17; refine (chkK HCh.out _ HPP.out.at_ (HT.out.on HB.out)).mono ?_; rintro e w3 ⟨rfl, hb⟩; have HR3 := Lib.hid (HR3.out.later hb); have HB := Lib.hid (below_on HB.out hb); clear hb)
                    | (guard_target = Go.wpList _ _ _ ((⟨some _, .load _ (.tmp 52), _, _, _, _⟩ : Go.Oper) :: _) _ _; refine step_get rfl 5 _ rfl b3 (1 + 1) rfl Tryd.underlying5 rfl (.int .u8 z1) ?_ ?_; exact (HR3.out.cell (1 + 1) (by decide)).trans (by rw [HZ1.out]; rfl))
                    | (guard_target = Go.wpList _ _ _ ((⟨some _, .load _ (.tmp 81), _, _, _, _⟩ : Go.Oper) :: _) _ _; refine step_get rfl 5 _ rfl b3 (1 + 5) rfl Tryd.underlying5 rfl (.int .u8 z5) ?_ ?_; exact (HR3.out.cell (1 + 5) (by decide)).trans (by rw [HZ5.out]; rfl))
                    | (guard_target = Go.wpList _ _ _ ((⟨some _, .load _ (.tmp 87), _, _, _, _⟩ : Go.Oper) :: _) _ _; refine step_get rfl 5 _ rfl b3 (1 + 6) rfl Tryd.underlying5 rfl (.int .u8 z6) ?_ ?_; exact (HR3.out.cell (1 + 6) (by decide)).trans (by rw [HZ6.out]; rfl))
                    | (go_at_call 18; guard_target = Go.Calls _ _ #[_, Go.Value.int _ 5, _] _ _; refine (onK (s := 5) HO5.out _ HPP.out.at_ (HT.out.on HB.out)).mono ?_; rintro e w3 ⟨rfl, hb⟩; have HR3 := Lib.hid (HR3.out.later hb); have HB := Lib.hid (below_on HB.out hb); clear hb)
                    | (go_at_call 18; guard_target = Go.Calls _ _ #[_, Go.Value.int _ 6, _] _ _; refine (onK (s := 6) HO6.out _ HPP.out.at_ (HT.out.on HB.out)).mono ?_; rintro e w3 ⟨rfl, hb⟩; have HR3 := Lib.hid (HR3.out.later hb); have HB := Lib.hid (below_on HB.out hb); clear hb)
                    | (go_at_call 19; refine (bothK HBo.out _ HPP.out (HT.out.on HB.out)).mono ?_; rintro e w3 ⟨rfl, hb⟩; have HR3 := Lib.hid (HR3.out.later hb); have HB := Lib.hid (below_on HB.out hb); clear hb)
                    | (go_at_call 11; refine (cs_awake _ (HT.out.on HB.out)).mono ?_; rintro e w3 ⟨rfl, hb⟩; have HB := Lib.hid (below_on HB.out hb); clear hb))
                  go_ret
                  exact ⟨rfl, HB.out⟩
              · skip
                have HBo := Lib.hid (show bothV (camL P) false false = true by have h := HBb.out; simpa [g_z1, g_z5, g_z6] using h)
                go_wp2_with (first
                  | (guard_target = Go.wpList _ _ _ ((⟨some _, .load _ (.tmp 3), _, _, _, _⟩ : Go.Oper) :: _) _ _; refine step_load rfl _ rfl b3 rfl P HR3.out ?_)
                  | (go_at_call 17; refine (chkK HCh.out _ HPP.out.at_ (HT.out.on HB.out)).mono ?_; rintro e w3 ⟨rfl, hb⟩; have HR3 := Lib.hid (HR3.out.later hb); have HB := Lib.hid (below_on HB.out hb); clear hb)
                  | (guard_target = Go.wpList _ _ _ ((⟨some _, .load _ (.tmp 52), _, _, _, _⟩ : Go.Oper) :: _) _ _; refine step_get rfl 5 _ rfl b3 (1 + 1) rfl Tryd.underlying5 rfl (.int .u8 z1) ?_ ?_; exact (HR3.out.cell (1 + 1) (by decide)).trans (by rw [HZ1.out]; rfl))
                  | (guard_target = Go.wpList _ _ _ ((⟨some _, .load _ (.tmp 81), _, _, _, _⟩ : Go.Oper) :: _) _ _; refine step_get rfl 5 _ rfl b3 (1 + 5) rfl Tryd.underlying5 rfl (.int .u8 z5) ?_ ?_; exact (HR3.out.cell (1 + 5) (by decide)).trans (by rw [HZ5.out]; rfl))
                  | (guard_target = Go.wpList _ _ _ ((⟨some _, .load _ (.tmp 87), _, _, _, _⟩ : Go.Oper) :: _) _ _; refine step_get rfl 5 _ rfl b3 (1 + 6) rfl Tryd.underlying5 rfl (.int .u8 z6) ?_ ?_; exact (HR3.out.cell (1 + 6) (by decide)).trans (by rw [HZ6.out]; rfl))
                  | (go_at_call 18; guard_target = Go.Calls _ _ #[_, Go.Value.int _ 5, _] _ _; refine (onK (s := 5) HO5.out _ HPP.out.at_ (HT.out.on HB.out)).mono ?_; rintro e w3 ⟨rfl, hb⟩; have HR3 := Lib.hid (HR3.out.later hb); have HB := Lib.hid (below_on HB.out hb); clear hb)
                  | (go_at_call 19; refine (bothK HBo.out _ HPP.out (HT.out.on HB.out)).mono ?_; rintro e w3 ⟨rfl, hb⟩; have HR3 := Lib.hid (HR3.out.later hb); have HB := Lib.hid (below_on HB.out hb); clear hb)
                  | (go_at_call 11; refine (cs_awake _ (HT.out.on HB.out)).mono ?_; rintro e w3 ⟨rfl, hb⟩; have HB := Lib.hid (below_on HB.out hb); clear hb))
                go_ret
                exact ⟨rfl, HB.out⟩
        · skip
          cases g_z2 : (z2 == 0)
          · skip
            cases g_z5 : (z5 == 0)
            · skip
              have HBo := Lib.hid (show bothV (camL P) false false = true by have h := HBb.out; simpa [g_z1, g_z2, g_z5] using h)
              go_wp2_with (first
                | (guard_target = Go.wpList _ _ _ ((⟨some _, .load _ (.tmp 3), _, _, _, _⟩ : Go.Oper) :: _) _ _; refine step_load rfl _ rfl b3 rfl P HR3.out ?_)
                | (go_at_call 17; refine (chkK HCh.out _ HPP.out.at_ (HT.out.on HB.out)).mono ?_; rintro e w3 ⟨rfl, hb⟩; have HR3 := Lib.hid (HR3.out.later hb); have HB := Lib.hid (below_on HB.out hb); clear hb)
                | (guard_target = Go.wpList _ _ _ ((⟨some _, .load _ (.tmp 52), _, _, _, _⟩ : Go.Oper) :: _) _ _; refine step_get rfl 5 _ rfl b3 (1 + 1) rfl Tryd.underlying5 rfl (.int .u8 z1) ?_ ?_; exact (HR3.out.cell (1 + 1) (by decide)).trans (by rw [HZ1.out]; rfl))
                | (guard_target = Go.wpList _ _ _ ((⟨some _, .load _ (.tmp 58), _, _, _, _⟩ : Go.Oper) :: _) _ _; refine step_get rfl 5 _ rfl b3 (1 + 2) rfl Tryd.underlying5 rfl (.int .u8 z2) ?_ ?_; exact (HR3.out.cell (1 + 2) (by decide)).trans (by rw [HZ2.out]; rfl))
                | (guard_target = Go.wpList _ _ _ ((⟨some _, .load _ (.tmp 81), _, _, _, _⟩ : Go.Oper) :: _) _ _; refine step_get rfl 5 _ rfl b3 (1 + 5) rfl Tryd.underlying5 rfl (.int .u8 z5) ?_ ?_; exact (HR3.out.cell (1 + 5) (by decide)).trans (by rw [HZ5.out]; rfl))
                | (go_at_call 19; refine (bothK HBo.out _ HPP.out (HT.out.on HB.out)).mono ?_; rintro e w3 ⟨rfl, hb⟩; have HR3 := Lib.hid (HR3.out.later hb); have HB := Lib.hid (below_on HB.out hb); clear hb)
                | (go_at_call 11; refine (cs_awake _ (HT.out.on HB.out)).mono ?_; rintro e w3 ⟨rfl, hb⟩; have HB := Lib.hid (below_on HB.out hb); clear hb))
              go_ret
              exact ⟨rfl, HB.out⟩
            · skip
              cases g_z6 : (z6 == 0)
              · skip
                have HBo := Lib.hid (show bothV (camL P) false false = true by have h := HBb.out; simpa [g_z1, g_z2, g_z5, g_z6] using h)
                go_wp2_with (first
                  | (guard_target = Go.wpList _ _ _ ((⟨some _, .load _ (.tmp 3), _, _, _, _⟩ : Go.Oper) :: _) _ _; refine step_load rfl _ rfl b3 rfl P HR3.out ?_)
                  | (go_at_call 17; refine (chkK HCh.out _ HPP.out.at_ (HT.out.on HB.out)).mono ?_; rintro e w3 ⟨rfl, hb⟩; have HR3 := Lib.hid (HR3.out.later hb); have HB := Lib.hid (below_on HB.out hb); clear hb)
                  | (guard_target = Go.wpList _ _ _ ((⟨some _, .load _ (.tmp 52), _, _, _, _⟩ : Go.Oper) :: _) _ _; refine step_get rfl 5 _ rfl b3 (1 + 1) rfl Tryd.underlying5 rfl (.int .u8 z1) ?_ ?_; exact (HR3.out.cell (1 + 1) (by decide)).trans (by rw [HZ1.out]; rfl))
                  | (guard_target = Go.wpList _ _ _ ((⟨some _, .load _ (.tmp 58), _, _, _, _⟩ : Go.Oper) :: _) _ _; refine step_get rfl 5 _ rfl b3 (1 + 2) rfl Tryd.underlying5 rfl (.int .u8 z2) ?_ ?_; exact (HR3.out.cell (1 + 2) (by decide)).trans (by rw [HZ2.out]; rfl))
                  | (guard_target = Go.wpList _ _ _ ((⟨some _, .load _ (.tmp 81), _, _, _, _⟩ : Go.Oper) :: _) _ _; refine step_get rfl 5 _ rfl b3 (1 + 5) rfl Tryd.underlying5 rfl (.int .u8 z5) ?_ ?_; exact (HR3.out.cell (1 + 5) (by decide)).trans (by rw [HZ5.out]; rfl))
                  | (guard_target = Go.wpList _ _ _ ((⟨some _, .load _ (.tmp 87), _, _, _, _⟩ : Go.Oper) :: _) _ _; refine step_get rfl 5 _ rfl b3 (1 + 6) rfl Tryd.underlying5 rfl (.int .u8 z6) ?_ ?_; exact (HR3.out.cell (1 + 6) (by decide)).trans (by rw [HZ6.out]; rfl))
                  | (go_at_call 19; refine (bothK HBo.out _ HPP.out (HT.out.on HB.out)).mono ?_; rintro e w3 ⟨rfl, hb⟩; have HR3 := Lib.hid (HR3.out.later hb); have HB := Lib.hid (below_on HB.out hb); clear hb)
                  | (go_at_call 11; refine (cs_awake _ (HT.out.on HB.out)).mono ?_; rintro e w3 ⟨rfl, hb⟩; have HB := Lib.hid (below_on HB.out hb); clear hb))
                go_ret
                exact ⟨rfl, HB.out⟩
              · skip
                cases x5
                · skip
                  cases x6
                  · skip
                    have HBo := Lib.hid (show bothV (camL P) false true = true by have h := HBb.out; simpa [g_z1, g_z2, g_z5, g_z6] using h)
                    go_wp2_with (first
                      | (guard_target = Go.wpList _ _ _ ((⟨some _, .load _ (.tmp 3), _, _, _, _⟩ : Go.Oper) :: _) _ _; refine step_load rfl _ rfl b3 rfl P HR3.out ?_)
                      | (go_at_call 17; refine (chkK HCh.out _ HPP.out.at_ (HT.out.on HB.out)).mono ?_; rintro e w3 ⟨rfl, hb⟩; have HR3 := Lib.hid (HR3.out.later hb); have HB := Lib.hid (below_on HB.out hb); clear hb)
                      | (guard_target = Go.wpList _ _ _ ((⟨some _, .load _ (.tmp 52), _, _, _, _⟩ : Go.Oper) :: _) _ _; refine step_get rfl 5 _ rfl b3 (1 + 1) rfl Tryd.underlying5 rfl (.int .u8 z1) ?_ ?_; exact (HR3.out.cell (1 + 1) (by decide)).trans (by rw [HZ1.out]; rfl))
                      | (guard_target = Go.wpList _ _ _ ((⟨some _, .load _ (.tmp 58), _, _, _, _⟩ : Go.Oper) :: _) _ _; refine step_get rfl 5 _ rfl b3 (1 + 2) rfl Tryd.underlying5 rfl (.int .u8 z2) ?_ ?_; exact (HR3.out.cell (1 + 2) (by decide)).trans (by rw [HZ2.out]; rfl))
                      | (guard_target = Go.wpList _ _ _ ((⟨some _, .load _ (.tmp 81), _, _, _, _⟩ : Go.Oper) :: _) _ _; refine step_get rfl 5 _ rfl b3 (1 + 5) rfl Tryd.underlying5 rfl (.int .u8 z5) ?_ ?_; exact (HR3.out.cell (1 + 5) (by decide)).trans (by rw [HZ5.out]; rfl))
                      | (guard_target = Go.wpList _ _ _ ((⟨some _, .load _ (.tmp 87), _, _, _, _⟩ : Go.Oper) :: _) _ _; refine step_get rfl 5 _ rfl b3 (1 + 6) rfl Tryd.underlying5 rfl (.int .u8 z6) ?_ ?_; exact (HR3.out.cell (1 + 6) (by decide)).trans (by rw [HZ6.out]; rfl))
                      | (go_at_call 18; guard_target = Go.Calls _ _ #[_, Go.Value.int _ 5, _] _ _; refine (onK (s := 5) HO5.out _ HPP.out.at_ (HT.out.on HB.out)).mono ?_; rintro e w3 ⟨rfl, hb⟩; have HR3 := Lib.hid (HR3.out.later hb); have HB := Lib.hid (below_on HB.out hb); clear hb)
                      | (go_at_call 18; guard_target = Go.Calls _ _ #[_, Go.Value.int _ 6, _] _ _; refine (onK (s := 6) HO6.out _ HPP.out.at_ (HT.out.on HB.out)).mono ?_; rintro e w3 ⟨rfl, hb⟩; have HR3 := Lib.hid (HR3.out.later hb); have HB := Lib.hid (below_on HB.out hb); clear hb)
                      | (go_at_call 19; refine (bothK HBo.out _ HPP.out (HT.out.on HB.out)).mono ?_; rintro e w3 ⟨rfl, hb⟩; have HR3 := Lib.hid (HR3.out.later hb); have HB := Lib.hid (below_on HB.out hb); clear hb)
                      | (go_at_call 11; refine (cs_awake _ (HT.out.on HB.out)).mono ?_; rintro e w3 ⟨rfl, hb⟩; have HB := Lib.hid (below_on HB.out hb); clear hb))
                    go_ret
                    exact ⟨rfl, HB.out⟩
                  · skip
                    have HBo := Lib.hid (show bothV (camL P) false false = true by have h := HBb.out; simpa [g_z1, g_z2, g_z5, g_z6] using h)
                    go_wp2_with (first
                      | (guard_target = Go.wpList _ _ _ ((⟨some _, .load _ (.tmp 3), _, _, _, _⟩ : Go.Oper) :: _) _ _; refine step_load rfl _ rfl b3 rfl P HR3.out ?_)
                      | (go_at_call 17; refine (chkK HCh.out _ HPP.out.at_ (HT.out.on HB.out)).mono ?_; rintro e w3 ⟨rfl, hb⟩; have HR3 := Lib.hid (HR3.out.later hb); have HB := Lib.hid (below_on HB.out hb); clear hb)
                      | (guard_target = Go.wpList _ _ _ ((⟨some _, .load _ (.tmp 52), _, _, _, _⟩ : Go.Oper) :: _) _ _; refine step_get rfl 5 _ rfl b3 (1 + 1) rfl Tryd.underlying5 rfl (.int .u8 z1) ?_ ?_; exact (HR3.out.cell (1 + 1) (by decide)).trans (by rw [HZ1.out]; rfl))
                      | (guard_target = Go.wpList _ _ _ ((⟨some _, .load _ (.tmp 58), _, _, _, _⟩ : Go.Oper) :: _) _ _; refine step_get rfl 5 _ rfl b3 (1 + 2) rfl Tryd.underlying5 rfl (.int .u8 z2) ?_ ?_; exact (HR3.out.cell (1 + 2) (by decide)).trans (by rw [HZ2.out]; rfl))
                      | (guard_target = Go.wpList _ _ _ ((⟨some _, .load _ (.tmp 81), _, _, _, _⟩ : Go.Oper) :: _) _ _; refine step_get rfl 5 _ rfl b3 (1 + 5) rfl Tryd.underlying5 rfl (.int .u8 z5) ?_ ?_; exact (HR3.out.cell (1 + 5) (by decide)).trans (by rw [HZ5.out]; rfl))
                      | (guard_target = Go.wpList _ _ _ ((⟨some _, .load _ (.tmp 87), _, _, _, _⟩ : Go.Oper) :: _) _ _; refine step_get rfl 5 _ rfl b3 (1 + 6) rfl Tryd.underlying5 rfl (.int .u8 z6) ?_ ?_; exact (HR3.out.cell (1 + 6) (by decide)).trans (by rw [HZ6.out]; rfl))
                      | (go_at_call 18; guard_target = Go.Calls _ _ #[_, Go.Value.int _ 5, _] _ _; refine (onK (s := 5) HO5.out _ HPP.out.at_ (HT.out.on HB.out)).mono ?_; rintro e w3 ⟨rfl, hb⟩; have HR3 := Lib.hid (HR3.out.later hb); have HB := Lib.hid (below_on HB.out hb); clear hb)
                      | (go_at_call 18; guard_target = Go.Calls _ _ #[_, Go.Value.int _ 6, _] _ _; refine (onK (s := 6) HO6.out _ HPP.out.at_ (HT.out.on HB.out)).mono ?_; rintro e w3 ⟨rfl, hb⟩; have HR3 := Lib.hid (HR3.out.later hb); have HB := Lib.hid (below_on HB.out hb); clear hb)
                      | (go_at_call 19; refine (bothK HBo.out _ HPP.out (HT.out.on HB.out)).mono ?_; rintro e w3 ⟨rfl, hb⟩; have HR3 := Lib.hid (HR3.out.later hb); have HB := Lib.hid (below_on HB.out hb); clear hb)
                      | (go_at_call 11; refine (cs_awake _ (HT.out.on HB.out)).mono ?_; rintro e w3 ⟨rfl, hb⟩; have HB := Lib.hid (below_on HB.out hb); clear hb))
                    go_ret
                    exact ⟨rfl, HB.out⟩
                · skip
                  have HBo := Lib.hid (show bothV (camL P) false false = true by have h := HBb.out; simpa [g_z1, g_z2, g_z5, g_z6] using h)
                  go_wp2_with (first
                    | (guard_target = Go.wpList _ _ _ ((⟨some _, .load _ (.tmp 3), _, _, _, _⟩ : Go.Oper) :: _) _ _; refine step_load rfl _ rfl b3 rfl P HR3.out ?_)
                    | (go_at_call 17; refine (chkK HCh.out _ HPP.out.at_ (HT.out.on HB.out)).mono ?_; rintro e w3 ⟨rfl, hb⟩; have HR3 := Lib.hid (HR3.out.later hb); have HB := Lib.hid (below_on HB.out hb); clear hb)
                    | (guard_target = Go.wpList _ _ _ ((⟨some _, .load _ (.tmp 52), _, _, _, _⟩ : Go.Oper) :: _) _ _; refine step_get rfl 5 _ rfl b3 (1 + 1) rfl Tryd.underlying5 rfl (.int .u8 z1) ?_ ?_; exact (HR3.out.cell (1 + 1) (by decide)).trans (by rw [HZ1.out]; rfl))
                    | (guard_target = Go.wpList _ _ _ ((⟨some _, .load _ (.tmp 58), _, _, _, _⟩ : Go.Oper) :: _) _ _; refine step_get rfl 5 _ rfl b3 (1 + 2) rfl Tryd.underlying5 rfl (.int .u8 z2) ?_ ?_; exact (HR3.out.cell (1 + 2) (by decide)).trans (by rw [HZ2.out]; rfl))
                    | (guard_target = Go.wpList _ _ _ ((⟨some _, .load _ (.tmp 81), _, _, _, _⟩ : Go.Oper) :: _) _ _; refine step_get rfl 5 _ rfl b3 (1 + 5) rfl Tryd.underlying5 rfl (.int .u8 z5) ?_ ?_; exact (HR3.out.cell (1 + 5) (by decide)).trans (by rw [HZ5.out]; rfl))
                    | (guard_target = Go.wpList _ _ _ ((⟨some _, .load _ (.tmp 87), _, _, _, _⟩ : Go.Oper) :: _) _ _; refine step_get rfl 5 _ rfl b3 (1 + 6) rfl Tryd.underlying5 rfl (.int .u8 z6) ?_ ?_; exact (HR3.out.cell (1 + 6) (by decide)).trans (by rw [HZ6.out]; rfl))
                    | (go_at_call 18; guard_target = Go.Calls _ _ #[_, Go.Value.int _ 5, _] _ _; refine (onK (s := 5) HO5.out _ HPP.out.at_ (HT.out.on HB.out)).mono ?_; rintro e w3 ⟨rfl, hb⟩; have HR3 := Lib.hid (HR3.out.later hb); have HB := Lib.hid (below_on HB.out hb); clear hb)
                    | (go_at_call 19; refine (bothK HBo.out _ HPP.out (HT.out.on HB.out)).mono ?_; rintro e w3 ⟨rfl, hb⟩; have HR3 := Lib.hid (HR3.out.later hb); have HB := Lib.hid (below_on HB.out hb); clear hb)
                    | (go_at_call 11; refine (cs_awake _ (HT.out.on HB.out)).mono ?_; rintro e w3 ⟨rfl, hb⟩; have HB := Lib.hid (below_on HB.out hb); clear hb))
                  go_ret
                  exact ⟨rfl, HB.out⟩
          · skip
            cases g_z3 : (z3 == 0)
            · skip
              cases g_z5 : (z5 == 0)
              · skip
                have HBo := Lib.hid (show bothV (camL P) false false = true by have h := HBb.out; simpa [g_z1, g_z2, g_z3, g_z5] using h)
                go_wp2_with (first
                  | (guard_target = Go.wpList _ _ _ ((⟨some _, .load _ (.tmp 3), _, _, _, _⟩ : Go.Oper) :: _) _ _; refine step_load rfl _ rfl b3 rfl P HR3.out ?_)
                  | (go_at_call 17; refine (chkK HCh.out _ HPP.out.at_ (HT.out.on HB.out)).mono ?_; rintro e w3 ⟨rfl, hb⟩; have HR3 := Lib.hid (HR3.out.later hb); have HB := Lib.hid (below_on HB.out hb); clear hb)
                  | (guard_target = Go.wpList _ _ _ ((⟨some _, .load _ (.tmp 52), _, _, _, _⟩ : Go.Oper) :: _) _ _; refine step_get rfl 5 _ rfl b3 (1 + 1) rfl Tryd.underlying5 rfl (.int .u8 z1) ?_ ?_; exact (HR3.out.cell (1 + 1) (by decide)).trans (by rw [HZ1.out]; rfl))
                  | (guard_target = Go.wpList _ _ _ ((⟨some _, .load _ (.tmp 58), _, _, _, _⟩ : Go.Oper) :: _) _ _; refine step_get rfl 5 _ rfl b3 (1 + 2) rfl Tryd.underlying5 rfl (.int .u8 z2) ?_ ?_; exact (HR3.out.cell (1 + 2) (by decide)).trans (by rw [HZ2.out]; rfl))
                  | (guard_target = Go.wpList _ _ _ ((⟨some _, .load _ (.tmp 64), _, _, _, _⟩ : Go.Oper) :: _) _ _; refine step_get rfl 5 _ rfl b3 (1 + 3) rfl Tryd.underlying5 rfl (.int .u8 z3) ?_ ?_; exact (HR3.out.cell (1 + 3) (by decide)).trans (by rw [HZ3.out]; rfl))
                  | (guard_target = Go.wpList _ _ _ ((⟨some _, .load _ (.tmp 81), _, _, _, _⟩ : Go.Oper) :: _) _ _; refine step_get rfl 5 _ rfl b3 (1 + 5) rfl Tryd.underlying5 rfl (.int .u8 z5) ?_ ?_; exact (HR3.out.cell (1 + 5) (by decide)).trans (by rw [HZ5.out]; rfl))
                  | (go_at_call 19; refine (bothK HBo.out _ HPP.out (HT.out.on HB.out)).mono ?_; rintro e w3 ⟨rfl, hb⟩; have HR3 := Lib.hid (HR3.out.later hb); have HB := Lib.hid (below_on HB.out hb); clear hb)
                  | (go_at_call 11; refine (cs_awake _ (HT.out.on HB.out)).mono ?_; rintro e w3 ⟨rfl, hb⟩; have HB := Lib.hid (below_on HB.out hb); clear hb))
                go_ret
                exact ⟨rfl, HB.out⟩
              · skip
                cases g_z6 : (z6 == 0)
                · skip
                  have HBo := Lib.hid (show bothV (camL P) false false = true by have h := HBb.out; simpa [g_z1, g_z2, g_z3, g_z5, g_z6] using h)
                  go_wp2_with (first
                    | (guard_target = Go.wpList _ _ _ ((⟨some _, .load _ (.tmp 3), _, _, _, _⟩ : Go.Oper) :: _) _ _; refine step_load rfl _ rfl b3 rfl P HR3.out ?_)
                    | (go_at_call 17; refine (chkK HCh.out _ HPP.out.at_ (HT.out.on HB.out)).mono ?_; rintro e w3 ⟨rfl, hb⟩; have HR3 := Lib.hid (HR3.out.later hb); have HB := Lib.hid (below_on HB.out hb); clear hb)
                    | (guard_target = Go.wpList _ _ _ ((⟨some _, .load _ (.tmp 52), _, _, _, _⟩ : Go.Oper) :: _) _ _; refine step_get rfl 5 _ rfl b3 (1 + 1) rfl Tryd.underlying5 rfl (.int .u8 z1) ?_ ?_; exact (HR3.out.cell (1 + 1) (by decide)).trans (by rw [HZ1.out]; rfl))
                    | (guard_target = Go.wpList _ _ _ ((⟨some _, .load _ (.tmp 58), _, _, _, _⟩ : Go.Oper) :: _) _ _; refine step_get rfl 5 _ rfl b3 (1 + 2) rfl Tryd.underlying5 rfl (.int .u8 z2) ?_ ?_; exact (HR3.out.cell (1 + 2) (by decide)).trans (by rw [HZ2.out]; rfl))
                    | (guard_target = Go.wpList _ _ _ ((⟨some _, .load _ (.tmp 64), _, _, _, _⟩ : Go.Oper) :: _) _ _; refine step_get rfl 5 _ rfl b3 (1 + 3) rfl Tryd.underlying5 rfl (.int .u8 z3) ?_ ?_; exact (HR3.out.cell (1 + 3) (by decide)).trans (by rw [HZ3.out]; rfl))
                    | (guard_target = Go.wpList _ _ _ ((⟨some _, .load _ (.tmp 81), _, _, _, _⟩ : Go.Oper) :: _) _ _; refine step_get rfl 5 _ rfl b3 (1 + 5) rfl Tryd.underlying5 rfl (.int .u8 z5) ?_ ?_; exact (HR3.out.cell (1 + 5) (by decide)).trans (by rw [HZ5.out]; rfl))
                    | (guard_target = Go.wpList _ _ _ ((⟨some _, .load _ (.tmp 87), _, _, _, _⟩ : Go.Oper) :: _) _ _; refine step_get rfl 5 _ rfl b3 (1 + 6) rfl Tryd.underlying5 rfl (.int .u8 z6) ?_ ?_; exact (HR3.out.cell (1 + 6) (by decide)).trans (by rw [HZ6.out]; rfl))
                    | (go_at_call 19; refine (bothK HBo.out _ HPP.out (HT.out.on HB.out)).mono ?_; rintro e w3 ⟨rfl, hb⟩; have HR3 := Lib.hid (HR3.out.later hb); have HB := Lib.hid (below_on HB.out hb); clear hb)
                    | (go_at_call 11; refine (cs_awake _ (HT.out.on HB.out)).mono ?_; rintro e w3 ⟨rfl, hb⟩; have HB := Lib.hid (below_on HB.out hb); clear hb))
                  go_ret
                  exact ⟨rfl, HB.out⟩
                · skip
                  cases x5
                  · skip
                    cases x6
                    · skip
                      have HBo := Lib.hid (show bothV (camL P) false true = true by have h := HBb.out; simpa [g_z1, g_z2, g_z3, g_z5, g_z6] using h)
                      go_wp2_with (first
                        | (guard_target = Go.wpList _ _ _ ((⟨some _, .load _ (.tmp 3), _, _, _, _⟩ : Go.Oper) :: _) _ _; refine step_load rfl _ rfl b3 rfl P HR3.out ?_)
                        | (go_at_call 17; refine (chkK HCh.out _ HPP.out.at_ (HT.out.on HB.out)).mono ?_; rintro e w3 ⟨rfl, hb⟩; have HR3 := Lib.hid (HR3.out.later hb); have HB := Lib.hid (below_on HB.out hb); clear hb)
                        | (guard_target = Go.wpList _ _ _ ((⟨some _, .load _ (.tmp 52), _, _, _, _⟩ : Go.Oper) :: _) _ _; refine step_get rfl 5 _ rfl b3 (1 + 1) rfl Tryd.underlying5 rfl (.int .u8 z1) ?_ ?_; exact (HR3.out.cell (1 + 1) (by decide)).trans (by rw [HZ1.out]; rfl))
                        | (guard_target = Go.wpList _ _ _ ((⟨some _, .load _ (.tmp 58), _, _, _, _⟩ : Go.Oper) :: _) _ _; refine step_get rfl 5 _ rfl b3 (1 + 2) rfl Tryd.underlying5 rfl (.int .u8 z2) ?_ ?_; exact (HR3.out.cell (1 + 2) (by decide)).trans (by rw [HZ2.out]; rfl))
                        | (guard_target = Go.wpList _ _ _ ((⟨some _, .load _ (.tmp 64), _, _, _, _⟩ : Go.Oper) :: _) _ _; refine step_get rfl 5 _ rfl b3 (1 + 3) rfl Tryd.underlying5 rfl (.int .u8 z3) ?_ ?_; exact (HR3.out.cell (1 + 3) (by decide)).trans (by rw [HZ3.out]; rfl))
                        | (guard_target = Go.wpList _ _ _ ((⟨some _, .load _ (.tmp 81), _, _, _, _⟩ : Go.Oper) :: _) _ _; refine step_get rfl 5 _ rfl b3 (1 + 5) rfl Tryd.underlying5 rfl (.int .u8 z5) ?_ ?_; exact (HR3.out.cell (1 + 5) (by decide)).trans (by rw [HZ5.out]; rfl))
                        | (guard_target = Go.wpList _ _ _ ((⟨some _, .load _ (.tmp 87), _, _, _, _⟩ : Go.Oper) :: _) _ _; refine step_get rfl 5 _ rfl b3 (1 + 6) rfl Tryd.underlying5 rfl (.int .u8 z6) ?_ ?_; exact (HR3.out.cell (1 + 6) (by decide)).trans (by rw [HZ6.out]; rfl))
                        | (go_at_call 18; guard_target = Go.Calls _ _ #[_, Go.Value.int _ 5, _] _ _; refine (onK (s := 5) HO5.out _ HPP.out.at_ (HT.out.on HB.out)).mono ?_; rintro e w3 ⟨rfl, hb⟩; have HR3 := Lib.hid (HR3.out.later hb); have HB := Lib.hid (below_on HB.out hb); clear hb)
                        | (go_at_call 18; guard_target = Go.Calls _ _ #[_, Go.Value.int _ 6, _] _ _; refine (onK (s := 6) HO6.out _ HPP.out.at_ (HT.out.on HB.out)).mono ?_; rintro e w3 ⟨rfl, hb⟩; have HR3 := Lib.hid (HR3.out.later hb); have HB := Lib.hid (below_on HB.out hb); clear hb)
                        | (go_at_call 19; refine (bothK HBo.out _ HPP.out (HT.out.on HB.out)).mono ?_; rintro e w3 ⟨rfl, hb⟩; have HR3 := Lib.hid (HR3.out.later hb); have HB := Lib.hid (below_on HB.out hb); clear hb)
                        | (go_at_call 11; refine (cs_awake _ (HT.out.on HB.out)).mono ?_; rintro e w3 ⟨rfl, hb⟩; have HB := Lib.hid (below_on HB.out hb); clear hb))
                      go_ret
                      exact ⟨rfl, HB.out⟩
                    · skip
                      have HBo := Lib.hid (show bothV (camL P) false false = true by have h := HBb.out; simpa [g_z1, g_z2, g_z3, g_z5, g_z6] using h)
                      go_wp2_with (first
                        | (guard_target = Go.wpList _ _ _ ((⟨some _, .load _ (.tmp 3), _, _, _, _⟩ : Go.Oper) :: _) _ _; refine step_load rfl _ rfl b3 rfl P HR3.out ?_)
                        | (go_at_call 17; refine (chkK HCh.out _ HPP.out.at_ (HT.out.on HB.out)).mono ?_; rintro e w3 ⟨rfl, hb⟩; have HR3 := Lib.hid (HR3.out.later hb); have HB := Lib.hid (below_on HB.out hb); clear hb)
                        | (guard_target = Go.wpList _ _ _ ((⟨some _, .load _ (.tmp 52), _, _, _, _⟩ : Go.Oper) :: _) _ _; refine step_get rfl 5 _ rfl b3 (1 + 1) rfl Tryd.underlying5 rfl (.int .u8 z1) ?_ ?_; exact (HR3.out.cell (1 + 1) (by decide)).trans (by rw [HZ1.out]; rfl))
                        | (guard_target = Go.wpList _ _ _ ((⟨some _, .load _ (.tmp 58), _, _, _, _⟩ : Go.Oper) :: _) _ _; refine step_get rfl 5 _ rfl b3 (1 + 2) rfl Tryd.underlying5 rfl (.int .u8 z2) ?_ ?_; exact (HR3.out.cell (1 + 2) (by decide)).trans (by rw [HZ2.out]; rfl))
                        | (guard_target = Go.wpList _ _ _ ((⟨some _, .load _ (.tmp 64), _, _, _, _⟩ : Go.Oper) :: _) _ _; refine step_get rfl 5 _ rfl b3 (1 + 3) rfl Tryd.underlying5 rfl (.int .u8 z3) ?_ ?_; exact (HR3.out.cell (1 + 3) (by decide)).trans (by rw [HZ3.out]; rfl))
                        | (guard_target = Go.wpList _ _ _ ((⟨some _, .load _ (.tmp 81), _, _, _, _⟩ : Go.Oper) :: _) _ _; refine step_get rfl 5 _ rfl b3 (1 + 5) rfl Tryd.underlying5 rfl (.int .u8 z5) ?_ ?_; exact (HR3.out.cell (1 + 5) (by decide)).trans (by rw [HZ5.out]; rfl))
                        | (guard_target = Go.wpList _ _ _ ((⟨some _, .load _ (.tmp 87), _, _, _, _⟩ : Go.Oper) :: _) _ _; refine step_get rfl 5 _ rfl b3 (1 + 6) rfl Tryd.underlying5 rfl (.int .u8 z6) ?_ ?_; exact (HR3.out.cell (1 + 6) (by decide)).trans (by rw [HZ6.out]; rfl))
                        | (go_at_call 18; guard_target = Go.Calls _ _ #[_, Go.Value.int _ 5, _] _ _; refine (onK (s := 5) HO5.out _ HPP.out.at_ (HT.out.on HB.out)).mono ?_; rintro e w3 ⟨rfl, hb⟩; have HR3 := Lib.hid (HR3.out.later hb); have HB := Lib.hid (below_on HB.out hb); clear hb)
                        | (go_at_call 18; guard_target = Go.Calls _ _ #[_, Go.Value.int _ 6, _] _ _; refine (onK (s := 6) HO6.out _ HPP.out.at_ (HT.out.on HB.out)).mono ?_; rintro e w3 ⟨rfl, hb⟩; have HR3 := Lib.hid (HR3.out.later hb); have HB := Lib.hid (below_on HB.out hb); clear hb)
                        | (go_at_call 19; refine (bothK HBo.out _ HPP.out (HT.out.on HB.out)).mono ?_; rintro e w3 ⟨rfl, hb⟩; have HR3 := Lib.hid (HR3.out.later hb); have HB := Lib.hid (below_on HB.out hb); clear hb)
                        | (go_at_call 11; refine (cs_awake _ (HT.out.on HB.out)).mono ?_; rintro e w3 ⟨rfl, hb⟩; have HB := Lib.hid (below_on HB.out hb); clear hb))
                      go_ret
                      exact ⟨rfl, HB.out⟩
                  · skip
                    have HBo := Lib.hid (show bothV (camL P) false false = true by have h := HBb.out; simpa [g_z1, g_z2, g_z3, g_z5, g_z6] using h)
                    go_wp2_with (first
                      | (guard_target = Go.wpList _ _ _ ((⟨some _, .load _ (.tmp 3), _, _, _, _⟩ : Go.Oper) :: _) _ _; refine step_load rfl _ rfl b3 rfl P HR3.out ?_)
                      | (go_at_call 17; refine (chkK HCh.out _ HPP.out.at_ (HT.out.on HB.out)).mono ?_; rintro e w3 ⟨rfl, hb⟩; have HR3 := Lib.hid (HR3.out.later hb); have HB := Lib.hid (below_on HB.out hb); clear hb)
                      | (guard_target = Go.wpList _ _ _ ((⟨some _, .load _ (.tmp 52), _, _, _, _⟩ : Go.Oper) :: _) _ _; refine step_get rfl 5 _ rfl b3 (1 + 1) rfl Tryd.underlying5 rfl (.int .u8 z1) ?_ ?_; exact (HR3.out.cell (1 + 1) (by decide)).trans (by rw [HZ1.out]; rfl))
                      | (guard_target = Go.wpList _ _ _ ((⟨some _, .load _ (.tmp 58), _, _, _, _⟩ : Go.Oper) :: _) _ _; refine step_get rfl 5 _ rfl b3 (1 + 2) rfl Tryd.underlying5 rfl (.int .u8 z2) ?_ ?_; exact (HR3.out.cell (1 + 2) (by decide)).trans (by rw [HZ2.out]; rfl))
                      | (guard_target = Go.wpList _ _ _ ((⟨some _, .load _ (.tmp 64), _, _, _, _⟩ : Go.Oper) :: _) _ _; refine step_get rfl 5 _ rfl b3 (1 + 3) rfl Tryd.underlying5 rfl (.int .u8 z3) ?_ ?_; exact (HR3.out.cell (1 + 3) (by decide)).trans (by rw [HZ3.out]; rfl))
                      | (guard_target = Go.wpList _ _ _ ((⟨some _, .load _ (.tmp 81), _, _, _, _⟩ : Go.Oper) :: _) _ _; refine step_get rfl 5 _ rfl b3 (1 + 5) rfl Tryd.underlying5 rfl (.int .u8 z5) ?_ ?_; exact (HR3.out.cell (1 + 5) (by decide)).trans (by rw [HZ5.out]; rfl))
                      | (guard_target = Go.wpList _ _ _ ((⟨some _, .load _ (.tmp 87), _, _, _, _⟩ : Go.Oper) :: _) _ _; refine step_get rfl 5 _ rfl b3 (1 + 6) rfl Tryd.underlying5 rfl (.int .u8 z6) ?_ ?_; exact (HR3.out.cell (1 + 6) (by decide)).trans (by rw [HZ6.out]; rfl))
                      | (go_at_call 18; guard_target = Go.Calls _ _ #[_, Go.Value.int _ 5, _] _ _; refine (onK (s := 5) HO5.out _ HPP.out.at_ (HT.out.on HB.out)).mono ?_; rintro e w3 ⟨rfl, hb⟩; have HR3 := Lib.hid (HR3.out.later hb); have HB := Lib.hid (below_on HB.out hb); clear hb)
                      | (go_at_call 19; refine (bothK HBo.out _ HPP.out (HT.out.on HB.out)).mono ?_; rintro e w3 ⟨rfl, hb⟩; have HR3 := Lib.hid (HR3.out.later hb); have HB := Lib.hid (below_on HB.out hb); clear hb)
                      | (go_at_call 11; refine (cs_awake _ (HT.out.on HB.out)).mono ?_; rintro e w3 ⟨rfl, hb⟩; have HB := Lib.hid (below_on HB.out hb); clear hb))
                    go_ret
                    exact ⟨rfl, HB.out⟩
            · skip
              cases x2
              · skip
                cases x3
                · skip
                  cases g_z5 : (z5 == 0)
                  · skip
                    have HBo := Lib.hid (show bothV (camL P) true false = true by have h := HBb.out; simpa [g_z1, g_z2, g_z3, g_z5] using h)
                    go_wp2_with (first
                      | (guard_target = Go.wpList _ _ _ ((⟨some _, .load _ (.tmp 3), _, _, _, _⟩ : Go.Oper) :: _) _ _; refine step_load rfl _ rfl b3 rfl P HR3.out ?_)
                      | (go_at_call 17; refine (chkK HCh.out _ HPP.out.at_ (HT.out.on HB.out)).mono ?_; rintro e w3 ⟨rfl, hb⟩; have HR3 := Lib.hid (HR3.out.later hb); have HB := Lib.hid (below_on HB.out hb); clear hb)
                      | (guard_target = Go.wpList _ _ _ ((⟨some _, .load _ (.tmp 52), _, _, _, _⟩ : Go.Oper) :: _) _ _; refine step_get rfl 5 _ rfl b3 (1 + 1) rfl Tryd.underlying5 rfl (.int .u8 z1) ?_ ?_; exact (HR3.out.cell (1 + 1) (by decide)).trans (by rw [HZ1.out]; rfl))
                      | (guard_target = Go.wpList _ _ _ ((⟨some _, .load _ (.tmp 58), _, _, _, _⟩ : Go.Oper) :: _) _ _; refine step_get rfl 5 _ rfl b3 (1 + 2) rfl Tryd.underlying5 rfl (.int .u8 z2) ?_ ?_; exact (HR3.out.cell (1 + 2) (by decide)).trans (by rw [HZ2.out]; rfl))
                      | (guard_target = Go.wpList _ _ _ ((⟨some _, .load _ (.tmp 64), _, _, _, _⟩ : Go.Oper) :: _) _ _; refine step_get rfl 5 _ rfl b3 (1 + 3) rfl Tryd.underlying5 rfl (.int .u8 z3) ?_ ?_; exact (HR3.out.cell (1 + 3) (by decide)).trans (by rw [HZ3.out]; rfl))
                      | (go_at_call 18; guard_target = Go.Calls _ _ #[_, Go.Value.int _ 2, _] _ _; refine (onK (s := 2) HO2.out _ HPP.out.at_ (HT.out.on HB.out)).mono ?_; rintro e w3 ⟨rfl, hb⟩; have HR3 := Lib.hid (HR3.out.later hb); have HB := Lib.hid (below_on HB.out hb); clear hb)
                      | (go_at_call 18; guard_target = Go.Calls _ _ #[_, Go.Value.int _ 3, _] _ _; refine (onK (s := 3) HO3.out _ HPP.out.at_ (HT.out.on HB.out)).mono ?_; rintro e w3 ⟨rfl, hb⟩; have HR3 := Lib.hid (HR3.out.later hb); have HB := Lib.hid (below_on HB.out hb); clear hb)
                      | (guard_target = Go.wpList _ _ _ ((⟨some _, .load _ (.tmp 81), _, _, _, _⟩ : Go.Oper) :: _) _ _; refine step_get rfl 5 _ rfl b3 (1 + 5) rfl Tryd.underlying5 rfl (.int .u8 z5) ?_ ?_; exact (HR3.out.cell (1 + 5) (by decide)).trans (by rw [HZ5.out]; rfl))
                      | (go_at_call 19; refine (bothK HBo.out _ HPP.out (HT.out.on HB.out)).mono ?_; rintro e w3 ⟨rfl, hb⟩; have HR3 := Lib.hid (HR3.out.later hb); have HB := Lib.hid (below_on HB.out hb); clear hb)
                      | (go_at_call 11; refine (cs_awake _ (HT.out.on HB.out)).mono ?_; rintro e w3 ⟨rfl, hb⟩; have HB := Lib.hid (below_on HB.out hb); clear hb))
                    go_ret
                    exact ⟨rfl, HB.out⟩
                  · skip
                    cases g_z6 : (z6 == 0)
                    · skip
                      have HBo := Lib.hid (show bothV (camL P) true false = true by have h := HBb.out; simpa [g_z1, g_z2, g_z3, g_z5, g_z6] using h)
                      go_wp2_with (first
                        | (guard_target = Go.wpList _ _ _ ((⟨some _, .load _ (.tmp 3), _, _, _, _⟩ : Go.Oper) :: _) _ _; refine step_load rfl _ rfl b3 rfl P HR3.out ?_)
                        | (go_at_call 17; refine (chkK HCh.out _ HPP.out.at_ (HT.out.on HB.out)).mono ?_; rintro e w3 ⟨rfl, hb⟩; have HR3 := Lib.hid (HR3.out.later hb); have HB := Lib.hid (below_on HB.out hb); clear hb)
                        | (guard_target = Go.wpList _ _ _ ((⟨some _, .load _ (.tmp 52), _, _, _, _⟩ : Go.Oper) :: _) _ _; refine step_get rfl 5 _ rfl b3 (1 + 1) rfl Tryd.underlying5 rfl (.int .u8 z1) ?_ ?_; exact (HR3.out.cell (1 + 1) (by decide)).trans (by rw [HZ1.out]; rfl))
                        | (guard_target = Go.wpList _ _ _ ((⟨some _, .load _ (.tmp 58), _, _, _, _⟩ : Go.Oper) :: _) _ _; refine step_get rfl 5 _ rfl b3 (1 + 2) rfl Tryd.underlying5 rfl (.int .u8 z2) ?_ ?_; exact (HR3.out.cell (1 + 2) (by decide)).trans (by rw [HZ2.out]; rfl))
                        | (guard_target = Go.wpList _ _ _ ((⟨some _, .load _ (.tmp 64), _, _, _, _⟩ : Go.Oper) :: _) _ _; refine step_get rfl 5 _ rfl b3 (1 + 3) rfl Tryd.underlying5 rfl (.int .u8 z3) ?_ ?_; exact (HR3.out.cell (1 + 3) (by decide)).trans (by rw [HZ3.out]; rfl))
                        | (go_at_call 18; guard_target = Go.Calls _ _ #[_, Go.Value.int _ 2, _] _ _; refine (onK (s := 2) HO2.out _ HPP.out.at_ (HT.out.on HB.out)).mono ?_; rintro e w3 ⟨rfl, hb⟩; have HR3 := Lib.hid (HR3.out.later hb); have HB := Lib.hid (below_on HB.out hb); clear hb)
                        | (go_at_call 18; guard_target = Go.Calls _ _ #[_, Go.Value.int _ 3, _] _ _; refine (onK (s := 3) HO3.out _ HPP.out.at_ (HT.out.on HB.out)).mono ?_; rintro e w3 ⟨rfl, hb⟩; have HR3 := Lib.hid (HR3.out.later hb); have HB := Lib.hid (below_on HB.out hb); clear hb)
                        | (guard_target = Go.wpList _ _ _ ((⟨some _, .load _ (.tmp 81), _, _, _, _⟩ : Go.Oper) :: _) _ _; refine step_get rfl 5 _ rfl b3 (1 + 5) rfl Tryd.underlying5 rfl (.int .u8 z5) ?_ ?_; exact (HR3.out.cell (1 + 5) (by decide)).trans (by rw [HZ5.out]; rfl))
                        | (guard_target = Go.wpList _ _ _ ((⟨some _, .load _ (.tmp 87), _, _, _, _⟩ : Go.Oper) :: _) _ _; refine step_get rfl 5 _ rfl b3 (1 + 6) rfl Tryd.underlying5 rfl (.int .u8 z6) ?_ ?_; exact (HR3.out.cell (1 + 6) (by decide)).trans (by rw [HZ6.out]; rfl))
                        | (go_at_call 19; refine (bothK HBo.out _ HPP.out (HT.out.on HB.out)).mono ?_; rintro e w3 ⟨rfl, hb⟩; have HR3 := Lib.hid (HR3.out.later hb); have HB := Lib.hid (below_on HB.out hb); clear hb)
                        | (go_at_call 11; refine (cs_awake _ (HT.out.on HB.out)).mono ?_; rintro e w3 ⟨rfl, hb⟩; have HB := Lib.hid (below_on HB.out hb); clear hb))
                      go_ret
                      exact ⟨rfl, HB.out⟩
                    · skip
                      cases x5
                      · skip
                        cases x6
                        · skip
                          have HBo := Lib.hid (show bothV (camL P) true true = true by have h := HBb.out; simpa [g_z1, g_z2, g_z3, g_z5, g_z6] using h)
                          go_wp2_with (first
                            | (guard_target = Go.wpList _ _ _ ((⟨some _, .load _ (.tmp 3), _, _, _, _⟩ : Go.Oper) :: _) _ _; refine step_load rfl _ rfl b3 rfl P HR3.out ?_)
                            | (go_at_call 17; refine (chkK HCh.out _ HPP.out.at_ (HT.out.on HB.out)).mono ?_; rintro e w3 ⟨rfl, hb⟩; have HR3 := Lib.hid (HR3.out.later hb); have HB := Lib.hid (below_on HB.out hb); clear hb)
                            | (guard_target = Go.wpList _ _ _ ((⟨some _, .load _ (.tmp 52), _, _, _, _⟩ : Go.Oper) :: _) _ _; refine step_get rfl 5 _ rfl b3 (1 + 1) rfl Tryd.underlying5 rfl (.int .u8 z1) ?_ ?_; exact (HR3.out.cell (1 + 1) (by decide)).trans (by rw [HZ1.out]; rfl))
                            | (guard_target = Go.wpList _ _ _ ((⟨some _, .load _ (.tmp 58), _, _, _, _⟩ : Go.Oper) :: _) _ _; refine step_get rfl 5 _ rfl b3 (1 + 2) rfl Tryd.underlying5 rfl (.int .u8 z2) ?_ ?_; exact (HR3.out.cell (1 + 2) (by decide)).trans (by rw [HZ2.out]; rfl))
                            | (guard_target = Go.wpList _ _ _ ((⟨some _, .load _ (.tmp 64), _, _, _, _⟩ : Go.Oper) :: _) _ _; refine step_get rfl 5 _ rfl b3 (1 + 3) rfl Tryd.underlying5 rfl (.int .u8 z3) ?_ ?_; exact (HR3.out.cell (1 + 3) (by decide)).trans (by rw [HZ3.out]; rfl))
                            | (go_at_call 18; guard_target = Go.Calls _ _ #[_, Go.Value.int _ 2, _] _ _; refine (onK (s := 2) HO2.out _ HPP.out.at_ (HT.out.on HB.out)).mono ?_; rintro e w3 ⟨rfl, hb⟩; have HR3 := Lib.hid (HR3.out.later hb); have HB := Lib.hid (below_on HB.out hb); clear hb)
                            | (go_at_call 18; guard_target = Go.Calls _ _ #[_, Go.Value.int _ 3, _] _ _; refine (onK (s := 3) HO3.out _ HPP.out.at_ (HT.out.on HB.out)).mono ?_; rintro e w3 ⟨rfl, hb⟩; have HR3 := Lib.hid (HR3.out.later hb); have HB := Lib.hid (below_on HB.out hb); clear hb)
                            | (guard_target = Go.wpList _ _ _ ((⟨some _, .load _ (.tmp 81), _, _, _, _⟩ : Go.Oper) :: _) _ _; refine step_get rfl 5 _ rfl b3 (1 + 5) rfl Tryd.underlying5 rfl (.int .u8 z5) ?_ ?_; exact (HR3.out.cell (1 + 5) (by decide)).trans (by rw [HZ5.out]; rfl))
                            | (guard_target = Go.wpList _ _ _ ((⟨some _, .load _ (.tmp 87), _, _, _, _⟩ : Go.Oper) :: _) _ _; refine step_get rfl 5 _ rfl b3 (1 + 6) rfl Tryd.underlying5 rfl (.int .u8 z6) ?_ ?_; exact (HR3.out.cell (1 + 6) (by decide)).trans (by rw [HZ6.out]; rfl))
                            | (go_at_call 18; guard_target = Go.Calls _ _ #[_, Go.Value.int _ 5, _] _ _; refine (onK (s := 5) HO5.out _ HPP.out.at_ (HT.out.on HB.out)).mono ?_; rintro e w3 ⟨rfl, hb⟩; have HR3 := Lib.hid (HR3.out.later hb); have HB := Lib.hid (below_on HB.out hb); clear hb)
                            | (go_at_call 18; guard_target = Go.Calls _ _ #[_, Go.Value.int _ 6, _] _ _; refine (onK (s := 6) HO6.out _ HPP.out.at_ (HT.out.on HB.out)).mono ?_; rintro e w3 ⟨rfl, hb⟩; have HR3 := Lib.hid (HR3.out.later hb); have HB := Lib.hid (below_on HB.out hb); clear hb)
                            | (go_at_call 19; refine (bothK HBo.out _ HPP.out (HT.out.on HB.out)).mono ?_; rintro e w3 ⟨rfl, hb⟩; have HR3 := Lib.hid (HR3.out.later hb); have HB := Lib.hid (below_on HB.out hb); clear hb)
                            | (go_at_call 11; refine (cs_awake _ (HT.out.on HB.out)).mono ?_; rintro e w3 ⟨rfl, hb⟩; have HB := Lib.hid (below_on HB.out hb); clear hb))
                          go_ret
                          exact ⟨rfl, HB.out⟩
                        · skip
                          have HBo := Lib.hid (show bothV (camL P) true false = true by have h := HBb.out; simpa [g_z1, g_z2, g_z3, g_z5, g_z6] using h)
                          go_wp2_with (first
                            | (guard_target = Go.wpList _ _ _ ((⟨some _, .load _ (.tmp 3), _, _, _, _⟩ : Go.Oper) :: _) _ _; refine step_load rfl _ rfl b3 rfl P HR3.out ?_)
                            | (go_at_call 17; refine (chkK HCh.out _ HPP.out.at_ (HT.out.on HB.out)).mono ?_; rintro e w3 ⟨rfl, hb⟩; have HR3 := Lib.hid (HR3.out.later hb); have HB := Lib.hid (below_on HB.out hb); clear hb)
                            | (guard_target = Go.wpList _ _ _ ((⟨some _, .load _ (.tmp 52), _, _, _, _⟩ : Go.Oper) :: _) _ _; refine step_get rfl 5 _ rfl b3 (1 + 1) rfl Tryd.underlying5 rfl (.int .u8 z1) ?_ ?_; exact (HR3.out.cell (1 + 1) (by decide)).trans (by rw [HZ1.out]; rfl))
                            | (guard_target = Go.wpList _ _ _ ((⟨some _, .load _ (.tmp 58), _, _, _, _⟩ : Go.Oper) :: _) _ _; refine step_get rfl 5 _ rfl b3 (1 + 2) rfl Tryd.underlying5 rfl (.int .u8 z2) ?_ ?_; exact (HR3.out.cell (1 + 2) (by decide)).trans (by rw [HZ2.out]; rfl))
                            | (guard_target = Go.wpList _ _ _ ((⟨some _, .load _ (.tmp 64), _, _, _, _⟩ : Go.Oper) :: _) _ _; refine step_get rfl 5 _ rfl b3 (1 + 3) rfl Tryd.underlying5 rfl (.int .u8 z3) ?_ ?_; exact (HR3.out.cell (1 + 3) (by decide)).trans (by rw [HZ3.out]; rfl))
                            | (go_at_call 18; guard_target = Go.Calls _ _ #[_, Go.Value.int _ 2, _] _ _; refine (onK (s := 2) HO2.out _ HPP.out.at_ (HT.out.on HB.out)).mono ?_; rintro e w3 ⟨rfl, hb⟩; have HR3 := Lib.hid (HR3.out.later hb); have HB := Lib.hid (below_on HB.out hb); clear hb)
                            | (go_at_call 18; guard_target = Go.Calls _ _ #[_, Go.Value.int _ 3, _] _ _; refine (onK (s := 3) HO3.out _ HPP.out.at_ (HT.out.on HB.out)).mono ?_; rintro e w3 ⟨rfl, hb⟩; have HR3 := Lib.hid (HR3.out.later hb); have HB := Lib.hid (below_on HB.out hb); clear hb)
                            | (guard_target = Go.wpList _ _ _ ((⟨some _, .load _ (.tmp 81), _, _, _, _⟩ : Go.Oper) :: _) _ _; refine step_get rfl 5 _ rfl b3 (1 + 5) rfl Tryd.underlying5 rfl (.int .u8 z5) ?_ ?_; exact (HR3.out.cell (1 + 5) (by decide)).trans (by rw [HZ5.out]; rfl))
                            | (guard_target = Go.wpList _ _ _ ((⟨some _, .load _ (.tmp 87), _, _, _, _⟩ : Go.Oper) :: _) _ _; refine step_get rfl 5 _ rfl b3 (1 + 6) rfl Tryd.underlying5 rfl (.int .u8 z6) ?_ ?_; exact (HR3.out.cell (1 + 6) (by decide)).trans (by rw [HZ6.out]; rfl))
                            | (go_at_call 18; guard_target = Go.Calls _ _ #[_, Go.Value.int _ 5, _] _ _; refine (onK (s := 5) HO5.out _ HPP.out.at_ (HT.out.on HB.out)).mono ?_; rintro e w3 ⟨rfl, hb⟩; have HR3 := Lib.hid (HR3.out.later hb); have HB := Lib.hid (below_on HB.out hb); clear hb)
                            | (go_at_call 18; guard_target = Go.Calls _ _ #[_, Go.Value.int _ 6, _] _ _; refine (onK (s := 6) HO6.out _ HPP.out.at_ (HT.out.on HB.out)).mono ?_; rintro e w3 ⟨rfl, hb⟩; have HR3 := Lib.hid (HR3.out.later hb); have HB := Lib.hid (below_on HB.out hb); clear hb)
                            | (go_at_call 19; refine (bothK HBo.out _ HPP.out (HT.out.on HB.out)).mono ?_; rintro e w3 ⟨rfl, hb⟩; have HR3 := Lib.hid (HR3.out.later hb); have HB := Lib.hid (below_on HB.out hb); clear hb)
                            | (go_at_call 11; refine (cs_awake _ (HT.out.on HB.out)).mono ?_; rintro e w3 ⟨rfl, hb⟩; have HB := Lib.hid (below_on HB.out hb); clear hb))
                          go_ret
                          exact ⟨rfl, HB.out⟩
                      · skip
                        have HBo := Lib.hid (show bothV (camL P) true false = true by have h := HBb.out; simpa [g_z1, g_z2, g_z3, g_z5, g_z6] using h)
                        go_wp2_with (first
                          | (guard_target = Go.wpList _ _ _ ((⟨some _, .load _ (.tmp 3), _, _, _, _⟩ : Go.Oper) :: _) _ _; refine step_load rfl _ rfl b3 rfl P HR3.out ?_)
                          | (go_at_call 17; refine (chkK HCh.out _ HPP.out.at_ (HT.out.on HB.out)).mono ?_; rintro e w3 ⟨rfl, hb⟩; have HR3 := Lib.hid (HR3.out.later hb); have HB := Lib.hid (below_on HB.out hb); clear hb)
                          | (guard_target = Go.wpList _ _ _ ((⟨some _, .load _ (.tmp 52), _, _, _, _⟩ : Go.Oper) :: _) _ _; refine step_get rfl 5 _ rfl b3 (1 + 1) rfl Tryd.underlying5 rfl (.int .u8 z1) ?_ ?_; exact (HR3.out.cell (1 + 1) (by decide)).trans (by rw [HZ1.out]; rfl))
                          | (guard_target = Go.wpList _ _ _ ((⟨some _, .load _ (.tmp 58), _, _, _, _⟩ : Go.Oper) :: _) _ _; refine step_get rfl 5 _ rfl b3 (1 + 2) rfl Tryd.underlying5 rfl (.int .u8 z2) ?_ ?_; exact (HR3.out.cell (1 + 2) (by decide)).trans (by rw [HZ2.out]; rfl))
                          | (guard_target = Go.wpList _ _ _ ((⟨some _, .load _ (.tmp 64), _, _, _, _⟩ : Go.Oper) :: _) _ _; refine step_get rfl 5 _ rfl b3 (1 + 3) rfl Tryd.underlying5 rfl (.int .u8 z3) ?_ ?_; exact (HR3.out.cell (1 + 3) (by decide)).trans (by rw [HZ3.out]; rfl))
                          | (go_at_call 18; guard_target = Go.Calls _ _ #[_, Go.Value.int _ 2, _] _ _; refine (onK (s := 2) HO2.out _ HPP.out.at_ (HT.out.on HB.out)).mono ?_; rintro e w3 ⟨rfl, hb⟩; have HR3 := Lib.hid (HR3.out.later hb); have HB := Lib.hid (below_on HB.out hb); clear hb)
                          | (go_at_call 18; guard_target = Go.Calls _ _ #[_, Go.Value.int _ 3, _] _ _; refine (onK (s := 3) HO3.out _ HPP.out.at_ (HT.out.on HB.out)).mono ?_; rintro e w3 ⟨rfl, hb⟩; have HR3 := Lib.hid (HR3.out.later hb); have HB := Lib.hid (below_on HB.out hb); clear hb)
                          | (guard_target = Go.wpList _ _ _ ((⟨some _, .load _ (.tmp 81), _, _, _, _⟩ : Go.Oper) :: _) _ _; refine step_get rfl 5 _ rfl b3 (1 + 5) rfl Tryd.underlying5 rfl (.int .u8 z5) ?_ ?_; exact (HR3.out.cell (1 + 5) (by decide)).trans (by rw [HZ5.out]; rfl))
                          | (guard_target = Go.wpList _ _ _ ((⟨some _, .load _ (.tmp 87), _, _, _, _⟩ : Go.Oper) :: _) _ _; refine step_get rfl 5 _ rfl b3 (1 + 6) rfl Tryd.underlying5 rfl (.int .u8 z6) ?_ ?_; exact (HR3.out.cell (1 + 6) (by decide)).trans (by rw [HZ6.out]; rfl))
                          | (go_at_call 18; guard_target = Go.Calls _ _ #[_, Go.Value.int _ 5, _] _ _; refine (onK (s := 5) HO5.out _ HPP.out.at_ (HT.out.on HB.out)).mono ?_; rintro e w3 ⟨rfl, hb⟩; have HR3 := Lib.hid (HR3.out.later hb); have HB := Lib.hid (below_on HB.out hb); clear hb)
                          | (go_at_call 19; refine (bothK HBo.out _ HPP.out (HT.out.on HB.out)).mono ?_; rintro e w3 ⟨rfl, hb⟩; have HR3 := Lib.hid (HR3.out.later hb); have HB := Lib.hid (below_on HB.out hb); clear hb)
                          | (go_at_call 11; refine (cs_awake _ (HT.out.on HB.out)).mono ?_; rintro e w3 ⟨rfl, hb⟩; have HB := Lib.hid (below_on HB.out hb); clear hb))
                        go_ret
                        exact ⟨rfl, HB.out⟩
                · skip
                  cases g_z5 : (z5 == 0)
                  · skip
                    have HBo := Lib.hid (show bothV (camL P) false false = true by have h := HBb.out; simpa [g_z1, g_z2, g_z3, g_z5] using h)
                    go_wp2_with (first
                      | (guard_target = Go.wpList _ _ _ ((⟨some _, .load _ (.tmp 3), _, _, _, _⟩ : Go.Oper) :: _) _ _; refine step_load rfl _ rfl b3 rfl P HR3.out ?_)
                      | (go_at_call 17; refine (chkK HCh.out _ HPP.out.at_ (HT.out.on HB.out)).mono ?_; rintro e w3 ⟨rfl, hb⟩; have HR3 := Lib.hid (HR3.out.later hb); have HB := Lib.hid (below_on HB.out hb); clear hb)
                      | (guard_target = Go.wpList _ _ _ ((⟨some _, .load _ (.tmp 52), _, _, _, _⟩ : Go.Oper) :: _) _ _; refine step_get rfl 5 _ rfl b3 (1 + 1) rfl Tryd.underlying5 rfl (.int .u8 z1) ?_ ?_; exact (HR3.out.cell (1 + 1) (by decide)).trans (by rw [HZ1.out]; rfl))
                      | (guard_target = Go.wpList _ _ _ ((⟨some _, .load _ (.tmp 58), _, _, _, _⟩ : Go.Oper) :: _) _ _; refine step_get rfl 5 _ rfl b3 (1 + 2) rfl Tryd.underlying5 rfl (.int .u8 z2) ?_ ?_; exact (HR3.out.cell (1 + 2) (by decide)).trans (by rw [HZ2.out]; rfl))
                      | (guard_target = Go.wpList _ _ _ ((⟨some _, .load _ (.tmp 64), _, _, _, _⟩ : Go.Oper) :: _) _ _; refine step_get rfl 5 _ rfl b3 (1 + 3) rfl Tryd.underlying5 rfl (.int .u8 z3) ?_ ?_; exact (HR3.out.cell (1 + 3) (by decide)).trans (by rw [HZ3.out]; rfl))
                      | (go_at_call 18; guard_target = Go.Calls _ _ #[_, Go.Value.int _ 2, _] _ _; refine (onK (s := 2) HO2.out _ HPP.out.at_ (HT.out.on HB.out)).mono ?_; rintro e w3 ⟨rfl, hb⟩; have HR3 := Lib.hid (HR3.out.later hb); have HB := Lib.hid (below_on HB.out hb); clear hb)
                      | (go_at_call 18; guard_target = Go.Calls _ _ #[_, Go.Value.int _ 3, _] _ _; refine (onK (s := 3) HO3.out _ HPP.out.at_ (HT.out.on HB.out)).mono ?_; rintro e w3 ⟨rfl, hb⟩; have HR3 := Lib.hid (HR3.out.later hb); have HB := Lib.hid (below_on HB.out hb); clear hb)
                      | (guard_target = Go.wpList _ _ _ ((⟨some _, .load _ (.tmp 81), _, _, _, _⟩ : Go.Oper) :: _) _ _; refine step_get rfl 5 _ rfl b3 (1 + 5) rfl Tryd.underlying5 rfl (.int .u8 z5) ?_ ?_; exact (HR3.out.cell (1 + 5) (by decide)).trans (by rw [HZ5.out]; rfl))
                      | (go_at_call 19; refine (bothK HBo.out _ HPP.out (HT.out.on HB.out)).mono ?_; rintro e w3 ⟨rfl, hb⟩; have HR3 := Lib.hid (HR3.out.later hb); have HB := Lib.hid (below_on HB.out hb); clear hb)
                      | (go_at_call 11; refine (cs_awake _ (HT.out.on HB.out)).mono ?_; rintro e w3 ⟨rfl, hb⟩; have HB := Lib.hid (below_on HB.out hb); clear hb))
                    go_ret
                    exact ⟨rfl, HB.out⟩
                  · skip
                    cases g_z6 : (z6 == 0)
                    · skip
                      have HBo := Lib.hid (show bothV (camL P) false false = true by have h := HBb.out; simpa [g_z1, g_z2, g_z3, g_z5, g_z6] using h)
                      go_wp2_with (first
                        | (guard_target = Go.wpList _ _ _ ((⟨some _, .load _ (.tmp 3), _, _, _, _⟩ : Go.Oper) :: _) _ _; refine step_load rfl _ rfl b3 rfl P HR3.out ?_)
                        | (go_at_call 17; refine (chkK HCh.out _ HPP.out.at_ (HT.out.on HB.out)).mono ?_; rintro e w3 ⟨rfl, hb⟩; have HR3 := Lib.hid (HR3.out.later hb); have HB := Lib.hid (below_on HB.out hb); clear hb)
                        | (guard_target = Go.wpList _ _ _ ((⟨some _, .load _ (.tmp 52), _, _, _, _⟩ : Go.Oper) :: _) _ _; refine step_get rfl 5 _ rfl b3 (1 + 1) rfl Tryd.underlying5 rfl (.int .u8 z1) ?_ ?_; exact (HR3.out.cell (1 + 1) (by decide)).trans (by rw [HZ1.out]; rfl))
                        | (guard_target = Go.wpList _ _ _ ((⟨some _, .load _ (.tmp 58), _, _, _, _⟩ : Go.Oper) :: _) _ _; refine step_get rfl 5 _ rfl b3 (1 + 2) rfl Tryd.underlying5 rfl (.int .u8 z2) ?_ ?_; exact (HR3.out.cell (1 + 2) (by decide)).trans (by rw [HZ2.out]; rfl))
                        | (guard_target = Go.wpList _ _ _ ((⟨some _, .load _ (.tmp 64), _, _, _, _⟩ : Go.Oper) :: _) _ _; refine step_get rfl 5 _ rfl b3 (1 + 3) rfl Tryd.underlying5 rfl (.int .u8 z3) ?_ ?_; exact (HR3.out.cell (1 + 3) (by decide)).trans (by rw [HZ3.out]; rfl))
                        | (go_at_call 18; guard_target = Go.Calls _ _ #[_, Go.Value.int _ 2, _] _ _; refine (onK (s := 2) HO2.out _ HPP.out.at_ (HT.out.on HB.out)).mono ?_; rintro e w3 ⟨rfl, hb⟩; have HR3 := Lib.hid (HR3.out.later hb); have HB := Lib.hid (below_on HB.out hb); clear hb)
                        | (go_at_call 18; guard_target = Go.Calls _ _ #[_, Go.Value.int _ 3, _] _ _; refine (onK (s := 3) HO3.out _ HPP.out.at_ (HT.out.on HB.out)).mono ?_; rintro e w3 ⟨rfl, hb⟩; have HR3 := Lib.hid (HR3.out.later hb); have HB := Lib.hid (below_on HB.out hb); clear hb)
                        | (guard_target = Go.wpList _ _ _ ((⟨some _, .load _ (.tmp 81), _, _, _, _⟩ : Go.Oper) :: _) _ _; refine step_get rfl 5 _ rfl b3 (1 + 5) rfl Tryd.underlying5 rfl (.int .u8 z5) ?_ ?_; exact (HR3.out.cell (1 + 5) (by decide)).trans (by rw [HZ5.out]; rfl))
                        | (guard_target = Go.wpList _ _ _ ((⟨some _, .load _ (.tmp 87), _, _, _, _⟩ : Go.Oper) :: _) _ _; refine step_get rfl 5 _ rfl b3 (1 + 6) rfl Tryd.underlying5 rfl (.int .u8 z6) ?_ ?_; exact (HR3.out.cell (1 + 6) (by decide)).trans (by rw [HZ6.out]; rfl))
                        | (go_at_call 19; refine (bothK HBo.out _ HPP.out (HT.out.on HB.out)).mono ?_; rintro e w3 ⟨rfl, hb⟩; have HR3 := Lib.hid (HR3.out.later hb); have HB := Lib.hid (below_on HB.out hb); clear hb)
                        | (go_at_call 11; refine (cs_awake _ (HT.out.on HB.out)).mono ?_; rintro e w3 ⟨rfl, hb⟩; have HB := Lib.hid (below_on HB.out hb); clear hb))
                      go_ret
                      exact ⟨rfl, HB.out⟩
                    · skip
                      cases x5
                      · skip
                        cases x6
                        · skip
                          have HBo := Lib.hid (show bothV (camL P) false true = true by have h := HBb.out; simpa [g_z1, g_z2, g_z3, g_z5, g_z6] using h)
                          go_wp2_with (first
                            | (guard_target = Go.wpList _ _ _ ((⟨some _, .load _ (.tmp 3), _, _, _, _⟩ : Go.Oper) :: _) _ _; refine step_load rfl _ rfl b3 rfl P HR3.out ?_)
                            | (go_at_call 17; refine (chkK HCh.out _ HPP.out.at_ (HT.out.on HB.out)).mono ?_; rintro e w3 ⟨rfl, hb⟩; have HR3 := Lib.hid (HR3.out.later hb); have HB := Lib.hid (below_on HB.out hb); clear hb)
                            | (guard_target = Go.wpList _ _ _ ((⟨some _, .load _ (.tmp 52), _, _, _, _⟩ : Go.Oper) :: _) _ _; refine step_get rfl 5 _ rfl b3 (1 + 1) rfl Tryd.underlying5 rfl (.int .u8 z1) ?_ ?_; exact (HR3.out.cell (1 + 1) (by decide)).trans (by rw [HZ1.out]; rfl))
                            | (guard_target = Go.wpList _ _ _ ((⟨some _, .load _ (.tmp 58), _, _, _, _⟩ : Go.Oper) :: _) _ _; refine step_get rfl 5 _ rfl b3 (1 + 2) rfl Tryd.underlying5 rfl (.int .u8 z2) ?_ ?_; exact (HR3.out.cell (1 + 2) (by decide)).trans (by rw [HZ2.out]; rfl))
                            | (guard_target = Go.wpList _ _ _ ((⟨some _, .load _ (.tmp 64), _, _, _, _⟩ : Go.Oper) :: _) _ _; refine step_get rfl 5 _ rfl b3 (1 + 3) rfl Tryd.underlying5 rfl (.int .u8 z3) ?_ ?_; exact (HR3.out.cell (1 + 3) (by decide)).trans (by rw [HZ3.out]; rfl))
                            | (go_at_call 18; guard_target = Go.Calls _ _ #[_, Go.Value.int _ 2, _] _ _; refine (onK (s := 2) HO2.out _ HPP.out.at_ (HT.out.on HB.out)).mono ?_; rintro e w3 ⟨rfl, hb⟩; have HR3 := Lib.hid (HR3.out.later hb); have HB := Lib.hid (below_on HB.out hb); clear hb)
                            | (go_at_call 18; guard_target = Go.Calls _ _ #[_, Go.Value.int _ 3, _] _ _; refine (onK (s := 3) HO3.out _ HPP.out.at_ (HT.out.on HB.out)).mono ?_; rintro e w3 ⟨rfl, hb⟩; have HR3 := Lib.hid (HR3.out.later hb); have HB := Lib.hid (below_on HB.out hb); clear hb)
                            | (guard_target = Go.wpList _ _ _ ((⟨some _, .load _ (.tmp 81), _, _, _, _⟩ : Go.Oper) :: _) _ _; refine step_get rfl 5 _ rfl b3 (1 + 5) rfl Tryd.underlying5 rfl (.int .u8 z5) ?_ ?_; exact (HR3.out.cell (1 + 5) (by decide)).trans (by rw [HZ5.out]; rfl))
                            | (guard_target = Go.wpList _ _ _ ((⟨some _, .load _ (.tmp 87), _, _, _, _⟩ : Go.Oper) :: _) _ _; refine step_get rfl 5 _ rfl b3 (1 + 6) rfl Tryd.underlying5 rfl (.int .u8 z6) ?_ ?_; exact (HR3.out.cell (1 + 6) (by decide)).trans (by rw [HZ6.out]; rfl))
                            | (go_at_call 18; guard_target = Go.Calls _ _ #[_, Go.Value.int _ 5, _] _ _; refine (onK (s := 5) HO5.out _ HPP.out.at_ (HT.out.on HB.out)).mono ?_; rintro e w3 ⟨rfl, hb⟩; have HR3 := Lib.hid (HR3.out.later hb); have HB := Lib.hid (below_on HB.out hb); clear hb)
                            | (go_at_call 18; guard_target = Go.Calls _ _ #[_, Go.Value.int _ 6, _] _ _; refine (onK (s := 6) HO6.out _ HPP.out.at_ (HT.out.on HB.out)).mono ?_; rintro e w3 ⟨rfl, hb⟩; have HR3 := Lib.hid (HR3.out.later hb); have HB := Lib.hid (below_on HB.out hb); clear hb)
                            | (go_at_call 19; refine (bothK HBo.out _ HPP.out (HT.out.on HB.out)).mono ?_; rintro e w3 ⟨rfl, hb⟩; have HR3 := Lib.hid (HR3.out.later hb); have HB := Lib.hid (below_on HB.out hb); clear hb)
                            | (go_at_call 11; refine (cs_awake _ (HT.out.on HB.out)).mono ?_; rintro e w3 ⟨rfl, hb⟩; have HB := Lib.hid (below_on HB.out hb); clear hb))
                          go_ret
                          exact ⟨rfl, HB.out⟩
                        · skip
                          have HBo := Lib.hid (show bothV (camL P) false false = true by have h := HBb.out; simpa [g_z1, g_z2, g_z3, g_z5, g_z6] using h)
                          go_wp2_with (first
                            | (guard_target = Go.wpList _ _ _ ((⟨some _, .load _ (.tmp 3), _, _, _, _⟩ : Go.Oper) :: _) _ _; refine step_load rfl _ rfl b3 rfl P HR3.out ?_)
                            | (go_at_call 17; refine (chkK HCh.out _ HPP.out.at_ (HT.out.on HB.out)).mono ?_; rintro e w3 ⟨rfl, hb⟩; have HR3 := Lib.hid (HR3.out.later hb); have HB := Lib.hid (below_on HB.out hb); clear hb)
                            | (guard_target = Go.wpList _ _ _ ((⟨some _, .load _ (.tmp 52), _, _, _, _⟩ : Go.Oper) :: _) _ _; refine step_get rfl 5 _ rfl b3 (1 + 1) rfl Tryd.underlying5 rfl (.int .u8 z1) ?_ ?_; exact (HR3.out.cell (1 + 1) (by decide)).trans (by rw [HZ1.out]; rfl))
                            | (guard_target = Go.wpList _ _ _ ((⟨some _, .load _ (.tmp 58), _, _, _, _⟩ : Go.Oper) :: _) _ _; refine step_get rfl 5 _ rfl b3 (1 + 2) rfl Tryd.underlying5 rfl (.int .u8 z2) ?_ ?_; exact (HR3.out.cell (1 + 2) (by decide)).trans (by rw [HZ2.out]; rfl))
                            | (guard_target = Go.wpList _ _ _ ((⟨some _, .load _ (.tmp 64), _, _, _, _⟩ : Go.Oper) :: _) _ _; refine step_get rfl 5 _ rfl b3 (1 + 3) rfl Tryd.underlying5 rfl (.int .u8 z3) ?_ ?_; exact (HR3.out.cell (1 + 3) (by decide)).trans (by rw [HZ3.out]; rfl))
                            | (go_at_call 18; guard_target = Go.Calls _ _ #[_, Go.Value.int _ 2, _] _ _; refine (onK (s := 2) HO2.out _ HPP.out.at_ (HT.out.on HB.out)).mono ?_; rintro e w3 ⟨rfl, hb⟩; have HR3 := Lib.hid (HR3.out.later hb); have HB := Lib.hid (below_on HB.out hb); clear hb)
                            | (go_at_call 18; guard_target = Go.Calls _ _ #[_, Go.Value.int _ 3, _] _ _; refine (onK (s := 3) HO3.out _ HPP.out.at_ (HT.out.on HB.out)).mono ?_; rintro e w3 ⟨rfl, hb⟩; have HR3 := Lib.hid (HR3.out.later hb); have HB := Lib.hid (below_on HB.out hb); clear hb)
                            | (guard_target = Go.wpList _ _ _ ((⟨some _, .load _ (.tmp 81), _, _, _, _⟩ : Go.Oper) :: _) _ _; refine step_get rfl 5 _ rfl b3 (1 + 5) rfl Tryd.underlying5 rfl (.int .u8 z5) ?_ ?_; exact (HR3.out.cell (1 + 5) (by decide)).trans (by rw [HZ5.out]; rfl))
                            | (guard_target = Go.wpList _ _ _ ((⟨some _, .load _ (.tmp 87), _, _, _, _⟩ : Go.Oper) :: _) _ _; refine step_get rfl 5 _ rfl b3 (1 + 6) rfl Tryd.underlying5 rfl (.int .u8 z6) ?_ ?_; exact (HR3.out.cell (1 + 6) (by decide)).trans (by rw [HZ6.out]; rfl))
                            | (go_at_call 18; guard_target = Go.Calls _ _ #[_, Go.Value.int _ 5, _] _ _; refine (onK (s := 5) HO5.out _ HPP.out.at_ (HT.out.on HB.out)).mono ?_; rintro e w3 ⟨rfl, hb⟩; have HR3 := Lib.hid (HR3.out.later hb); have HB := Lib.hid (below_on HB.out hb); clear hb)
                            | (go_at_call 18; guard_target = Go.Calls _ _ #[_, Go.Value.int _ 6, _] _ _; refine (onK (s := 6) HO6.out _ HPP.out.at_ (HT.out.on HB.out)).mono ?_; rintro e w3 ⟨rfl, hb⟩; have HR3 := Lib.hid (HR3.out.later hb); have HB := Lib.hid (below_on HB.out hb); clear hb)
                            | (go_at_call 19; refine (bothK HBo.out _ HPP.out (HT.out.on HB.out)).mono ?_; rintro e w3 ⟨rfl, hb⟩; have HR3 := Lib.hid (HR3.out.later hb); have HB := Lib.hid (below_on HB.out hb); clear hb)
                            | (go_at_call 11; refine (cs_awake _ (HT.out.on HB.out)).mono ?_; rintro e w3 ⟨rfl, hb⟩; have HB := Lib.hid (below_on HB.out hb); clear hb))
                          go_ret
                          exact ⟨rfl, HB.out⟩
                      · skip
                        have HBo := Lib.hid (show bothV (camL P) false false = true by have h := HBb.out; simpa [g_z1, g_z2, g_z3, g_z5, g_z6] using h)
                        go_wp2_with (first
                          | (guard_target = Go.wpList _ _ _ ((⟨some _, .load _ (.tmp 3), _, _, _, _⟩ : Go.Oper) :: _) _ _; refine step_load rfl _ rfl b3 rfl P HR3.out ?_)
                          | (go_at_call 17; refine (chkK HCh.out _ HPP.out.at_ (HT.out.on HB.out)).mono ?_; rintro e w3 ⟨rfl, hb⟩; have HR3 := Lib.hid (HR3.out.later hb); have HB := Lib.hid (below_on HB.out hb); clear hb)
                          | (guard_target = Go.wpList _ _ _ ((⟨some _, .load _ (.tmp 52), _, _, _, _⟩ : Go.Oper) :: _) _ _; refine step_get rfl 5 _ rfl b3 (1 + 1) rfl Tryd.underlying5 rfl (.int .u8 z1) ?_ ?_; exact (HR3.out.cell (1 + 1) (by decide)).trans (by rw [HZ1.out]; rfl))
                          | (guard_target = Go.wpList _ _ _ ((⟨some _, .load _ (.tmp 58), _, _, _, _⟩ : Go.Oper) :: _) _ _; refine step_get rfl 5 _ rfl b3 (1 + 2) rfl Tryd.underlying5 rfl (.int .u8 z2) ?_ ?_; exact (HR3.out.cell (1 + 2) (by decide)).trans (by rw [HZ2.out]; rfl))
                          | (guard_target = Go.wpList _ _ _ ((⟨some _, .load _ (.tmp 64), _, _, _, _⟩ : Go.Oper) :: _) _ _; refine step_get rfl 5 _ rfl b3 (1 + 3) rfl Tryd.underlying5 rfl (.int .u8 z3) ?_ ?_; exact (HR3.out.cell (1 + 3) (by decide)).trans (by rw [HZ3.out]; rfl))
                          | (go_at_call 18; guard_target = Go.Calls _ _ #[_, Go.Value.int _ 2, _] _ _; refine (onK (s := 2) HO2.out _ HPP.out.at_ (HT.out.on HB.out)).mono ?_; rintro e w3 ⟨rfl, hb⟩; have HR3 := Lib.hid (HR3.out.later hb); have HB := Lib.hid (below_on HB.out hb); clear hb)
                          | (go_at_call 18; guard_target = Go.Calls _ _ #[_, Go.Value.int _ 3, _] _ _; refine (onK (s := 3) HO3.out _ HPP.out.at_ (HT.out.on HB.out)).mono ?_; rintro e w3 ⟨rfl, hb⟩; have HR3 := Lib.hid (HR3.out.later hb); have HB := Lib.hid (below_on HB.out hb); clear hb)
                          | (guard_target = Go.wpList _ _ _ ((⟨some _, .load _ (.tmp 81), _, _, _, _⟩ : Go.Oper) :: _) _ _; refine step_get rfl 5 _ rfl b3 (1 + 5) rfl Tryd.underlying5 rfl (.int .u8 z5) ?_ ?_; exact (HR3.out.cell (1 + 5) (by decide)).trans (by rw [HZ5.out]; rfl))
                          | (guard_target = Go.wpList _ _ _ ((⟨some _, .load _ (.tmp 87), _, _, _, _⟩ : Go.Oper) :: _) _ _; refine step_get rfl 5 _ rfl b3 (1 + 6) rfl Tryd.underlying5 rfl (.int .u8 z6) ?_ ?_; exact (HR3.out.cell (1 + 6) (by decide)).trans (by rw [HZ6.out]; rfl))
                          | (go_at_call 18; guard_target = Go.Calls _ _ #[_, Go.Value.int _ 5, _] _ _; refine (onK (s := 5) HO5.out _ HPP.out.at_ (HT.out.on HB.out)).mono ?_; rintro e w3 ⟨rfl, hb⟩; have HR3 := Lib.hid (HR3.out.later hb); have HB := Lib.hid (below_on HB.out hb); clear hb)
                          | (go_at_call 19; refine (bothK HBo.out _ HPP.out (HT.out.on HB.out)).mono ?_; rintro e w3 ⟨rfl, hb⟩; have HR3 := Lib.hid (HR3.out.later hb); have HB := Lib.hid (below_on HB.out hb); clear hb)
                          | (go_at_call 11; refine (cs_awake _ (HT.out.on HB.out)).mono ?_; rintro e w3 ⟨rfl, hb⟩; have HB := Lib.hid (below_on HB.out hb); clear hb))
                        go_ret
                        exact ⟨rfl, HB.out⟩
              · skip
                cases g_z5 : (z5 == 0)
                · skip
                  have HBo := Lib.hid (show bothV (camL P) false false = true by have h := HBb.out; simpa [g_z1, g_z2, g_z3, g_z5] using h)
                  go_wp2_with (first
                    | (guard_target = Go.wpList _ _ _ ((⟨some _, .load _ (.tmp 3), _, _, _, _⟩ : Go.Oper) :: _) _ _; refine step_load rfl _ rfl b3 rfl P HR3.out ?_)
                    | (go_at_call 17; refine (chkK HCh.out _ HPP.out.at_ (HT.out.on HB.out)).mono ?_; rintro e w3 ⟨rfl, hb⟩; have HR3 := Lib.hid (HR3.out.later hb); have HB := Lib.hid (below_on HB.out hb); clear hb)
                    | (guard_target = Go.wpList _ _ _ ((⟨some _, .load _ (.tmp 52), _, _, _, _⟩ : Go.Oper) :: _) _ _; refine step_get rfl 5 _ rfl b3 (1 + 1) rfl Tryd.underlying5 rfl (.int .u8 z1) ?_ ?_; exact (HR3.out.cell (1 + 1) (by decide)).trans (by rw [HZ1.out]; rfl))
                    | (guard_target = Go.wpList _ _ _ ((⟨some _, .load _ (.tmp 58), _, _, _, _⟩ : Go.Oper) :: _) _ _; refine step_get rfl 5 _ rfl b3 (1 + 2) rfl Tryd.underlying5 rfl (.int .u8 z2) ?_ ?_; exact (HR3.out.cell (1 + 2) (by decide)).trans (by rw [HZ2.out]; rfl))
                    | (guard_target = Go.wpList _ _ _ ((⟨some _, .load _ (.tmp 64), _, _, _, _⟩ : Go.Oper) :: _) _ _; refine step_get rfl 5 _ rfl b3 (1 + 3) rfl Tryd.underlying5 rfl (.int .u8 z3) ?_ ?_; exact (HR3.out.cell (1 + 3) (by decide)).trans (by rw [HZ3.out]; rfl))
                    | (go_at_call 18; guard_target = Go.Calls _ _ #[_, Go.Value.int _ 2, _] _ _; refine (onK (s := 2) HO2.out _ HPP.out.at_ (HT.out.on HB.out)).mono ?_; rintro e w3 ⟨rfl, hb⟩; have HR3 := Lib.hid (HR3.out.later hb); have HB := Lib.hid (below_on HB.out hb); clear hb)
                    | (guard_target = Go.wpList _ _ _ ((⟨some _, .load _ (.tmp 81), _, _, _, _⟩ : Go.Oper) :: _) _ _; refine step_get rfl 5 _ rfl b3 (1 + 5) rfl Tryd.underlying5 rfl (.int .u8 z5) ?_ ?_; exact (HR3.out.cell (1 + 5) (by decide)).trans (by rw [HZ5.out]; rfl))
                    | (go_at_call 19; refine (bothK HBo.out _ HPP.out (HT.out.on HB.out)).mono ?_; rintro e w3 ⟨rfl, hb⟩; have HR3 := Lib.hid (HR3.out.later hb); have HB := Lib.hid (below_on HB.out hb); clear hb)
                    | (go_at_call 11; refine (cs_awake _ (HT.out.on HB.out)).mono ?_; rintro e w3 ⟨rfl, hb⟩; have HB := Lib.hid (below_on HB.out hb); clear hb))
                  go_ret
                  exact ⟨rfl, HB.out⟩
                · skip
                  cases g_z6 : (z6 == 0)
                  · skip
                    have HBo := Lib.hid (show bothV (camL P) false false = true by have h := HBb.out; simpa [g_z1, g_z2, g_z3, g_z5, g_z6] using h)
                    go_wp2_with (first
                      | (guard_target = Go.wpList _ _ _ ((⟨some _, .load _ (.tmp 3), _, _, _, _⟩ : Go.Oper) :: _) _ _; refine step_load rfl _ rfl b3 rfl P HR3.out ?_)
                      | (go_at_call 17; refine (chkK HCh.out _ HPP.out.at_ (HT.out.on HB.out)).mono ?_; rintro e w3 ⟨rfl, hb⟩; have HR3 := Lib.hid (HR3.out.later hb); have HB := Lib.hid (below_on HB.out hb); clear hb)
                      | (guard_target = Go.wpList _ _ _ ((⟨some _, .load _ (.tmp 52), _, _, _, _⟩ : Go.Oper) :: _) _ _; refine step_get rfl 5 _ rfl b3 (1 + 1) rfl Tryd.underlying5 rfl (.int .u8 z1) ?_ ?_; exact (HR3.out.cell (1 + 1) (by decide)).trans (by rw [HZ1.out]; rfl))
                      | (guard_target = Go.wpList _ _ _ ((⟨some _, .load _ (.tmp 58), _, _, _, _⟩ : Go.Oper) :: _) _ _; refine step_get rfl 5 _ rfl b3 (1 + 2) rfl Tryd.underlying5 rfl (.int .u8 z2) ?_ ?_; exact (HR3.out.cell (1 + 2) (by decide)).trans (by rw [HZ2.out]; rfl))
                      | (guard_target = Go.wpList _ _ _ ((⟨some _, .load _ (.tmp 64), _, _, _, _⟩ : Go.Oper) :: _) _ _; refine step_get rfl 5 _ rfl b3 (1 + 3) rfl Tryd.underlying5 rfl (.int .u8 z3) ?_ ?_; exact (HR3.out.cell (1 + 3) (by decide)).trans (by rw [HZ3.out]; rfl))
                      | (go_at_call 18; guard_target = Go.Calls _ _ #[_, Go.Value.int _ 2, _] _ _; refine (onK (s := 2) HO2.out _ HPP.out.at_ (HT.out.on HB.out)).mono ?_; rintro e w3 ⟨rfl, hb⟩; have HR3 := Lib.hid (HR3.out.later hb); have HB := Lib.hid (below_on HB.out hb); clear hb)
                      | (guard_target = Go.wpList _ _ _ ((⟨some _, .load _ (.tmp 81), _, _, _, _⟩ : Go.Oper) :: _) _ _; refine step_get rfl 5 _ rfl b3 (1 + 5) rfl Tryd.underlying5 rfl (.int .u8 z5) ?_ ?_; exact (HR3.out.cell (1 + 5) (by decide)).trans (by rw [HZ5.out]; rfl))
                      | (guard_target = Go.wpList _ _ _ ((⟨some _, .load _ (.tmp 87), _, _, _, _⟩ : Go.Oper) :: _) _ _; refine step_get rfl 5 _ rfl b3 (1 + 6) rfl Tryd.underlying5 rfl (.int .u8 z6) ?_ ?_; exact (HR3.out.cell (1 + 6) (by decide)).trans (by rw [HZ6.out]; rfl))
                      | (go_at_call 19; refine (bothK HBo.out _ HPP.out (HT.out.on HB.out)).mono ?_; rintro e w3 ⟨rfl, hb⟩; have HR3 := Lib.hid (HR3.out.later hb); have HB := Lib.hid (below_on HB.out hb); clear hb)
                      | (go_at_call 11; refine (cs_awake _ (HT.out.on HB.out)).mono ?_; rintro e w3 ⟨rfl, hb⟩; have HB := Lib.hid (below_on HB.out hb); clear hb))
                    go_ret
                    exact ⟨rfl, HB.out⟩
                  · skip
                    cases x5
                    · skip
                      cases x6
                      · skip
                        have HBo := Lib.hid (show bothV (camL P) false true = true by have h := HBb.out; simpa [g_z1, g_z2, g_z3, g_z5, g_z6] using h)
                        go_wp2_with (first
                          | (guard_target = Go.wpList _ _ _ ((⟨some _, .load _ (.tmp 3), _, _, _, _⟩ : Go.Oper) :: _) _ _; refine step_load rfl _ rfl b3 rfl P HR3.out ?_)
                          | (go_at_call 17; refine (chkK HCh.out _ HPP.out.at_ (HT.out.on HB.out)).mono ?_; rintro e w3 ⟨rfl, hb⟩; have HR3 := Lib.hid (HR3.out.later hb); have HB := Lib.hid (below_on HB.out hb); clear hb)
                          | (guard_target = Go.wpList _ _ _ ((⟨some _, .load _ (.tmp 52), _, _, _, _⟩ : Go.Oper) :: _) _ _; refine step_get rfl 5 _ rfl b3 (1 + 1) rfl Tryd.underlying5 rfl (.int .u8 z1) ?_ ?_; exact (HR3.out.cell (1 + 1) (by decide)).trans (by rw [HZ1.out]; rfl))
                          | (guard_target = Go.wpList _ _ _ ((⟨some _, .load _ (.tmp 58), _, _, _, _⟩ : Go.Oper) :: _) _ _; refine step_get rfl 5 _ rfl b3 (1 + 2) rfl Tryd.underlying5 rfl (.int .u8 z2) ?_ ?_; exact (HR3.out.cell (1 + 2) (by decide)).trans (by rw [HZ2.out]; rfl))
                          | (guard_target = Go.wpList _ _ _ ((⟨some _, .load _ (.tmp 64), _, _, _, _⟩ : Go.Oper) :: _) _ _; refine step_get rfl 5 _ rfl b3 (1 + 3) rfl Tryd.underlying5 rfl (.int .u8 z3) ?_ ?_; exact (HR3.out.cell (1 + 3) (by decide)).trans (by rw [HZ3.out]; rfl))
                          | (go_at_call 18; guard_target = Go.Calls _ _ #[_, Go.Value.int _ 2, _] _ _; refine (onK (s := 2) HO2.out _ HPP.out.at_ (HT.out.on HB.out)).mono ?_; rintro e w3 ⟨rfl, hb⟩; have HR3 := Lib.hid (HR3.out.later hb); have HB := Lib.hid (below_on HB.out hb); clear hb)
                          | (guard_target = Go.wpList _ _ _ ((⟨some _, .load _ (.tmp 81), _, _, _, _⟩ : Go.Oper) :: _) _ _; refine step_get rfl 5 _ rfl b3 (1 + 5) rfl Tryd.underlying5 rfl (.int .u8 z5) ?_ ?_; exact (HR3.out.cell (1 + 5) (by decide)).trans (by rw [HZ5.out]; rfl))
                          | (guard_target = Go.wpList _ _ _ ((⟨some _, .load _ (.tmp 87), _, _, _, _⟩ : Go.Oper) :: _) _ _; refine step_get rfl 5 _ rfl b3 (1 + 6) rfl Tryd.underlying5 rfl (.int .u8 z6) ?_ ?_; exact (HR3.out.cell (1 + 6) (by decide)).trans (by rw [HZ6.out]; rfl))
                          | (go_at_call 18; guard_target = Go.Calls _ _ #[_, Go.Value.int _ 5, _] _ _; refine (onK (s := 5) HO5.out _ HPP.out.at_ (HT.out.on HB.out)).mono ?_; rintro e w3 ⟨rfl, hb⟩; have HR3 := Lib.hid (HR3.out.later hb); have HB := Lib.hid (below_on HB.out hb); clear hb)
                          | (go_at_call 18; guard_target = Go.Calls _ _ #[_, Go.Value.int _ 6, _] _ _; refine (onK (s := 6) HO6.out _ HPP.out.at_ (HT.out.on HB.out)).mono ?_; rintro e w3 ⟨rfl, hb⟩; have HR3 := Lib.hid (HR3.out.later hb); have HB := Lib.hid (below_on HB.out hb); clear hb)
                          | (go_at_call 19; refine (bothK HBo.out _ HPP.out (HT.out.on HB.out)).mono ?_; rintro e w3 ⟨rfl, hb⟩; have HR3 := Lib.hid (HR3.out.later hb); have HB := Lib.hid (below_on HB.out hb); clear hb)
                          | (go_at_call 11; refine (cs_awake _ (HT.out.on HB.out)).mono ?_; rintro e w3 ⟨rfl, hb⟩; have HB := Lib.hid (below_on HB.out hb); clear hb))
                        go_ret
                        exact ⟨rfl, HB.out⟩
                      · skip
                        have HBo := Lib.hid (show bothV (camL P) false false = true by have h := HBb.out; simpa [g_z1, g_z2, g_z3, g_z5, g_z6] using h)
                        go_wp2_with (first
                          | (guard_target = Go.wpList _ _ _ ((⟨some _, .load _ (.tmp 3), _, _, _, _⟩ : Go.Oper) :: _) _ _; refine step_load rfl _ rfl b3 rfl P HR3.out ?_)
                          | (go_at_call 17; refine (chkK HCh.out _ HPP.out.at_ (HT.out.on HB.out)).mono ?_; rintro e w3 ⟨rfl, hb⟩; have HR3 := Lib.hid (HR3.out.later hb); have HB := Lib.hid (below_on HB.out hb); clear hb)
                          | (guard_target = Go.wpList _ _ _ ((⟨some _, .load _ (.tmp 52), _, _, _, _⟩ : Go.Oper) :: _) _ _; refine step_get rfl 5 _ rfl b3 (1 + 1) rfl Tryd.underlying5 rfl (.int .u8 z1) ?_ ?_; exact (HR3.out.cell (1 + 1) (by decide)).trans (by rw [HZ1.out]; rfl))
                          | (guard_target = Go.wpList _ _ _ ((⟨some _, .load _ (.tmp 58), _, _, _, _⟩ : Go.Oper) :: _) _ _; refine step_get rfl 5 _ rfl b3 (1 + 2) rfl Tryd.underlying5 rfl (.int .u8 z2) ?_ ?_; exact (HR3.out.cell (1 + 2) (by decide)).trans (by rw [HZ2.out]; rfl))
                          | (guard_target = Go.wpList _ _ _ ((⟨some _, .load _ (.tmp 64), _, _, _, _⟩ : Go.Oper) :: _) _ _; refine step_get rfl 5 _ rfl b3 (1 + 3) rfl Tryd.underlying5 rfl (.int .u8 z3) ?_ ?_; exact (HR3.out.cell (1 + 3) (by decide)).trans (by rw [HZ3.out]; rfl))
                          | (go_at_call 18; guard_target = Go.Calls _ _ #[_, Go.Value.int _ 2, _] _ _; refine (onK (s := 2) HO2.out _ HPP.out.at_ (HT.out.on HB.out)).mono ?_; rintro e w3 ⟨rfl, hb⟩; have HR3 := Lib.hid (HR3.out.later hb); have HB := Lib.hid (below_on HB.out hb); clear hb)
                          | (guard_target = Go.wpList _ _ _ ((⟨some _, .load _ (.tmp 81), _, _, _, _⟩ : Go.Oper) :: _) _ _; refine step_get rfl 5 _ rfl b3 (1 + 5) rfl Tryd.underlying5 rfl (.int .u8 z5) ?_ ?_; exact (HR3.out.cell (1 + 5) (by decide)).trans (by rw [HZ5.out]; rfl))
                          | (guard_target = Go.wpList _ _ _ ((⟨some _, .load _ (.tmp 87), _, _, _, _⟩ : Go.Oper) :: _) _ _; refine step_get rfl 5 _ rfl b3 (1 + 6) rfl Tryd.underlying5 rfl (.int .u8 z6) ?_ ?_; exact (HR3.out.cell (1 + 6) (by decide)).trans (by rw [HZ6.out]; rfl))
                          | (go_at_call 18; guard_target = Go.Calls _ _ #[_, Go.Value.int _ 5, _] _ _; refine (onK (s := 5) HO5.out _ HPP.out.at_ (HT.out.on HB.out)).mono ?_; rintro e w3 ⟨rfl, hb⟩; have HR3 := Lib.hid (HR3.out.later hb); have HB := Lib.hid (below_on HB.out hb); clear hb)
                          | (go_at_call 18; guard_target = Go.Calls _ _ #[_, Go.Value.int _ 6, _] _ _; refine (onK (s := 6) HO6.out _ HPP.out.at_ (HT.out.on HB.out)).mono ?_; rintro e w3 ⟨rfl, hb⟩; have HR3 := Lib.hid (HR3.out.later hb); have HB := Lib.hid (below_on HB.out hb); clear hb)
                          | (go_at_call 19; refine (bothK HBo.out _ HPP.out (HT.out.on HB.out)).mono ?_; rintro e w3 ⟨rfl, hb⟩; have HR3 := Lib.hid (HR3.out.later hb); have HB := Lib.hid (below_on HB.out hb); clear hb)
                          | (go_at_call 11; refine (cs_awake _ (HT.out.on HB.out)).mono ?_; rintro e w3 ⟨rfl, hb⟩; have HB := Lib.hid (below_on HB.out hb); clear hb))
                        go_ret
                        exact ⟨rfl, HB.out⟩
                    · skip
                      have HBo := Lib.hid (show bothV (camL P) false false = true by have h := HBb.out; simpa [g_z1, g_z2, g_z3, g_z5, g_z6] using h)
                      go_wp2_with (first
                        | (guard_target = Go.wpList _ _ _ ((⟨some _, .load _ (.tmp 3), _, _, _, _⟩ : Go.Oper) :: _) _ _; refine step_load rfl _ rfl b3 rfl P HR3.out ?_)
                        | (go_at_call 17; refine (chkK HCh.out _ HPP.out.at_ (HT.out.on HB.out)).mono ?_; rintro e w3 ⟨rfl, hb⟩; have HR3 := Lib.hid (HR3.out.later hb); have HB := Lib.hid (below_on HB.out hb); clear hb)
                        | (guard_target = Go.wpList _ _ _ ((⟨some _, .load _ (.tmp 52), _, _, _, _⟩ : Go.Oper) :: _) _ _; refine step_get rfl 5 _ rfl b3 (1 + 1) rfl Tryd.underlying5 rfl (.int .u8 z1) ?_ ?_; exact (HR3.out.cell (1 + 1) (by decide)).trans (by rw [HZ1.out]; rfl))
                        | (guard_target = Go.wpList _ _ _ ((⟨some _, .load _ (.tmp 58), _, _, _, _⟩ : Go.Oper) :: _) _ _; refine step_get rfl 5 _ rfl b3 (1 + 2) rfl Tryd.underlying5 rfl (.int .u8 z2) ?_ ?_; exact (HR3.out.cell (1 + 2) (by decide)).trans (by rw [HZ2.out]; rfl))
                        | (guard_target = Go.wpList _ _ _ ((⟨some _, .load _ (.tmp 64), _, _, _, _⟩ : Go.Oper) :: _) _ _; refine step_get rfl 5 _ rfl b3 (1 + 3) rfl Tryd.underlying5 rfl (.int .u8 z3) ?_ ?_; exact (HR3.out.cell (1 + 3) (by decide)).trans (by rw [HZ3.out]; rfl))
                        | (go_at_call 18; guard_target = Go.Calls _ _ #[_, Go.Value.int _ 2, _] _ _; refine (onK (s := 2) HO2.out _ HPP.out.at_ (HT.out.on HB.out)).mono ?_; rintro e w3 ⟨rfl, hb⟩; have HR3 := Lib.hid (HR3.out.later hb); have HB := Lib.hid (below_on HB.out hb); clear hb)
                        | (guard_target = Go.wpList _ _ _ ((⟨some _, .load _ (.tmp 81), _, _, _, _⟩ : Go.Oper) :: _) _ _; refine step_get rfl 5 _ rfl b3 (1 + 5) rfl Tryd.underlying5 rfl (.int .u8 z5) ?_ ?_; exact (HR3.out.cell (1 + 5) (by decide)).trans (by rw [HZ5.out]; rfl))
                        | (guard_target = Go.wpList _ _ _ ((⟨some _, .load _ (.tmp 87), _, _, _, _⟩ : Go.Oper) :: _) _ _; refine step_get rfl 5 _ rfl b3 (1 + 6) rfl Tryd.underlying5 rfl (.int .u8 z6) ?_ ?_; exact (HR3.out.cell (1 + 6) (by decide)).trans (by rw [HZ6.out]; rfl))
                        | (go_at_call 18; guard_target = Go.Calls _ _ #[_, Go.Value.int _ 5, _] _ _; refine (onK (s := 5) HO5.out _ HPP.out.at_ (HT.out.on HB.out)).mono ?_; rintro e w3 ⟨rfl, hb⟩; have HR3 := Lib.hid (HR3.out.later hb); have HB := Lib.hid (below_on HB.out hb); clear hb)
                        | (go_at_call 19; refine (bothK HBo.out _ HPP.out (HT.out.on HB.out)).mono ?_; rintro e w3 ⟨rfl, hb⟩; have HR3 := Lib.hid (HR3.out.later hb); have HB := Lib.hid (below_on HB.out hb); clear hb)
                        | (go_at_call 11; refine (cs_awake _ (HT.out.on HB.out)).mono ?_; rintro e w3 ⟨rfl, hb⟩; have HB := Lib.hid (below_on HB.out hb); clear hb))
                      go_ret
                      exact ⟨rfl, HB.out⟩
      · skip
        have HBo := Lib.hid (show bothV (camL P) false false = true by have h := HBb.out; simpa [Bool.true_and] using h)
        go_wp2_with (first
          | (guard_target = Go.wpList _ _ _ ((⟨some _, .load _ (.tmp 3), _, _, _, _⟩ : Go.Oper) :: _) _ _; refine step_load rfl _ rfl b3 rfl P HR3.out ?_)
          | (go_at_call 17; refine (chkK HCh.out _ HPP.out.at_ (HT.out.on HB.out)).mono ?_; rintro e w3 ⟨rfl, hb⟩; have HR3 := Lib.hid (HR3.out.later hb); have HB := Lib.hid (below_on HB.out hb); clear hb)
          | (go_at_call 19; refine (bothK HBo.out _ HPP.out (HT.out.on HB.out)).mono ?_; rintro e w3 ⟨rfl, hb⟩; have HR3 := Lib.hid (HR3.out.later hb); have HB := Lib.hid (below_on HB.out hb); clear hb)
          | (go_at_call 11; refine (cs_awake _ (HT.out.on HB.out)).mono ?_; rintro e w3 ⟨rfl, hb⟩; have HB := Lib.hid (below_on HB.out hb); clear hb))
        go_ret
        exact ⟨rfl, HB.out⟩
end Go.Proofs.YtmlmilmfnioheaaDoor.castleChess
