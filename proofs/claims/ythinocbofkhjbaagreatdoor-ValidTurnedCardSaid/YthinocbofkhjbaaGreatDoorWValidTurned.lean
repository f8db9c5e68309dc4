/-
  The walk of ValidTurned.
-/
import Derived.Test.YthinocbofkhjbaaGreatDoorVaI
import Derived.Test.YthinocbofkhjbaaGreatDoorVaU
import Derived.IntWalk
import Derived.WalkKit
import Derived.OpenShut
namespace Go.Proofs.YthinocbofkhjbaaGreatDoor.validTurned
open Go.RowKit
set_option linter.unusedVariables false
set_option linter.unusedSimpArgs false
set_option maxRecDepth 100000 in
set_option maxHeartbeats 1000000 in
theorem turned_horde (p : Nat → Int) (w : World) (hp : WfP p) (hD : TabDb w) (hL : TabLead w) (hT : TabVar w) (hK : TabKn w) (hU : TabUs w) (h7 : p 0 = 7) : Calls Tryz.prog 5 #[.agg (posA p)] w fun e w' => e = .returned (.bool true) ∧ Below w.heap.size w w' := by
  have HP := Lib.hid (FitP.of hp)
  have HV := Lib.hid (vt_fit (FitP.of hp))
  have HT := Lib.hid hT
  have HK := Lib.hid hK
  have HD := Lib.hid hD
  have HL := Lib.hid hL
  have HU := Lib.hid hU
  have HB := Lib.hid (Below.refl w.heap.size w)
  have g7 : (p 0 == 7) = true := by rw [h7]; rfl
  clear hp hT hK hD hL hU h7
  go_enter Tryz.func5, Tryz.ntmps5
  go_wp2_with (first
    | (refine step_box rfl _ rfl p rfl ?_; intro b1 wn N R; have HB := Lib.hid (HB.out.trans (N.below.mono HB.out.size)); have HR1 := Lib.hid R; clear N R)
    | (refine step_get rfl 5 _ rfl b1 (0) rfl Tryz.underlying5 rfl (.int .u8 (p 0)) ?_ ?_; exact HR1.out.cell (0) (by decide))
    | (go_at_call 9; refine (va_awake _ (HT.out.on HB.out) (HK.out.on HB.out) (HD.out.next HB.out) (HL.out.next HB.out) (HU.out.on HB.out)).mono ?_; rintro e w3 ⟨rfl, hb⟩; have HB := Lib.hid (below_on HB.out hb); clear hb))
  go_ret
  exact ⟨rfl, HB.out⟩
set_option maxRecDepth 100000 in
set_option maxHeartbeats 1000000 in
theorem turned_neg (p : Nat → Int) (w : World) (hp : WfP p) (hD : TabDb w) (hL : TabLead w) (hT : TabVar w) (hK : TabKn w) (hU : TabUs w) (h7 : p 0 ≠ 7) (s : Int) (n : Nat) (hs : p 83 = s) (hn : p 65 = (n : Int)) (hnl : n < W64) (h : s < 0) : Calls Tryz.prog 5 #[.agg (posA p)] w fun e w' => e = .returned (.bool true) ∧ Below w.heap.size w w' := by
  have HP := Lib.hid (FitP.of hp)
  have HV := Lib.hid (vt_fit (FitP.of hp))
  have HT := Lib.hid hT
  have HK := Lib.hid hK
  have HD := Lib.hid hD
  have HL := Lib.hid hL
  have HU := Lib.hid hU
  have HB := Lib.hid (Below.refl w.heap.size w)
  have g7 : (p 0 == 7) = false := beq_eq_false_iff_ne.2 h7
  have H7 := Lib.hid h7
  have HSs := Lib.hid hs
  have HN := Lib.hid hn
  have HNl := Lib.hid hnl
  have g0 : decide (0 ≤ s) = false := decide_eq_false (by omega)
  have HVp := Lib.hid (show vtP p 83 = p 83 from vt_pass_no (by rw [hs]; omega))
  clear h
  clear hp hT hK hD hL hU h7 hs hn hnl
  go_enter Tryz.func5, Tryz.ntmps5
  go_wp2_with (first
    | (refine step_box rfl _ rfl p rfl ?_; intro b1 wn N R; have HB := Lib.hid (HB.out.trans (N.below.mono HB.out.size)); have HR1 := Lib.hid R; clear N R)
    | (refine step_get rfl 5 _ rfl b1 (0) rfl Tryz.underlying5 rfl (.int .u8 (p 0)) ?_ ?_; exact HR1.out.cell (0) (by decide))
    | (refine step_load rfl _ rfl b1 rfl p HR1.out ?_)
    | (refine step_alloc rfl rfl ?_; intro b3 wn N R; have HG3 := Lib.hid (show w.heap.size ≤ b3 by have := N.at_; have := HB.out.size; omega); have HD13 := Lib.hid (show b1 ≠ b3 by have := N.at_; have := HR1.out.lt; omega); have HR1 := Lib.hid (HR1.out.later N.below); have HR3 := Lib.hid R; have HB := Lib.hid (below_on HB.out N.below); clear N R)
    | (refine step_store rfl _ _ rfl b3 rfl zeroP p rfl ?_ ?_; exact HR3.out; intro w2 U R; have HR1 := Lib.hid (HR1.out.apart U HD13.out); have HB := Lib.hid (HB.out.trans (U.below HG3.out)); have HR3 := Lib.hid R; clear U R))
  go_loopw [4] (fun i wr => ∃ k : Nat, k ≤ 64 ∧ i = .int .i64 (k : Int) ∧ Below w.heap.size w wr ∧ Row wr b1 p ∧ Row wr b3 (txP p k)) (fun i _ => 64 - (intOf i).toNat)
  case atStart => exact ⟨0, by omega, rfl, HB.out, HR1.out, vrow_eq HR3.out (txP_zero p)⟩
  case round =>
    clear HB HR1 HR3
    obtain ⟨k, hk, rfl, hb9, hr1, hr5⟩ := hrel
    have HB := Lib.hid hb9
    have HR1 := Lib.hid hr1
    have HR3 := Lib.hid hr5
    clear hb9 hr1 hr5
    by_cases hlt : k < 64
    · have gk : decide ((k : Int) < 64) = true := decide_eq_true (by omega)
      have l1 : (k : Int) ≤ 63 := by omega
      have Hlt := Lib.hid hlt
      have hbx := bx_fl k hlt
      have hfl := flT_lt hlt
      have Hfl := Lib.hid hfl
      have l2 : ((flT k : Nat) : Int) ≤ 63 := by omega
      obtain ⟨x, HX⟩ : ∃ x, Hid (p (1 + k) = x) := ⟨_, Lib.hid rfl⟩
      have hx := HP.out.bd k hlt
      rw [HX.out] at hx
      obtain ⟨x0, x255⟩ := hx
      have Hx0 := Lib.hid x0
      have HS2 : Hid (∀ y, txX x = y → posA (upd (txP p k) (1 + flT k) y) = posA (txP p (k + 1))) := Lib.hid fun y hy => txP_succ p hlt (by rw [HX.out]; exact hy)
      obtain ⟨f, HFl⟩ : ∃ f, Hid (flT k = f) := ⟨_, Lib.hid rfl⟩
      rw [HFl.out] at hbx l2 Hfl HS2
      have hcell := HR1.out.cell (1 + k) (by omega)
      rw [HX.out, kAt_board (by omega) hlt] at hcell
      clear hlt hfl
      by_cases gx : 0 < x
      · have g1 : decide (0 < x) = true := decide_eq_true gx
        by_cases gy : x < 16
        · have g2 : decide (x < 16) = true := decide_eq_true gy
          have HTr := Lib.hid (show txX x = (x + 8) % 16 by unfold txX; rw [if_pos ⟨gx, gy⟩])
          go_wp2_with (refine step_cell rfl 5 _ _ rfl b3 (1 + f) rfl .u8 ((x + 8) % 16) rfl _ HR3.out (by have := Hfl.out; omega) (kAt_board (by omega) Hfl.out) size5 ?_; intro w2 U R; have HR1 := Lib.hid (HR1.out.apart U HD13.out); have HB := Lib.hid (HB.out.trans (U.below HG3.out)); have HR3 := Lib.hid (vrow_eq R (HS2.out _ HTr.out)); clear U R)
          go_roundw
          case rel => exact ⟨k + 1, by have := Hlt.out; omega, by go_num, HB.out, HR1.out, HR3.out⟩
          case measure => simp [intOf]; have := Hlt.out; omega
        · have g2 : decide (x < 16) = false := decide_eq_false gy
          have HTr := Lib.hid (show txX x = x by unfold txX; rw [if_neg (fun g => gy g.2)])
          go_wp2_with (refine step_cell rfl 5 _ _ rfl b3 (1 + f) rfl .u8 (x) rfl _ HR3.out (by have := Hfl.out; omega) (kAt_board (by omega) Hfl.out) size5 ?_; intro w2 U R; have HR1 := Lib.hid (HR1.out.apart U HD13.out); have HB := Lib.hid (HB.out.trans (U.below HG3.out)); have HR3 := Lib.hid (vrow_eq R (HS2.out _ HTr.out)); clear U R)
          go_roundw
          case rel => exact ⟨k + 1, by have := Hlt.out; omega, by go_num, HB.out, HR1.out, HR3.out⟩
          case measure => simp [intOf]; have := Hlt.out; omega
      · have g1 : decide (0 < x) = false := decide_eq_false gx
        have HTr := Lib.hid (show txX x = x by unfold txX; rw [if_neg (fun g => gx g.1)])
        go_wp2_with (refine step_cell rfl 5 _ _ rfl b3 (1 + f) rfl .u8 (x) rfl _ HR3.out (by have := Hfl.out; omega) (kAt_board (by omega) Hfl.out) size5 ?_; intro w2 U R; have HR1 := Lib.hid (HR1.out.apart U HD13.out); have HB := Lib.hid (HB.out.trans (U.below HG3.out)); have HR3 := Lib.hid (vrow_eq R (HS2.out _ HTr.out)); clear U R)
        go_roundw
        case rel => exact ⟨k + 1, by have := Hlt.out; omega, by go_num, HB.out, HR1.out, HR3.out⟩
        case measure => simp [intOf]; have := Hlt.out; omega
    · obtain rfl : k = 64 := by omega
      clear hlt hk
      have HR3 := Lib.hid (vrow_eq HR3.out (done_bd p))
      go_wp2_with (first
        | (refine step_get rfl 5 _ rfl b1 78 rfl Tryz.underlying5 rfl (.int .u8 (p 78)) ?_ ?_; exact HR1.out.cell 78 (by decide))
        | (refine step_cell rfl 5 _ _ rfl b3 (78) rfl .u8 (bits .xor .u8 (p 78) 1) rfl _ HR3.out (by decide) rfl size5 ?_; intro w2 U R; have HR1 := Lib.hid (HR1.out.apart U HD13.out); have HB := Lib.hid (HB.out.trans (U.below HG3.out)); have HR3 := Lib.hid (vrow_eq R (done_upd _ p 78 rfl)); clear U R)
        | (refine step_read rfl 27 _ rfl b1 81 2 rfl p HR1.out (by decide) _ Tryz.underlying27 rfl (by kernel_rfl) ?_)
        | (refine step_read rfl 27 _ rfl b1 79 2 rfl p HR1.out (by decide) _ Tryz.underlying27 rfl (by kernel_rfl) ?_)
        | (refine step_build rfl 28 _ rfl (partL (vtP p) 79 4).toArray (by kernel_rfl) ?_)
        | (refine step_write rfl 28 _ _ rfl b3 79 4 rfl _ (vtP p) rfl HR3.out (by decide) (by kernel_rfl) ?_; intro w2 U R; have HR1 := Lib.hid (HR1.out.apart U HD13.out); have HB := Lib.hid (HB.out.trans (U.below HG3.out)); have HR3 := Lib.hid (vrow_eq R (done_over _ p 79 4)); clear U R)
        | (refine step_get rfl 5 _ rfl b1 (85) rfl Tryz.underlying5 rfl (.int .u8 (p 85)) ?_ ?_; exact HR1.out.cell (85) (by decide))
        | (refine step_get rfl 5 _ rfl b1 (84) rfl Tryz.underlying5 rfl (.int .u8 (p 84)) ?_ ?_; exact HR1.out.cell (84) (by decide))
        | (refine step_build rfl 29 _ rfl (partL (vtP p) 84 2).toArray (by kernel_rfl) ?_)
        | (refine step_write rfl 29 _ _ rfl b3 84 2 rfl _ (vtP p) rfl HR3.out (by decide) (by kernel_rfl) ?_; intro w2 U R; have HR1 := Lib.hid (HR1.out.apart U HD13.out); have HB := Lib.hid (HB.out.trans (U.below HG3.out)); have HR3 := Lib.hid (vrow_eq R (done_over _ p 84 2)); clear U R)
        | (refine step_read rfl 24 _ rfl b1 72 6 rfl p HR1.out (by decide) _ Tryz.underlying24 rfl (by kernel_rfl) ?_)
        | (refine step_read rfl 24 _ rfl b1 66 6 rfl p HR1.out (by decide) _ Tryz.underlying24 rfl (by kernel_rfl) ?_)
        | (refine step_build rfl 25 _ rfl (partL (vtP p) 66 12).toArray (by kernel_rfl) ?_)
        | (refine step_write rfl 25 _ _ rfl b3 66 12 rfl _ (vtP p) rfl HR3.out (by decide) (by kernel_rfl) ?_; intro w2 U R; have HR1 := Lib.hid (HR1.out.apart U HD13.out); have HB := Lib.hid (HB.out.trans (U.below HG3.out)); have HR3 := Lib.hid (vrow_eq R (done_over _ p 66 12)); clear U R)
        | (refine step_get rfl 26 _ rfl b1 83 rfl Tryz.underlying26 rfl (.int .i8 s) ?_ ?_; exact (HR1.out.cell 83 (by decide)).trans (by rw [HSs.out]; rfl))
        | (refine step_cell rfl 23 _ _ rfl b3 (65) rfl .u64 (0) rfl _ HR3.out (by decide) rfl size5 ?_; intro w2 U R; have HR1 := Lib.hid (HR1.out.apart U HD13.out); have HB := Lib.hid (HB.out.trans (U.below HG3.out)); have HR3 := Lib.hid (vrow_eq R (vpr_begin_no p n HVp.out)); clear U R))
      go_loopw [6] (fun i wr => ∃ r : Nat, r ≤ 8 ∧ i = .int .u64 (r : Int) ∧ Below w.heap.size w wr ∧ Row wr b1 p ∧ Row wr b3 (upd (midP p) 65 ((prR n r : Nat) : Int))) (fun i _ => 8 - (intOf i).toNat)
      case atStart => exact ⟨0, by omega, rfl, HB.out, HR1.out, HR3.out⟩
      case round =>
        clear HB HR1 HR3
        obtain ⟨r, hr, rfl, hb9, hr1, hr5⟩ := hrel
        have HB := Lib.hid hb9
        have HR1 := Lib.hid hr1
        have HR3 := Lib.hid hr5
        clear hb9 hr1 hr5
        by_cases hlt : r < 8
        · have gk : decide ((r : Int) < 8) = true := decide_eq_true (by omega)
          have Hlt := Lib.hid hlt
          obtain ⟨a8, ha8⟩ : ∃ a, a = 8 * r := ⟨_, rfl⟩
          obtain ⟨b8, hb8⟩ : ∃ b, b = 56 - 8 * r := ⟨_, rfl⟩
          obtain ⟨m, hm⟩ : ∃ m, m = (n / 2 ^ (8 * r) &&& 255) := ⟨_, rfl⟩
          obtain ⟨k, hk⟩ : ∃ k, k = m * 2 ^ (56 - 8 * r) := ⟨_, rfl⟩
          have hk64 : k < W64 := by rw [hk, hm]; exact vpr_one_lt hlt
          have e1 : IntKind.u64.wrap (8 * (r : Int)) = (a8 : Int) := by rw [(u8_all r hlt).1, ha8]
          have e2 : IntKind.u64.wrap (56 - (a8 : Int)) = (b8 : Int) := by rw [ha8, (u8_all r hlt).2, hb8]
          have e3 : bits .and .u64 ((n : Int) / 2 ^ min a8 64) 255 = (m : Int) := by
            rw [Nat.min_eq_left (show a8 ≤ 64 by omega), ha8, show ((n : Int) / 2 ^ (8 * r)) = ((n / 2 ^ (8 * r) : Nat) : Int) from cast_div_pow _ _, show (255 : Int) = ((255 : Nat) : Int) from rfl, and_nat (Nat.lt_of_le_of_lt (Nat.div_le_self _ _) HNl.out) (by decide), hm]
          have e4 : IntKind.u64.wrap ((m : Int) * 2 ^ min b8 64) = (k : Int) := by
            rw [Nat.min_eq_left (show b8 ≤ 64 by omega), hb8, show ((m : Int) * 2 ^ (56 - 8 * r)) = ((m * 2 ^ (56 - 8 * r) : Nat) : Int) by simp, ← hk]
            exact wrap_u64_nat hk64
          have e5 : bits .or .u64 ((prR n r : Nat) : Int) (k : Int) = ((prR n (r + 1) : Nat) : Int) := by
            rw [or_nat (prR_lt _ _) hk64, hk, hm, prR_succ hlt]
          have g8 : decide ((a8 : Int) < 0) = false := decide_eq_false (by omega)
          have g9 : decide ((b8 : Int) < 0) = false := decide_eq_false (by omega)
          clear ha8 hb8 hm hk hk64
          clear hlt
          go_wp2_with (first
            | (refine step_get rfl 23 _ rfl b3 65 rfl Tryz.underlying23 rfl (.int .u64 ((prR n r : Nat) : Int)) ?_ ?_; exact (HR3.out.cell 65 (by decide)).trans (by rw [upd_same]; rfl))
            | (refine step_get rfl 23 _ rfl b1 65 rfl Tryz.underlying23 rfl (.int .u64 (n : Int)) ?_ ?_; exact (HR1.out.cell 65 (by decide)).trans (by rw [HN.out]; rfl))
            | (refine step_cell rfl 23 _ _ rfl b3 65 rfl .u64 ((prR n (r + 1) : Nat) : Int) rfl _ HR3.out (by decide) rfl size5 ?_; intro w2 U R; have HR1 := Lib.hid (HR1.out.apart U HD13.out); have HB := Lib.hid (HB.out.trans (U.below HG3.out)); have HR3 := Lib.hid (vrow_eq R (vpr_next p _ _)); clear U R))
          go_roundw
          case rel => exact ⟨r + 1, by have := Hlt.out; omega, by go_num, HB.out, HR1.out, HR3.out⟩
          case measure => simp [intOf]; have := Hlt.out; omega
        · obtain rfl : r = 8 := by omega
          clear hlt hr
          have HR3 := Lib.hid (vrow_eq HR3.out (vpr_done p HNl.out HN.out))
          go_wp2_with fail
          go_loopw [7] (fun i wr => ∃ k : Nat, k ≤ 64 ∧ i = .int .i64 (k : Int) ∧ (∀ i, i < k → p (1 + i) ≠ 8) ∧ Below w.heap.size w wr ∧ Row wr b1 p ∧ Row wr b3 (vtP p)) (fun i _ => 64 - (intOf i).toNat)
          case atStart => exact ⟨0, by omega, rfl, fun i hi => by omega, HB.out, HR1.out, HR3.out⟩
          case round =>
            clear HB HR1 HR3
            obtain ⟨k, hk, rfl, h8, hb9, hr1, hr5⟩ := hrel
            have HB := Lib.hid hb9
            have HR1 := Lib.hid hr1
            have HR3 := Lib.hid hr5
            have H8 := Lib.hid h8
            clear hb9 hr1 hr5 h8
            by_cases hlt : k < 64
            · have gk : decide ((k : Int) < 64) = true := decide_eq_true (by omega)
              have l1 : (k : Int) ≤ 63 := by omega
              have Hlt := Lib.hid hlt
              obtain ⟨x, HX⟩ : ∃ x, Hid (p (1 + k) = x) := ⟨_, Lib.hid rfl⟩
              have hcell := HR1.out.cell (1 + k) (by omega)
              rw [HX.out, kAt_board (by omega) hlt] at hcell
              clear hlt
              cases gx : (x == 8)
              · go_wp2_with fail
                go_roundw
                case rel => exact ⟨k + 1, by have := Hlt.out; omega, by go_num, fun i hi => by (by_cases e : i = k; { subst e; rw [HX.out]; exact beq_eq_false_iff_ne.1 gx }; { exact H8.out i (by omega) }), HB.out, HR1.out, HR3.out⟩
                case measure => simp [intOf]; have := Hlt.out; omega
              · have HE2 := Lib.hid (show hdZ (wrL p) = 2 from vt_bad Hlt.out (by rw [HX.out]; exact eq_of_beq gx))
  
                go_wp2_with (first
                  | (refine step_load rfl _ rfl b1 rfl p HR1.out ?_)
                  | (go_at_call 8; refine (vcheck_k HE2.out _ HP.out (HT.out.on HB.out) (HD.out.next HB.out) (HL.out.next HB.out) (HU.out.on HB.out)).mono ?_; rintro e w3 ⟨rfl, hb⟩; have HB := Lib.hid (below_on HB.out hb); clear hb)
                  | (go_at_call 9; refine (va_awake _ (HT.out.on HB.out) (HK.out.on HB.out) (HD.out.next HB.out) (HL.out.next HB.out) (HU.out.on HB.out)).mono ?_; rintro e w3 ⟨rfl, hb⟩; have HB := Lib.hid (below_on HB.out hb); clear hb))
                go_ret
                exact ⟨rfl, HB.out⟩
            · obtain rfl : k = 64 := by omega
              clear hlt hk
              obtain ⟨z, HZ⟩ : ∃ z, Hid (hdZ (wrL p) = z) := ⟨_, Lib.hid rfl⟩
              have HZ2 := Lib.hid (show hdZ (wrL (vtP p)) = z from (vt_first HP.out H7.out H8.out).trans HZ.out)
              go_wp2_with fail
              refine late_begin 9 (by kernel_rfl) ?_
              refine ltk 0 (by kernel_rfl) (fun _ _ d _ _ h => by cases d <;> exact h) (fun o ho => ?_)
              simp only [qa, qb, qc, qd] at ho; subst ho
              refine ⟨_, Or.inl ⟨by kernel_rfl, fun w' hl => Or.inl (run_load _ rfl _ rfl (p) (HR1.out.later hl))⟩, ?_⟩
              simp only [Act.put, pa, pb, pc]
              refine ltk 2 (by kernel_rfl) (fun _ _ d _ _ h => by cases d <;> exact h) (fun o ho => ?_)
              simp only [qa, qb, qc, qd] at ho; subst ho
              refine ⟨_, Or.inl ⟨by kernel_rfl, fun w' hl => Or.inl (run_load _ rfl _ rfl ((vtP p)) (HR3.out.later hl))⟩, ?_⟩
              simp only [Act.put, pa, pb, pc]
              refine late_one 1 (by kernel_rfl) (by kernel_rfl) (fun o ho => ?_)
              simp only [qa, qb, qc, qd] at ho; subst ho
              refine ⟨by kernel_rfl, fun wn hl K hK => ?_⟩
              have HR1 := Lib.hid (HR1.out.later hl); have HR3 := Lib.hid (HR3.out.later hl); have HB := Lib.hid (below_on HB.out hl); clear hl
              refine wp_enter _ _ (by go_simp; exact ⟨rfl, rfl⟩) ?_
              refine (vcheck_k HZ.out _ HP.out (HT.out.on HB.out) (HD.out.next HB.out) (HL.out.next HB.out) (HU.out.on HB.out)).mono ?_; rintro e wm ⟨rfl, hb⟩; refine ⟨_, rfl, ?_⟩
              refine hK.out _ _ hb ?_
              have HR1 := Lib.hid (HR1.out.later hb); have HR3 := Lib.hid (HR3.out.later hb); have HB := Lib.hid (below_on HB.out hb); clear hb
              clear hK K
              simp only [Act.put, pa, pb, pc]
              refine late_one 3 (by kernel_rfl) (by kernel_rfl) (fun o ho => ?_)
              simp only [qa, qb, qc, qd] at ho; subst ho
              refine ⟨by kernel_rfl, fun wn hl K hK => ?_⟩
              have HR1 := Lib.hid (HR1.out.later hl); have HR3 := Lib.hid (HR3.out.later hl); have HB := Lib.hid (below_on HB.out hl); clear hl
              refine wp_enter _ _ (by go_simp; exact ⟨rfl, rfl⟩) ?_
              refine (vcheck_k HZ2.out _ HV.out (HT.out.on HB.out) (HD.out.next HB.out) (HL.out.next HB.out) (HU.out.on HB.out)).mono ?_; rintro e wm ⟨rfl, hb⟩; refine ⟨_, rfl, ?_⟩
              refine hK.out _ _ hb ?_
              have HR1 := Lib.hid (HR1.out.later hb); have HR3 := Lib.hid (HR3.out.later hb); have HB := Lib.hid (below_on HB.out hb); clear hb
              clear hK K
              simp only [Act.put, pa, pb, pc]
              refine ltk 4 (by kernel_rfl) (fun _ _ d _ _ h => by cases d <;> exact h) (fun o ho => ?_)
              simp only [qa, qb, qc, qd] at ho; subst ho
              apply Exists.intro
              refine ⟨Or.inl ⟨by kernel_rfl, fun w' hl => Or.inl ?_⟩, ?_⟩
              · (go_simp; try with_reducible rfl)
              simp only [Act.put, pa, pb, pc]
              refine ltk 5 (by kernel_rfl) (fun _ _ d _ _ h => by cases d <;> exact h) (fun o ho => ?_)
              simp only [qa, qb, qc, qd] at ho; subst ho
              apply Exists.intro
              refine ⟨Or.inl ⟨by kernel_rfl, fun w' hl => Or.inl ?_⟩, ?_⟩
              · (go_simp; try with_reducible rfl)
              simp only [Act.put, pa, pb, pc]
              refine late_one 6 (by kernel_rfl) (by kernel_rfl) (fun o ho => ?_)
              simp only [qa, qb, qc, qd] at ho; subst ho
              refine ⟨by kernel_rfl, fun wn hl K hK => ?_⟩
              have HR1 := Lib.hid (HR1.out.later hl); have HR3 := Lib.hid (HR3.out.later hl); have HB := Lib.hid (below_on HB.out hl); clear hl
              refine wp_enter _ _ (by go_simp; exact ⟨rfl, rfl⟩) ?_
              refine (va_awake _ (HT.out.on HB.out) (HK.out.on HB.out) (HD.out.next HB.out) (HL.out.next HB.out) (HU.out.on HB.out)).mono ?_; rintro e wm ⟨rfl, hb⟩; refine ⟨_, rfl, ?_⟩
              refine hK.out _ _ hb ?_
              have HR1 := Lib.hid (HR1.out.later hb); have HR3 := Lib.hid (HR3.out.later hb); have HB := Lib.hid (below_on HB.out hb); clear hb
              clear hK K
              simp only [Act.put, pa, pb, pc]
              refine ltk 7 (by kernel_rfl) (fun _ _ d _ _ h => by cases d <;> exact h) (fun o ho => ?_)
              simp only [qa, qb, qc, qd] at ho; subst ho
              apply Exists.intro
              refine ⟨Or.inl ⟨by kernel_rfl, fun w' hl => Or.inl ?_⟩, ?_⟩
              · (go_simp; try with_reducible rfl)
              simp only [Act.put, pa, pb, pc]
              refine ltk 8 (by kernel_rfl) (fun _ _ d _ _ h => by cases d <;> exact h) (fun o ho => ?_)
              simp only [qa, qb, qc, qd] at ho; subst ho
              apply Exists.intro
              refine ⟨Or.inl ⟨by kernel_rfl, fun w' hl => Or.inl ?_⟩, ?_⟩
              · (go_simp; try with_reducible rfl)
              simp only [Act.put, pa, pb, pc]
              refine late_end (by kernel_rfl) (fun wn hl => ?_)
              have HR1 := Lib.hid (HR1.out.later hl); have HR3 := Lib.hid (HR3.out.later hl); have HB := Lib.hid (below_on HB.out hl); clear hl
              go_wp2_with fail
              go_ret
              exact ⟨rfl, HB.out⟩
set_option maxRecDepth 100000 in
set_option maxHeartbeats 1000000 in
theorem turned_far (p : Nat → Int) (w : World) (hp : WfP p) (hD : TabDb w) (hL : TabLead w) (hT : TabVar w) (hK : TabKn w) (hU : TabUs w) (h7 : p 0 ≠ 7) (s : Int) (n : Nat) (hs : p 83 = s) (hn : p 65 = (n : Int)) (hnl : n < W64) (h0 : 0 ≤ s) (h : 64 ≤ s) : Calls Tryz.prog 5 #[.agg (posA p)] w fun e w' => e = .returned (.bool true) ∧ Below w.heap.size w w' := by
  have HP := Lib.hid (FitP.of hp)
  have HV := Lib.hid (vt_fit (FitP.of hp))
  have HT := Lib.hid hT
  have HK := Lib.hid hK
  have HD := Lib.hid hD
  have HL := Lib.hid hL
  have HU := Lib.hid hU
  have HB := Lib.hid (Below.refl w.heap.size w)
  have g7 : (p 0 == 7) = false := beq_eq_false_iff_ne.2 h7
  have H7 := Lib.hid h7
  have HSs := Lib.hid hs
  have HN := Lib.hid hn
  have HNl := Lib.hid hnl
  have g0 : decide (0 ≤ s) = true := decide_eq_true h0
  have g1 : decide (s < 64) = false := decide_eq_false (by omega)
  have HVp := Lib.hid (show vtP p 83 = p 83 from vt_pass_no (by rw [hs]; omega))
  clear h0 h
  clear hp hT hK hD hL hU h7 hs hn hnl
  go_enter Tryz.func5, Tryz.ntmps5
  go_wp2_with (first
    | (refine step_box rfl _ rfl p rfl ?_; intro b1 wn N R; have HB := Lib.hid (HB.out.trans (N.below.mono HB.out.size)); have HR1 := Lib.hid R; clear N R)
    | (refine step_get rfl 5 _ rfl b1 (0) rfl Tryz.underlying5 rfl (.int .u8 (p 0)) ?_ ?_; exact HR1.out.cell (0) (by decide))
    | (refine step_load rfl _ rfl b1 rfl p HR1.out ?_)
    | (refine step_alloc rfl rfl ?_; intro b3 wn N R; have HG3 := Lib.hid (show w.heap.size ≤ b3 by have := N.at_; have := HB.out.size; omega); have HD13 := Lib.hid (show b1 ≠ b3 by have := N.at_; have := HR1.out.lt; omega); have HR1 := Lib.hid (HR1.out.later N.below); have HR3 := Lib.hid R; have HB := Lib.hid (below_on HB.out N.below); clear N R)
    | (refine step_store rfl _ _ rfl b3 rfl zeroP p rfl ?_ ?_; exact HR3.out; intro w2 U R; have HR1 := Lib.hid (HR1.out.apart U HD13.out); have HB := Lib.hid (HB.out.trans (U.below HG3.out)); have HR3 := Lib.hid R; clear U R))
  go_loopw [4] (fun i wr => ∃ k : Nat, k ≤ 64 ∧ i = .int .i64 (k : Int) ∧ Below w.heap.size w wr ∧ Row wr b1 p ∧ Row wr b3 (txP p k)) (fun i _ => 64 - (intOf i).toNat)
  case atStart => exact ⟨0, by omega, rfl, HB.out, HR1.out, vrow_eq HR3.out (txP_zero p)⟩
  case round =>
    clear HB HR1 HR3
    obtain ⟨k, hk, rfl, hb9, hr1, hr5⟩ := hrel
    have HB := Lib.hid hb9
    have HR1 := Lib.hid hr1
    have HR3 := Lib.hid hr5
    clear hb9 hr1 hr5
    by_cases hlt : k < 64
    · have gk : decide ((k : Int) < 64) = true := decide_eq_true (by omega)
      have l1 : (k : Int) ≤ 63 := by omega
      have Hlt := Lib.hid hlt
      have hbx := bx_fl k hlt
      have hfl := flT_lt hlt
      have Hfl := Lib.hid hfl
      have l2 : ((flT k : Nat) : Int) ≤ 63 := by omega
      obtain ⟨x, HX⟩ : ∃ x, Hid (p (1 + k) = x) := ⟨_, Lib.hid rfl⟩
      have hx := HP.out.bd k hlt
      rw [HX.out] at hx
      obtain ⟨x0, x255⟩ := hx
      have Hx0 := Lib.hid x0
      have HS2 : Hid (∀ y, txX x = y → posA (upd (txP p k) (1 + flT k) y) = posA (txP p (k + 1))) := Lib.hid fun y hy => txP_succ p hlt (by rw [HX.out]; exact hy)
      obtain ⟨f, HFl⟩ : ∃ f, Hid (flT k = f) := ⟨_, Lib.hid rfl⟩
      rw [HFl.out] at hbx l2 Hfl HS2
      have hcell := HR1.out.cell (1 + k) (by omega)
      rw [HX.out, kAt_board (by omega) hlt] at hcell
      clear hlt hfl
      by_cases gx : 0 < x
      · have g1 : decide (0 < x) = true := decide_eq_true gx
        by_cases gy : x < 16
        · have g2 : decide (x < 16) = true := decide_eq_true gy
          have HTr := Lib.hid (show txX x = (x + 8) % 16 by unfold txX; rw [if_pos ⟨gx, gy⟩])
          go_wp2_with (refine step_cell rfl 5 _ _ rfl b3 (1 + f) rfl .u8 ((x + 8) % 16) rfl _ HR3.out (by have := Hfl.out; omega) (kAt_board (by omega) Hfl.out) size5 ?_; intro w2 U R; have HR1 := Lib.hid (HR1.out.apart U HD13.out); have HB := Lib.hid (HB.out.trans (U.below HG3.out)); have HR3 := Lib.hid (vrow_eq R (HS2.out _ HTr.out)); clear U R)
          go_roundw
          case rel => exact ⟨k + 1, by have := Hlt.out; omega, by go_num, HB.out, HR1.out, HR3.out⟩
          case measure => simp [intOf]; have := Hlt.out; omega
        · have g2 : decide (x < 16) = false := decide_eq_false gy
          have HTr := Lib.hid (show txX x = x by unfold txX; rw [if_neg (fun g => gy g.2)])
          go_wp2_with (refine step_cell rfl 5 _ _ rfl b3 (1 + f) rfl .u8 (x) rfl _ HR3.out (by have := Hfl.out; omega) (kAt_board (by omega) Hfl.out) size5 ?_; intro w2 U R; have HR1 := Lib.hid (HR1.out.apart U HD13.out); have HB := Lib.hid (HB.out.trans (U.below HG3.out)); have HR3 := Lib.hid (vrow_eq R (HS2.out _ HTr.out)); clear U R)
          go_roundw
          case rel => exact ⟨k + 1, by have := Hlt.out; omega, by go_num, HB.out, HR1.out, HR3.out⟩
          case measure => simp [intOf]; have := Hlt.out; omega
      · have g1 : decide (0 < x) = false := decide_eq_false gx
        have HTr := Lib.hid (show txX x = x by unfold txX; rw [if_neg (fun g => gx g.1)])
        go_wp2_with (refine step_cell rfl 5 _ _ rfl b3 (1 + f) rfl .u8 (x) rfl _ HR3.out (by have := Hfl.out; omega) (kAt_board (by omega) Hfl.out) size5 ?_; intro w2 U R; have HR1 := Lib.hid (HR1.out.apart U HD13.out); have HB := Lib.hid (HB.out.trans (U.below HG3.out)); have HR3 := Lib.hid (vrow_eq R (HS2.out _ HTr.out)); clear U R)
        go_roundw
        case rel => exact ⟨k + 1, by have := Hlt.out; omega, by go_num, HB.out, HR1.out, HR3.out⟩
        case measure => simp [intOf]; have := Hlt.out; omega
    · obtain rfl : k = 64 := by omega
      clear hlt hk
      have HR3 := Lib.hid (vrow_eq HR3.out (done_bd p))
      go_wp2_with (first
        | (refine step_get rfl 5 _ rfl b1 78 rfl Tryz.underlying5 rfl (.int .u8 (p 78)) ?_ ?_; exact HR1.out.cell 78 (by decide))
        | (refine step_cell rfl 5 _ _ rfl b3 (78) rfl .u8 (bits .xor .u8 (p 78) 1) rfl _ HR3.out (by decide) rfl size5 ?_; intro w2 U R; have HR1 := Lib.hid (HR1.out.apart U HD13.out); have HB := Lib.hid (HB.out.trans (U.below HG3.out)); have HR3 := Lib.hid (vrow_eq R (done_upd _ p 78 rfl)); clear U R)
        | (refine step_read rfl 27 _ rfl b1 81 2 rfl p HR1.out (by decide) _ Tryz.underlying27 rfl (by kernel_rfl) ?_)
        | (refine step_read rfl 27 _ rfl b1 79 2 rfl p HR1.out (by decide) _ Tryz.underlying27 rfl (by kernel_rfl) ?_)
        | (refine step_build rfl 28 _ rfl (partL (vtP p) 79 4).toArray (by kernel_rfl) ?_)
        | (refine step_write rfl 28 _ _ rfl b3 79 4 rfl _ (vtP p) rfl HR3.out (by decide) (by kernel_rfl) ?_; intro w2 U R; have HR1 := Lib.hid (HR1.out.apart U HD13.out); have HB := Lib.hid (HB.out.trans (U.below HG3.out)); have HR3 := Lib.hid (vrow_eq R (done_over _ p 79 4)); clear U R)
        | (refine step_get rfl 5 _ rfl b1 (85) rfl Tryz.underlying5 rfl (.int .u8 (p 85)) ?_ ?_; exact HR1.out.cell (85) (by decide))
        | (refine step_get rfl 5 _ rfl b1 (84) rfl Tryz.underlying5 rfl (.int .u8 (p 84)) ?_ ?_; exact HR1.out.cell (84) (by decide))
        | (refine step_build rfl 29 _ rfl (partL (vtP p) 84 2).toArray (by kernel_rfl) ?_)
        | (refine step_write rfl 29 _ _ rfl b3 84 2 rfl _ (vtP p) rfl HR3.out (by decide) (by kernel_rfl) ?_; intro w2 U R; have HR1 := Lib.hid (HR1.out.apart U HD13.out); have HB := Lib.hid (HB.out.trans (U.below HG3.out)); have HR3 := Lib.hid (vrow_eq R (done_over _ p 84 2)); clear U R)
        | (refine step_read rfl 24 _ rfl b1 72 6 rfl p HR1.out (by decide) _ Tryz.underlying24 rfl (by kernel_rfl) ?_)
        | (refine step_read rfl 24 _ rfl b1 66 6 rfl p HR1.out (by decide) _ Tryz.underlying24 rfl (by kernel_rfl) ?_)
        | (refine step_build rfl 25 _ rfl (partL (vtP p) 66 12).toArray (by kernel_rfl) ?_)
        | (refine step_write rfl 25 _ _ rfl b3 66 12 rfl _ (vtP p) rfl HR3.out (by decide) (by kernel_rfl) ?_; intro w2 U R; have HR1 := Lib.hid (HR1.out.apart U HD13.out); have HB := Lib.hid (HB.out.trans (U.below HG3.out)); have HR3 := Lib.hid (vrow_eq R (done_over _ p 66 12)); clear U R)
        | (refine step_get rfl 26 _ rfl b1 83 rfl Tryz.underlying26 rfl (.int .i8 s) ?_ ?_; exact (HR1.out.cell 83 (by decide)).trans (by rw [HSs.out]; rfl))
        | (refine step_cell rfl 23 _ _ rfl b3 (65) rfl .u64 (0) rfl _ HR3.out (by decide) rfl size5 ?_; intro w2 U R; have HR1 := Lib.hid (HR1.out.apart U HD13.out); have HB := Lib.hid (HB.out.trans (U.below HG3.out)); have HR3 := Lib.hid (vrow_eq R (vpr_begin_no p n HVp.out)); clear U R))
      go_loopw [6] (fun i wr => ∃ r : Nat, r ≤ 8 ∧ i = .int .u64 (r : Int) ∧ Below w.heap.size w wr ∧ Row wr b1 p ∧ Row wr b3 (upd (midP p) 65 ((prR n r : Nat) : Int))) (fun i _ => 8 - (intOf i).toNat)
      case atStart => exact ⟨0, by omega, rfl, HB.out, HR1.out, HR3.out⟩
      case round =>
        clear HB HR1 HR3
        obtain ⟨r, hr, rfl, hb9, hr1, hr5⟩ := hrel
        have HB := Lib.hid hb9
        have HR1 := Lib.hid hr1
        have HR3 := Lib.hid hr5
        clear hb9 hr1 hr5
        by_cases hlt : r < 8
        · have gk : decide ((r : Int) < 8) = true := decide_eq_true (by omega)
          have Hlt := Lib.hid hlt
          obtain ⟨a8, ha8⟩ : ∃ a, a = 8 * r := ⟨_, rfl⟩
          obtain ⟨b8, hb8⟩ : ∃ b, b = 56 - 8 * r := ⟨_, rfl⟩
          obtain ⟨m, hm⟩ : ∃ m, m = (n / 2 ^ (8 * r) &&& 255) := ⟨_, rfl⟩
          obtain ⟨k, hk⟩ : ∃ k, k = m * 2 ^ (56 - 8 * r) := ⟨_, rfl⟩
          have hk64 : k < W64 := by rw [hk, hm]; exact vpr_one_lt hlt
          have e1 : IntKind.u64.wrap (8 * (r : Int)) = (a8 : Int) := by rw [(u8_all r hlt).1, ha8]
          have e2 : IntKind.u64.wrap (56 - (a8 : Int)) = (b8 : Int) := by rw [ha8, (u8_all r hlt).2, hb8]
          have e3 : bits .and .u64 ((n : Int) / 2 ^ min a8 64) 255 = (m : Int) := by
            rw [Nat.min_eq_left (show a8 ≤ 64 by omega), ha8, show ((n : Int) / 2 ^ (8 * r)) = ((n / 2 ^ (8 * r) : Nat) : Int) from cast_div_pow _ _, show (255 : Int) = ((255 : Nat) : Int) from rfl, and_nat (Nat.lt_of_le_of_lt (Nat.div_le_self _ _) HNl.out) (by decide), hm]
          have e4 : IntKind.u64.wrap ((m : Int) * 2 ^ min b8 64) = (k : Int) := by
            rw [Nat.min_eq_left (show b8 ≤ 64 by omega), hb8, show ((m : Int) * 2 ^ (56 - 8 * r)) = ((m * 2 ^ (56 - 8 * r) : Nat) : Int) by simp, ← hk]
            exact wrap_u64_nat hk64
          have e5 : bits .or .u64 ((prR n r : Nat) : Int) (k : Int) = ((prR n (r + 1) : Nat) : Int) := by
            rw [or_nat (prR_lt _ _) hk64, hk, hm, prR_succ hlt]
          have g8 : decide ((a8 : Int) < 0) = false := decide_eq_false (by omega)
          have g9 : decide ((b8 : Int) < 0) = false := decide_eq_false (by omega)
          clear ha8 hb8 hm hk hk64
          clear hlt
          go_wp2_with (first
            | (refine step_get rfl 23 _ rfl b3 65 rfl Tryz.underlying23 rfl (.int .u64 ((prR n r : Nat) : Int)) ?_ ?_; exact (HR3.out.cell 65 (by decide)).trans (by rw [upd_same]; rfl))
            | (refine step_get rfl 23 _ rfl b1 65 rfl Tryz.underlying23 rfl (.int .u64 (n : Int)) ?_ ?_; exact (HR1.out.cell 65 (by decide)).trans (by rw [HN.out]; rfl))
            | (refine step_cell rfl 23 _ _ rfl b3 65 rfl .u64 ((prR n (r + 1) : Nat) : Int) rfl _ HR3.out (by decide) rfl size5 ?_; intro w2 U R; have HR1 := Lib.hid (HR1.out.apart U HD13.out); have HB := Lib.hid (HB.out.trans (U.below HG3.out)); have HR3 := Lib.hid (vrow_eq R (vpr_next p _ _)); clear U R))
          go_roundw
          case rel => exact ⟨r + 1, by have := Hlt.out; omega, by go_num, HB.out, HR1.out, HR3.out⟩
          case measure => simp [intOf]; have := Hlt.out; omega
        · obtain rfl : r = 8 := by omega
          clear hlt hr
          have HR3 := Lib.hid (vrow_eq HR3.out (vpr_done p HNl.out HN.out))
          go_wp2_with fail
          go_loopw [7] (fun i wr => ∃ k : Nat, k ≤ 64 ∧ i = .int .i64 (k : Int) ∧ (∀ i, i < k → p (1 + i) ≠ 8) ∧ Below w.heap.size w wr ∧ Row wr b1 p ∧ Row wr b3 (vtP p)) (fun i _ => 64 - (intOf i).toNat)
          case atStart => exact ⟨0, by omega, rfl, fun i hi => by omega, HB.out, HR1.out, HR3.out⟩
          case round =>
            clear HB HR1 HR3
            obtain ⟨k, hk, rfl, h8, hb9, hr1, hr5⟩ := hrel
            have HB := Lib.hid hb9
            have HR1 := Lib.hid hr1
            have HR3 := Lib.hid hr5
            have H8 := Lib.hid h8
            clear hb9 hr1 hr5 h8
            by_cases hlt : k < 64
            · have gk : decide ((k : Int) < 64) = true := decide_eq_true (by omega)
              have l1 : (k : Int) ≤ 63 := by omega
              have Hlt := Lib.hid hlt
              obtain ⟨x, HX⟩ : ∃ x, Hid (p (1 + k) = x) := ⟨_, Lib.hid rfl⟩
              have hcell := HR1.out.cell (1 + k) (by omega)
              rw [HX.out, kAt_board (by omega) hlt] at hcell
              clear hlt
              cases gx : (x == 8)
              · go_wp2_with fail
                go_roundw
                case rel => exact ⟨k + 1, by have := Hlt.out; omega, by go_num, fun i hi => by (by_cases e : i = k; { subst e; rw [HX.out]; exact beq_eq_false_iff_ne.1 gx }; { exact H8.out i (by omega) }), HB.out, HR1.out, HR3.out⟩
                case measure => simp [intOf]; have := Hlt.out; omega
              · have HE2 := Lib.hid (show hdZ (wrL p) = 2 from vt_bad Hlt.out (by rw [HX.out]; exact eq_of_beq gx))
  
                go_wp2_with (first
                  | (refine step_load rfl _ rfl b1 rfl p HR1.out ?_)
                  | (go_at_call 8; refine (vcheck_k HE2.out _ HP.out (HT.out.on HB.out) (HD.out.next HB.out) (HL.out.next HB.out) (HU.out.on HB.out)).mono ?_; rintro e w3 ⟨rfl, hb⟩; have HB := Lib.hid (below_on HB.out hb); clear hb)
                  | (go_at_call 9; refine (va_awake _ (HT.out.on HB.out) (HK.out.on HB.out) (HD.out.next HB.out) (HL.out.next HB.out) (HU.out.on HB.out)).mono ?_; rintro e w3 ⟨rfl, hb⟩; have HB := Lib.hid (below_on HB.out hb); clear hb))
                go_ret
                exact ⟨rfl, HB.out⟩
            · obtain rfl : k = 64 := by omega
              clear hlt hk
              obtain ⟨z, HZ⟩ : ∃ z, Hid (hdZ (wrL p) = z) := ⟨_, Lib.hid rfl⟩
              have HZ2 := Lib.hid (show hdZ (wrL (vtP p)) = z from (vt_first HP.out H7.out H8.out).trans HZ.out)
              go_wp2_with fail
              refine late_begin 9 (by kernel_rfl) ?_
              refine ltk 0 (by kernel_rfl) (fun _ _ d _ _ h => by cases d <;> exact h) (fun o ho => ?_)
              simp only [qa, qb, qc, qd] at ho; subst ho
              refine ⟨_, Or.inl ⟨by kernel_rfl, fun w' hl => Or.inl (run_load _ rfl _ rfl (p) (HR1.out.later hl))⟩, ?_⟩
              simp only [Act.put, pa, pb, pc]
              refine ltk 2 (by kernel_rfl) (fun _ _ d _ _ h => by cases d <;> exact h) (fun o ho => ?_)
              simp only [qa, qb, qc, qd] at ho; subst ho
              refine ⟨_, Or.inl ⟨by kernel_rfl, fun w' hl => Or.inl (run_load _ rfl _ rfl ((vtP p)) (HR3.out.later hl))⟩, ?_⟩
              simp only [Act.put, pa, pb, pc]
              refine late_one 1 (by kernel_rfl) (by kernel_rfl) (fun o ho => ?_)
              simp only [qa, qb, qc, qd] at ho; subst ho
              refine ⟨by kernel_rfl, fun wn hl K hK => ?_⟩
              have HR1 := Lib.hid (HR1.out.later hl); have HR3 := Lib.hid (HR3.out.later hl); have HB := Lib.hid (below_on HB.out hl); clear hl
              refine wp_enter _ _ (by go_simp; exact ⟨rfl, rfl⟩) ?_
              refine (vcheck_k HZ.out _ HP.out (HT.out.on HB.out) (HD.out.next HB.out) (HL.out.next HB.out) (HU.out.on HB.out)).mono ?_; rintro e wm ⟨rfl, hb⟩; refine ⟨_, rfl, ?_⟩
              refine hK.out _ _ hb ?_
              have HR1 := Lib.hid (HR1.out.later hb); have HR3 := Lib.hid (HR3.out.later hb); have HB := Lib.hid (below_on HB.out hb); clear hb
              clear hK K
              simp only [Act.put, pa, pb, pc]
              refine late_one 3 (by kernel_rfl) (by kernel_rfl) (fun o ho => ?_)
              simp only [qa, qb, qc, qd] at ho; subst ho
              refine ⟨by kernel_rfl, fun wn hl K hK => ?_⟩
              have HR1 := Lib.hid (HR1.out.later hl); have HR3 := Lib.hid (HR3.out.later hl); have HB := Lib.hid (below_on HB.out hl); clear hl
              refine wp_enter _ _ (by go_simp; exact ⟨rfl, rfl⟩) ?_
              refine (vcheck_k HZ2.out _ HV.out (HT.out.on HB.out) (HD.out.next HB.out) (HL.out.next HB.out) (HU.out.on HB.out)).mono ?_; rintro e wm ⟨rfl, hb⟩; refine ⟨_, rfl, ?_⟩
              refine hK.out _ _ hb ?_
              have HR1 := Lib.hid (HR1.out.later hb); have HR3 := Lib.hid (HR3.out.later hb); have HB := Lib.hid (below_on HB.out hb); clear hb
              clear hK K
              simp only [Act.put, pa, pb, pc]
              refine ltk 4 (by kernel_rfl) (fun _ _ d _ _ h => by cases d <;> exact h) (fun o ho => ?_)
              simp only [qa, qb, qc, qd] at ho; subst ho
              apply Exists.intro
              refine ⟨Or.inl ⟨by kernel_rfl, fun w' hl => Or.inl ?_⟩, ?_⟩
              · (go_simp; try with_reducible rfl)
              simp only [Act.put, pa, pb, pc]
              refine ltk 5 (by kernel_rfl) (fun _ _ d _ _ h => by cases d <;> exact h) (fun o ho => ?_)
              simp only [qa, qb, qc, qd] at ho; subst ho
              apply Exists.intro
              refine ⟨Or.inl ⟨by kernel_rfl, fun w' hl => Or.inl ?_⟩, ?_⟩
              · (go_simp; try with_reducible rfl)
              simp only [Act.put, pa, pb, pc]
              refine late_one 6 (by kernel_rfl) (by kernel_rfl) (fun o ho => ?_)
              simp only [qa, qb, qc, qd] at ho; subst ho
              refine ⟨by kernel_rfl, fun wn hl K hK => ?_⟩
              have HR1 := Lib.hid (HR1.out.later hl); have HR3 := Lib.hid (HR3.out.later hl); have HB := Lib.hid (below_on HB.out hl); clear hl
              refine wp_enter _ _ (by go_simp; exact ⟨rfl, rfl⟩) ?_
              refine (va_awake _ (HT.out.on HB.out) (HK.out.on HB.out) (HD.out.next HB.out) (HL.out.next HB.out) (HU.out.on HB.out)).mono ?_; rintro e wm ⟨rfl, hb⟩; refine ⟨_, rfl, ?_⟩
              refine hK.out _ _ hb ?_
              have HR1 := Lib.hid (HR1.out.later hb); have HR3 := Lib.hid (HR3.out.later hb); have HB := Lib.hid (below_on HB.out hb); clear hb
              clear hK K
              simp only [Act.put, pa, pb, pc]
              refine ltk 7 (by kernel_rfl) (fun _ _ d _ _ h => by cases d <;> exact h) (fun o ho => ?_)
              simp only [qa, qb, qc, qd] at ho; subst ho
              apply Exists.intro
              refine ⟨Or.inl ⟨by kernel_rfl, fun w' hl => Or.inl ?_⟩, ?_⟩
              · (go_simp; try with_reducible rfl)
              simp only [Act.put, pa, pb, pc]
              refine ltk 8 (by kernel_rfl) (fun _ _ d _ _ h => by cases d <;> exact h) (fun o ho => ?_)
              simp only [qa, qb, qc, qd] at ho; subst ho
              apply Exists.intro
              refine ⟨Or.inl ⟨by kernel_rfl, fun w' hl => Or.inl ?_⟩, ?_⟩
              · (go_simp; try with_reducible rfl)
              simp only [Act.put, pa, pb, pc]
              refine late_end (by kernel_rfl) (fun wn hl => ?_)
              have HR1 := Lib.hid (HR1.out.later hl); have HR3 := Lib.hid (HR3.out.later hl); have HB := Lib.hid (below_on HB.out hl); clear hl
              go_wp2_with fail
              go_ret
              exact ⟨rfl, HB.out⟩
set_option maxRecDepth 100000 in
set_option maxHeartbeats 1000000 in
theorem turned_sq (p : Nat → Int) (w : World) (hp : WfP p) (hD : TabDb w) (hL : TabLead w) (hT : TabVar w) (hK : TabKn w) (hU : TabUs w) (h7 : p 0 ≠ 7) (s : Int) (n : Nat) (hs : p 83 = s) (hn : p 65 = (n : Int)) (hnl : n < W64) (m : Nat) (hm : s = (m : Int)) (h : m < 64) : Calls Tryz.prog 5 #[.agg (posA p)] w fun e w' => e = .returned (.bool true) ∧ Below w.heap.size w w' := by
  have HP := Lib.hid (FitP.of hp)
  have HV := Lib.hid (vt_fit (FitP.of hp))
  have HT := Lib.hid hT
  have HK := Lib.hid hK
  have HD := Lib.hid hD
  have HL := Lib.hid hL
  have HU := Lib.hid hU
  have HB := Lib.hid (Below.refl w.heap.size w)
  have g7 : (p 0 == 7) = false := beq_eq_false_iff_ne.2 h7
  have H7 := Lib.hid h7
  have HSs := Lib.hid hs
  have HN := Lib.hid hn
  have HNl := Lib.hid hnl
  have g0 : decide (0 ≤ s) = true := decide_eq_true (by omega)
  have g1 : decide (s < 64) = true := decide_eq_true (by omega)
  have HVp := Lib.hid (show vtP p 83 = bits .xor .i8 s 56 by rw [hm]; exact vt_pass_yes (hs.trans hm) h)
  clear hm h
  clear hp hT hK hD hL hU h7 hs hn hnl
  go_enter Tryz.func5, Tryz.ntmps5
  go_wp2_with (first
    | (refine step_box rfl _ rfl p rfl ?_; intro b1 wn N R; have HB := Lib.hid (HB.out.trans (N.below.mono HB.out.size)); have HR1 := Lib.hid R; clear N R)
    | (refine step_get rfl 5 _ rfl b1 (0) rfl Tryz.underlying5 rfl (.int .u8 (p 0)) ?_ ?_; exact HR1.out.cell (0) (by decide))
    | (refine step_load rfl _ rfl b1 rfl p HR1.out ?_)
    | (refine step_alloc rfl rfl ?_; intro b3 wn N R; have HG3 := Lib.hid (show w.heap.size ≤ b3 by have := N.at_; have := HB.out.size; omega); have HD13 := Lib.hid (show b1 ≠ b3 by have := N.at_; have := HR1.out.lt; omega); have HR1 := Lib.hid (HR1.out.later N.below); have HR3 := Lib.hid R; have HB := Lib.hid (below_on HB.out N.below); clear N R)
    | (refine step_store rfl _ _ rfl b3 rfl zeroP p rfl ?_ ?_; exact HR3.out; intro w2 U R; have HR1 := Lib.hid (HR1.out.apart U HD13.out); have HB := Lib.hid (HB.out.trans (U.below HG3.out)); have HR3 := Lib.hid R; clear U R))
  go_loopw [4] (fun i wr => ∃ k : Nat, k ≤ 64 ∧ i = .int .i64 (k : Int) ∧ Below w.heap.size w wr ∧ Row wr b1 p ∧ Row wr b3 (txP p k)) (fun i _ => 64 - (intOf i).toNat)
  case atStart => exact ⟨0, by omega, rfl, HB.out, HR1.out, vrow_eq HR3.out (txP_zero p)⟩
  case round =>
    clear HB HR1 HR3
    obtain ⟨k, hk, rfl, hb9, hr1, hr5⟩ := hrel
    have HB := Lib.hid hb9
    have HR1 := Lib.hid hr1
    have HR3 := Lib.hid hr5
    clear hb9 hr1 hr5
    by_cases hlt : k < 64
    · have gk : decide ((k : Int) < 64) = true := decide_eq_true (by omega)
      have l1 : (k : Int) ≤ 63 := by omega
      have Hlt := Lib.hid hlt
      have hbx := bx_fl k hlt
      have hfl := flT_lt hlt
      have Hfl := Lib.hid hfl
      have l2 : ((flT k : Nat) : Int) ≤ 63 := by omega
      obtain ⟨x, HX⟩ : ∃ x, Hid (p (1 + k) = x) := ⟨_, Lib.hid rfl⟩
      have hx := HP.out.bd k hlt
      rw [HX.out] at hx
      obtain ⟨x0, x255⟩ := hx
      have Hx0 := Lib.hid x0
      have HS2 : Hid (∀ y, txX x = y → posA (upd (txP p k) (1 + flT k) y) = posA (txP p (k + 1))) := Lib.hid fun y hy => txP_succ p hlt (by rw [HX.out]; exact hy)
      obtain ⟨f, HFl⟩ : ∃ f, Hid (flT k = f) := ⟨_, Lib.hid rfl⟩
      rw [HFl.out] at hbx l2 Hfl HS2
      have hcell := HR1.out.cell (1 + k) (by omega)
      rw [HX.out, kAt_board (by omega) hlt] at hcell
      clear hlt hfl
      by_cases gx : 0 < x
      · have g1 : decide (0 < x) = true := decide_eq_true gx
        by_cases gy : x < 16
        · have g2 : decide (x < 16) = true := decide_eq_true gy
          have HTr := Lib.hid (show txX x = (x + 8) % 16 by unfold txX; rw [if_pos ⟨gx, gy⟩])
          go_wp2_with (refine step_cell rfl 5 _ _ rfl b3 (1 + f) rfl .u8 ((x + 8) % 16) rfl _ HR3.out (by have := Hfl.out; omega) (kAt_board (by omega) Hfl.out) size5 ?_; intro w2 U R; have HR1 := Lib.hid (HR1.out.apart U HD13.out); have HB := Lib.hid (HB.out.trans (U.below HG3.out)); have HR3 := Lib.hid (vrow_eq R (HS2.out _ HTr.out)); clear U R)
          go_roundw
          case rel => exact ⟨k + 1, by have := Hlt.out; omega, by go_num, HB.out, HR1.out, HR3.out⟩
          case measure => simp [intOf]; have := Hlt.out; omega
        · have g2 : decide (x < 16) = false := decide_eq_false gy
          have HTr := Lib.hid (show txX x = x by unfold txX; rw [if_neg (fun g => gy g.2)])
          go_wp2_with (refine step_cell rfl 5 _ _ rfl b3 (1 + f) rfl .u8 (x) rfl _ HR3.out (by have := Hfl.out; omega) (kAt_board (by omega) Hfl.out) size5 ?_; intro w2 U R; have HR1 := Lib.hid (HR1.out.apart U HD13.out); have HB := Lib.hid (HB.out.trans (U.below HG3.out)); have HR3 := Lib.hid (vrow_eq R (HS2.out _ HTr.out)); clear U R)
          go_roundw
          case rel => exact ⟨k + 1, by have := Hlt.out; omega, by go_num, HB.out, HR1.out, HR3.out⟩
          case measure => simp [intOf]; have := Hlt.out; omega
      · have g1 : decide (0 < x) = false := decide_eq_false gx
        have HTr := Lib.hid (show txX x = x by unfold txX; rw [if_neg (fun g => gx g.1)])
        go_wp2_with (refine step_cell rfl 5 _ _ rfl b3 (1 + f) rfl .u8 (x) rfl _ HR3.out (by have := Hfl.out; omega) (kAt_board (by omega) Hfl.out) size5 ?_; intro w2 U R; have HR1 := Lib.hid (HR1.out.apart U HD13.out); have HB := Lib.hid (HB.out.trans (U.below HG3.out)); have HR3 := Lib.hid (vrow_eq R (HS2.out _ HTr.out)); clear U R)
        go_roundw
        case rel => exact ⟨k + 1, by have := Hlt.out; omega, by go_num, HB.out, HR1.out, HR3.out⟩
        case measure => simp [intOf]; have := Hlt.out; omega
    · obtain rfl : k = 64 := by omega
      clear hlt hk
      have HR3 := Lib.hid (vrow_eq HR3.out (done_bd p))
      go_wp2_with (first
        | (refine step_get rfl 5 _ rfl b1 78 rfl Tryz.underlying5 rfl (.int .u8 (p 78)) ?_ ?_; exact HR1.out.cell 78 (by decide))
        | (refine step_cell rfl 5 _ _ rfl b3 (78) rfl .u8 (bits .xor .u8 (p 78) 1) rfl _ HR3.out (by decide) rfl size5 ?_; intro w2 U R; have HR1 := Lib.hid (HR1.out.apart U HD13.out); have HB := Lib.hid (HB.out.trans (U.below HG3.out)); have HR3 := Lib.hid (vrow_eq R (done_upd _ p 78 rfl)); clear U R)
        | (refine step_read rfl 27 _ rfl b1 81 2 rfl p HR1.out (by decide) _ Tryz.underlying27 rfl (by kernel_rfl) ?_)
        | (refine step_read rfl 27 _ rfl b1 79 2 rfl p HR1.out (by decide) _ Tryz.underlying27 rfl (by kernel_rfl) ?_)
        | (refine step_build rfl 28 _ rfl (partL (vtP p) 79 4).toArray (by kernel_rfl) ?_)
        | (refine step_write rfl 28 _ _ rfl b3 79 4 rfl _ (vtP p) rfl HR3.out (by decide) (by kernel_rfl) ?_; intro w2 U R; have HR1 := Lib.hid (HR1.out.apart U HD13.out); have HB := Lib.hid (HB.out.trans (U.below HG3.out)); have HR3 := Lib.hid (vrow_eq R (done_over _ p 79 4)); clear U R)
        | (refine step_get rfl 5 _ rfl b1 (85) rfl Tryz.underlying5 rfl (.int .u8 (p 85)) ?_ ?_; exact HR1.out.cell (85) (by decide))
        | (refine step_get rfl 5 _ rfl b1 (84) rfl Tryz.underlying5 rfl (.int .u8 (p 84)) ?_ ?_; exact HR1.out.cell (84) (by decide))
        | (refine step_build rfl 29 _ rfl (partL (vtP p) 84 2).toArray (by kernel_rfl) ?_)
        | (refine step_write rfl 29 _ _ rfl b3 84 2 rfl _ (vtP p) rfl HR3.out (by decide) (by kernel_rfl) ?_; intro w2 U R; have HR1 := Lib.hid (HR1.out.apart U HD13.out); have HB := Lib.hid (HB.out.trans (U.below HG3.out)); have HR3 := Lib.hid (vrow_eq R (done_over _ p 84 2)); clear U R)
        | (refine step_read rfl 24 _ rfl b1 72 6 rfl p HR1.out (by decide) _ Tryz.underlying24 rfl (by kernel_rfl) ?_)
        | (refine step_read rfl 24 _ rfl b1 66 6 rfl p HR1.out (by decide) _ Tryz.underlying24 rfl (by kernel_rfl) ?_)
        | (refine step_build rfl 25 _ rfl (partL (vtP p) 66 12).toArray (by kernel_rfl) ?_)
        | (refine step_write rfl 25 _ _ rfl b3 66 12 rfl _ (vtP p) rfl HR3.out (by decide) (by kernel_rfl) ?_; intro w2 U R; have HR1 := Lib.hid (HR1.out.apart U HD13.out); have HB := Lib.hid (HB.out.trans (U.below HG3.out)); have HR3 := Lib.hid (vrow_eq R (done_over _ p 66 12)); clear U R)
        | (refine step_get rfl 26 _ rfl b1 83 rfl Tryz.underlying26 rfl (.int .i8 s) ?_ ?_; exact (HR1.out.cell 83 (by decide)).trans (by rw [HSs.out]; rfl))
        | (refine step_cell rfl 26 _ _ rfl b3 (83) rfl .i8 (bits .xor .i8 s 56) rfl _ HR3.out (by decide) rfl size5 ?_; intro w2 U R; have HR1 := Lib.hid (HR1.out.apart U HD13.out); have HB := Lib.hid (HB.out.trans (U.below HG3.out)); have HR3 := Lib.hid (vrow_eq R (mid_yes p HVp.out)); clear U R)
          | (refine step_cell rfl 23 _ _ rfl b3 (65) rfl .u64 (0) rfl _ HR3.out (by decide) rfl size5 ?_; intro w2 U R; have HR1 := Lib.hid (HR1.out.apart U HD13.out); have HB := Lib.hid (HB.out.trans (U.below HG3.out)); have HR3 := Lib.hid (vrow_eq R (vpr_begin p n)); clear U R))
      go_loopw [6] (fun i wr => ∃ r : Nat, r ≤ 8 ∧ i = .int .u64 (r : Int) ∧ Below w.heap.size w wr ∧ Row wr b1 p ∧ Row wr b3 (upd (midP p) 65 ((prR n r : Nat) : Int))) (fun i _ => 8 - (intOf i).toNat)
      case atStart => exact ⟨0, by omega, rfl, HB.out, HR1.out, HR3.out⟩
      case round =>
        clear HB HR1 HR3
        obtain ⟨r, hr, rfl, hb9, hr1, hr5⟩ := hrel
        have HB := Lib.hid hb9
        have HR1 := Lib.hid hr1
        have HR3 := Lib.hid hr5
        clear hb9 hr1 hr5
        by_cases hlt : r < 8
        · have gk : decide ((r : Int) < 8) = true := decide_eq_true (by omega)
          have Hlt := Lib.hid hlt
          obtain ⟨a8, ha8⟩ : ∃ a, a = 8 * r := ⟨_, rfl⟩
          obtain ⟨b8, hb8⟩ : ∃ b, b = 56 - 8 * r := ⟨_, rfl⟩
          obtain ⟨m, hm⟩ : ∃ m, m = (n / 2 ^ (8 * r) &&& 255) := ⟨_, rfl⟩
          obtain ⟨k, hk⟩ : ∃ k, k = m * 2 ^ (56 - 8 * r) := ⟨_, rfl⟩
          have hk64 : k < W64 := by rw [hk, hm]; exact vpr_one_lt hlt
          have e1 : IntKind.u64.wrap (8 * (r : Int)) = (a8 : Int) := by rw [(u8_all r hlt).1, ha8]
          have e2 : IntKind.u64.wrap (56 - (a8 : Int)) = (b8 : Int) := by rw [ha8, (u8_all r hlt).2, hb8]
          have e3 : bits .and .u64 ((n : Int) / 2 ^ min a8 64) 255 = (m : Int) := by
            rw [Nat.min_eq_left (show a8 ≤ 64 by omega), ha8, show ((n : Int) / 2 ^ (8 * r)) = ((n / 2 ^ (8 * r) : Nat) : Int) from cast_div_pow _ _, show (255 : Int) = ((255 : Nat) : Int) from rfl, and_nat (Nat.lt_of_le_of_lt (Nat.div_le_self _ _) HNl.out) (by decide), hm]
          have e4 : IntKind.u64.wrap ((m : Int) * 2 ^ min b8 64) = (k : Int) := by
            rw [Nat.min_eq_left (show b8 ≤ 64 by omega), hb8, show ((m : Int) * 2 ^ (56 - 8 * r)) = ((m * 2 ^ (56 - 8 * r) : Nat) : Int) by simp, ← hk]
            exact wrap_u64_nat hk64
          have e5 : bits .or .u64 ((prR n r : Nat) : Int) (k : Int) = ((prR n (r + 1) : Nat) : Int) := by
            rw [or_nat (prR_lt _ _) hk64, hk, hm, prR_succ hlt]
          have g8 : decide ((a8 : Int) < 0) = false := decide_eq_false (by omega)
          have g9 : decide ((b8 : Int) < 0) = false := decide_eq_false (by omega)
          clear ha8 hb8 hm hk hk64
          clear hlt
          go_wp2_with (first
            | (refine step_get rfl 23 _ rfl b3 65 rfl Tryz.underlying23 rfl (.int .u64 ((prR n r : Nat) : Int)) ?_ ?_; exact (HR3.out.cell 65 (by decide)).trans (by rw [upd_same]; rfl))
            | (refine step_get rfl 23 _ rfl b1 65 rfl Tryz.underlying23 rfl (.int .u64 (n : Int)) ?_ ?_; exact (HR1.out.cell 65 (by decide)).trans (by rw [HN.out]; rfl))
            | (refine step_cell rfl 23 _ _ rfl b3 65 rfl .u64 ((prR n (r + 1) : Nat) : Int) rfl _ HR3.out (by decide) rfl size5 ?_; intro w2 U R; have HR1 := Lib.hid (HR1.out.apart U HD13.out); have HB := Lib.hid (HB.out.trans (U.below HG3.out)); have HR3 := Lib.hid (vrow_eq R (vpr_next p _ _)); clear U R))
          go_roundw
          case rel => exact ⟨r + 1, by have := Hlt.out; omega, by go_num, HB.out, HR1.out, HR3.out⟩
          case measure => simp [intOf]; have := Hlt.out; omega
        · obtain rfl : r = 8 := by omega
          clear hlt hr
          have HR3 := Lib.hid (vrow_eq HR3.out (vpr_done p HNl.out HN.out))
          go_wp2_with fail
          go_loopw [7] (fun i wr => ∃ k : Nat, k ≤ 64 ∧ i = .int .i64 (k : Int) ∧ (∀ i, i < k → p (1 + i) ≠ 8) ∧ Below w.heap.size w wr ∧ Row wr b1 p ∧ Row wr b3 (vtP p)) (fun i _ => 64 - (intOf i).toNat)
          case atStart => exact ⟨0, by omega, rfl, fun i hi => by omega, HB.out, HR1.out, HR3.out⟩
          case round =>
            clear HB HR1 HR3
            obtain ⟨k, hk, rfl, h8, hb9, hr1, hr5⟩ := hrel
            have HB := Lib.hid hb9
            have HR1 := Lib.hid hr1
            have HR3 := Lib.hid hr5
            have H8 := Lib.hid h8
            clear hb9 hr1 hr5 h8
            by_cases hlt : k < 64
            · have gk : decide ((k : Int) < 64) = true := decide_eq_true (by omega)
              have l1 : (k : Int) ≤ 63 := by omega
              have Hlt := Lib.hid hlt
              obtain ⟨x, HX⟩ : ∃ x, Hid (p (1 + k) = x) := ⟨_, Lib.hid rfl⟩
              have hcell := HR1.out.cell (1 + k) (by omega)
              rw [HX.out, kAt_board (by omega) hlt] at hcell
              clear hlt
              cases gx : (x == 8)
              · go_wp2_with fail
                go_roundw
                case rel => exact ⟨k + 1, by have := Hlt.out; omega, by go_num, fun i hi => by (by_cases e : i = k; { subst e; rw [HX.out]; exact beq_eq_false_iff_ne.1 gx }; { exact H8.out i (by omega) }), HB.out, HR1.out, HR3.out⟩
                case measure => simp [intOf]; have := Hlt.out; omega
              · have HE2 := Lib.hid (show hdZ (wrL p) = 2 from vt_bad Hlt.out (by rw [HX.out]; exact eq_of_beq gx))
  
                go_wp2_with (first
                  | (refine step_load rfl _ rfl b1 rfl p HR1.out ?_)
                  | (go_at_call 8; refine (vcheck_k HE2.out _ HP.out (HT.out.on HB.out) (HD.out.next HB.out) (HL.out.next HB.out) (HU.out.on HB.out)).mono ?_; rintro e w3 ⟨rfl, hb⟩; have HB := Lib.hid (below_on HB.out hb); clear hb)
                  | (go_at_call 9; refine (va_awake _ (HT.out.on HB.out) (HK.out.on HB.out) (HD.out.next HB.out) (HL.out.next HB.out) (HU.out.on HB.out)).mono ?_; rintro e w3 ⟨rfl, hb⟩; have HB := Lib.hid (below_on HB.out hb); clear hb))
                go_ret
                exact ⟨rfl, HB.out⟩
            · obtain rfl : k = 64 := by omega
              clear hlt hk
              obtain ⟨z, HZ⟩ : ∃ z, Hid (hdZ (wrL p) = z) := ⟨_, Lib.hid rfl⟩
              have HZ2 := Lib.hid (show hdZ (wrL (vtP p)) = z from (vt_first HP.out H7.out H8.out).trans HZ.out)
              go_wp2_with fail
              refine late_begin 9 (by kernel_rfl) ?_
              refine ltk 0 (by kernel_rfl) (fun _ _ d _ _ h => by cases d <;> exact h) (fun o ho => ?_)
              simp only [qa, qb, qc, qd] at ho; subst ho
              refine ⟨_, Or.inl ⟨by kernel_rfl, fun w' hl => Or.inl (run_load _ rfl _ rfl (p) (HR1.out.later hl))⟩, ?_⟩
              simp only [Act.put, pa, pb, pc]
              refine ltk 2 (by kernel_rfl) (fun _ _ d _ _ h => by cases d <;> exact h) (fun o ho => ?_)
              simp only [qa, qb, qc, qd] at ho; subst ho
              refine ⟨_, Or.inl ⟨by kernel_rfl, fun w' hl => Or.inl (run_load _ rfl _ rfl ((vtP p)) (HR3.out.later hl))⟩, ?_⟩
              simp only [Act.put, pa, pb, pc]
              refine late_one 1 (by kernel_rfl) (by kernel_rfl) (fun o ho => ?_)
              simp only [qa, qb, qc, qd] at ho; subst ho
              refine ⟨by kernel_rfl, fun wn hl K hK => ?_⟩
              have HR1 := Lib.hid (HR1.out.later hl); have HR3 := Lib.hid (HR3.out.later hl); have HB := Lib.hid (below_on HB.out hl); clear hl
              refine wp_enter _ _ (by go_simp; exact ⟨rfl, rfl⟩) ?_
              refine (vcheck_k HZ.out _ HP.out (HT.out.on HB.out) (HD.out.next HB.out) (HL.out.next HB.out) (HU.out.on HB.out)).mono ?_; rintro e wm ⟨rfl, hb⟩; refine ⟨_, rfl, ?_⟩
              refine hK.out _ _ hb ?_
              have HR1 := Lib.hid (HR1.out.later hb); have HR3 := Lib.hid (HR3.out.later hb); have HB := Lib.hid (below_on HB.out hb); clear hb
              clear hK K
              simp only [Act.put, pa, pb, pc]
              refine late_one 3 (by kernel_rfl) (by kernel_rfl) (fun o ho => ?_)
              simp only [qa, qb, qc, qd] at ho; subst ho
              refine ⟨by kernel_rfl, fun wn hl K hK => ?_⟩
              have HR1 := Lib.hid (HR1.out.later hl); have HR3 := Lib.hid (HR3.out.later hl); have HB := Lib.hid (below_on HB.out hl); clear hl
              refine wp_enter _ _ (by go_simp; exact ⟨rfl, rfl⟩) ?_
              refine (vcheck_k HZ2.out _ HV.out (HT.out.on HB.out) (HD.out.next HB.out) (HL.out.next HB.out) (HU.out.on HB.out)).mono ?_; rintro e wm ⟨rfl, hb⟩; refine ⟨_, rfl, ?_⟩
              refine hK.out _ _ hb ?_
              have HR1 := Lib.hid (HR1.out.later hb); have HR3 := Lib.hid (HR3.out.later hb); have HB := Lib.hid (below_on HB.out hb); clear hb
              clear hK K
              simp only [Act.put, pa, pb, pc]
              refine ltk 4 (by kernel_rfl) (fun _ _ d _ _ h => by cases d <;> exact h) (fun o ho => ?_)
              simp only [qa, qb, qc, qd] at ho; subst ho
              apply Exists.intro
              refine ⟨Or.inl ⟨by kernel_rfl, fun w' hl => Or.inl ?_⟩, ?_⟩
              · (go_simp; try with_reducible rfl)
              simp only [Act.put, pa, pb, pc]
              refine ltk 5 (by kernel_rfl) (fun _ _ d _ _ h => by cases d <;> exact h) (fun o ho => ?_)
              simp only [qa, qb, qc, qd] at ho; subst ho
              apply Exists.intro
              refine ⟨Or.inl ⟨by kernel_rfl, fun w' hl => Or.inl ?_⟩, ?_⟩
              · (go_simp; try with_reducible rfl)
              simp only [Act.put, pa, pb, pc]
              refine late_one 6 (by kernel_rfl) (by kernel_rfl) (fun o ho => ?_)
              simp only [qa, qb, qc, qd] at ho; subst ho
              refine ⟨by kernel_rfl, fun wn hl K hK => ?_⟩
              have HR1 := Lib.hid (HR1.out.later hl); have HR3 := Lib.hid (HR3.out.later hl); have HB := Lib.hid (below_on HB.out hl); clear hl
              refine wp_enter _ _ (by go_simp; exact ⟨rfl, rfl⟩) ?_
              refine (va_awake _ (HT.out.on HB.out) (HK.out.on HB.out) (HD.out.next HB.out) (HL.out.next HB.out) (HU.out.on HB.out)).mono ?_; rintro e wm ⟨rfl, hb⟩; refine ⟨_, rfl, ?_⟩
              refine hK.out _ _ hb ?_
              have HR1 := Lib.hid (HR1.out.later hb); have HR3 := Lib.hid (HR3.out.later hb); have HB := Lib.hid (below_on HB.out hb); clear hb
              clear hK K
              simp only [Act.put, pa, pb, pc]
              refine ltk 7 (by kernel_rfl) (fun _ _ d _ _ h => by cases d <;> exact h) (fun o ho => ?_)
              simp only [qa, qb, qc, qd] at ho; subst ho
              apply Exists.intro
              refine ⟨Or.inl ⟨by kernel_rfl, fun w' hl => Or.inl ?_⟩, ?_⟩
              · (go_simp; try with_reducible rfl)
              simp only [Act.put, pa, pb, pc]
              refine ltk 8 (by kernel_rfl) (fun _ _ d _ _ h => by cases d <;> exact h) (fun o ho => ?_)
              simp only [qa, qb, qc, qd] at ho; subst ho
              apply Exists.intro
              refine ⟨Or.inl ⟨by kernel_rfl, fun w' hl => Or.inl ?_⟩, ?_⟩
              · (go_simp; try with_reducible rfl)
              simp only [Act.put, pa, pb, pc]
              refine late_end (by kernel_rfl) (fun wn hl => ?_)
              have HR1 := Lib.hid (HR1.out.later hl); have HR3 := Lib.hid (HR3.out.later hl); have HB := Lib.hid (below_on HB.out hl); clear hl
              go_wp2_with fail
              go_ret
              exact ⟨rfl, HB.out⟩
theorem walk (p : Nat → Int) (w0 : WfP p) (w : World) (hD : TabDb w) (hL : TabLead w) (hT : TabVar w) (hK : TabKn w) (hU : TabUs w) : Calls Tryz.prog 5 #[.agg (posA p)] w fun e w' => e = .returned (.bool true) ∧ Below w.heap.size w w' := by
  by_cases h7 : p 0 = 7
  · exact turned_horde p w w0 hD hL hT hK hU h7
  · have hm := (FitP.of w0).prom
    have hn : p 65 = (((p 65).toNat : Nat) : Int) := by omega
    by_cases h0 : p 83 < 0
    · exact turned_neg p w w0 hD hL hT hK hU h7 _ _ rfl hn hm.2 h0
    · by_cases h1 : 64 ≤ p 83
      · exact turned_far p w w0 hD hL hT hK hU h7 _ _ rfl hn hm.2 (by omega) h1
      · exact turned_sq p w w0 hD hL hT hK hU h7 _ _ rfl hn hm.2 (p 83).toNat (by omega) (by omega)
end Go.Proofs.YthinocbofkhjbaaGreatDoor.validTurned
