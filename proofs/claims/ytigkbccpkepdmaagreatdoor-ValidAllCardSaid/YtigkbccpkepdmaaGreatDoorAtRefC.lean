/-
 Contracts of the document's own layer 8, third part: Find, King, Check, Checkers.
-/
import Derived.Test.YtigkbccpkepdmaaGreatDoorAtRefB
import Derived.Test.YtigkbccpkepdmaaGreatDoorAtRefF
namespace Go.Proofs.YtigkbccpkepdmaaGreatDoor
open Go.RowKit
set_option linter.unusedVariables false
set_option linter.unusedSimpArgs false

/-- The square of the king that may be in check. -/
def rkZ (p : Nat → Int) (c : Int) : Int := if (ryB (p 0).toNat c.toNat && (decide (0 ≤ kingZ p c) && !shelB p (kingZ p c) c)) = true then kingZ p c else -1
theorem kingZ_sq {p : Nat → Int} {c : Int} (h : 0 ≤ kingZ p c) : ∃ n : Nat, n < 64 ∧ kingZ p c = (n : Int) := by
 unfold kingZ at *
 by_cases h0 : ofN p c 6 = 0
 ·rw [h0, firstN_zero] at h; omega
 ·obtain ⟨e, he, h1, _⟩ := first_spec h0 (ofN_lt p c 6); exact ⟨e, he, h1⟩
theorem king_bes {a b : Nat} (ha : a < 64) (hb : b < 64) : (kingN (a : Int)).testBit b = besB b a := by
 have g := geoB_all b hb a ha
 simp only [geoB, Bool.and_eq_true, beq_iff_eq] at g
 have t := (turned_all (a : Int) (b : Int)).1
 simp only [hasN_nat _ _ ha, hasN_nat _ _ hb] at t
 rw [t, kingN_nat hb]
 exact g.1.1.1.2
theorem shel_yes {p : Nat → Int} {c : Int} {n i : Nat} (hn : n < 64) (hi : i < 64) (hv : (p 0 == 3) = true) (h1 : ofB (oth c) 6 (p (1 + i)) = true) (h2 : besB i n = true) : shelB p (n : Int) c = true := by
 unfold shelB
 rw [hv, Bool.true_and, bne_iff_ne]
 intro e
 have := congrArg (Nat.testBit · i) e
 simp only [Nat.testBit_and, Nat.zero_testBit, king_bes hn hi, h2, ofN_testBit _ _ _ _ hi, h1] at this
 cases this
theorem shel_no {p : Nat → Int} {c : Int} {n : Nat} (hn : n < 64) (h : ∀ i, i < 64 → (ofB (oth c) 6 (p (1 + i)) && besB i n) = false) : shelB p (n : Int) c = false := by
 unfold shelB
 have : kingN (n : Int) &&& ofN p (oth c) 6 = 0 := by
  apply eq_of_bits (and_lt (ofN_lt _ _ _)) (by decide)
  intro i hi
  rw [Nat.testBit_and, king_bes hn hi, ofN_testBit _ _ _ _ hi, Nat.zero_testBit, Bool.and_comm]
  exact h i hi
 rw [this]; simp
theorem rroyal_c (v m : Nat) (c : Int) (h : (m : Int) = c) (w : World) : Calls Tryz.prog 86 #[.int .u8 (v : Int), .int .u8 c] w (BoE (ryB v m) w) := h ▸ rroyal_any v m w
set_option maxRecDepth 100000 in
set_option maxHeartbeats 1000000 in
theorem rking_any (p : Nat → Int) (c : Int) (w : World) (hp : AtR p) (hc : 0 ≤ c ∧ c ≤ 255) : Calls Tryz.prog 65 #[.agg (posA p), .int .u8 c] w (IntL (rkZ p c) w) := by
 have HP := Lib.hid hp.bd
 obtain ⟨v, hv⟩ := Int.eq_ofNat_of_zero_le hp.var.1
 have HV := Lib.hid hv
 obtain ⟨m, rfl⟩ := Int.eq_ofNat_of_zero_le hc.1
 obtain ⟨c, HCm⟩ : ∃ c : Int, Hid ((m : Int) = c) := ⟨_, Lib.hid rfl⟩
 have HZ := Lib.hid (show rkZ p c = if (ryB v m && (decide (0 ≤ kingZ p c) && !shelB p (kingZ p c) c)) = true then kingZ p c else -1 by unfold rkZ; rw [hv, ← HCm.out]; rfl)
 have HW := Lib.hid (show (1 - c) % 256 = oth c from rfl)
 rw [HCm.out]
 clear hp hv hc
 cases gr : ryB v m
 ·have HRy := Lib.hid gr
  have HE := Lib.hid (show rkZ p c = -1 by rw [HZ.out, gr]; rfl)
  clear gr
  go_enter Tryz.func65, Tryz.ntmps65
  go_wp2_with (first | (refine step_box rfl _ rfl p rfl ?_; intro b1 w1 N R; have HB := Lib.hid N.below; have HR := Lib.hid R; clear N R) | (refine step_load (by rfl) _ rfl _ rfl p HR.out ?_))
  refine (rfind_any p c _ HP.out).mono ?_; rintro e wn ⟨rfl, hb9⟩; have HR := Lib.hid (HR.out.later hb9); have HB := Lib.hid (below_on HB.out hb9); clear hb9
  have hcell := HR.out.cell 0 (by omega)
  rw [HV.out, show kAt 0 = .u8 from rfl] at hcell
  go_wp2_with fail
  refine (rroyal_c v m c HCm.out _).mono ?_; rintro e wn ⟨rfl, rfl⟩; rw [HRy.out]
  go_wp2_with fail
  go_ret
  exact ⟨by rw [HE.out]; rfl, HB.out⟩
 ·have HRy := Lib.hid gr
  by_cases h0 : 0 ≤ kingZ p c
  ·obtain ⟨s, hs, hse⟩ := kingZ_sq h0
   have Hs := Lib.hid hs
   have Hse := Lib.hid hse
   have HE := Lib.hid (show rkZ p c = if shelB p (s : Int) c = true then -1 else (s : Int) by
    rw [HZ.out, gr, hse]
    rw [show decide (0 ≤ (s : Int)) = true from decide_eq_true (by omega)]
    cases shelB p (s : Int) c <;> rfl)
   have g0 : decide ((s : Int) < 0) = false := decide_eq_false (by omega)
   clear gr h0 hs hse
   cases g3 : ((v : Int) == 3)
   ·have HF := Lib.hid (show rkZ p c = (s : Int) by rw [HE.out, show shelB p (s : Int) c = false by unfold shelB; rw [HV.out, g3]; rfl]; rfl)
    go_enter Tryz.func65, Tryz.ntmps65
    go_wp2_with (first | (refine step_box rfl _ rfl p rfl ?_; intro b1 w1 N R; have HB := Lib.hid N.below; have HR := Lib.hid R; clear N R) | (refine step_load (by rfl) _ rfl _ rfl p HR.out ?_))
    refine (rfind_any p c _ HP.out).mono ?_; rintro e wn ⟨rfl, hb9⟩; rw [Hse.out]; have HR := Lib.hid (HR.out.later hb9); have HB := Lib.hid (below_on HB.out hb9); clear hb9
    have hcell := HR.out.cell 0 (by omega)
    rw [HV.out, show kAt 0 = .u8 from rfl] at hcell
    go_wp2_with fail
    refine (rroyal_c v m c HCm.out _).mono ?_; rintro e wn ⟨rfl, rfl⟩; rw [HRy.out]
    go_wp2_with fail
    refine wp_loop_once ?_
    go_wp2_with fail
    go_ret
    exact ⟨by rw [HF.out]; rfl, HB.out⟩
   ·have H3 := Lib.hid (show (p 0 == 3) = true by rw [HV.out]; exact g3)
    go_enter Tryz.func65, Tryz.ntmps65
    go_wp2_with (first | (refine step_box rfl _ rfl p rfl ?_; intro b1 w1 N R; have HB := Lib.hid N.below; have HR := Lib.hid R; clear N R) | (refine step_load (by rfl) _ rfl _ rfl p HR.out ?_))
    refine (rfind_any p c _ HP.out).mono ?_; rintro e wn ⟨rfl, hb9⟩; rw [Hse.out]; have HR := Lib.hid (HR.out.later hb9); have HB := Lib.hid (below_on HB.out hb9); clear hb9
    have hcell := HR.out.cell 0 (by omega)
    rw [HV.out, show kAt 0 = .u8 from rfl] at hcell
    go_wp2_with fail
    refine (rroyal_c v m c HCm.out _).mono ?_; rintro e wn ⟨rfl, rfl⟩; rw [HRy.out]
    go_wp2_with fail
    clear hcell
    go_loopw [6] (fun i wr => ∃ k : Nat, k ≤ 64 ∧ i = .int .i64 (k : Int) ∧ Hid (∀ j, j < k → (ofB (oth c) 6 (p (1 + j)) && besB j s) = false) ∧ Below w.heap.size w wr ∧ Row wr b1 p) (fun i _ => 64 - (intOf i).toNat)
    case atStart => exact ⟨0, by omega, rfl, Lib.hid (fun j h => by omega), HB.out, HR.out⟩
    case round =>
     obtain ⟨k, hk, rfl, Hi, hb, hr⟩ := hrel
     have HB := Lib.hid hb
     have HR := Lib.hid hr
     have hcell := hr.cell 0 (by omega)
     rw [HV.out, show kAt 0 = .u8 from rfl] at hcell
     clear hb hr
     by_cases hlt : k < 64
     ·have Hlt := Lib.hid hlt
      have gk : decide ((k : Int) < 64) = true := decide_eq_true (by omega)
      obtain ⟨r, HRb⟩ : ∃ r, Hid ((kndZ (p (1 + k)) == 6 && p (1 + k) / 8 == oth c) = r) := ⟨_, Lib.hid rfl⟩
      have HO := Lib.hid (show ofB (oth c) 6 (p (1 + k)) = r by rw [← is_of]; exact HRb.out)
      clear hlt
      cases r
      ·go_wp2_with (refine step_load (by rfl) _ rfl _ rfl p HR.out ?_)
       rw [HW.out]
       refine (ris_any p k (oth c) 6 _ HP.out Hlt.out).mono ?_; rintro e wn ⟨rfl, hb9⟩; rw [HRb.out]; have HR := Lib.hid (HR.out.later hb9); have HB := Lib.hid (below_on HB.out hb9); clear hb9
       go_wp2_with fail
       go_roundw
       case rel => exact ⟨k + 1, by have := Hlt.out; omega, by go_num, Lib.hid (fun j h => by
        by_cases e : j = k
        ·rw [e, HO.out]; rfl
        ·exact Hi.out j (by omega)), HB.out, HR.out⟩
       case measure => simp [intOf]; have := Hlt.out; omega
      ·obtain ⟨t, HTb⟩ : ∃ t, Hid (besB k s = t) := ⟨_, Lib.hid rfl⟩
       cases t
       ·go_wp2_with (refine step_load (by rfl) _ rfl _ rfl p HR.out ?_)
        rw [HW.out]
        refine (ris_any p k (oth c) 6 _ HP.out Hlt.out).mono ?_; rintro e wn ⟨rfl, hb9⟩; rw [HRb.out]; have HR := Lib.hid (HR.out.later hb9); have HB := Lib.hid (below_on HB.out hb9); clear hb9
        go_wp2_with fail
        refine (rbeside_any k s _ Hlt.out Hs.out).mono ?_; rintro e wn ⟨rfl, rfl⟩; rw [HTb.out]
        go_wp2_with fail
        go_roundw
        case rel => exact ⟨k + 1, by have := Hlt.out; omega, by go_num, Lib.hid (fun j h => by
         by_cases e : j = k
         ·rw [e, HO.out, HTb.out]; rfl
         ·exact Hi.out j (by omega)), HB.out, HR.out⟩
        case measure => simp [intOf]; have := Hlt.out; omega
       ·have HF := Lib.hid (show rkZ p c = -1 by rw [HE.out, shel_yes Hs.out Hlt.out H3.out HO.out HTb.out]; rfl)
        go_wp2_with (refine step_load (by rfl) _ rfl _ rfl p HR.out ?_)
        rw [HW.out]
        refine (ris_any p k (oth c) 6 _ HP.out Hlt.out).mono ?_; rintro e wn ⟨rfl, hb9⟩; rw [HRb.out]; have HB := Lib.hid (below_on HB.out hb9); clear hb9
        go_wp2_with fail
        refine (rbeside_any k s _ Hlt.out Hs.out).mono ?_; rintro e wn ⟨rfl, rfl⟩; rw [HTb.out]
        go_wp2_with fail
        go_ret
        exact ⟨by rw [HF.out]; rfl, HB.out⟩
     ·obtain rfl : k = 64 := by omega
      have HF := Lib.hid (show rkZ p c = (s : Int) by rw [HE.out, shel_no Hs.out Hi.out]; rfl)
      go_wp2_with fail
      go_ret
      exact ⟨by rw [HF.out]; rfl, HB.out⟩
  ·have HE := Lib.hid (show rkZ p c = -1 by rw [HZ.out, decide_eq_false h0, Bool.false_and, Bool.and_false]; rfl)
   obtain ⟨s, Hs⟩ : ∃ s, Hid (kingZ p c = s) := ⟨_, Lib.hid rfl⟩
   have g0 : decide (s < 0) = true := decide_eq_true (by rw [← Hs.out]; omega)
   clear gr h0
   go_enter Tryz.func65, Tryz.ntmps65
   go_wp2_with (first | (refine step_box rfl _ rfl p rfl ?_; intro b1 w1 N R; have HB := Lib.hid N.below; have HR := Lib.hid R; clear N R) | (refine step_load (by rfl) _ rfl _ rfl p HR.out ?_))
   refine (rfind_any p c _ HP.out).mono ?_; rintro e wn ⟨rfl, hb9⟩; rw [Hs.out]; have HR := Lib.hid (HR.out.later hb9); have HB := Lib.hid (below_on HB.out hb9); clear hb9
   have hcell := HR.out.cell 0 (by omega)
   rw [HV.out, show kAt 0 = .u8 from rfl] at hcell
   go_wp2_with fail
   refine (rroyal_c v m c HCm.out _).mono ?_; rintro e wn ⟨rfl, rfl⟩; rw [HRy.out]
   go_wp2_with fail
   go_ret
   exact ⟨by rw [HE.out]; rfl, HB.out⟩
theorem chk_rk (p : Nat → Int) (c : Int) : chkB p c = (decide (0 ≤ rkZ p c) && (byN p (rkZ p c) (oth c) != 0)) := by
 unfold rkZ
 cases hr : ryB (p 0).toNat c.toNat
 ·have : chkB p c = false := by unfold chkB; rw [hr]; rfl
  rw [this]; rfl
 ·cases hk : decide (0 ≤ kingZ p c)
  ·have hs : sq (kingZ p c) = false := sq_false.2 (.inl (by have := of_decide_eq_false hk; omega))
   have : chkB p c = false := by unfold chkB anyB; rw [byN_no p _ hs, hr]; simp
   rw [this]; rfl
  ·cases hb : shelB p (kingZ p c) c
   ·have : chkB p c = (byN p (kingZ p c) (oth c) != 0) := by unfold chkB anyB; rw [hr, hb]; rfl
    rw [this]
    simp only [Bool.true_and, Bool.not_false, if_true, hk]
   ·have : chkB p c = false := by unfold chkB; rw [hr, hb]; rfl
    rw [this]; rfl
theorem rk_col (p : Nat → Int) {c : Int} (h : 2 ≤ c) : rkZ p c = -1 := by
 unfold rkZ
 rw [ry_no _ _ (by omega)]; rfl
set_option maxHeartbeats 1000000 in
theorem rcheck_any (p : Nat → Int) (c : Int) (w : World) (hp : AtR p) (hc : 0 ≤ c ∧ c ≤ 255) : Calls Tryz.prog 36 #[.agg (posA p), .int .u8 c] w (BoL (chkB p c) w) := by
 have HP := Lib.hid hp
 have HC := Lib.hid hc
 have HW := Lib.hid (show (1 - c) % 256 = oth c from rfl)
 by_cases h1 : 1 < c
 ·have HE := Lib.hid (show chkB p c = false by rw [chk_rk, rk_col p (by omega)]; rfl)
  have g1 : decide (1 < c) = true := decide_eq_true h1
  clear h1 hp hc
  go_enter Tryz.func36, Tryz.ntmps36
  go_wp2_with (refine step_box rfl _ rfl p rfl ?_; intro b1 w1 N R; have HB := Lib.hid N.below; clear N R)
  go_ret
  exact ⟨by rw [HE.out]; rfl, HB.out⟩
 ·have g1 : decide (1 < c) = false := decide_eq_false h1
  have he := chk_rk p c
  obtain ⟨k, HK⟩ : ∃ k, Hid (rkZ p c = k) := ⟨_, Lib.hid rfl⟩
  rw [HK.out] at he
  cases g2 : decide (0 ≤ k)
  ·have HE := Lib.hid (show chkB p c = false by rw [he, g2]; rfl)
   clear h1 hp hc he
   go_enter Tryz.func36, Tryz.ntmps36
   go_wp2_with (first | (refine step_box rfl _ rfl p rfl ?_; intro b1 w1 N R; have HB := Lib.hid N.below; have HR := Lib.hid R; clear N R) | (refine step_load (by rfl) _ rfl _ rfl p HR.out ?_))
   refine (rking_any p c _ HP.out HC.out).mono ?_; rintro e wn ⟨rfl, hb9⟩; rw [HK.out]; have HB := Lib.hid (below_on HB.out hb9); clear hb9
   go_wp2_with fail
   go_ret
   exact ⟨by rw [HE.out]; rfl, HB.out⟩
  ·have HE := Lib.hid (show chkB p c = (((byN p k (oth c) : Nat) : Int) != 0) by rw [he, g2, bne_nat]; rfl)
   clear h1 hp hc he
   go_enter Tryz.func36, Tryz.ntmps36
   go_wp2_with (first | (refine step_box rfl _ rfl p rfl ?_; intro b1 w1 N R; have HB := Lib.hid N.below; have HR := Lib.hid R; clear N R) | (refine step_load (by rfl) _ rfl _ rfl p HR.out ?_))
   refine (rking_any p c _ HP.out HC.out).mono ?_; rintro e wn ⟨rfl, hb9⟩; rw [HK.out]; have HR := Lib.hid (HR.out.later hb9); have HB := Lib.hid (below_on HB.out hb9); clear hb9
   go_wp2_with (refine step_load (by rfl) _ rfl _ rfl p HR.out ?_)
   rw [HW.out]
   refine (rby_any p k (oth c) _ HP.out.bd (oth_u8 c).1).mono ?_; rintro e wn ⟨rfl, hb9⟩; have HB := Lib.hid (below_on HB.out hb9); clear hb9
   go_wp2_with fail
   go_ret
   exact ⟨by rw [HE.out]; rfl, HB.out⟩
end Go.Proofs.YtigkbccpkepdmaaGreatDoor
