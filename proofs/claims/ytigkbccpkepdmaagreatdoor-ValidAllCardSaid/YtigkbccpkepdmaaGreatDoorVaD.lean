/-
 Contracts of layer 12's rookMayBe, rooks, inCheck, check.
-/
import Derived.Test.YtigkbccpkepdmaaGreatDoorVaC
namespace Go.Proofs.YtigkbccpkepdmaaGreatDoor
open Go.RowKit
set_option linter.unusedVariables false
set_option linter.unusedSimpArgs false

def usL : List Value := [.int .i64 7, .int .i64 0]
def TabUs (w : World) : Prop := w.rangeAt 0 0 usL
theorem TabUs.on {w w' : World} (h : TabUs w) (hb : Below w.heap.size w w') : TabUs w' := range_on h hb
theorem TabUs.cell {w : World} (h : TabUs w) {d : Nat} (hd : d < 2) : w.cell? ⟨0, d, none⟩ = some (.int .i64 (usZ d)) := by
 have a : d = 0 ∨ d = 1 := by omega
 rcases a with rfl | rfl
 ·exact h 0 _ rfl
 ·exact h 1 _ rfl
theorem king_ge (p : Nat → Int) (c : Int) : -1 ≤ kingZ p c := by
 unfold kingZ firstN
 split <;> omega
theorem kingZ_rng (p : Nat → Int) (c : Int) : -1 ≤ kingZ p c ∧ kingZ p c < 64 := by
 by_cases h : 0 ≤ kingZ p c
 ·obtain ⟨n, hn, e⟩ := vking_sq h
  rw [e]; omega
 ·have := king_ge p c
  omega
set_option maxRecDepth 100000 in
set_option maxHeartbeats 1000000 in
theorem rk_w0 (p : Nat → Int) (c s : Nat) (w : World) (hp : FitP p) (ha : argB p = true) (hc : c < 2) (hs : s < 2) (hT : TabVar w) (hD : TabDb w) (hU : TabUs w) (q0 : (roA p c s == -1) = true) : Calls Tryz.prog 22 #[.agg (posA p), .int .u8 (c : Int), .int .i64 (s : Int)] w (BoL (rkB p c s) w) := by
 have HT := Lib.hid hT
 have HD := Lib.hid hD
 have HU := Lib.hid hU
 have HP := Lib.hid hp
 have HC := Lib.hid hc
 have HSd := Lib.hid hs
 obtain ⟨v, hvv⟩ : ∃ v : Nat, p 0 = (v : Int) := ⟨(p 0).toNat, (Int.toNat_of_nonneg hp.var.1).symm⟩
 have hv2 : (p 0).toNat = v := by omega
 have HV := Lib.hid (show v ≤ 255 by have := hp.var.2; omega)
 have HCs := Lib.hid (fun (W : World) (b : Nat) (h : VR W b p) => show W.cell? ⟨b, 0, none⟩ = some (.int .u8 (v : Int)) by rw [h.cell 0 (by decide), hvv]; rfl)
 have c0 : (0 : Int) ≤ (c : Int) := by omega
 have c2 : (c : Int) < 2 := by omega
 have s0 : (0 : Int) ≤ (s : Int) := by omega
 have s2 : (s : Int) < 2 := by omega
 obtain ⟨r0, r8⟩ := filB_at (argB_var ha).2.2.2.2.2.1 (c * 2 + s) (by omega)
 obtain ⟨r, hr⟩ : ∃ r, roA p c s = r := ⟨_, rfl⟩
 have hro : p (79 + c * 2 + s) = r := hr
 rw [show 79 + (c * 2 + s) = 79 + c * 2 + s by omega, hro] at r0 r8
 have HRk := Lib.hid (fun (W : World) (b : Nat) (h : VR W b p) => show W.cell? ⟨b, 79 + c * 2 + s, none⟩ = some (.int .i8 r) by rw [h.cell (79 + c * 2 + s) (by omega), hro, k_i8 (by omega) (by omega)])
 have wr : IntKind.i64.wrap r = r := IntWalk.i64_in _ (by omega)
 have h0 : (r == -1) = true := by rw [← hr]; exact q0
 have HS := Lib.hid (show rkB p c s = true by unfold rkB; rw [hr]; rw [h0]; rfl)
 clear hp ha hc hs hT hD hU hvv hv2 hr hro q0
 have HB := Lib.hid (Below.refl w.heap.size w)
 have HQu1 := Lib.hid trivial
 have HQu2 := Lib.hid trivial
 go_enter Tryz.func22, Tryz.ntmps22
 go_wp2_with (first
   | (clear HQu1; refine va_box rfl _ rfl p rfl ?_; intro b1 w1 N R; have HB := Lib.hid (HB.out.trans (N.below.mono HB.out.size)); have HR := Lib.hid R; clear N R)
   | (clear HQu2; refine step_get rfl 26 _ rfl b1 (79 + c * 2 + s) rfl Tryz.underlying26 rfl (.int .i8 r) ?_ ?_; exact HRk.out _ _ HR.out))
 go_ret
 exact ⟨by (rw [HS.out]; try rfl), HB.out⟩
set_option maxRecDepth 100000 in
set_option maxHeartbeats 1000000 in
theorem rk_w1 (p : Nat → Int) (c s : Nat) (w : World) (hp : FitP p) (ha : argB p = true) (hc : c < 2) (hs : s < 2) (hT : TabVar w) (hD : TabDb w) (hU : TabUs w) (q0 : (roA p c s == -1) = false) (q1 : casB (p 0).toNat = false) : Calls Tryz.prog 22 #[.agg (posA p), .int .u8 (c : Int), .int .i64 (s : Int)] w (BoL (rkB p c s) w) := by
 have HT := Lib.hid hT
 have HD := Lib.hid hD
 have HU := Lib.hid hU
 have HP := Lib.hid hp
 have HC := Lib.hid hc
 have HSd := Lib.hid hs
 obtain ⟨v, hvv⟩ : ∃ v : Nat, p 0 = (v : Int) := ⟨(p 0).toNat, (Int.toNat_of_nonneg hp.var.1).symm⟩
 have hv2 : (p 0).toNat = v := by omega
 have HV := Lib.hid (show v ≤ 255 by have := hp.var.2; omega)
 have HCs := Lib.hid (fun (W : World) (b : Nat) (h : VR W b p) => show W.cell? ⟨b, 0, none⟩ = some (.int .u8 (v : Int)) by rw [h.cell 0 (by decide), hvv]; rfl)
 have c0 : (0 : Int) ≤ (c : Int) := by omega
 have c2 : (c : Int) < 2 := by omega
 have s0 : (0 : Int) ≤ (s : Int) := by omega
 have s2 : (s : Int) < 2 := by omega
 obtain ⟨r0, r8⟩ := filB_at (argB_var ha).2.2.2.2.2.1 (c * 2 + s) (by omega)
 obtain ⟨r, hr⟩ : ∃ r, roA p c s = r := ⟨_, rfl⟩
 have hro : p (79 + c * 2 + s) = r := hr
 rw [show 79 + (c * 2 + s) = 79 + c * 2 + s by omega, hro] at r0 r8
 have HRk := Lib.hid (fun (W : World) (b : Nat) (h : VR W b p) => show W.cell? ⟨b, 79 + c * 2 + s, none⟩ = some (.int .i8 r) by rw [h.cell (79 + c * 2 + s) (by omega), hro, k_i8 (by omega) (by omega)])
 have wr : IntKind.i64.wrap r = r := IntWalk.i64_in _ (by omega)
 have hkr := kingZ_rng p (c : Int)
 obtain ⟨kz, hkz⟩ : ∃ k, kingZ p (c : Int) = k := ⟨_, rfl⟩
 rw [hkz] at hkr
 have HKz := Lib.hid (show firstN (ofN p (c : Int) 6) = kz from hkz)
 have hkf : kfZ p c = kz - 56 * (c : Int) := by unfold kfZ; rw [hkz]
 obtain ⟨f, hf⟩ : ∃ f, kz - 56 * (c : Int) = f := ⟨_, rfl⟩
 have hfr : -60 ≤ f ∧ f < 64 := by omega
 have wf : IntKind.i64.wrap (kz - 56 * (c : Int)) = f := by rw [hf]; exact IntWalk.i64_in _ (by omega)
 rw [hf] at hkf
 have h0 : (r == -1) = false := by rw [← hr]; exact q0
 have h1 : casB v = false := by rw [← hv2]; exact q1
 have HCa := Lib.hid h1
 have HS := Lib.hid (show rkB p c s = false by unfold rkB; rw [hr, hv2, hkf]; rw [h0, h1]; rfl)
 clear hp ha hc hs hT hD hU hvv hv2 hr hro hkz hkf q0 q1
 have HB := Lib.hid (Below.refl w.heap.size w)
 have HQu1 := Lib.hid trivial
 have HQu2 := Lib.hid trivial
 have HQu3 := Lib.hid trivial
 have HQu4 := Lib.hid trivial
 have HQu5 := Lib.hid trivial
 have HQu6 := Lib.hid trivial
 have HQu7 := Lib.hid trivial
 go_enter Tryz.func22, Tryz.ntmps22
 go_wp2_with (first
   | (clear HQu1; refine va_box rfl _ rfl p rfl ?_; intro b1 w1 N R; have HB := Lib.hid (HB.out.trans (N.below.mono HB.out.size)); have HR := Lib.hid R; clear N R)
   | (clear HQu2; refine step_get rfl 26 _ rfl b1 (79 + c * 2 + s) rfl Tryz.underlying26 rfl (.int .i8 r) ?_ ?_; exact HRk.out _ _ HR.out)
   | (clear HQu3; go_at_call 46; refine (home_any c HC.out _).mono ?_; rintro e w3 ⟨rfl, rfl⟩)
   | (clear HQu4; refine va_in rfl _ rfl b1 rfl p HR.out ?_)
   | (clear HQu5; go_at_call 47; refine (find_set p (c : Int) 6 _ HP.out.at.bd (HD.out.on HB.out)).mono ?_; rintro e w3 ⟨rfl, hb⟩; rw [HKz.out]; have HR := Lib.hid (HR.out.later hb); have HB := Lib.hid (below_on HB.out hb); clear hb)
   | (clear HQu6; refine step_get rfl 5 _ rfl b1 0 rfl Tryz.underlying5 rfl (.int .u8 (v : Int)) ?_ ?_; exact HCs.out _ _ HR.out)
   | (clear HQu7; go_at_call 48; refine (cas_any v _ HV.out (HT.out.on HB.out)).mono ?_; rintro e w3 ⟨rfl, hb⟩; rw [HCa.out]; have HR := Lib.hid (HR.out.later hb); have HB := Lib.hid (below_on HB.out hb); clear hb))
 go_ret
 exact ⟨by (rw [HS.out]; try rfl), HB.out⟩
set_option maxRecDepth 100000 in
set_option maxHeartbeats 1000000 in
theorem rk_w2 (p : Nat → Int) (c s : Nat) (w : World) (hp : FitP p) (ha : argB p = true) (hc : c < 2) (hs : s < 2) (hT : TabVar w) (hD : TabDb w) (hU : TabUs w) (q0 : (roA p c s == -1) = false) (q1 : casB (p 0).toNat = true) (q2 : decide (0 ≤ kfZ p c) = false) : Calls Tryz.prog 22 #[.agg (posA p), .int .u8 (c : Int), .int .i64 (s : Int)] w (BoL (rkB p c s) w) := by
 have HT := Lib.hid hT
 have HD := Lib.hid hD
 have HU := Lib.hid hU
 have HP := Lib.hid hp
 have HC := Lib.hid hc
 have HSd := Lib.hid hs
 obtain ⟨v, hvv⟩ : ∃ v : Nat, p 0 = (v : Int) := ⟨(p 0).toNat, (Int.toNat_of_nonneg hp.var.1).symm⟩
 have hv2 : (p 0).toNat = v := by omega
 have HV := Lib.hid (show v ≤ 255 by have := hp.var.2; omega)
 have HCs := Lib.hid (fun (W : World) (b : Nat) (h : VR W b p) => show W.cell? ⟨b, 0, none⟩ = some (.int .u8 (v : Int)) by rw [h.cell 0 (by decide), hvv]; rfl)
 have c0 : (0 : Int) ≤ (c : Int) := by omega
 have c2 : (c : Int) < 2 := by omega
 have s0 : (0 : Int) ≤ (s : Int) := by omega
 have s2 : (s : Int) < 2 := by omega
 obtain ⟨r0, r8⟩ := filB_at (argB_var ha).2.2.2.2.2.1 (c * 2 + s) (by omega)
 obtain ⟨r, hr⟩ : ∃ r, roA p c s = r := ⟨_, rfl⟩
 have hro : p (79 + c * 2 + s) = r := hr
 rw [show 79 + (c * 2 + s) = 79 + c * 2 + s by omega, hro] at r0 r8
 have HRk := Lib.hid (fun (W : World) (b : Nat) (h : VR W b p) => show W.cell? ⟨b, 79 + c * 2 + s, none⟩ = some (.int .i8 r) by rw [h.cell (79 + c * 2 + s) (by omega), hro, k_i8 (by omega) (by omega)])
 have wr : IntKind.i64.wrap r = r := IntWalk.i64_in _ (by omega)
 have hkr := kingZ_rng p (c : Int)
 obtain ⟨kz, hkz⟩ : ∃ k, kingZ p (c : Int) = k := ⟨_, rfl⟩
 rw [hkz] at hkr
 have HKz := Lib.hid (show firstN (ofN p (c : Int) 6) = kz from hkz)
 have hkf : kfZ p c = kz - 56 * (c : Int) := by unfold kfZ; rw [hkz]
 obtain ⟨f, hf⟩ : ∃ f, kz - 56 * (c : Int) = f := ⟨_, rfl⟩
 have hfr : -60 ≤ f ∧ f < 64 := by omega
 have wf : IntKind.i64.wrap (kz - 56 * (c : Int)) = f := by rw [hf]; exact IntWalk.i64_in _ (by omega)
 rw [hf] at hkf
 have h0 : (r == -1) = false := by rw [← hr]; exact q0
 have h1 : casB v = true := by rw [← hv2]; exact q1
 have HCa := Lib.hid h1
 have g2 : decide (f < 0) = true := by rw [hkf] at q2; have := of_decide_eq_false q2; exact decide_eq_true (by omega)
 have HS := Lib.hid (show rkB p c s = false by unfold rkB; rw [hr, hv2, hkf]; rw [h0, h1, show decide (0 ≤ f) = false from decide_eq_false (by have := of_decide_eq_true g2; omega)]; rfl)
 clear hp ha hc hs hT hD hU hvv hv2 hr hro hkz hkf q0 q1 q2 h1
 have HB := Lib.hid (Below.refl w.heap.size w)
 have HQu1 := Lib.hid trivial
 have HQu2 := Lib.hid trivial
 have HQu3 := Lib.hid trivial
 have HQu4 := Lib.hid trivial
 have HQu5 := Lib.hid trivial
 have HQu6 := Lib.hid trivial
 have HQu7 := Lib.hid trivial
 go_enter Tryz.func22, Tryz.ntmps22
 go_wp2_with (first
   | (clear HQu1; refine va_box rfl _ rfl p rfl ?_; intro b1 w1 N R; have HB := Lib.hid (HB.out.trans (N.below.mono HB.out.size)); have HR := Lib.hid R; clear N R)
   | (clear HQu2; refine step_get rfl 26 _ rfl b1 (79 + c * 2 + s) rfl Tryz.underlying26 rfl (.int .i8 r) ?_ ?_; exact HRk.out _ _ HR.out)
   | (clear HQu3; go_at_call 46; refine (home_any c HC.out _).mono ?_; rintro e w3 ⟨rfl, rfl⟩)
   | (clear HQu4; refine va_in rfl _ rfl b1 rfl p HR.out ?_)
   | (clear HQu5; go_at_call 47; refine (find_set p (c : Int) 6 _ HP.out.at.bd (HD.out.on HB.out)).mono ?_; rintro e w3 ⟨rfl, hb⟩; rw [HKz.out]; have HR := Lib.hid (HR.out.later hb); have HB := Lib.hid (below_on HB.out hb); clear hb)
   | (clear HQu6; refine step_get rfl 5 _ rfl b1 0 rfl Tryz.underlying5 rfl (.int .u8 (v : Int)) ?_ ?_; exact HCs.out _ _ HR.out)
   | (clear HQu7; go_at_call 48; refine (cas_any v _ HV.out (HT.out.on HB.out)).mono ?_; rintro e w3 ⟨rfl, hb⟩; rw [HCa.out]; have HR := Lib.hid (HR.out.later hb); have HB := Lib.hid (below_on HB.out hb); clear hb))
 go_ret
 exact ⟨by (rw [HS.out]; try rfl), HB.out⟩
set_option maxRecDepth 100000 in
set_option maxHeartbeats 1000000 in
theorem rk_w3 (p : Nat → Int) (c s : Nat) (w : World) (hp : FitP p) (ha : argB p = true) (hc : c < 2) (hs : s < 2) (hT : TabVar w) (hD : TabDb w) (hU : TabUs w) (q0 : (roA p c s == -1) = false) (q1 : casB (p 0).toNat = true) (q2 : decide (0 ≤ kfZ p c) = true) (q3 : decide (kfZ p c < 8) = false) : Calls Tryz.prog 22 #[.agg (posA p), .int .u8 (c : Int), .int .i64 (s : Int)] w (BoL (rkB p c s) w) := by
 have HT := Lib.hid hT
 have HD := Lib.hid hD
 have HU := Lib.hid hU
 have HP := Lib.hid hp
 have HC := Lib.hid hc
 have HSd := Lib.hid hs
 obtain ⟨v, hvv⟩ : ∃ v : Nat, p 0 = (v : Int) := ⟨(p 0).toNat, (Int.toNat_of_nonneg hp.var.1).symm⟩
 have hv2 : (p 0).toNat = v := by omega
 have HV := Lib.hid (show v ≤ 255 by have := hp.var.2; omega)
 have HCs := Lib.hid (fun (W : World) (b : Nat) (h : VR W b p) => show W.cell? ⟨b, 0, none⟩ = some (.int .u8 (v : Int)) by rw [h.cell 0 (by decide), hvv]; rfl)
 have c0 : (0 : Int) ≤ (c : Int) := by omega
 have c2 : (c : Int) < 2 := by omega
 have s0 : (0 : Int) ≤ (s : Int) := by omega
 have s2 : (s : Int) < 2 := by omega
 obtain ⟨r0, r8⟩ := filB_at (argB_var ha).2.2.2.2.2.1 (c * 2 + s) (by omega)
 obtain ⟨r, hr⟩ : ∃ r, roA p c s = r := ⟨_, rfl⟩
 have hro : p (79 + c * 2 + s) = r := hr
 rw [show 79 + (c * 2 + s) = 79 + c * 2 + s by omega, hro] at r0 r8
 have HRk := Lib.hid (fun (W : World) (b : Nat) (h : VR W b p) => show W.cell? ⟨b, 79 + c * 2 + s, none⟩ = some (.int .i8 r) by rw [h.cell (79 + c * 2 + s) (by omega), hro, k_i8 (by omega) (by omega)])
 have wr : IntKind.i64.wrap r = r := IntWalk.i64_in _ (by omega)
 have hkr := kingZ_rng p (c : Int)
 obtain ⟨kz, hkz⟩ : ∃ k, kingZ p (c : Int) = k := ⟨_, rfl⟩
 rw [hkz] at hkr
 have HKz := Lib.hid (show firstN (ofN p (c : Int) 6) = kz from hkz)
 have hkf : kfZ p c = kz - 56 * (c : Int) := by unfold kfZ; rw [hkz]
 obtain ⟨f, hf⟩ : ∃ f, kz - 56 * (c : Int) = f := ⟨_, rfl⟩
 have hfr : -60 ≤ f ∧ f < 64 := by omega
 have wf : IntKind.i64.wrap (kz - 56 * (c : Int)) = f := by rw [hf]; exact IntWalk.i64_in _ (by omega)
 rw [hf] at hkf
 have h0 : (r == -1) = false := by rw [← hr]; exact q0
 have h1 : casB v = true := by rw [← hv2]; exact q1
 have HCa := Lib.hid h1
 have f0 : 0 ≤ f := by rw [hkf] at q2; exact of_decide_eq_true q2
 have g2 : decide (f < 0) = false := decide_eq_false (by omega)
 have g3 : decide (8 ≤ f) = true := by rw [hkf] at q3; have := of_decide_eq_false q3; exact decide_eq_true (by omega)
 have HS := Lib.hid (show rkB p c s = false by unfold rkB; rw [hr, hv2, hkf]; rw [h0, h1, decide_eq_true f0, show decide (f < 8) = false from decide_eq_false (by have := of_decide_eq_true g3; omega)]; rfl)
 clear hp ha hc hs hT hD hU hvv hv2 hr hro hkz hkf q0 q1 q2 q3 h1 f0
 have HB := Lib.hid (Below.refl w.heap.size w)
 have HQu1 := Lib.hid trivial
 have HQu2 := Lib.hid trivial
 have HQu3 := Lib.hid trivial
 have HQu4 := Lib.hid trivial
 have HQu5 := Lib.hid trivial
 have HQu6 := Lib.hid trivial
 have HQu7 := Lib.hid trivial
 go_enter Tryz.func22, Tryz.ntmps22
 go_wp2_with (first
   | (clear HQu1; refine va_box rfl _ rfl p rfl ?_; intro b1 w1 N R; have HB := Lib.hid (HB.out.trans (N.below.mono HB.out.size)); have HR := Lib.hid R; clear N R)
   | (clear HQu2; refine step_get rfl 26 _ rfl b1 (79 + c * 2 + s) rfl Tryz.underlying26 rfl (.int .i8 r) ?_ ?_; exact HRk.out _ _ HR.out)
   | (clear HQu3; go_at_call 46; refine (home_any c HC.out _).mono ?_; rintro e w3 ⟨rfl, rfl⟩)
   | (clear HQu4; refine va_in rfl _ rfl b1 rfl p HR.out ?_)
   | (clear HQu5; go_at_call 47; refine (find_set p (c : Int) 6 _ HP.out.at.bd (HD.out.on HB.out)).mono ?_; rintro e w3 ⟨rfl, hb⟩; rw [HKz.out]; have HR := Lib.hid (HR.out.later hb); have HB := Lib.hid (below_on HB.out hb); clear hb)
   | (clear HQu6; refine step_get rfl 5 _ rfl b1 0 rfl Tryz.underlying5 rfl (.int .u8 (v : Int)) ?_ ?_; exact HCs.out _ _ HR.out)
   | (clear HQu7; go_at_call 48; refine (cas_any v _ HV.out (HT.out.on HB.out)).mono ?_; rintro e w3 ⟨rfl, hb⟩; rw [HCa.out]; have HR := Lib.hid (HR.out.later hb); have HB := Lib.hid (below_on HB.out hb); clear hb))
 go_ret
 exact ⟨by (rw [HS.out]; try rfl), HB.out⟩
set_option maxRecDepth 100000 in
set_option maxHeartbeats 1000000 in
theorem rk_w4 (p : Nat → Int) (c s : Nat) (w : World) (hp : FitP p) (ha : argB p = true) (hc : c < 2) (hs : s < 2) (hT : TabVar w) (hD : TabDb w) (hU : TabUs w) (q0 : (roA p c s == -1) = false) (q1 : casB (p 0).toNat = true) (q2 : decide (0 ≤ kfZ p c) = true) (q3 : decide (kfZ p c < 8) = true) (q4 : (p (1 + (56 * c + (roA p c s).toNat)) == mkZ (c : Int) 4) = false)  : Calls Tryz.prog 22 #[.agg (posA p), .int .u8 (c : Int), .int .i64 (s : Int)] w (BoL (rkB p c s) w) := by
 have HT := Lib.hid hT
 have HD := Lib.hid hD
 have HU := Lib.hid hU
 have HP := Lib.hid hp
 have HC := Lib.hid hc
 have HSd := Lib.hid hs
 obtain ⟨v, hvv⟩ : ∃ v : Nat, p 0 = (v : Int) := ⟨(p 0).toNat, (Int.toNat_of_nonneg hp.var.1).symm⟩
 have hv2 : (p 0).toNat = v := by omega
 have HV := Lib.hid (show v ≤ 255 by have := hp.var.2; omega)
 have HCs := Lib.hid (fun (W : World) (b : Nat) (h : VR W b p) => show W.cell? ⟨b, 0, none⟩ = some (.int .u8 (v : Int)) by rw [h.cell 0 (by decide), hvv]; rfl)
 have c0 : (0 : Int) ≤ (c : Int) := by omega
 have c2 : (c : Int) < 2 := by omega
 have s0 : (0 : Int) ≤ (s : Int) := by omega
 have s2 : (s : Int) < 2 := by omega
 obtain ⟨r0, r8⟩ := filB_at (argB_var ha).2.2.2.2.2.1 (c * 2 + s) (by omega)
 obtain ⟨r, hr⟩ : ∃ r, roA p c s = r := ⟨_, rfl⟩
 have hro : p (79 + c * 2 + s) = r := hr
 rw [show 79 + (c * 2 + s) = 79 + c * 2 + s by omega, hro] at r0 r8
 have HRk := Lib.hid (fun (W : World) (b : Nat) (h : VR W b p) => show W.cell? ⟨b, 79 + c * 2 + s, none⟩ = some (.int .i8 r) by rw [h.cell (79 + c * 2 + s) (by omega), hro, k_i8 (by omega) (by omega)])
 have wr : IntKind.i64.wrap r = r := IntWalk.i64_in _ (by omega)
 have hkr := kingZ_rng p (c : Int)
 obtain ⟨kz, hkz⟩ : ∃ k, kingZ p (c : Int) = k := ⟨_, rfl⟩
 rw [hkz] at hkr
 have HKz := Lib.hid (show firstN (ofN p (c : Int) 6) = kz from hkz)
 have hkf : kfZ p c = kz - 56 * (c : Int) := by unfold kfZ; rw [hkz]
 obtain ⟨f, hf⟩ : ∃ f, kz - 56 * (c : Int) = f := ⟨_, rfl⟩
 have hfr : -60 ≤ f ∧ f < 64 := by omega
 have wf : IntKind.i64.wrap (kz - 56 * (c : Int)) = f := by rw [hf]; exact IntWalk.i64_in _ (by omega)
 rw [hf] at hkf
 have h0 : (r == -1) = false := by rw [← hr]; exact q0
 have h1 : casB v = true := by rw [← hv2]; exact q1
 have HCa := Lib.hid h1
 have f0 : 0 ≤ f := by rw [hkf] at q2; exact of_decide_eq_true q2
 have g2 : decide (f < 0) = false := decide_eq_false (by omega)
 have f8 : f < 8 := by rw [hkf] at q3; exact of_decide_eq_true q3
 have g3 : decide (8 ≤ f) = false := decide_eq_false (by omega)
 have r00 : 0 ≤ r := by rw [beq_eq_false_iff_ne] at h0; omega
 obtain ⟨i, hi⟩ : ∃ i : Nat, 56 * c + r.toNat = i := ⟨_, rfl⟩
 have hii : 56 * (c : Int) + r = (i : Int) := by omega
 have i64 : i < 64 := by omega
 have hil : (i : Int) < 64 := by omega
 have hi0 : (0 : Int) ≤ (i : Int) := by omega
 have wi : IntKind.i64.wrap (56 * (c : Int) + r) = (i : Int) := by rw [hii]; exact IntWalk.i64_in _ (by omega)
 have HI := Lib.hid i64
 have HKi := Lib.hid (kAt_board (Nat.zero_le i) i64)
 obtain ⟨x, hx⟩ : ∃ x, p (1 + i) = x := ⟨_, rfl⟩
 have HCx := Lib.hid (fun (W : World) (b : Nat) (h : VR W b p) => show W.cell? ⟨b, 1 + i, none⟩ = some (.int .u8 x) by rw [h.cell (1 + i) (by omega), kAt_board (Nat.zero_le i) i64, hx])
 obtain ⟨y, hy⟩ : ∃ y, mkZ (c : Int) 4 = y := ⟨_, rfl⟩
 have HMk := Lib.hid hy
 have HC0 := Lib.hid c0
 have h4 : (x == y) = false := by rw [← hx, ← hy, ← hi, ← hr]; exact q4
 have g4 : (x != y) = true := by rw [bne, h4]; rfl
 have HS := Lib.hid (show rkB p c s = false by unfold rkB; rw [hr, hv2, hkf]; rw [h0, h1, decide_eq_true f0, decide_eq_true f8, hi, hx, hy, h4]; rfl)
 clear hp ha hc hs hT hD hU hvv hv2 hr hro hkz hkf q0 q1 q2 q3 h1 f0 f8 hx hy hi hii i64 r00 q4 h4
 have HB := Lib.hid (Below.refl w.heap.size w)
 have HQu1 := Lib.hid trivial
 have HQu2 := Lib.hid trivial
 have HQu3 := Lib.hid trivial
 have HQu4 := Lib.hid trivial
 have HQu5 := Lib.hid trivial
 have HQu6 := Lib.hid trivial
 have HQu7 := Lib.hid trivial
 go_enter Tryz.func22, Tryz.ntmps22
 go_wp2_with (first
   | (clear HQu1; refine va_box rfl _ rfl p rfl ?_; intro b1 w1 N R; have HB := Lib.hid (HB.out.trans (N.below.mono HB.out.size)); have HR := Lib.hid R; clear N R)
   | (clear HQu2; refine step_get rfl 26 _ rfl b1 (79 + c * 2 + s) rfl Tryz.underlying26 rfl (.int .i8 r) ?_ ?_; exact HRk.out _ _ HR.out)
   | (clear HQu3; go_at_call 46; refine (home_any c HC.out _).mono ?_; rintro e w3 ⟨rfl, rfl⟩)
   | (clear HQu4; refine va_in rfl _ rfl b1 rfl p HR.out ?_)
   | (clear HQu5; go_at_call 47; refine (find_set p (c : Int) 6 _ HP.out.at.bd (HD.out.on HB.out)).mono ?_; rintro e w3 ⟨rfl, hb⟩; rw [HKz.out]; have HR := Lib.hid (HR.out.later hb); have HB := Lib.hid (below_on HB.out hb); clear hb)
   | (clear HQu6; refine step_get rfl 5 _ rfl b1 0 rfl Tryz.underlying5 rfl (.int .u8 (v : Int)) ?_ ?_; exact HCs.out _ _ HR.out)
   | (clear HQu7; go_at_call 48; refine (cas_any v _ HV.out (HT.out.on HB.out)).mono ?_; rintro e w3 ⟨rfl, hb⟩; rw [HCa.out]; have HR := Lib.hid (HR.out.later hb); have HB := Lib.hid (below_on HB.out hb); clear hb))
 refine late_begin 11 (by kernel_rfl) ?_
 refine lv 0 rfl ?_; apply Exists.intro; refine ⟨fun w' hl => ?_, ?_⟩
 ·(go_simp; try with_reducible rfl)
 simp only [Act.put, pa, pb, pc]
 refine lv 1 rfl ?_; apply Exists.intro; refine ⟨fun w' hl => ?_, ?_⟩
 ·(go_simp; try with_reducible rfl)
 simp only [Act.put, pa, pb, pc]
 refine lv 2 rfl ⟨.int .i64 (i : Int), fun w' hl => ?_, ?_⟩
 ·(go_simp; try simp [wi])
 simp only [Act.put, pa, pb, pc]
 refine lv 3 rfl ?_; apply Exists.intro; refine ⟨fun w' hl => ?_, ?_⟩
 ·(go_simp; try with_reducible rfl)
 simp only [Act.put, pa, pb, pc]
 refine lv 4 rfl ?_; apply Exists.intro; refine ⟨fun w' hl => ?_, ?_⟩
 ·(go_simp; try with_reducible rfl)
 simp only [Act.put, pa, pb, pc]
 refine lv 5 rfl ?_; apply Exists.intro; refine ⟨fun w' hl => ?_, ?_⟩
 ·(go_simp; try with_reducible rfl)
 simp only [Act.put, pa, pb, pc]
 refine lv 6 rfl ⟨_, fun w' hl => (run_get 5 _ rfl b1 (1 + i) rfl Tryz.underlying5 rfl (.int .u8 x) (HCx.out _ _ (HR.out.later hl))), ?_⟩
 simp only [Act.put, pa, pb, pc]
 refine lv 7 rfl ?_; apply Exists.intro; refine ⟨fun w' hl => ?_, ?_⟩
 ·(go_simp; try with_reducible rfl)
 simp only [Act.put, pa, pb, pc]
 refine late_one 8 (by kernel_rfl) (by kernel_rfl) (fun o ho => ?_)
 simp only [qa, qb, qc, qd] at ho; subst ho
 refine ⟨by kernel_rfl, fun wn hl K hK => ?_⟩
 have HR := Lib.hid (HR.out.later hl); have HB := Lib.hid (below_on HB.out hl); clear hl
 refine wp_enter _ _ (by go_simp; exact ⟨rfl, rfl⟩) ?_
 refine (mk_any (c : Int) 4 _ HC0.out (by decide)).mono ?_; rintro e wm ⟨rfl, rfl⟩; refine ⟨_, rfl, ?_⟩
 rw [HMk.out]
 refine hK.out _ _ (Later.refl _) ?_
 clear hK K
 simp only [Act.put, pa, pb, pc]
 refine lv 9 rfl ⟨.bool true, fun w' hl => ?_, ?_⟩
 ·(go_simp; try simp [g4])
 simp only [Act.put, pa, pb, pc]
 refine lv 10 rfl ?_; apply Exists.intro; refine ⟨fun w' hl => ?_, ?_⟩
 ·(go_simp; try with_reducible rfl)
 simp only [Act.put, pa, pb, pc]
 refine late_end (by kernel_rfl) (fun wn hl => ?_)
 have HR := Lib.hid (HR.out.later hl); have HB := Lib.hid (below_on HB.out hl); clear hl
 go_wp2_with fail
 go_ret
 exact ⟨by (rw [HS.out]; try rfl), HB.out⟩
set_option maxRecDepth 100000 in
set_option maxHeartbeats 1000000 in
theorem rk_w5 (p : Nat → Int) (c s : Nat) (w : World) (hp : FitP p) (ha : argB p = true) (hc : c < 2) (hs : s < 2) (hT : TabVar w) (hD : TabDb w) (hU : TabUs w) (q0 : (roA p c s == -1) = false) (q1 : casB (p 0).toNat = true) (q2 : decide (0 ≤ kfZ p c) = true) (q3 : decide (kfZ p c < 8) = true) (q4 : (p (1 + (56 * c + (roA p c s).toNat)) == mkZ (c : Int) 4) = true) (q5 : (decide (kfZ p c < roA p c s) == (s == 0)) = false)  : Calls Tryz.prog 22 #[.agg (posA p), .int .u8 (c : Int), .int .i64 (s : Int)] w (BoL (rkB p c s) w) := by
 have HT := Lib.hid hT
 have HD := Lib.hid hD
 have HU := Lib.hid hU
 have HP := Lib.hid hp
 have HC := Lib.hid hc
 have HSd := Lib.hid hs
 obtain ⟨v, hvv⟩ : ∃ v : Nat, p 0 = (v : Int) := ⟨(p 0).toNat, (Int.toNat_of_nonneg hp.var.1).symm⟩
 have hv2 : (p 0).toNat = v := by omega
 have HV := Lib.hid (show v ≤ 255 by have := hp.var.2; omega)
 have HCs := Lib.hid (fun (W : World) (b : Nat) (h : VR W b p) => show W.cell? ⟨b, 0, none⟩ = some (.int .u8 (v : Int)) by rw [h.cell 0 (by decide), hvv]; rfl)
 have c0 : (0 : Int) ≤ (c : Int) := by omega
 have c2 : (c : Int) < 2 := by omega
 have s0 : (0 : Int) ≤ (s : Int) := by omega
 have s2 : (s : Int) < 2 := by omega
 obtain ⟨r0, r8⟩ := filB_at (argB_var ha).2.2.2.2.2.1 (c * 2 + s) (by omega)
 obtain ⟨r, hr⟩ : ∃ r, roA p c s = r := ⟨_, rfl⟩
 have hro : p (79 + c * 2 + s) = r := hr
 rw [show 79 + (c * 2 + s) = 79 + c * 2 + s by omega, hro] at r0 r8
 have HRk := Lib.hid (fun (W : World) (b : Nat) (h : VR W b p) => show W.cell? ⟨b, 79 + c * 2 + s, none⟩ = some (.int .i8 r) by rw [h.cell (79 + c * 2 + s) (by omega), hro, k_i8 (by omega) (by omega)])
 have wr : IntKind.i64.wrap r = r := IntWalk.i64_in _ (by omega)
 have hkr := kingZ_rng p (c : Int)
 obtain ⟨kz, hkz⟩ : ∃ k, kingZ p (c : Int) = k := ⟨_, rfl⟩
 rw [hkz] at hkr
 have HKz := Lib.hid (show firstN (ofN p (c : Int) 6) = kz from hkz)
 have hkf : kfZ p c = kz - 56 * (c : Int) := by unfold kfZ; rw [hkz]
 obtain ⟨f, hf⟩ : ∃ f, kz - 56 * (c : Int) = f := ⟨_, rfl⟩
 have hfr : -60 ≤ f ∧ f < 64 := by omega
 have wf : IntKind.i64.wrap (kz - 56 * (c : Int)) = f := by rw [hf]; exact IntWalk.i64_in _ (by omega)
 rw [hf] at hkf
 have h0 : (r == -1) = false := by rw [← hr]; exact q0
 have h1 : casB v = true := by rw [← hv2]; exact q1
 have HCa := Lib.hid h1
 have f0 : 0 ≤ f := by rw [hkf] at q2; exact of_decide_eq_true q2
 have g2 : decide (f < 0) = false := decide_eq_false (by omega)
 have f8 : f < 8 := by rw [hkf] at q3; exact of_decide_eq_true q3
 have g3 : decide (8 ≤ f) = false := decide_eq_false (by omega)
 have r00 : 0 ≤ r := by rw [beq_eq_false_iff_ne] at h0; omega
 obtain ⟨i, hi⟩ : ∃ i : Nat, 56 * c + r.toNat = i := ⟨_, rfl⟩
 have hii : 56 * (c : Int) + r = (i : Int) := by omega
 have i64 : i < 64 := by omega
 have hil : (i : Int) < 64 := by omega
 have hi0 : (0 : Int) ≤ (i : Int) := by omega
 have wi : IntKind.i64.wrap (56 * (c : Int) + r) = (i : Int) := by rw [hii]; exact IntWalk.i64_in _ (by omega)
 have HI := Lib.hid i64
 have HKi := Lib.hid (kAt_board (Nat.zero_le i) i64)
 obtain ⟨x, hx⟩ : ∃ x, p (1 + i) = x := ⟨_, rfl⟩
 have HCx := Lib.hid (fun (W : World) (b : Nat) (h : VR W b p) => show W.cell? ⟨b, 1 + i, none⟩ = some (.int .u8 x) by rw [h.cell (1 + i) (by omega), kAt_board (Nat.zero_le i) i64, hx])
 obtain ⟨y, hy⟩ : ∃ y, mkZ (c : Int) 4 = y := ⟨_, rfl⟩
 have HMk := Lib.hid hy
 have HC0 := Lib.hid c0
 have h4 : (x == y) = true := by rw [← hx, ← hy, ← hi, ← hr]; exact q4
 have g4 : (x != y) = false := by rw [bne, h4]; rfl
 have h5 : (decide (f < r) == (s == 0)) = false := by rw [← hkf, ← hr]; exact q5
 have hs0 : ((s : Int) == 0) = (s == 0) := by rw [Bool.eq_iff_iff, beq_iff_eq, beq_iff_eq]; omega
 have g5 : (!decide (f < r) == ((s : Int) == 0)) = true := by
  rw [hs0]
  revert h5
  cases decide (f < r) <;> cases (s == 0) <;> simp
 have HS := Lib.hid (show rkB p c s = false by unfold rkB; rw [hr, hv2, hkf]; rw [h0, h1, decide_eq_true f0, decide_eq_true f8, hi, hx, hy, h4, h5]; rfl)
 clear hp ha hc hs hT hD hU hvv hv2 hr hro hkz hkf q0 q1 q2 q3 h1 f0 f8 hx hy hi hii i64 r00 q4 h4 q5 h5 hs0
 have HB := Lib.hid (Below.refl w.heap.size w)
 have HQu1 := Lib.hid trivial
 have HQu2 := Lib.hid trivial
 have HQu3 := Lib.hid trivial
 have HQu4 := Lib.hid trivial
 have HQu5 := Lib.hid trivial
 have HQu6 := Lib.hid trivial
 have HQu7 := Lib.hid trivial
 go_enter Tryz.func22, Tryz.ntmps22
 go_wp2_with (first
   | (clear HQu1; refine va_box rfl _ rfl p rfl ?_; intro b1 w1 N R; have HB := Lib.hid (HB.out.trans (N.below.mono HB.out.size)); have HR := Lib.hid R; clear N R)
   | (clear HQu2; refine step_get rfl 26 _ rfl b1 (79 + c * 2 + s) rfl Tryz.underlying26 rfl (.int .i8 r) ?_ ?_; exact HRk.out _ _ HR.out)
   | (clear HQu3; go_at_call 46; refine (home_any c HC.out _).mono ?_; rintro e w3 ⟨rfl, rfl⟩)
   | (clear HQu4; refine va_in rfl _ rfl b1 rfl p HR.out ?_)
   | (clear HQu5; go_at_call 47; refine (find_set p (c : Int) 6 _ HP.out.at.bd (HD.out.on HB.out)).mono ?_; rintro e w3 ⟨rfl, hb⟩; rw [HKz.out]; have HR := Lib.hid (HR.out.later hb); have HB := Lib.hid (below_on HB.out hb); clear hb)
   | (clear HQu6; refine step_get rfl 5 _ rfl b1 0 rfl Tryz.underlying5 rfl (.int .u8 (v : Int)) ?_ ?_; exact HCs.out _ _ HR.out)
   | (clear HQu7; go_at_call 48; refine (cas_any v _ HV.out (HT.out.on HB.out)).mono ?_; rintro e w3 ⟨rfl, hb⟩; rw [HCa.out]; have HR := Lib.hid (HR.out.later hb); have HB := Lib.hid (below_on HB.out hb); clear hb))
 refine late_begin 11 (by kernel_rfl) ?_
 refine lv 0 rfl ?_; apply Exists.intro; refine ⟨fun w' hl => ?_, ?_⟩
 ·(go_simp; try with_reducible rfl)
 simp only [Act.put, pa, pb, pc]
 refine lv 1 rfl ?_; apply Exists.intro; refine ⟨fun w' hl => ?_, ?_⟩
 ·(go_simp; try with_reducible rfl)
 simp only [Act.put, pa, pb, pc]
 refine lv 2 rfl ⟨.int .i64 (i : Int), fun w' hl => ?_, ?_⟩
 ·(go_simp; try simp [wi])
 simp only [Act.put, pa, pb, pc]
 refine lv 3 rfl ?_; apply Exists.intro; refine ⟨fun w' hl => ?_, ?_⟩
 ·(go_simp; try with_reducible rfl)
 simp only [Act.put, pa, pb, pc]
 refine lv 4 rfl ?_; apply Exists.intro; refine ⟨fun w' hl => ?_, ?_⟩
 ·(go_simp; try with_reducible rfl)
 simp only [Act.put, pa, pb, pc]
 refine lv 5 rfl ?_; apply Exists.intro; refine ⟨fun w' hl => ?_, ?_⟩
 ·(go_simp; try with_reducible rfl)
 simp only [Act.put, pa, pb, pc]
 refine lv 6 rfl ⟨_, fun w' hl => (run_get 5 _ rfl b1 (1 + i) rfl Tryz.underlying5 rfl (.int .u8 x) (HCx.out _ _ (HR.out.later hl))), ?_⟩
 simp only [Act.put, pa, pb, pc]
 refine lv 7 rfl ?_; apply Exists.intro; refine ⟨fun w' hl => ?_, ?_⟩
 ·(go_simp; try with_reducible rfl)
 simp only [Act.put, pa, pb, pc]
 refine late_one 8 (by kernel_rfl) (by kernel_rfl) (fun o ho => ?_)
 simp only [qa, qb, qc, qd] at ho; subst ho
 refine ⟨by kernel_rfl, fun wn hl K hK => ?_⟩
 have HR := Lib.hid (HR.out.later hl); have HB := Lib.hid (below_on HB.out hl); clear hl
 refine wp_enter _ _ (by go_simp; exact ⟨rfl, rfl⟩) ?_
 refine (mk_any (c : Int) 4 _ HC0.out (by decide)).mono ?_; rintro e wm ⟨rfl, rfl⟩; refine ⟨_, rfl, ?_⟩
 rw [HMk.out]
 refine hK.out _ _ (Later.refl _) ?_
 clear hK K
 simp only [Act.put, pa, pb, pc]
 refine lv 9 rfl ⟨.bool false, fun w' hl => ?_, ?_⟩
 ·(go_simp; try simp [g4])
 simp only [Act.put, pa, pb, pc]
 refine lv 10 rfl ?_; apply Exists.intro; refine ⟨fun w' hl => ?_, ?_⟩
 ·(go_simp; try with_reducible rfl)
 simp only [Act.put, pa, pb, pc]
 refine late_end (by kernel_rfl) (fun wn hl => ?_)
 have HR := Lib.hid (HR.out.later hl); have HB := Lib.hid (below_on HB.out hl); clear hl
 go_wp2_with fail
 go_ret
 exact ⟨by (rw [HS.out]; try rfl), HB.out⟩
set_option maxRecDepth 100000 in
set_option maxHeartbeats 1000000 in
theorem rk_w6 (p : Nat → Int) (c s : Nat) (w : World) (hp : FitP p) (ha : argB p = true) (hc : c < 2) (hs : s < 2) (hT : TabVar w) (hD : TabDb w) (hU : TabUs w) (q0 : (roA p c s == -1) = false) (q1 : casB (p 0).toNat = true) (q2 : decide (0 ≤ kfZ p c) = true) (q3 : decide (kfZ p c < 8) = true) (q4 : (p (1 + (56 * c + (roA p c s).toNat)) == mkZ (c : Int) 4) = true) (q5 : (decide (kfZ p c < roA p c s) == (s == 0)) = true) (q6 : (p 0 == 1) = true) : Calls Tryz.prog 22 #[.agg (posA p), .int .u8 (c : Int), .int .i64 (s : Int)] w (BoL (rkB p c s) w) := by
 have HT := Lib.hid hT
 have HD := Lib.hid hD
 have HU := Lib.hid hU
 have HP := Lib.hid hp
 have HC := Lib.hid hc
 have HSd := Lib.hid hs
 obtain ⟨v, hvv⟩ : ∃ v : Nat, p 0 = (v : Int) := ⟨(p 0).toNat, (Int.toNat_of_nonneg hp.var.1).symm⟩
 have hv2 : (p 0).toNat = v := by omega
 have HV := Lib.hid (show v ≤ 255 by have := hp.var.2; omega)
 have HCs := Lib.hid (fun (W : World) (b : Nat) (h : VR W b p) => show W.cell? ⟨b, 0, none⟩ = some (.int .u8 (v : Int)) by rw [h.cell 0 (by decide), hvv]; rfl)
 have c0 : (0 : Int) ≤ (c : Int) := by omega
 have c2 : (c : Int) < 2 := by omega
 have s0 : (0 : Int) ≤ (s : Int) := by omega
 have s2 : (s : Int) < 2 := by omega
 obtain ⟨r0, r8⟩ := filB_at (argB_var ha).2.2.2.2.2.1 (c * 2 + s) (by omega)
 obtain ⟨r, hr⟩ : ∃ r, roA p c s = r := ⟨_, rfl⟩
 have hro : p (79 + c * 2 + s) = r := hr
 rw [show 79 + (c * 2 + s) = 79 + c * 2 + s by omega, hro] at r0 r8
 have HRk := Lib.hid (fun (W : World) (b : Nat) (h : VR W b p) => show W.cell? ⟨b, 79 + c * 2 + s, none⟩ = some (.int .i8 r) by rw [h.cell (79 + c * 2 + s) (by omega), hro, k_i8 (by omega) (by omega)])
 have wr : IntKind.i64.wrap r = r := IntWalk.i64_in _ (by omega)
 have hkr := kingZ_rng p (c : Int)
 obtain ⟨kz, hkz⟩ : ∃ k, kingZ p (c : Int) = k := ⟨_, rfl⟩
 rw [hkz] at hkr
 have HKz := Lib.hid (show firstN (ofN p (c : Int) 6) = kz from hkz)
 have hkf : kfZ p c = kz - 56 * (c : Int) := by unfold kfZ; rw [hkz]
 obtain ⟨f, hf⟩ : ∃ f, kz - 56 * (c : Int) = f := ⟨_, rfl⟩
 have hfr : -60 ≤ f ∧ f < 64 := by omega
 have wf : IntKind.i64.wrap (kz - 56 * (c : Int)) = f := by rw [hf]; exact IntWalk.i64_in _ (by omega)
 rw [hf] at hkf
 have h0 : (r == -1) = false := by rw [← hr]; exact q0
 have h1 : casB v = true := by rw [← hv2]; exact q1
 have HCa := Lib.hid h1
 have f0 : 0 ≤ f := by rw [hkf] at q2; exact of_decide_eq_true q2
 have g2 : decide (f < 0) = false := decide_eq_false (by omega)
 have f8 : f < 8 := by rw [hkf] at q3; exact of_decide_eq_true q3
 have g3 : decide (8 ≤ f) = false := decide_eq_false (by omega)
 have r00 : 0 ≤ r := by rw [beq_eq_false_iff_ne] at h0; omega
 obtain ⟨i, hi⟩ : ∃ i : Nat, 56 * c + r.toNat = i := ⟨_, rfl⟩
 have hii : 56 * (c : Int) + r = (i : Int) := by omega
 have i64 : i < 64 := by omega
 have hil : (i : Int) < 64 := by omega
 have hi0 : (0 : Int) ≤ (i : Int) := by omega
 have wi : IntKind.i64.wrap (56 * (c : Int) + r) = (i : Int) := by rw [hii]; exact IntWalk.i64_in _ (by omega)
 have HI := Lib.hid i64
 have HKi := Lib.hid (kAt_board (Nat.zero_le i) i64)
 obtain ⟨x, hx⟩ : ∃ x, p (1 + i) = x := ⟨_, rfl⟩
 have HCx := Lib.hid (fun (W : World) (b : Nat) (h : VR W b p) => show W.cell? ⟨b, 1 + i, none⟩ = some (.int .u8 x) by rw [h.cell (1 + i) (by omega), kAt_board (Nat.zero_le i) i64, hx])
 obtain ⟨y, hy⟩ : ∃ y, mkZ (c : Int) 4 = y := ⟨_, rfl⟩
 have HMk := Lib.hid hy
 have HC0 := Lib.hid c0
 have h4 : (x == y) = true := by rw [← hx, ← hy, ← hi, ← hr]; exact q4
 have g4 : (x != y) = false := by rw [bne, h4]; rfl
 have h5 : (decide (f < r) == (s == 0)) = true := by rw [← hkf, ← hr]; exact q5
 have hs0 : ((s : Int) == 0) = (s == 0) := by rw [Bool.eq_iff_iff, beq_iff_eq, beq_iff_eq]; omega
 have g5 : (!decide (f < r) == ((s : Int) == 0)) = false := by
  rw [hs0]
  revert h5
  cases decide (f < r) <;> cases (s == 0) <;> simp
 have g6 : ((v : Int) == 1) = true := by rw [← hvv]; exact q6
 have HS := Lib.hid (show rkB p c s = true by unfold rkB; rw [hr, hv2, hkf]; rw [h0, h1, decide_eq_true f0, decide_eq_true f8, hi, hx, hy, h4, h5, q6]; rfl)
 clear hp ha hc hs hT hD hU hvv hv2 hr hro hkz hkf q0 q1 q2 q3 h1 f0 f8 hx hy hi hii i64 r00 q4 h4 q5 h5 hs0 q6
 have HB := Lib.hid (Below.refl w.heap.size w)
 have HQu1 := Lib.hid trivial
 have HQu2 := Lib.hid trivial
 have HQu3 := Lib.hid trivial
 have HQu4 := Lib.hid trivial
 have HQu5 := Lib.hid trivial
 have HQu6 := Lib.hid trivial
 have HQu7 := Lib.hid trivial
 go_enter Tryz.func22, Tryz.ntmps22
 go_wp2_with (first
   | (clear HQu1; refine va_box rfl _ rfl p rfl ?_; intro b1 w1 N R; have HB := Lib.hid (HB.out.trans (N.below.mono HB.out.size)); have HR := Lib.hid R; clear N R)
   | (clear HQu2; refine step_get rfl 26 _ rfl b1 (79 + c * 2 + s) rfl Tryz.underlying26 rfl (.int .i8 r) ?_ ?_; exact HRk.out _ _ HR.out)
   | (clear HQu3; go_at_call 46; refine (home_any c HC.out _).mono ?_; rintro e w3 ⟨rfl, rfl⟩)
   | (clear HQu4; refine va_in rfl _ rfl b1 rfl p HR.out ?_)
   | (clear HQu5; go_at_call 47; refine (find_set p (c : Int) 6 _ HP.out.at.bd (HD.out.on HB.out)).mono ?_; rintro e w3 ⟨rfl, hb⟩; rw [HKz.out]; have HR := Lib.hid (HR.out.later hb); have HB := Lib.hid (below_on HB.out hb); clear hb)
   | (clear HQu6; refine step_get rfl 5 _ rfl b1 0 rfl Tryz.underlying5 rfl (.int .u8 (v : Int)) ?_ ?_; exact HCs.out _ _ HR.out)
   | (clear HQu7; go_at_call 48; refine (cas_any v _ HV.out (HT.out.on HB.out)).mono ?_; rintro e w3 ⟨rfl, hb⟩; rw [HCa.out]; have HR := Lib.hid (HR.out.later hb); have HB := Lib.hid (below_on HB.out hb); clear hb))
 refine late_begin 11 (by kernel_rfl) ?_
 refine lv 0 rfl ?_; apply Exists.intro; refine ⟨fun w' hl => ?_, ?_⟩
 ·(go_simp; try with_reducible rfl)
 simp only [Act.put, pa, pb, pc]
 refine lv 1 rfl ?_; apply Exists.intro; refine ⟨fun w' hl => ?_, ?_⟩
 ·(go_simp; try with_reducible rfl)
 simp only [Act.put, pa, pb, pc]
 refine lv 2 rfl ⟨.int .i64 (i : Int), fun w' hl => ?_, ?_⟩
 ·(go_simp; try simp [wi])
 simp only [Act.put, pa, pb, pc]
 refine lv 3 rfl ?_; apply Exists.intro; refine ⟨fun w' hl => ?_, ?_⟩
 ·(go_simp; try with_reducible rfl)
 simp only [Act.put, pa, pb, pc]
 refine lv 4 rfl ?_; apply Exists.intro; refine ⟨fun w' hl => ?_, ?_⟩
 ·(go_simp; try with_reducible rfl)
 simp only [Act.put, pa, pb, pc]
 refine lv 5 rfl ?_; apply Exists.intro; refine ⟨fun w' hl => ?_, ?_⟩
 ·(go_simp; try with_reducible rfl)
 simp only [Act.put, pa, pb, pc]
 refine lv 6 rfl ⟨_, fun w' hl => (run_get 5 _ rfl b1 (1 + i) rfl Tryz.underlying5 rfl (.int .u8 x) (HCx.out _ _ (HR.out.later hl))), ?_⟩
 simp only [Act.put, pa, pb, pc]
 refine lv 7 rfl ?_; apply Exists.intro; refine ⟨fun w' hl => ?_, ?_⟩
 ·(go_simp; try with_reducible rfl)
 simp only [Act.put, pa, pb, pc]
 refine late_one 8 (by kernel_rfl) (by kernel_rfl) (fun o ho => ?_)
 simp only [qa, qb, qc, qd] at ho; subst ho
 refine ⟨by kernel_rfl, fun wn hl K hK => ?_⟩
 have HR := Lib.hid (HR.out.later hl); have HB := Lib.hid (below_on HB.out hl); clear hl
 refine wp_enter _ _ (by go_simp; exact ⟨rfl, rfl⟩) ?_
 refine (mk_any (c : Int) 4 _ HC0.out (by decide)).mono ?_; rintro e wm ⟨rfl, rfl⟩; refine ⟨_, rfl, ?_⟩
 rw [HMk.out]
 refine hK.out _ _ (Later.refl _) ?_
 clear hK K
 simp only [Act.put, pa, pb, pc]
 refine lv 9 rfl ⟨.bool false, fun w' hl => ?_, ?_⟩
 ·(go_simp; try simp [g4])
 simp only [Act.put, pa, pb, pc]
 refine lv 10 rfl ?_; apply Exists.intro; refine ⟨fun w' hl => ?_, ?_⟩
 ·(go_simp; try with_reducible rfl)
 simp only [Act.put, pa, pb, pc]
 refine late_end (by kernel_rfl) (fun wn hl => ?_)
 have HR := Lib.hid (HR.out.later hl); have HB := Lib.hid (below_on HB.out hl); clear hl
 go_wp2_with (first
   | (refine step_get rfl 5 _ rfl b1 0 rfl Tryz.underlying5 rfl (.int .u8 (v : Int)) ?_ ?_; exact HCs.out _ _ HR.out))
 go_ret
 exact ⟨by (rw [HS.out]; try rfl), HB.out⟩
set_option maxRecDepth 100000 in
set_option maxHeartbeats 1000000 in
theorem rk_w7 (p : Nat → Int) (c s : Nat) (w : World) (hp : FitP p) (ha : argB p = true) (hc : c < 2) (hs : s < 2) (hT : TabVar w) (hD : TabDb w) (hU : TabUs w) (q0 : (roA p c s == -1) = false) (q1 : casB (p 0).toNat = true) (q2 : decide (0 ≤ kfZ p c) = true) (q3 : decide (kfZ p c < 8) = true) (q4 : (p (1 + (56 * c + (roA p c s).toNat)) == mkZ (c : Int) 4) = true) (q5 : (decide (kfZ p c < roA p c s) == (s == 0)) = true) (q6 : (p 0 == 1) = false) (q7 : (kfZ p c == 4) = false) : Calls Tryz.prog 22 #[.agg (posA p), .int .u8 (c : Int), .int .i64 (s : Int)] w (BoL (rkB p c s) w) := by
 have HT := Lib.hid hT
 have HD := Lib.hid hD
 have HU := Lib.hid hU
 have HP := Lib.hid hp
 have HC := Lib.hid hc
 have HSd := Lib.hid hs
 obtain ⟨v, hvv⟩ : ∃ v : Nat, p 0 = (v : Int) := ⟨(p 0).toNat, (Int.toNat_of_nonneg hp.var.1).symm⟩
 have hv2 : (p 0).toNat = v := by omega
 have HV := Lib.hid (show v ≤ 255 by have := hp.var.2; omega)
 have HCs := Lib.hid (fun (W : World) (b : Nat) (h : VR W b p) => show W.cell? ⟨b, 0, none⟩ = some (.int .u8 (v : Int)) by rw [h.cell 0 (by decide), hvv]; rfl)
 have c0 : (0 : Int) ≤ (c : Int) := by omega
 have c2 : (c : Int) < 2 := by omega
 have s0 : (0 : Int) ≤ (s : Int) := by omega
 have s2 : (s : Int) < 2 := by omega
 obtain ⟨r0, r8⟩ := filB_at (argB_var ha).2.2.2.2.2.1 (c * 2 + s) (by omega)
 obtain ⟨r, hr⟩ : ∃ r, roA p c s = r := ⟨_, rfl⟩
 have hro : p (79 + c * 2 + s) = r := hr
 rw [show 79 + (c * 2 + s) = 79 + c * 2 + s by omega, hro] at r0 r8
 have HRk := Lib.hid (fun (W : World) (b : Nat) (h : VR W b p) => show W.cell? ⟨b, 79 + c * 2 + s, none⟩ = some (.int .i8 r) by rw [h.cell (79 + c * 2 + s) (by omega), hro, k_i8 (by omega) (by omega)])
 have wr : IntKind.i64.wrap r = r := IntWalk.i64_in _ (by omega)
 have hkr := kingZ_rng p (c : Int)
 obtain ⟨kz, hkz⟩ : ∃ k, kingZ p (c : Int) = k := ⟨_, rfl⟩
 rw [hkz] at hkr
 have HKz := Lib.hid (show firstN (ofN p (c : Int) 6) = kz from hkz)
 have hkf : kfZ p c = kz - 56 * (c : Int) := by unfold kfZ; rw [hkz]
 obtain ⟨f, hf⟩ : ∃ f, kz - 56 * (c : Int) = f := ⟨_, rfl⟩
 have hfr : -60 ≤ f ∧ f < 64 := by omega
 have wf : IntKind.i64.wrap (kz - 56 * (c : Int)) = f := by rw [hf]; exact IntWalk.i64_in _ (by omega)
 rw [hf] at hkf
 have h0 : (r == -1) = false := by rw [← hr]; exact q0
 have h1 : casB v = true := by rw [← hv2]; exact q1
 have HCa := Lib.hid h1
 have f0 : 0 ≤ f := by rw [hkf] at q2; exact of_decide_eq_true q2
 have g2 : decide (f < 0) = false := decide_eq_false (by omega)
 have f8 : f < 8 := by rw [hkf] at q3; exact of_decide_eq_true q3
 have g3 : decide (8 ≤ f) = false := decide_eq_false (by omega)
 have r00 : 0 ≤ r := by rw [beq_eq_false_iff_ne] at h0; omega
 obtain ⟨i, hi⟩ : ∃ i : Nat, 56 * c + r.toNat = i := ⟨_, rfl⟩
 have hii : 56 * (c : Int) + r = (i : Int) := by omega
 have i64 : i < 64 := by omega
 have hil : (i : Int) < 64 := by omega
 have hi0 : (0 : Int) ≤ (i : Int) := by omega
 have wi : IntKind.i64.wrap (56 * (c : Int) + r) = (i : Int) := by rw [hii]; exact IntWalk.i64_in _ (by omega)
 have HI := Lib.hid i64
 have HKi := Lib.hid (kAt_board (Nat.zero_le i) i64)
 obtain ⟨x, hx⟩ : ∃ x, p (1 + i) = x := ⟨_, rfl⟩
 have HCx := Lib.hid (fun (W : World) (b : Nat) (h : VR W b p) => show W.cell? ⟨b, 1 + i, none⟩ = some (.int .u8 x) by rw [h.cell (1 + i) (by omega), kAt_board (Nat.zero_le i) i64, hx])
 obtain ⟨y, hy⟩ : ∃ y, mkZ (c : Int) 4 = y := ⟨_, rfl⟩
 have HMk := Lib.hid hy
 have HC0 := Lib.hid c0
 have h4 : (x == y) = true := by rw [← hx, ← hy, ← hi, ← hr]; exact q4
 have g4 : (x != y) = false := by rw [bne, h4]; rfl
 have h5 : (decide (f < r) == (s == 0)) = true := by rw [← hkf, ← hr]; exact q5
 have hs0 : ((s : Int) == 0) = (s == 0) := by rw [Bool.eq_iff_iff, beq_iff_eq, beq_iff_eq]; omega
 have g5 : (!decide (f < r) == ((s : Int) == 0)) = false := by
  rw [hs0]
  revert h5
  cases decide (f < r) <;> cases (s == 0) <;> simp
 have g6 : ((v : Int) == 1) = false := by rw [← hvv]; exact q6
 obtain ⟨u, hu⟩ : ∃ u, usZ s = u := ⟨_, rfl⟩
 have HUs := Lib.hid hu
 have g7 : (f == 4) = false := by rw [← hkf]; exact q7
 have HS := Lib.hid (show rkB p c s = false by unfold rkB; rw [hr, hv2, hkf]; rw [h0, h1, decide_eq_true f0, decide_eq_true f8, hi, hx, hy, h4, h5, q6, g7]; rfl)
 clear hp ha hc hs hT hD hU hvv hv2 hr hro hkz hkf q0 q1 q2 q3 h1 f0 f8 hx hy hi hii i64 r00 q4 h4 q5 h5 hs0 q6 hu q7
 have HB := Lib.hid (Below.refl w.heap.size w)
 have HQu1 := Lib.hid trivial
 have HQu2 := Lib.hid trivial
 have HQu3 := Lib.hid trivial
 have HQu4 := Lib.hid trivial
 have HQu5 := Lib.hid trivial
 have HQu6 := Lib.hid trivial
 have HQu7 := Lib.hid trivial
 go_enter Tryz.func22, Tryz.ntmps22
 go_wp2_with (first
   | (clear HQu1; refine va_box rfl _ rfl p rfl ?_; intro b1 w1 N R; have HB := Lib.hid (HB.out.trans (N.below.mono HB.out.size)); have HR := Lib.hid R; clear N R)
   | (clear HQu2; refine step_get rfl 26 _ rfl b1 (79 + c * 2 + s) rfl Tryz.underlying26 rfl (.int .i8 r) ?_ ?_; exact HRk.out _ _ HR.out)
   | (clear HQu3; go_at_call 46; refine (home_any c HC.out _).mono ?_; rintro e w3 ⟨rfl, rfl⟩)
   | (clear HQu4; refine va_in rfl _ rfl b1 rfl p HR.out ?_)
   | (clear HQu5; go_at_call 47; refine (find_set p (c : Int) 6 _ HP.out.at.bd (HD.out.on HB.out)).mono ?_; rintro e w3 ⟨rfl, hb⟩; rw [HKz.out]; have HR := Lib.hid (HR.out.later hb); have HB := Lib.hid (below_on HB.out hb); clear hb)
   | (clear HQu6; refine step_get rfl 5 _ rfl b1 0 rfl Tryz.underlying5 rfl (.int .u8 (v : Int)) ?_ ?_; exact HCs.out _ _ HR.out)
   | (clear HQu7; go_at_call 48; refine (cas_any v _ HV.out (HT.out.on HB.out)).mono ?_; rintro e w3 ⟨rfl, hb⟩; rw [HCa.out]; have HR := Lib.hid (HR.out.later hb); have HB := Lib.hid (below_on HB.out hb); clear hb))
 refine late_begin 11 (by kernel_rfl) ?_
 refine lv 0 rfl ?_; apply Exists.intro; refine ⟨fun w' hl => ?_, ?_⟩
 ·(go_simp; try with_reducible rfl)
 simp only [Act.put, pa, pb, pc]
 refine lv 1 rfl ?_; apply Exists.intro; refine ⟨fun w' hl => ?_, ?_⟩
 ·(go_simp; try with_reducible rfl)
 simp only [Act.put, pa, pb, pc]
 refine lv 2 rfl ⟨.int .i64 (i : Int), fun w' hl => ?_, ?_⟩
 ·(go_simp; try simp [wi])
 simp only [Act.put, pa, pb, pc]
 refine lv 3 rfl ?_; apply Exists.intro; refine ⟨fun w' hl => ?_, ?_⟩
 ·(go_simp; try with_reducible rfl)
 simp only [Act.put, pa, pb, pc]
 refine lv 4 rfl ?_; apply Exists.intro; refine ⟨fun w' hl => ?_, ?_⟩
 ·(go_simp; try with_reducible rfl)
 simp only [Act.put, pa, pb, pc]
 refine lv 5 rfl ?_; apply Exists.intro; refine ⟨fun w' hl => ?_, ?_⟩
 ·(go_simp; try with_reducible rfl)
 simp only [Act.put, pa, pb, pc]
 refine lv 6 rfl ⟨_, fun w' hl => (run_get 5 _ rfl b1 (1 + i) rfl Tryz.underlying5 rfl (.int .u8 x) (HCx.out _ _ (HR.out.later hl))), ?_⟩
 simp only [Act.put, pa, pb, pc]
 refine lv 7 rfl ?_; apply Exists.intro; refine ⟨fun w' hl => ?_, ?_⟩
 ·(go_simp; try with_reducible rfl)
 simp only [Act.put, pa, pb, pc]
 refine late_one 8 (by kernel_rfl) (by kernel_rfl) (fun o ho => ?_)
 simp only [qa, qb, qc, qd] at ho; subst ho
 refine ⟨by kernel_rfl, fun wn hl K hK => ?_⟩
 have HR := Lib.hid (HR.out.later hl); have HB := Lib.hid (below_on HB.out hl); clear hl
 refine wp_enter _ _ (by go_simp; exact ⟨rfl, rfl⟩) ?_
 refine (mk_any (c : Int) 4 _ HC0.out (by decide)).mono ?_; rintro e wm ⟨rfl, rfl⟩; refine ⟨_, rfl, ?_⟩
 rw [HMk.out]
 refine hK.out _ _ (Later.refl _) ?_
 clear hK K
 simp only [Act.put, pa, pb, pc]
 refine lv 9 rfl ⟨.bool false, fun w' hl => ?_, ?_⟩
 ·(go_simp; try simp [g4])
 simp only [Act.put, pa, pb, pc]
 refine lv 10 rfl ?_; apply Exists.intro; refine ⟨fun w' hl => ?_, ?_⟩
 ·(go_simp; try with_reducible rfl)
 simp only [Act.put, pa, pb, pc]
 refine late_end (by kernel_rfl) (fun wn hl => ?_)
 have HR := Lib.hid (HR.out.later hl); have HB := Lib.hid (below_on HB.out hl); clear hl
 go_wp2_with (first
   | (refine step_get rfl 5 _ rfl b1 0 rfl Tryz.underlying5 rfl (.int .u8 (v : Int)) ?_ ?_; exact HCs.out _ _ HR.out))
 go_ret
 exact ⟨by (rw [HS.out]; try rfl), HB.out⟩
set_option maxRecDepth 100000 in
set_option maxHeartbeats 1000000 in
theorem rk_w8 (p : Nat → Int) (c s : Nat) (w : World) (hp : FitP p) (ha : argB p = true) (hc : c < 2) (hs : s < 2) (hT : TabVar w) (hD : TabDb w) (hU : TabUs w) (q0 : (roA p c s == -1) = false) (q1 : casB (p 0).toNat = true) (q2 : decide (0 ≤ kfZ p c) = true) (q3 : decide (kfZ p c < 8) = true) (q4 : (p (1 + (56 * c + (roA p c s).toNat)) == mkZ (c : Int) 4) = true) (q5 : (decide (kfZ p c < roA p c s) == (s == 0)) = true) (q6 : (p 0 == 1) = false) (q7 : (kfZ p c == 4) = true) : Calls Tryz.prog 22 #[.agg (posA p), .int .u8 (c : Int), .int .i64 (s : Int)] w (BoL (rkB p c s) w) := by
 have HT := Lib.hid hT
 have HD := Lib.hid hD
 have HU := Lib.hid hU
 have HP := Lib.hid hp
 have HC := Lib.hid hc
 have HSd := Lib.hid hs
 obtain ⟨v, hvv⟩ : ∃ v : Nat, p 0 = (v : Int) := ⟨(p 0).toNat, (Int.toNat_of_nonneg hp.var.1).symm⟩
 have hv2 : (p 0).toNat = v := by omega
 have HV := Lib.hid (show v ≤ 255 by have := hp.var.2; omega)
 have HCs := Lib.hid (fun (W : World) (b : Nat) (h : VR W b p) => show W.cell? ⟨b, 0, none⟩ = some (.int .u8 (v : Int)) by rw [h.cell 0 (by decide), hvv]; rfl)
 have c0 : (0 : Int) ≤ (c : Int) := by omega
 have c2 : (c : Int) < 2 := by omega
 have s0 : (0 : Int) ≤ (s : Int) := by omega
 have s2 : (s : Int) < 2 := by omega
 obtain ⟨r0, r8⟩ := filB_at (argB_var ha).2.2.2.2.2.1 (c * 2 + s) (by omega)
 obtain ⟨r, hr⟩ : ∃ r, roA p c s = r := ⟨_, rfl⟩
 have hro : p (79 + c * 2 + s) = r := hr
 rw [show 79 + (c * 2 + s) = 79 + c * 2 + s by omega, hro] at r0 r8
 have HRk := Lib.hid (fun (W : World) (b : Nat) (h : VR W b p) => show W.cell? ⟨b, 79 + c * 2 + s, none⟩ = some (.int .i8 r) by rw [h.cell (79 + c * 2 + s) (by omega), hro, k_i8 (by omega) (by omega)])
 have wr : IntKind.i64.wrap r = r := IntWalk.i64_in _ (by omega)
 have hkr := kingZ_rng p (c : Int)
 obtain ⟨kz, hkz⟩ : ∃ k, kingZ p (c : Int) = k := ⟨_, rfl⟩
 rw [hkz] at hkr
 have HKz := Lib.hid (show firstN (ofN p (c : Int) 6) = kz from hkz)
 have hkf : kfZ p c = kz - 56 * (c : Int) := by unfold kfZ; rw [hkz]
 obtain ⟨f, hf⟩ : ∃ f, kz - 56 * (c : Int) = f := ⟨_, rfl⟩
 have hfr : -60 ≤ f ∧ f < 64 := by omega
 have wf : IntKind.i64.wrap (kz - 56 * (c : Int)) = f := by rw [hf]; exact IntWalk.i64_in _ (by omega)
 rw [hf] at hkf
 have h0 : (r == -1) = false := by rw [← hr]; exact q0
 have h1 : casB v = true := by rw [← hv2]; exact q1
 have HCa := Lib.hid h1
 have f0 : 0 ≤ f := by rw [hkf] at q2; exact of_decide_eq_true q2
 have g2 : decide (f < 0) = false := decide_eq_false (by omega)
 have f8 : f < 8 := by rw [hkf] at q3; exact of_decide_eq_true q3
 have g3 : decide (8 ≤ f) = false := decide_eq_false (by omega)
 have r00 : 0 ≤ r := by rw [beq_eq_false_iff_ne] at h0; omega
 obtain ⟨i, hi⟩ : ∃ i : Nat, 56 * c + r.toNat = i := ⟨_, rfl⟩
 have hii : 56 * (c : Int) + r = (i : Int) := by omega
 have i64 : i < 64 := by omega
 have hil : (i : Int) < 64 := by omega
 have hi0 : (0 : Int) ≤ (i : Int) := by omega
 have wi : IntKind.i64.wrap (56 * (c : Int) + r) = (i : Int) := by rw [hii]; exact IntWalk.i64_in _ (by omega)
 have HI := Lib.hid i64
 have HKi := Lib.hid (kAt_board (Nat.zero_le i) i64)
 obtain ⟨x, hx⟩ : ∃ x, p (1 + i) = x := ⟨_, rfl⟩
 have HCx := Lib.hid (fun (W : World) (b : Nat) (h : VR W b p) => show W.cell? ⟨b, 1 + i, none⟩ = some (.int .u8 x) by rw [h.cell (1 + i) (by omega), kAt_board (Nat.zero_le i) i64, hx])
 obtain ⟨y, hy⟩ : ∃ y, mkZ (c : Int) 4 = y := ⟨_, rfl⟩
 have HMk := Lib.hid hy
 have HC0 := Lib.hid c0
 have h4 : (x == y) = true := by rw [← hx, ← hy, ← hi, ← hr]; exact q4
 have g4 : (x != y) = false := by rw [bne, h4]; rfl
 have h5 : (decide (f < r) == (s == 0)) = true := by rw [← hkf, ← hr]; exact q5
 have hs0 : ((s : Int) == 0) = (s == 0) := by rw [Bool.eq_iff_iff, beq_iff_eq, beq_iff_eq]; omega
 have g5 : (!decide (f < r) == ((s : Int) == 0)) = false := by
  rw [hs0]
  revert h5
  cases decide (f < r) <;> cases (s == 0) <;> simp
 have g6 : ((v : Int) == 1) = false := by rw [← hvv]; exact q6
 obtain ⟨u, hu⟩ : ∃ u, usZ s = u := ⟨_, rfl⟩
 have HUs := Lib.hid hu
 have g7 : (f == 4) = true := by rw [← hkf]; exact q7
 have HS := Lib.hid (show rkB p c s = (r == u) by unfold rkB; rw [hr, hv2, hkf]; rw [h0, h1, decide_eq_true f0, decide_eq_true f8, hi, hx, hy, h4, h5, q6, g7, hu]; rfl)
 clear hp ha hc hs hT hD hU hvv hv2 hr hro hkz hkf q0 q1 q2 q3 h1 f0 f8 hx hy hi hii i64 r00 q4 h4 q5 h5 hs0 q6 hu q7
 have HB := Lib.hid (Below.refl w.heap.size w)
 have HQu1 := Lib.hid trivial
 have HQu2 := Lib.hid trivial
 have HQu3 := Lib.hid trivial
 have HQu4 := Lib.hid trivial
 have HQu5 := Lib.hid trivial
 have HQu6 := Lib.hid trivial
 have HQu7 := Lib.hid trivial
 go_enter Tryz.func22, Tryz.ntmps22
 go_wp2_with (first
   | (clear HQu1; refine va_box rfl _ rfl p rfl ?_; intro b1 w1 N R; have HB := Lib.hid (HB.out.trans (N.below.mono HB.out.size)); have HR := Lib.hid R; clear N R)
   | (clear HQu2; refine step_get rfl 26 _ rfl b1 (79 + c * 2 + s) rfl Tryz.underlying26 rfl (.int .i8 r) ?_ ?_; exact HRk.out _ _ HR.out)
   | (clear HQu3; go_at_call 46; refine (home_any c HC.out _).mono ?_; rintro e w3 ⟨rfl, rfl⟩)
   | (clear HQu4; refine va_in rfl _ rfl b1 rfl p HR.out ?_)
   | (clear HQu5; go_at_call 47; refine (find_set p (c : Int) 6 _ HP.out.at.bd (HD.out.on HB.out)).mono ?_; rintro e w3 ⟨rfl, hb⟩; rw [HKz.out]; have HR := Lib.hid (HR.out.later hb); have HB := Lib.hid (below_on HB.out hb); clear hb)
   | (clear HQu6; refine step_get rfl 5 _ rfl b1 0 rfl Tryz.underlying5 rfl (.int .u8 (v : Int)) ?_ ?_; exact HCs.out _ _ HR.out)
   | (clear HQu7; go_at_call 48; refine (cas_any v _ HV.out (HT.out.on HB.out)).mono ?_; rintro e w3 ⟨rfl, hb⟩; rw [HCa.out]; have HR := Lib.hid (HR.out.later hb); have HB := Lib.hid (below_on HB.out hb); clear hb))
 refine late_begin 11 (by kernel_rfl) ?_
 refine lv 0 rfl ?_; apply Exists.intro; refine ⟨fun w' hl => ?_, ?_⟩
 ·(go_simp; try with_reducible rfl)
 simp only [Act.put, pa, pb, pc]
 refine lv 1 rfl ?_; apply Exists.intro; refine ⟨fun w' hl => ?_, ?_⟩
 ·(go_simp; try with_reducible rfl)
 simp only [Act.put, pa, pb, pc]
 refine lv 2 rfl ⟨.int .i64 (i : Int), fun w' hl => ?_, ?_⟩
 ·(go_simp; try simp [wi])
 simp only [Act.put, pa, pb, pc]
 refine lv 3 rfl ?_; apply Exists.intro; refine ⟨fun w' hl => ?_, ?_⟩
 ·(go_simp; try with_reducible rfl)
 simp only [Act.put, pa, pb, pc]
 refine lv 4 rfl ?_; apply Exists.intro; refine ⟨fun w' hl => ?_, ?_⟩
 ·(go_simp; try with_reducible rfl)
 simp only [Act.put, pa, pb, pc]
 refine lv 5 rfl ?_; apply Exists.intro; refine ⟨fun w' hl => ?_, ?_⟩
 ·(go_simp; try with_reducible rfl)
 simp only [Act.put, pa, pb, pc]
 refine lv 6 rfl ⟨_, fun w' hl => (run_get 5 _ rfl b1 (1 + i) rfl Tryz.underlying5 rfl (.int .u8 x) (HCx.out _ _ (HR.out.later hl))), ?_⟩
 simp only [Act.put, pa, pb, pc]
 refine lv 7 rfl ?_; apply Exists.intro; refine ⟨fun w' hl => ?_, ?_⟩
 ·(go_simp; try with_reducible rfl)
 simp only [Act.put, pa, pb, pc]
 refine late_one 8 (by kernel_rfl) (by kernel_rfl) (fun o ho => ?_)
 simp only [qa, qb, qc, qd] at ho; subst ho
 refine ⟨by kernel_rfl, fun wn hl K hK => ?_⟩
 have HR := Lib.hid (HR.out.later hl); have HB := Lib.hid (below_on HB.out hl); clear hl
 refine wp_enter _ _ (by go_simp; exact ⟨rfl, rfl⟩) ?_
 refine (mk_any (c : Int) 4 _ HC0.out (by decide)).mono ?_; rintro e wm ⟨rfl, rfl⟩; refine ⟨_, rfl, ?_⟩
 rw [HMk.out]
 refine hK.out _ _ (Later.refl _) ?_
 clear hK K
 simp only [Act.put, pa, pb, pc]
 refine lv 9 rfl ⟨.bool false, fun w' hl => ?_, ?_⟩
 ·(go_simp; try simp [g4])
 simp only [Act.put, pa, pb, pc]
 refine lv 10 rfl ?_; apply Exists.intro; refine ⟨fun w' hl => ?_, ?_⟩
 ·(go_simp; try with_reducible rfl)
 simp only [Act.put, pa, pb, pc]
 refine late_end (by kernel_rfl) (fun wn hl => ?_)
 have HR := Lib.hid (HR.out.later hl); have HB := Lib.hid (below_on HB.out hl); clear hl
 go_wp2_with (first
   | (refine step_get rfl 5 _ rfl b1 0 rfl Tryz.underlying5 rfl (.int .u8 (v : Int)) ?_ ?_; exact HCs.out _ _ HR.out)
   | (refine step_get rfl 3 _ rfl 0 s rfl Tryz.underlying3 rfl (.int .i64 u) ?_ ?_; exact (HU.out.on HB.out).cell HSd.out |>.trans (by rw [HUs.out])))
 go_ret
 exact ⟨by (rw [HS.out]; try rfl), HB.out⟩
theorem rk_any (p : Nat → Int) (c s : Nat) (w : World) (hp : FitP p) (ha : argB p = true) (hc : c < 2) (hs : s < 2) (hT : TabVar w) (hD : TabDb w) (hU : TabUs w) : Calls Tryz.prog 22 #[.agg (posA p), .int .u8 (c : Int), .int .i64 (s : Int)] w (BoL (rkB p c s) w) := by
 cases q0 : (roA p c s == -1)
 case true => exact rk_w0 p c s w hp ha hc hs hT hD hU q0
 cases q1 : casB (p 0).toNat
 case false => exact rk_w1 p c s w hp ha hc hs hT hD hU q0 q1
 cases q2 : decide (0 ≤ kfZ p c)
 case false => exact rk_w2 p c s w hp ha hc hs hT hD hU q0 q1 q2
 cases q3 : decide (kfZ p c < 8)
 case false => exact rk_w3 p c s w hp ha hc hs hT hD hU q0 q1 q2 q3
 cases q4 : (p (1 + (56 * c + (roA p c s).toNat)) == mkZ (c : Int) 4)
 case false => exact rk_w4 p c s w hp ha hc hs hT hD hU q0 q1 q2 q3 q4
 cases q5 : (decide (kfZ p c < roA p c s) == (s == 0))
 case false => exact rk_w5 p c s w hp ha hc hs hT hD hU q0 q1 q2 q3 q4 q5
 cases q6 : (p 0 == 1)
 case true => exact rk_w6 p c s w hp ha hc hs hT hD hU q0 q1 q2 q3 q4 q5 q6
 cases q7 : (kfZ p c == 4)
 case false => exact rk_w7 p c s w hp ha hc hs hT hD hU q0 q1 q2 q3 q4 q5 q6 q7
 case true => exact rk_w8 p c s w hp ha hc hs hT hD hU q0 q1 q2 q3 q4 q5 q6 q7
theorem rks_no {p : Nat → Int} {c s : Nat} (hc : c < 2) (hs : s < 2) (h : rkB p c s = false) : rksB p = false := by
 unfold rksB
 have a : c = 0 ∨ c = 1 := by omega
 have b : s = 0 ∨ s = 1 := by omega
 rcases a with rfl | rfl <;> rcases b with rfl | rfl <;> rw [h] <;> simp
theorem rks_yes {p : Nat → Int} (h : ∀ c s : Nat, c < 2 → s < 2 → rkB p c s = true) : rksB p = true := by
 unfold rksB
 rw [h 0 0 (by decide) (by decide), h 0 1 (by decide) (by decide), h 1 0 (by decide) (by decide), h 1 1 (by decide) (by decide)]; rfl
set_option maxRecDepth 100000 in
set_option maxHeartbeats 1000000 in
theorem rks_any (p : Nat → Int) (w : World) (hp : FitP p) (ha : argB p = true) (hT : TabVar w) (hD : TabDb w) (hU : TabUs w) : Calls Tryz.prog 57 #[.agg (posA p)] w (IntL (anZ p 5) w) := by
 have HP := Lib.hid hp
 have HA := Lib.hid ha
 have HT := Lib.hid hT
 have HD := Lib.hid hD
 have HU := Lib.hid hU
 have HAn := Lib.hid (show anZ p 5 = bif rksB p then 0 else 123 from rfl)
 clear hp ha hT hD hU
 have HB := Lib.hid (Below.refl w.heap.size w)
 go_enter Tryz.func57, Tryz.ntmps57
 go_wp2_with (first
   | (refine va_box rfl _ rfl p rfl ?_; intro b1 w1 N R; have HB := Lib.hid (HB.out.trans (N.below.mono HB.out.size)); have HR := Lib.hid R; clear N R))
 go_loopw [3] (fun i wr => ∃ c : Nat, c ≤ 2 ∧ i = .int .u8 (c : Int) ∧ (∀ j s : Nat, j < c → s < 2 → rkB p j s = true) ∧ VR wr b1 p ∧ Below w.heap.size w wr) (fun i _ => 2 - (intOf i).toNat)
 case atStart => exact ⟨0, by omega, rfl, by intro j s h; omega, HR.out, HB.out⟩
 case round =>
  obtain ⟨c, hc, rfl, hh, hr, hbw⟩ := hrel
  have HR := Lib.hid hr
  have HB := Lib.hid hbw
  have HH := Lib.hid hh
  clear hr hbw hh
  by_cases hlt : c < 2
  ·have gc : decide ((c : Int) ≤ 1) = true := decide_eq_true (by omega)
   have HC := Lib.hid hlt
   clear hc
   go_wp2_with fail
   go_loopw [9] (fun i wr2 => ∃ s : Nat, s ≤ 2 ∧ i = .int .i64 (s : Int) ∧ (∀ j : Nat, j < s → rkB p c j = true) ∧ VR wr2 b1 p ∧ Below w.heap.size w wr2) (fun i _ => 2 - (intOf i).toNat)
   case atStart => exact ⟨0, by omega, rfl, by intro j h; omega, HR.out, HB.out⟩
   case round =>
    obtain ⟨s, hs, rfl, hhs, hr2, hb2⟩ := hrel
    have HR := Lib.hid hr2
    have HB := Lib.hid hb2
    have HHs := Lib.hid hhs
    clear hr2 hb2 hhs
    by_cases hlt : s < 2
    ·have gs : decide ((s : Int) < 2) = true := decide_eq_true (by omega)
     have HSd := Lib.hid hlt
     clear hs
     cases hq : rkB p c s
     ·have HQ := Lib.hid hq
      clear hq
      go_wp2_with (first
       | (refine va_load rfl _ rfl b1 rfl p HR.out ?_)
       | (go_at_call 22; refine (rk_any p c s _ HP.out HA.out HC.out HSd.out (HT.out.on HB.out) (HD.out.on HB.out) (HU.out.on HB.out)).mono ?_; rintro e w3 ⟨rfl, hb⟩; rw [HQ.out]; have HR := Lib.hid (HR.out.later hb); have HB := Lib.hid (below_on HB.out hb); clear hb))
      go_ret
      exact ⟨by rw [HAn.out, rks_no HC.out HSd.out HQ.out]; rfl, HB.out⟩
     ·have HQ := Lib.hid hq
      clear hq
      go_wp2_with (first
       | (refine va_load rfl _ rfl b1 rfl p HR.out ?_)
       | (go_at_call 22; refine (rk_any p c s _ HP.out HA.out HC.out HSd.out (HT.out.on HB.out) (HD.out.on HB.out) (HU.out.on HB.out)).mono ?_; rintro e w3 ⟨rfl, hb⟩; rw [HQ.out]; have HR := Lib.hid (HR.out.later hb); have HB := Lib.hid (below_on HB.out hb); clear hb))
      go_roundw
      case rel => exact ⟨s + 1, by have := HSd.out; omega, by go_num, fun j hj => by
       by_cases e : j < s
       ·exact HHs.out j e
       ·obtain rfl : j = s := by omega
        exact HQ.out, HR.out, HB.out⟩
      case measure => simp [intOf]; have := HSd.out; omega
    ·have gs : decide ((s : Int) < 2) = false := decide_eq_false (by omega)
     have HE := Lib.hid (show s = 2 by omega)
     clear hs hlt
     go_wp2_with fail
     go_roundw
     case rel => exact ⟨c + 1, by have := HC.out; omega, by have := HC.out; go_num, fun j s' hj hs' => by
      by_cases e : j < c
      ·exact HH.out j s' e hs'
      ·obtain rfl : j = c := by omega
       exact HHs.out s' (by have := HE.out; omega), HR.out, HB.out⟩
     case measure => simp [intOf]; have := HC.out; omega
  ·have gc : decide ((c : Int) ≤ 1) = false := decide_eq_false (by omega)
   have HE := Lib.hid (show c = 2 by omega)
   clear hc hlt
   go_wp2_with fail
   go_ret
   exact ⟨by rw [HAn.out, rks_yes (fun j s hj hs => HH.out j s (by have := HE.out; omega) hs)]; rfl, HB.out⟩
set_option maxRecDepth 100000 in
set_option maxHeartbeats 1000000 in
theorem ic_0 (p : Nat → Int) (c : Int) (w : World) (hp : FitP p) (hc : 0 ≤ c ∧ c ≤ 255) (hT : TabVar w) (hD : TabDb w) (hL : TabLead w) (q3 : (p 0 == 3) = false) : Calls Tryz.prog 84 #[.agg (posA p), .int .u8 c] w (BoL (icB p c) w) := by
 have HP := Lib.hid hp
 have HC := Lib.hid hc
 have HT := Lib.hid hT
 have HD := Lib.hid hD
 have HL := Lib.hid hL
 have HS := Lib.hid (show icB p c = chkB p c by unfold icB; rw [q3]; rfl)
 obtain ⟨b, hb⟩ : ∃ b, chkB p c = b := ⟨_, rfl⟩
 have HK := Lib.hid hb
 rw [hb] at HS
 clear hb
 clear hp hc hT hD hL
 have HB := Lib.hid (Below.refl w.heap.size w)
 have HQu1 := Lib.hid trivial
 have HQu2 := Lib.hid trivial
 have HQu3 := Lib.hid trivial
 have HQu4 := Lib.hid trivial
 go_enter Tryz.func84, Tryz.ntmps84
 go_wp2_with (first
   | (clear HQu1; refine va_box rfl _ rfl p rfl ?_; intro b1 w1 N R; have HB := Lib.hid (HB.out.trans (N.below.mono HB.out.size)); have HR := Lib.hid R; clear N R)
   | (clear HQu2; refine step_get rfl 5 _ rfl b1 (0) rfl Tryz.underlying5 rfl (.int .u8 (p 0)) ?_ ?_; exact HR.out.cell (0) (by decide))
   | (clear HQu3; refine va_in rfl _ rfl b1 rfl p HR.out ?_)
   | (clear HQu4; go_at_call 102; refine (check_any p c _ HP.out.at HC.out (HD.out.on HB.out) (HL.out.next HB.out) (HT.out.on HB.out)).mono ?_; rintro e w3 ⟨rfl, hb⟩; rw [HK.out]; have HR := Lib.hid (HR.out.later hb); have HB := Lib.hid (below_on HB.out hb); clear hb))
 go_ret
 exact ⟨by (rw [HS.out]; try rfl), HB.out⟩
set_option maxRecDepth 100000 in
set_option maxHeartbeats 1000000 in
theorem ic_1 (p : Nat → Int) (c : Int) (w : World) (hp : FitP p) (hc : 0 ≤ c ∧ c ≤ 255) (hT : TabVar w) (hD : TabDb w) (hL : TabLead w) (q3 : (p 0 == 3) = true) (q4 : (kgsZ p (p 78) == 0) = false) : Calls Tryz.prog 84 #[.agg (posA p), .int .u8 c] w (BoL (icB p c) w) := by
 have HP := Lib.hid hp
 have HC := Lib.hid hc
 have HT := Lib.hid hT
 have HD := Lib.hid hD
 have HL := Lib.hid hL
 have HS := Lib.hid (show icB p c = chkB p c by unfold icB; rw [q3, q4]; rfl)
 obtain ⟨n, hn⟩ : ∃ n, kgsZ p (p 78) = n := ⟨_, rfl⟩
 rw [hn] at q4
 have HN := Lib.hid hn
 clear hn
 obtain ⟨b, hb⟩ : ∃ b, chkB p c = b := ⟨_, rfl⟩
 have HK := Lib.hid hb
 rw [hb] at HS
 clear hb
 clear hp hc hT hD hL
 have HB := Lib.hid (Below.refl w.heap.size w)
 have HQu1 := Lib.hid trivial
 have HQu2 := Lib.hid trivial
 have HQu3 := Lib.hid trivial
 have HQu4 := Lib.hid trivial
 have HQu5 := Lib.hid trivial
 have HQu6 := Lib.hid trivial
 have HQu7 := Lib.hid trivial
 go_enter Tryz.func84, Tryz.ntmps84
 go_wp2_with (first
   | (clear HQu1; refine va_box rfl _ rfl p rfl ?_; intro b1 w1 N R; have HB := Lib.hid (HB.out.trans (N.below.mono HB.out.size)); have HR := Lib.hid R; clear N R)
   | (clear HQu2; refine step_get rfl 5 _ rfl b1 (0) rfl Tryz.underlying5 rfl (.int .u8 (p 0)) ?_ ?_; exact HR.out.cell (0) (by decide))
   | (clear HQu3; refine va_load rfl _ rfl b1 rfl p HR.out ?_)
   | (clear HQu4; refine step_get rfl 5 _ rfl b1 (78) rfl Tryz.underlying5 rfl (.int .u8 (p 78)) ?_ ?_; exact HR.out.cell (78) (by decide))
   | (clear HQu5; go_at_call 97; refine (kgs_any p (p 78) _ HP.out).mono ?_; rintro e w3 ⟨rfl, hb⟩; rw [HN.out]; have HR := Lib.hid (HR.out.later hb); have HB := Lib.hid (below_on HB.out hb); clear hb)
   | (clear HQu6; refine va_in rfl _ rfl b1 rfl p HR.out ?_)
   | (clear HQu7; go_at_call 102; refine (check_any p c _ HP.out.at HC.out (HD.out.on HB.out) (HL.out.next HB.out) (HT.out.on HB.out)).mono ?_; rintro e w3 ⟨rfl, hb⟩; rw [HK.out]; have HR := Lib.hid (HR.out.later hb); have HB := Lib.hid (below_on HB.out hb); clear hb))
 go_ret
 exact ⟨by (rw [HS.out]; try rfl), HB.out⟩
set_option maxRecDepth 100000 in
set_option maxHeartbeats 1000000 in
theorem ic_2 (p : Nat → Int) (c : Int) (w : World) (hp : FitP p) (hc : 0 ≤ c ∧ c ≤ 255) (hT : TabVar w) (hD : TabDb w) (hL : TabLead w) (q3 : (p 0 == 3) = true) (q4 : (kgsZ p (p 78) == 0) = true) : Calls Tryz.prog 84 #[.agg (posA p), .int .u8 c] w (BoL (icB p c) w) := by
 have HP := Lib.hid hp
 have HC := Lib.hid hc
 have HT := Lib.hid hT
 have HD := Lib.hid hD
 have HL := Lib.hid hL
 have HS := Lib.hid (show icB p c = false by unfold icB; rw [q3, q4]; rfl)
 obtain ⟨n, hn⟩ : ∃ n, kgsZ p (p 78) = n := ⟨_, rfl⟩
 rw [hn] at q4
 have HN := Lib.hid hn
 clear hn
 clear hp hc hT hD hL
 have HB := Lib.hid (Below.refl w.heap.size w)
 have HQu1 := Lib.hid trivial
 have HQu2 := Lib.hid trivial
 have HQu3 := Lib.hid trivial
 have HQu4 := Lib.hid trivial
 have HQu5 := Lib.hid trivial
 go_enter Tryz.func84, Tryz.ntmps84
 go_wp2_with (first
   | (clear HQu1; refine va_box rfl _ rfl p rfl ?_; intro b1 w1 N R; have HB := Lib.hid (HB.out.trans (N.below.mono HB.out.size)); have HR := Lib.hid R; clear N R)
   | (clear HQu2; refine step_get rfl 5 _ rfl b1 (0) rfl Tryz.underlying5 rfl (.int .u8 (p 0)) ?_ ?_; exact HR.out.cell (0) (by decide))
   | (clear HQu3; refine va_load rfl _ rfl b1 rfl p HR.out ?_)
   | (clear HQu4; refine step_get rfl 5 _ rfl b1 (78) rfl Tryz.underlying5 rfl (.int .u8 (p 78)) ?_ ?_; exact HR.out.cell (78) (by decide))
   | (clear HQu5; go_at_call 97; refine (kgs_any p (p 78) _ HP.out).mono ?_; rintro e w3 ⟨rfl, hb⟩; rw [HN.out]; have HR := Lib.hid (HR.out.later hb); have HB := Lib.hid (below_on HB.out hb); clear hb))
 go_ret
 exact ⟨by (rw [HS.out]; try rfl), HB.out⟩
theorem ic_any (p : Nat → Int) (c : Int) (w : World) (hp : FitP p) (hc : 0 ≤ c ∧ c ≤ 255) (hT : TabVar w) (hD : TabDb w) (hL : TabLead w) : Calls Tryz.prog 84 #[.agg (posA p), .int .u8 c] w (BoL (icB p c) w) := by
 cases q3 : (p 0 == 3)
 ·exact ic_0 p c w hp hc hT hD hL q3
 ·cases q4 : (kgsZ p (p 78) == 0)
  ·exact ic_1 p c w hp hc hT hD hL q3 q4
  ·exact ic_2 p c w hp hc hT hD hL q3 q4
set_option maxRecDepth 100000 in
set_option maxHeartbeats 1000000 in
theorem ck_0 (p : Nat → Int) (w : World) (hp : FitP p) (ha : argB p = true) (hT : TabVar w) (hD : TabDb w) (hL : TabLead w) (q0 : icB p (1 - p 78) = true) : Calls Tryz.prog 59 #[.agg (posA p)] w (IntL (anZ p 7) w) := by
 have HP := Lib.hid hp
 have HT := Lib.hid hT
 have HD := Lib.hid hD
 have HL := Lib.hid hL
 obtain ⟨c, hcc⟩ : ∃ c : Nat, p 78 = (c : Int) := Int.eq_ofNat_of_zero_le hp.turn.1
 have hc2 : c < 2 := by have := (argB_var ha).2.1; omega
 have HC := Lib.hid hc2
 have HC7 := Lib.hid (fun (W : World) (b : Nat) (h : VR W b p) => show W.cell? ⟨b, 78, none⟩ = some (.int .u8 (c : Int)) by rw [h.cell 78 (by decide), hcc]; rfl)
 have HS := Lib.hid (show anZ p 7 = 126 by unfold anZ okN chB; rw [q0]; rfl)
 rw [hcc] at q0
 have HQ0 := Lib.hid q0
 clear hp ha hT hD hL hcc hc2 q0
 have HB := Lib.hid (Below.refl w.heap.size w)
 go_enter Tryz.func59, Tryz.ntmps59
 go_wp2_with (first
   | (refine va_box rfl _ rfl p rfl ?_; intro b1 w1 N R; have HB := Lib.hid (HB.out.trans (N.below.mono HB.out.size)); have HR := Lib.hid R; clear N R))
 refine late_begin 23 (by kernel_rfl) ?_
 refine lv 0 rfl ⟨_, fun w' hl => (run_va _ rfl b1 rfl p (HR.out.later hl)), ?_⟩
 simp only [Act.put, pa, pb, pc]
 refine lv 1 rfl ?_; apply Exists.intro; refine ⟨fun w' hl => ?_, ?_⟩
 ·(go_simp; try with_reducible rfl)
 simp only [Act.put, pa, pb, pc]
 refine lv 2 rfl ?_; apply Exists.intro; refine ⟨fun w' hl => ?_, ?_⟩
 ·(go_simp; try with_reducible rfl)
 simp only [Act.put, pa, pb, pc]
 refine lv 3 rfl ⟨_, fun w' hl => (run_get 5 _ rfl b1 78 rfl Tryz.underlying5 rfl (.int .u8 (c : Int)) (HC7.out _ _ (HR.out.later hl))), ?_⟩
 simp only [Act.put, pa, pb, pc]
 refine late_one 4 (by kernel_rfl) (by kernel_rfl) (fun o ho => ?_)
 simp only [qa, qb, qc, qd] at ho; subst ho
 refine ⟨by kernel_rfl, fun wn hl K hK => ?_⟩
 have HR := Lib.hid (HR.out.later hl); have HB := Lib.hid (below_on HB.out hl); clear hl
 refine wp_enter _ _ (by go_simp; exact ⟨rfl, rfl⟩) ?_
 refine (voth_any c HC.out _).mono ?_; rintro e wm ⟨rfl, rfl⟩; refine ⟨_, rfl, ?_⟩
 refine hK.out _ _ (Later.refl _) ?_
 clear hK K
 simp only [Act.put, pa, pb, pc]
 refine late_one 5 (by kernel_rfl) (by kernel_rfl) (fun o ho => ?_)
 simp only [qa, qb, qc, qd] at ho; subst ho
 refine ⟨by kernel_rfl, fun wn hl K hK => ?_⟩
 have HR := Lib.hid (HR.out.later hl); have HB := Lib.hid (below_on HB.out hl); clear hl
 refine wp_enter _ _ (by go_simp; exact ⟨rfl, rfl⟩) ?_
 refine (ic_any p (1 - (c : Int)) _ HP.out (by have := HC.out; omega) (HT.out.on HB.out) (HD.out.on HB.out) (HL.out.next HB.out)).mono ?_; rintro e wm ⟨rfl, hb⟩; refine ⟨_, rfl, ?_⟩
 rw [HQ0.out]
 refine hK.out _ _ hb ?_
 have HR := Lib.hid (HR.out.later hb); have HB := Lib.hid (below_on HB.out hb); clear hb
 clear hK K
 simp only [Act.put, pa, pb, pc]
 refine lv 6 rfl ?_; apply Exists.intro; refine ⟨fun w' hl => ?_, ?_⟩
 ·(go_simp; try with_reducible rfl)
 simp only [Act.put, pa, pb, pc]
 refine lv 7 rfl ?_; apply Exists.intro; refine ⟨fun w' hl => ?_, ?_⟩
 ·(go_simp; try with_reducible rfl)
 simp only [Act.put, pa, pb, pc]
 refine lo 8 rfl ?_
 simp only [Act.put, pa, pb, pc]
 refine lo 9 rfl ?_
 simp only [Act.put, pa, pb, pc]
 refine lo 10 rfl ?_
 simp only [Act.put, pa, pb, pc]
 refine lo 11 rfl ?_
 simp only [Act.put, pa, pb, pc]
 refine lo 12 rfl ?_
 simp only [Act.put, pa, pb, pc]
 refine lo 13 rfl ?_
 simp only [Act.put, pa, pb, pc]
 refine lo 14 rfl ?_
 simp only [Act.put, pa, pb, pc]
 refine lo 15 rfl ?_
 simp only [Act.put, pa, pb, pc]
 refine lo 16 rfl ?_
 simp only [Act.put, pa, pb, pc]
 refine lo 17 rfl ?_
 simp only [Act.put, pa, pb, pc]
 refine lo 18 rfl ?_
 simp only [Act.put, pa, pb, pc]
 refine lo 19 rfl ?_
 simp only [Act.put, pa, pb, pc]
 refine lv 20 rfl ?_; apply Exists.intro; refine ⟨fun w' hl => ?_, ?_⟩
 ·(go_simp; try with_reducible rfl)
 simp only [Act.put, pa, pb, pc]
 refine late_one 21 (by kernel_rfl) (by kernel_rfl) (fun o ho => ?_)
 simp only [qa, qb, qc, qd] at ho; subst ho
 refine ⟨by kernel_rfl, fun wn hl K hK => ?_⟩
 have HR := Lib.hid (HR.out.later hl); have HB := Lib.hid (below_on HB.out hl); clear hl
 refine wp_enter _ _ (by go_simp; exact ⟨rfl, rfl⟩) ?_
 refine (unl_any _ _ _).mono ?_; rintro e wm ⟨rfl, rfl⟩; refine ⟨_, rfl, ?_⟩
 refine hK.out _ _ (Later.refl _) ?_
 clear hK K
 simp only [Act.put, pa, pb, pc]
 refine lv 22 rfl ?_; apply Exists.intro; refine ⟨fun w' hl => ?_, ?_⟩
 ·(go_simp; try with_reducible rfl)
 simp only [Act.put, pa, pb, pc]
 refine late_end (by kernel_rfl) (fun wn hl => ?_)
 have HR := Lib.hid (HR.out.later hl); have HB := Lib.hid (below_on HB.out hl); clear hl
 go_wp2_with fail
 go_ret
 exact ⟨by (rw [HS.out]; try rfl), HB.out⟩
set_option maxRecDepth 100000 in
set_option maxHeartbeats 1000000 in
theorem ck_1 (p : Nat → Int) (w : World) (hp : FitP p) (ha : argB p = true) (hT : TabVar w) (hD : TabDb w) (hL : TabLead w) (q0 : icB p (1 - p 78) = false) (q1 : (p 0 == 8) = false) : Calls Tryz.prog 59 #[.agg (posA p)] w (IntL (anZ p 7) w) := by
 have HP := Lib.hid hp
 have HT := Lib.hid hT
 have HD := Lib.hid hD
 have HL := Lib.hid hL
 obtain ⟨c, hcc⟩ : ∃ c : Nat, p 78 = (c : Int) := Int.eq_ofNat_of_zero_le hp.turn.1
 have hc2 : c < 2 := by have := (argB_var ha).2.1; omega
 have HC := Lib.hid hc2
 have HC7 := Lib.hid (fun (W : World) (b : Nat) (h : VR W b p) => show W.cell? ⟨b, 78, none⟩ = some (.int .u8 (c : Int)) by rw [h.cell 78 (by decide), hcc]; rfl)
 have HS := Lib.hid (show anZ p 7 = 0 by unfold anZ okN chB; rw [q0, q1]; rfl)
 rw [hcc] at q0
 have HQ0 := Lib.hid q0
 clear hp ha hT hD hL hcc hc2 q0
 have HB := Lib.hid (Below.refl w.heap.size w)
 go_enter Tryz.func59, Tryz.ntmps59
 go_wp2_with (first
   | (refine va_box rfl _ rfl p rfl ?_; intro b1 w1 N R; have HB := Lib.hid (HB.out.trans (N.below.mono HB.out.size)); have HR := Lib.hid R; clear N R))
 refine late_begin 23 (by kernel_rfl) ?_
 refine lv 0 rfl ⟨_, fun w' hl => (run_va _ rfl b1 rfl p (HR.out.later hl)), ?_⟩
 simp only [Act.put, pa, pb, pc]
 refine lv 1 rfl ?_; apply Exists.intro; refine ⟨fun w' hl => ?_, ?_⟩
 ·(go_simp; try with_reducible rfl)
 simp only [Act.put, pa, pb, pc]
 refine lv 2 rfl ?_; apply Exists.intro; refine ⟨fun w' hl => ?_, ?_⟩
 ·(go_simp; try with_reducible rfl)
 simp only [Act.put, pa, pb, pc]
 refine lv 3 rfl ⟨_, fun w' hl => (run_get 5 _ rfl b1 78 rfl Tryz.underlying5 rfl (.int .u8 (c : Int)) (HC7.out _ _ (HR.out.later hl))), ?_⟩
 simp only [Act.put, pa, pb, pc]
 refine late_one 4 (by kernel_rfl) (by kernel_rfl) (fun o ho => ?_)
 simp only [qa, qb, qc, qd] at ho; subst ho
 refine ⟨by kernel_rfl, fun wn hl K hK => ?_⟩
 have HR := Lib.hid (HR.out.later hl); have HB := Lib.hid (below_on HB.out hl); clear hl
 refine wp_enter _ _ (by go_simp; exact ⟨rfl, rfl⟩) ?_
 refine (voth_any c HC.out _).mono ?_; rintro e wm ⟨rfl, rfl⟩; refine ⟨_, rfl, ?_⟩
 refine hK.out _ _ (Later.refl _) ?_
 clear hK K
 simp only [Act.put, pa, pb, pc]
 refine late_one 5 (by kernel_rfl) (by kernel_rfl) (fun o ho => ?_)
 simp only [qa, qb, qc, qd] at ho; subst ho
 refine ⟨by kernel_rfl, fun wn hl K hK => ?_⟩
 have HR := Lib.hid (HR.out.later hl); have HB := Lib.hid (below_on HB.out hl); clear hl
 refine wp_enter _ _ (by go_simp; exact ⟨rfl, rfl⟩) ?_
 refine (ic_any p (1 - (c : Int)) _ HP.out (by have := HC.out; omega) (HT.out.on HB.out) (HD.out.on HB.out) (HL.out.next HB.out)).mono ?_; rintro e wm ⟨rfl, hb⟩; refine ⟨_, rfl, ?_⟩
 rw [HQ0.out]
 refine hK.out _ _ hb ?_
 have HR := Lib.hid (HR.out.later hb); have HB := Lib.hid (below_on HB.out hb); clear hb
 clear hK K
 simp only [Act.put, pa, pb, pc]
 refine lv 6 rfl ?_; apply Exists.intro; refine ⟨fun w' hl => ?_, ?_⟩
 ·(go_simp; try with_reducible rfl)
 simp only [Act.put, pa, pb, pc]
 refine lv 7 rfl ?_; apply Exists.intro; refine ⟨fun w' hl => ?_, ?_⟩
 ·(go_simp; try with_reducible rfl)
 simp only [Act.put, pa, pb, pc]
 refine lv 8 rfl ?_; apply Exists.intro; refine ⟨fun w' hl => ?_, ?_⟩
 ·(go_simp; try with_reducible rfl)
 simp only [Act.put, pa, pb, pc]
 refine lv 9 rfl ?_; apply Exists.intro; refine ⟨fun w' hl => ?_, ?_⟩
 ·(go_simp; try with_reducible rfl)
 simp only [Act.put, pa, pb, pc]
 refine lv 10 rfl ⟨_, fun w' hl => (run_get 5 _ rfl b1 (0) rfl Tryz.underlying5 rfl (.int .u8 (p 0)) (((HR.out.later hl).cell (0) (by decide)))), ?_⟩
 simp only [Act.put, pa, pb, pc]
 refine lv 11 rfl ⟨.bool false, fun w' hl => ?_, ?_⟩
 ·(go_simp; try simp [q1])
 simp only [Act.put, pa, pb, pc]
 refine lv 12 rfl ?_; apply Exists.intro; refine ⟨fun w' hl => ?_, ?_⟩
 ·(go_simp; try with_reducible rfl)
 simp only [Act.put, pa, pb, pc]
 refine lo 13 rfl ?_
 simp only [Act.put, pa, pb, pc]
 refine lo 14 rfl ?_
 simp only [Act.put, pa, pb, pc]
 refine lo 15 rfl ?_
 simp only [Act.put, pa, pb, pc]
 refine lo 16 rfl ?_
 simp only [Act.put, pa, pb, pc]
 refine lo 17 rfl ?_
 simp only [Act.put, pa, pb, pc]
 refine lv 18 rfl ?_; apply Exists.intro; refine ⟨fun w' hl => ?_, ?_⟩
 ·(go_simp; try with_reducible rfl)
 simp only [Act.put, pa, pb, pc]
 refine lv 19 rfl ?_; apply Exists.intro; refine ⟨fun w' hl => ?_, ?_⟩
 ·(go_simp; try with_reducible rfl)
 simp only [Act.put, pa, pb, pc]
 refine lv 20 rfl ?_; apply Exists.intro; refine ⟨fun w' hl => ?_, ?_⟩
 ·(go_simp; try with_reducible rfl)
 simp only [Act.put, pa, pb, pc]
 refine late_one 21 (by kernel_rfl) (by kernel_rfl) (fun o ho => ?_)
 simp only [qa, qb, qc, qd] at ho; subst ho
 refine ⟨by kernel_rfl, fun wn hl K hK => ?_⟩
 have HR := Lib.hid (HR.out.later hl); have HB := Lib.hid (below_on HB.out hl); clear hl
 refine wp_enter _ _ (by go_simp; exact ⟨rfl, rfl⟩) ?_
 refine (unl_any _ _ _).mono ?_; rintro e wm ⟨rfl, rfl⟩; refine ⟨_, rfl, ?_⟩
 refine hK.out _ _ (Later.refl _) ?_
 clear hK K
 simp only [Act.put, pa, pb, pc]
 refine lv 22 rfl ?_; apply Exists.intro; refine ⟨fun w' hl => ?_, ?_⟩
 ·(go_simp; try with_reducible rfl)
 simp only [Act.put, pa, pb, pc]
 refine late_end (by kernel_rfl) (fun wn hl => ?_)
 have HR := Lib.hid (HR.out.later hl); have HB := Lib.hid (below_on HB.out hl); clear hl
 go_wp2_with fail
 go_ret
 exact ⟨by (rw [HS.out]; try rfl), HB.out⟩
set_option maxRecDepth 100000 in
set_option maxHeartbeats 1000000 in
theorem ck_2 (p : Nat → Int) (w : World) (hp : FitP p) (ha : argB p = true) (hT : TabVar w) (hD : TabDb w) (hL : TabLead w) (q0 : icB p (1 - p 78) = false) (q1 : (p 0 == 8) = true) (q2 : icB p (p 78) = true) : Calls Tryz.prog 59 #[.agg (posA p)] w (IntL (anZ p 7) w) := by
 have HP := Lib.hid hp
 have HT := Lib.hid hT
 have HD := Lib.hid hD
 have HL := Lib.hid hL
 obtain ⟨c, hcc⟩ : ∃ c : Nat, p 78 = (c : Int) := Int.eq_ofNat_of_zero_le hp.turn.1
 have hc2 : c < 2 := by have := (argB_var ha).2.1; omega
 have HC := Lib.hid hc2
 have HC7 := Lib.hid (fun (W : World) (b : Nat) (h : VR W b p) => show W.cell? ⟨b, 78, none⟩ = some (.int .u8 (c : Int)) by rw [h.cell 78 (by decide), hcc]; rfl)
 have HS := Lib.hid (show anZ p 7 = 126 by unfold anZ okN chB; rw [q0, q1, q2]; rfl)
 rw [hcc] at q0
 have HQ0 := Lib.hid q0
 rw [hcc] at q2
 have HQ2 := Lib.hid q2
 clear hp ha hT hD hL hcc hc2 q0 q2
 have HB := Lib.hid (Below.refl w.heap.size w)
 go_enter Tryz.func59, Tryz.ntmps59
 go_wp2_with (first
   | (refine va_box rfl _ rfl p rfl ?_; intro b1 w1 N R; have HB := Lib.hid (HB.out.trans (N.below.mono HB.out.size)); have HR := Lib.hid R; clear N R))
 refine late_begin 23 (by kernel_rfl) ?_
 refine lv 0 rfl ⟨_, fun w' hl => (run_va _ rfl b1 rfl p (HR.out.later hl)), ?_⟩
 simp only [Act.put, pa, pb, pc]
 refine lv 1 rfl ?_; apply Exists.intro; refine ⟨fun w' hl => ?_, ?_⟩
 ·(go_simp; try with_reducible rfl)
 simp only [Act.put, pa, pb, pc]
 refine lv 2 rfl ?_; apply Exists.intro; refine ⟨fun w' hl => ?_, ?_⟩
 ·(go_simp; try with_reducible rfl)
 simp only [Act.put, pa, pb, pc]
 refine lv 3 rfl ⟨_, fun w' hl => (run_get 5 _ rfl b1 78 rfl Tryz.underlying5 rfl (.int .u8 (c : Int)) (HC7.out _ _ (HR.out.later hl))), ?_⟩
 simp only [Act.put, pa, pb, pc]
 refine late_one 4 (by kernel_rfl) (by kernel_rfl) (fun o ho => ?_)
 simp only [qa, qb, qc, qd] at ho; subst ho
 refine ⟨by kernel_rfl, fun wn hl K hK => ?_⟩
 have HR := Lib.hid (HR.out.later hl); have HB := Lib.hid (below_on HB.out hl); clear hl
 refine wp_enter _ _ (by go_simp; exact ⟨rfl, rfl⟩) ?_
 refine (voth_any c HC.out _).mono ?_; rintro e wm ⟨rfl, rfl⟩; refine ⟨_, rfl, ?_⟩
 refine hK.out _ _ (Later.refl _) ?_
 clear hK K
 simp only [Act.put, pa, pb, pc]
 refine late_one 5 (by kernel_rfl) (by kernel_rfl) (fun o ho => ?_)
 simp only [qa, qb, qc, qd] at ho; subst ho
 refine ⟨by kernel_rfl, fun wn hl K hK => ?_⟩
 have HR := Lib.hid (HR.out.later hl); have HB := Lib.hid (below_on HB.out hl); clear hl
 refine wp_enter _ _ (by go_simp; exact ⟨rfl, rfl⟩) ?_
 refine (ic_any p (1 - (c : Int)) _ HP.out (by have := HC.out; omega) (HT.out.on HB.out) (HD.out.on HB.out) (HL.out.next HB.out)).mono ?_; rintro e wm ⟨rfl, hb⟩; refine ⟨_, rfl, ?_⟩
 rw [HQ0.out]
 refine hK.out _ _ hb ?_
 have HR := Lib.hid (HR.out.later hb); have HB := Lib.hid (below_on HB.out hb); clear hb
 clear hK K
 simp only [Act.put, pa, pb, pc]
 refine lv 6 rfl ?_; apply Exists.intro; refine ⟨fun w' hl => ?_, ?_⟩
 ·(go_simp; try with_reducible rfl)
 simp only [Act.put, pa, pb, pc]
 refine lv 7 rfl ?_; apply Exists.intro; refine ⟨fun w' hl => ?_, ?_⟩
 ·(go_simp; try with_reducible rfl)
 simp only [Act.put, pa, pb, pc]
 refine lv 8 rfl ?_; apply Exists.intro; refine ⟨fun w' hl => ?_, ?_⟩
 ·(go_simp; try with_reducible rfl)
 simp only [Act.put, pa, pb, pc]
 refine lv 9 rfl ?_; apply Exists.intro; refine ⟨fun w' hl => ?_, ?_⟩
 ·(go_simp; try with_reducible rfl)
 simp only [Act.put, pa, pb, pc]
 refine lv 10 rfl ⟨_, fun w' hl => (run_get 5 _ rfl b1 (0) rfl Tryz.underlying5 rfl (.int .u8 (p 0)) (((HR.out.later hl).cell (0) (by decide)))), ?_⟩
 simp only [Act.put, pa, pb, pc]
 refine lv 11 rfl ⟨.bool true, fun w' hl => ?_, ?_⟩
 ·(go_simp; try simp [q1])
 simp only [Act.put, pa, pb, pc]
 refine lv 12 rfl ?_; apply Exists.intro; refine ⟨fun w' hl => ?_, ?_⟩
 ·(go_simp; try with_reducible rfl)
 simp only [Act.put, pa, pb, pc]
 refine lv 13 rfl ⟨_, fun w' hl => (run_va _ rfl b1 rfl p (HR.out.later hl)), ?_⟩
 simp only [Act.put, pa, pb, pc]
 refine lv 14 rfl ?_; apply Exists.intro; refine ⟨fun w' hl => ?_, ?_⟩
 ·(go_simp; try with_reducible rfl)
 simp only [Act.put, pa, pb, pc]
 refine lv 15 rfl ?_; apply Exists.intro; refine ⟨fun w' hl => ?_, ?_⟩
 ·(go_simp; try with_reducible rfl)
 simp only [Act.put, pa, pb, pc]
 refine lv 16 rfl ⟨_, fun w' hl => (run_get 5 _ rfl b1 78 rfl Tryz.underlying5 rfl (.int .u8 (c : Int)) (HC7.out _ _ (HR.out.later hl))), ?_⟩
 simp only [Act.put, pa, pb, pc]
 refine late_one 17 (by kernel_rfl) (by kernel_rfl) (fun o ho => ?_)
 simp only [qa, qb, qc, qd] at ho; subst ho
 refine ⟨by kernel_rfl, fun wn hl K hK => ?_⟩
 have HR := Lib.hid (HR.out.later hl); have HB := Lib.hid (below_on HB.out hl); clear hl
 refine wp_enter _ _ (by go_simp; exact ⟨rfl, rfl⟩) ?_
 refine (ic_any p (c : Int) _ HP.out (by have := HC.out; omega) (HT.out.on HB.out) (HD.out.on HB.out) (HL.out.next HB.out)).mono ?_; rintro e wm ⟨rfl, hb⟩; refine ⟨_, rfl, ?_⟩
 rw [HQ2.out]
 refine hK.out _ _ hb ?_
 have HR := Lib.hid (HR.out.later hb); have HB := Lib.hid (below_on HB.out hb); clear hb
 clear hK K
 simp only [Act.put, pa, pb, pc]
 refine lv 18 rfl ?_; apply Exists.intro; refine ⟨fun w' hl => ?_, ?_⟩
 ·(go_simp; try with_reducible rfl)
 simp only [Act.put, pa, pb, pc]
 refine lv 19 rfl ?_; apply Exists.intro; refine ⟨fun w' hl => ?_, ?_⟩
 ·(go_simp; try with_reducible rfl)
 simp only [Act.put, pa, pb, pc]
 refine lv 20 rfl ?_; apply Exists.intro; refine ⟨fun w' hl => ?_, ?_⟩
 ·(go_simp; try with_reducible rfl)
 simp only [Act.put, pa, pb, pc]
 refine late_one 21 (by kernel_rfl) (by kernel_rfl) (fun o ho => ?_)
 simp only [qa, qb, qc, qd] at ho; subst ho
 refine ⟨by kernel_rfl, fun wn hl K hK => ?_⟩
 have HR := Lib.hid (HR.out.later hl); have HB := Lib.hid (below_on HB.out hl); clear hl
 refine wp_enter _ _ (by go_simp; exact ⟨rfl, rfl⟩) ?_
 refine (unl_any _ _ _).mono ?_; rintro e wm ⟨rfl, rfl⟩; refine ⟨_, rfl, ?_⟩
 refine hK.out _ _ (Later.refl _) ?_
 clear hK K
 simp only [Act.put, pa, pb, pc]
 refine lv 22 rfl ?_; apply Exists.intro; refine ⟨fun w' hl => ?_, ?_⟩
 ·(go_simp; try with_reducible rfl)
 simp only [Act.put, pa, pb, pc]
 refine late_end (by kernel_rfl) (fun wn hl => ?_)
 have HR := Lib.hid (HR.out.later hl); have HB := Lib.hid (below_on HB.out hl); clear hl
 go_wp2_with fail
 go_ret
 exact ⟨by (rw [HS.out]; try rfl), HB.out⟩
set_option maxRecDepth 100000 in
set_option maxHeartbeats 1000000 in
theorem ck_3 (p : Nat → Int) (w : World) (hp : FitP p) (ha : argB p = true) (hT : TabVar w) (hD : TabDb w) (hL : TabLead w) (q0 : icB p (1 - p 78) = false) (q1 : (p 0 == 8) = true) (q2 : icB p (p 78) = false) : Calls Tryz.prog 59 #[.agg (posA p)] w (IntL (anZ p 7) w) := by
 have HP := Lib.hid hp
 have HT := Lib.hid hT
 have HD := Lib.hid hD
 have HL := Lib.hid hL
 obtain ⟨c, hcc⟩ : ∃ c : Nat, p 78 = (c : Int) := Int.eq_ofNat_of_zero_le hp.turn.1
 have hc2 : c < 2 := by have := (argB_var ha).2.1; omega
 have HC := Lib.hid hc2
 have HC7 := Lib.hid (fun (W : World) (b : Nat) (h : VR W b p) => show W.cell? ⟨b, 78, none⟩ = some (.int .u8 (c : Int)) by rw [h.cell 78 (by decide), hcc]; rfl)
 have HS := Lib.hid (show anZ p 7 = 0 by unfold anZ okN chB; rw [q0, q1, q2]; rfl)
 rw [hcc] at q0
 have HQ0 := Lib.hid q0
 rw [hcc] at q2
 have HQ2 := Lib.hid q2
 clear hp ha hT hD hL hcc hc2 q0 q2
 have HB := Lib.hid (Below.refl w.heap.size w)
 go_enter Tryz.func59, Tryz.ntmps59
 go_wp2_with (first
   | (refine va_box rfl _ rfl p rfl ?_; intro b1 w1 N R; have HB := Lib.hid (HB.out.trans (N.below.mono HB.out.size)); have HR := Lib.hid R; clear N R))
 refine late_begin 23 (by kernel_rfl) ?_
 refine lv 0 rfl ⟨_, fun w' hl => (run_va _ rfl b1 rfl p (HR.out.later hl)), ?_⟩
 simp only [Act.put, pa, pb, pc]
 refine lv 1 rfl ?_; apply Exists.intro; refine ⟨fun w' hl => ?_, ?_⟩
 ·(go_simp; try with_reducible rfl)
 simp only [Act.put, pa, pb, pc]
 refine lv 2 rfl ?_; apply Exists.intro; refine ⟨fun w' hl => ?_, ?_⟩
 ·(go_simp; try with_reducible rfl)
 simp only [Act.put, pa, pb, pc]
 refine lv 3 rfl ⟨_, fun w' hl => (run_get 5 _ rfl b1 78 rfl Tryz.underlying5 rfl (.int .u8 (c : Int)) (HC7.out _ _ (HR.out.later hl))), ?_⟩
 simp only [Act.put, pa, pb, pc]
 refine late_one 4 (by kernel_rfl) (by kernel_rfl) (fun o ho => ?_)
 simp only [qa, qb, qc, qd] at ho; subst ho
 refine ⟨by kernel_rfl, fun wn hl K hK => ?_⟩
 have HR := Lib.hid (HR.out.later hl); have HB := Lib.hid (below_on HB.out hl); clear hl
 refine wp_enter _ _ (by go_simp; exact ⟨rfl, rfl⟩) ?_
 refine (voth_any c HC.out _).mono ?_; rintro e wm ⟨rfl, rfl⟩; refine ⟨_, rfl, ?_⟩
 refine hK.out _ _ (Later.refl _) ?_
 clear hK K
 simp only [Act.put, pa, pb, pc]
 refine late_one 5 (by kernel_rfl) (by kernel_rfl) (fun o ho => ?_)
 simp only [qa, qb, qc, qd] at ho; subst ho
 refine ⟨by kernel_rfl, fun wn hl K hK => ?_⟩
 have HR := Lib.hid (HR.out.later hl); have HB := Lib.hid (below_on HB.out hl); clear hl
 refine wp_enter _ _ (by go_simp; exact ⟨rfl, rfl⟩) ?_
 refine (ic_any p (1 - (c : Int)) _ HP.out (by have := HC.out; omega) (HT.out.on HB.out) (HD.out.on HB.out) (HL.out.next HB.out)).mono ?_; rintro e wm ⟨rfl, hb⟩; refine ⟨_, rfl, ?_⟩
 rw [HQ0.out]
 refine hK.out _ _ hb ?_
 have HR := Lib.hid (HR.out.later hb); have HB := Lib.hid (below_on HB.out hb); clear hb
 clear hK K
 simp only [Act.put, pa, pb, pc]
 refine lv 6 rfl ?_; apply Exists.intro; refine ⟨fun w' hl => ?_, ?_⟩
 ·(go_simp; try with_reducible rfl)
 simp only [Act.put, pa, pb, pc]
 refine lv 7 rfl ?_; apply Exists.intro; refine ⟨fun w' hl => ?_, ?_⟩
 ·(go_simp; try with_reducible rfl)
 simp only [Act.put, pa, pb, pc]
 refine lv 8 rfl ?_; apply Exists.intro; refine ⟨fun w' hl => ?_, ?_⟩
 ·(go_simp; try with_reducible rfl)
 simp only [Act.put, pa, pb, pc]
 refine lv 9 rfl ?_; apply Exists.intro; refine ⟨fun w' hl => ?_, ?_⟩
 ·(go_simp; try with_reducible rfl)
 simp only [Act.put, pa, pb, pc]
 refine lv 10 rfl ⟨_, fun w' hl => (run_get 5 _ rfl b1 (0) rfl Tryz.underlying5 rfl (.int .u8 (p 0)) (((HR.out.later hl).cell (0) (by decide)))), ?_⟩
 simp only [Act.put, pa, pb, pc]
 refine lv 11 rfl ⟨.bool true, fun w' hl => ?_, ?_⟩
 ·(go_simp; try simp [q1])
 simp only [Act.put, pa, pb, pc]
 refine lv 12 rfl ?_; apply Exists.intro; refine ⟨fun w' hl => ?_, ?_⟩
 ·(go_simp; try with_reducible rfl)
 simp only [Act.put, pa, pb, pc]
 refine lv 13 rfl ⟨_, fun w' hl => (run_va _ rfl b1 rfl p (HR.out.later hl)), ?_⟩
 simp only [Act.put, pa, pb, pc]
 refine lv 14 rfl ?_; apply Exists.intro; refine ⟨fun w' hl => ?_, ?_⟩
 ·(go_simp; try with_reducible rfl)
 simp only [Act.put, pa, pb, pc]
 refine lv 15 rfl ?_; apply Exists.intro; refine ⟨fun w' hl => ?_, ?_⟩
 ·(go_simp; try with_reducible rfl)
 simp only [Act.put, pa, pb, pc]
 refine lv 16 rfl ⟨_, fun w' hl => (run_get 5 _ rfl b1 78 rfl Tryz.underlying5 rfl (.int .u8 (c : Int)) (HC7.out _ _ (HR.out.later hl))), ?_⟩
 simp only [Act.put, pa, pb, pc]
 refine late_one 17 (by kernel_rfl) (by kernel_rfl) (fun o ho => ?_)
 simp only [qa, qb, qc, qd] at ho; subst ho
 refine ⟨by kernel_rfl, fun wn hl K hK => ?_⟩
 have HR := Lib.hid (HR.out.later hl); have HB := Lib.hid (below_on HB.out hl); clear hl
 refine wp_enter _ _ (by go_simp; exact ⟨rfl, rfl⟩) ?_
 refine (ic_any p (c : Int) _ HP.out (by have := HC.out; omega) (HT.out.on HB.out) (HD.out.on HB.out) (HL.out.next HB.out)).mono ?_; rintro e wm ⟨rfl, hb⟩; refine ⟨_, rfl, ?_⟩
 rw [HQ2.out]
 refine hK.out _ _ hb ?_
 have HR := Lib.hid (HR.out.later hb); have HB := Lib.hid (below_on HB.out hb); clear hb
 clear hK K
 simp only [Act.put, pa, pb, pc]
 refine lv 18 rfl ?_; apply Exists.intro; refine ⟨fun w' hl => ?_, ?_⟩
 ·(go_simp; try with_reducible rfl)
 simp only [Act.put, pa, pb, pc]
 refine lv 19 rfl ?_; apply Exists.intro; refine ⟨fun w' hl => ?_, ?_⟩
 ·(go_simp; try with_reducible rfl)
 simp only [Act.put, pa, pb, pc]
 refine lv 20 rfl ?_; apply Exists.intro; refine ⟨fun w' hl => ?_, ?_⟩
 ·(go_simp; try with_reducible rfl)
 simp only [Act.put, pa, pb, pc]
 refine late_one 21 (by kernel_rfl) (by kernel_rfl) (fun o ho => ?_)
 simp only [qa, qb, qc, qd] at ho; subst ho
 refine ⟨by kernel_rfl, fun wn hl K hK => ?_⟩
 have HR := Lib.hid (HR.out.later hl); have HB := Lib.hid (below_on HB.out hl); clear hl
 refine wp_enter _ _ (by go_simp; exact ⟨rfl, rfl⟩) ?_
 refine (unl_any _ _ _).mono ?_; rintro e wm ⟨rfl, rfl⟩; refine ⟨_, rfl, ?_⟩
 refine hK.out _ _ (Later.refl _) ?_
 clear hK K
 simp only [Act.put, pa, pb, pc]
 refine lv 22 rfl ?_; apply Exists.intro; refine ⟨fun w' hl => ?_, ?_⟩
 ·(go_simp; try with_reducible rfl)
 simp only [Act.put, pa, pb, pc]
 refine late_end (by kernel_rfl) (fun wn hl => ?_)
 have HR := Lib.hid (HR.out.later hl); have HB := Lib.hid (below_on HB.out hl); clear hl
 go_wp2_with fail
 go_ret
 exact ⟨by (rw [HS.out]; try rfl), HB.out⟩
theorem ck_any (p : Nat → Int) (w : World) (hp : FitP p) (ha : argB p = true) (hT : TabVar w) (hD : TabDb w) (hL : TabLead w) : Calls Tryz.prog 59 #[.agg (posA p)] w (IntL (anZ p 7) w) := by
 cases q0 : icB p (1 - p 78)
 ·cases q1 : (p 0 == 8)
  ·exact ck_1 p w hp ha hT hD hL q0 q1
  ·cases q2 : icB p (p 78)
   ·exact ck_3 p w hp ha hT hD hL q0 q1 q2
   ·exact ck_2 p w hp ha hT hD hL q0 q1 q2
 ·exact ck_0 p w hp ha hT hD hL q0
end Go.Proofs.YtigkbccpkepdmaaGreatDoor
