/-
 Contracts of layer 12's passingMayBe, passing.
-/
import Derived.Test.YtigkbccpkepdmaaGreatDoorVaD
namespace Go.Proofs.YtigkbccpkepdmaaGreatDoor
open Go.RowKit
set_option linter.unusedVariables false
set_option linter.unusedSimpArgs false

set_option maxRecDepth 100000 in
set_option maxHeartbeats 1000000 in
theorem ps_n (p : Nat → Int) (w : World) (hp : FitP p) (ha : argB p = true) (hD : TabDb w) (hL : TabLead w) (q0 : (p 83 == -1) = true) : Calls Tryz.prog 23 #[.agg (posA p)] w (BoL (pasB p) w) := by
 have HP := Lib.hid hp
 have HD := Lib.hid hD
 have HL := Lib.hid hL
 obtain ⟨c, hcc⟩ : ∃ c : Nat, p 78 = (c : Int) := Int.eq_ofNat_of_zero_le hp.turn.1
 have hc2 : c < 2 := by have := (argB_var ha).2.1; omega
 have HC := Lib.hid hc2
 have HC7 := Lib.hid (fun (W : World) (b : Nat) (h : VR W b p) => show W.cell? ⟨b, 78, none⟩ = some (.int .u8 (c : Int)) by rw [h.cell 78 (by decide), hcc]; rfl)
 obtain ⟨s, hs⟩ : ∃ s, p 83 = s := ⟨_, rfl⟩
 have hsr : -1 ≤ s ∧ s < 64 := by rw [← hs]; exact ⟨(argB_var ha).2.2.1, (argB_var ha).2.2.2.1⟩
 have ws : IntKind.i64.wrap s = s := IntWalk.i64_in _ (by omega)
 have HC83 := Lib.hid (fun (W : World) (b : Nat) (h : VR W b p) => show W.cell? ⟨b, 83, none⟩ = some (.int .i8 s) by rw [h.cell 83 (by decide), hs]; rfl)
 have h0 : (s == -1) = true := by rw [← hs]; exact q0
 have HS := Lib.hid (show pasB p = true by unfold pasB; rw [q0]; rfl)
 clear hp ha hD hL hcc hc2 hs q0
 have HB := Lib.hid (Below.refl w.heap.size w)
 go_enter Tryz.func23, Tryz.ntmps23
 go_wp2_with (first
   | (refine va_box rfl _ rfl p rfl ?_; intro b1 w1 N R; have HB := Lib.hid (HB.out.trans (N.below.mono HB.out.size)); have HR := Lib.hid R; clear N R)
   | (refine step_get rfl 26 _ rfl b1 83 rfl Tryz.underlying26 rfl (.int .i8 s) ?_ ?_; exact HC83.out _ _ HR.out))
 go_ret
 exact ⟨by (rw [HS.out]; try rfl), HB.out⟩
set_option maxRecDepth 100000 in
set_option maxHeartbeats 1000000 in
theorem ps_01 (p : Nat → Int) (w : World) (hp : FitP p) (ha : argB p = true) (hD : TabDb w) (hL : TabLead w) (q0 : (p 83 == -1) = false) (qt : (p 78 == 1) = false)  (q1 : (Int.tdiv (p 83) 8 == prkZ p) = false) : Calls Tryz.prog 23 #[.agg (posA p)] w (BoL (pasB p) w) := by
 have HP := Lib.hid hp
 have HD := Lib.hid hD
 have HL := Lib.hid hL
 obtain ⟨c, hcc⟩ : ∃ c : Nat, p 78 = (c : Int) := Int.eq_ofNat_of_zero_le hp.turn.1
 have hc2 : c < 2 := by have := (argB_var ha).2.1; omega
 have HC := Lib.hid hc2
 have HC7 := Lib.hid (fun (W : World) (b : Nat) (h : VR W b p) => show W.cell? ⟨b, 78, none⟩ = some (.int .u8 (c : Int)) by rw [h.cell 78 (by decide), hcc]; rfl)
 obtain ⟨s, hs⟩ : ∃ s, p 83 = s := ⟨_, rfl⟩
 have hsr : -1 ≤ s ∧ s < 64 := by rw [← hs]; exact ⟨(argB_var ha).2.2.1, (argB_var ha).2.2.2.1⟩
 have ws : IntKind.i64.wrap s = s := IntWalk.i64_in _ (by omega)
 have HC83 := Lib.hid (fun (W : World) (b : Nat) (h : VR W b p) => show W.cell? ⟨b, 83, none⟩ = some (.int .i8 s) by rw [h.cell 83 (by decide), hs]; rfl)
 have h0 : (s == -1) = false := by rw [← hs]; exact q0
 have s0 : 0 ≤ s := by rw [beq_eq_false_iff_ne] at h0; omega
 obtain ⟨n, hn⟩ := Int.eq_ofNat_of_zero_le s0
 subst hn
 have hc78 : (p 78 == 1) = false := qt
 have hc1 : ((c : Int) == 1) = false := by rw [← hcc]; exact qt
 have hrk : prkZ p = 5 := by unfold prkZ; rw [qt]; rfl
 have hup : pupZ p = -8 := by unfold pupZ; rw [qt]; rfl
 have n64 : n < 64 := by omega
 have hn64 : (n : Int) < 64 := by omega
 have n0 : (0 : Int) ≤ (n : Int) := by omega
 have wq : IntKind.i64.wrap ((n : Int) / 8) = (n : Int) / 8 := IntWalk.i64_in _ (by omega)
 have htd : Int.tdiv (n : Int) 8 = (n : Int) / 8 := rfl
 have g1 : ((n : Int) / 8 == 5) = false := by rw [hs, hrk, htd] at q1; exact q1
 have HS := Lib.hid (show pasB p = false by unfold pasB; rw [q0, q1]; rfl)
 clear hp ha hD hL hs hsr q0 qt hc78 hrk hup n64 htd hcc hc2 q1
 have HB := Lib.hid (Below.refl w.heap.size w)
 go_enter Tryz.func23, Tryz.ntmps23
 go_wp2_with (first
   | (refine va_box rfl _ rfl p rfl ?_; intro b1 w1 N R; have HB := Lib.hid (HB.out.trans (N.below.mono HB.out.size)); have HR := Lib.hid R; clear N R)
   | (refine step_get rfl 26 _ rfl b1 83 rfl Tryz.underlying26 rfl (.int .i8 (n : Int)) ?_ ?_; exact HC83.out _ _ HR.out)
   | (refine step_get rfl 5 _ rfl b1 78 rfl Tryz.underlying5 rfl (.int .u8 (c : Int)) ?_ ?_; exact HC7.out _ _ HR.out))
 refine late_begin 55 (by kernel_rfl) ?_
 refine lv 0 rfl ?_; apply Exists.intro; refine ⟨fun w' hl => ?_, ?_⟩
 ·(go_simp; try with_reducible rfl)
 simp only [Act.put, pa, pb, pc]
 refine lv 1 rfl ⟨.int .i64 ((n : Int) / 8), fun w' hl => ?_, ?_⟩
 ·(go_simp; try simp [wq])
 simp only [Act.put, pa, pb, pc]
 refine lv 2 rfl ?_; apply Exists.intro; refine ⟨fun w' hl => ?_, ?_⟩
 ·(go_simp; try with_reducible rfl)
 simp only [Act.put, pa, pb, pc]
 refine lv 3 rfl ⟨.bool false, fun w' hl => ?_, ?_⟩
 ·(go_simp; try simp [g1])
 simp only [Act.put, pa, pb, pc]
 refine lv 4 rfl ?_; apply Exists.intro; refine ⟨fun w' hl => ?_, ?_⟩
 ·(go_simp; try with_reducible rfl)
 simp only [Act.put, pa, pb, pc]
 refine lo 5 rfl ?_
 simp only [Act.put, pa, pb, pc]
 refine lo 6 rfl ?_
 simp only [Act.put, pa, pb, pc]
 refine lo 7 rfl ?_
 simp only [Act.put, pa, pb, pc]
 refine lo 8 rfl ?_
 simp only [Act.put, pa, pb, pc]
 refine lo 9 rfl ?_
 simp only [Act.put, pa, pb, pc]
 refine lo 10 rfl ?_
 simp only [Act.put, pa, pb, pc]
 refine lv 11 rfl ?_; apply Exists.intro; refine ⟨fun w' hl => ?_, ?_⟩
 ·(go_simp; try with_reducible rfl)
 simp only [Act.put, pa, pb, pc]
 refine lv 12 rfl ?_; apply Exists.intro; refine ⟨fun w' hl => ?_, ?_⟩
 ·(go_simp; try with_reducible rfl)
 simp only [Act.put, pa, pb, pc]
 refine lo 13 rfl ?_
 simp only [Act.put, pa, pb, pc]
 refine lo 14 rfl ?_
 simp only [Act.put, pa, pb, pc]
 refine lo 15 rfl ?_
 simp only [Act.put, pa, pb, pc]
 refine lo 16 rfl ?_
 simp only [Act.put, pa, pb, pc]
 refine lo 17 rfl ?_
 simp only [Act.put, pa, pb, pc]
 refine lo 18 rfl ?_
 simp only [Act.put, pa, pb, pc]
 refine lo 19 rfl ?_
 simp only [Act.put, pa, pb, pc]
 refine lo 20 rfl ?_
 simp only [Act.put, pa, pb, pc]
 refine lv 21 rfl ?_; apply Exists.intro; refine ⟨fun w' hl => ?_, ?_⟩
 ·(go_simp; try with_reducible rfl)
 simp only [Act.put, pa, pb, pc]
 refine lv 22 rfl ?_; apply Exists.intro; refine ⟨fun w' hl => ?_, ?_⟩
 ·(go_simp; try with_reducible rfl)
 simp only [Act.put, pa, pb, pc]
 refine lo 23 rfl ?_
 simp only [Act.put, pa, pb, pc]
 refine lo 24 rfl ?_
 simp only [Act.put, pa, pb, pc]
 refine lo 25 rfl ?_
 simp only [Act.put, pa, pb, pc]
 refine lo 26 rfl ?_
 simp only [Act.put, pa, pb, pc]
 refine lo 27 rfl ?_
 simp only [Act.put, pa, pb, pc]
 refine lo 28 rfl ?_
 simp only [Act.put, pa, pb, pc]
 refine lo 29 rfl ?_
 simp only [Act.put, pa, pb, pc]
 refine lo 30 rfl ?_
 simp only [Act.put, pa, pb, pc]
 refine lo 31 rfl ?_
 simp only [Act.put, pa, pb, pc]
 refine lo 32 rfl ?_
 simp only [Act.put, pa, pb, pc]
 refine lo 33 rfl ?_
 simp only [Act.put, pa, pb, pc]
 refine lo 34 rfl ?_
 simp only [Act.put, pa, pb, pc]
 refine lo 35 rfl ?_
 simp only [Act.put, pa, pb, pc]
 refine lv 36 rfl ?_; apply Exists.intro; refine ⟨fun w' hl => ?_, ?_⟩
 ·(go_simp; try with_reducible rfl)
 simp only [Act.put, pa, pb, pc]
 refine lv 37 rfl ?_; apply Exists.intro; refine ⟨fun w' hl => ?_, ?_⟩
 ·(go_simp; try with_reducible rfl)
 simp only [Act.put, pa, pb, pc]
 refine lo 38 rfl ?_
 simp only [Act.put, pa, pb, pc]
 refine lo 39 rfl ?_
 simp only [Act.put, pa, pb, pc]
 refine lo 40 rfl ?_
 simp only [Act.put, pa, pb, pc]
 refine lo 41 rfl ?_
 simp only [Act.put, pa, pb, pc]
 refine lo 42 rfl ?_
 simp only [Act.put, pa, pb, pc]
 refine lo 43 rfl ?_
 simp only [Act.put, pa, pb, pc]
 refine lo 44 rfl ?_
 simp only [Act.put, pa, pb, pc]
 refine lo 45 rfl ?_
 simp only [Act.put, pa, pb, pc]
 refine lo 46 rfl ?_
 simp only [Act.put, pa, pb, pc]
 refine lo 47 rfl ?_
 simp only [Act.put, pa, pb, pc]
 refine lo 48 rfl ?_
 simp only [Act.put, pa, pb, pc]
 refine lo 49 rfl ?_
 simp only [Act.put, pa, pb, pc]
 refine lo 50 rfl ?_
 simp only [Act.put, pa, pb, pc]
 refine lo 51 rfl ?_
 simp only [Act.put, pa, pb, pc]
 refine lo 52 rfl ?_
 simp only [Act.put, pa, pb, pc]
 refine lv 53 rfl ?_; apply Exists.intro; refine ⟨fun w' hl => ?_, ?_⟩
 ·(go_simp; try with_reducible rfl)
 simp only [Act.put, pa, pb, pc]
 refine lv 54 rfl ?_; apply Exists.intro; refine ⟨fun w' hl => ?_, ?_⟩
 ·(go_simp; try with_reducible rfl)
 simp only [Act.put, pa, pb, pc]
 refine late_end (by kernel_rfl) (fun wn hl => ?_)
 have HR := Lib.hid (HR.out.later hl); have HB := Lib.hid (below_on HB.out hl); clear hl
 go_wp2_with fail
 go_ret
 exact ⟨by (rw [HS.out]; try rfl), HB.out⟩
set_option maxRecDepth 100000 in
set_option maxHeartbeats 1000000 in
theorem ps_02 (p : Nat → Int) (w : World) (hp : FitP p) (ha : argB p = true) (hD : TabDb w) (hL : TabLead w) (q0 : (p 83 == -1) = false) (qt : (p 78 == 1) = false) (q1 : (Int.tdiv (p 83) 8 == prkZ p) = true) (q2 : (p (1 + (p 83).toNat) == 0) = false) : Calls Tryz.prog 23 #[.agg (posA p)] w (BoL (pasB p) w) := by
 have HP := Lib.hid hp
 have HD := Lib.hid hD
 have HL := Lib.hid hL
 obtain ⟨c, hcc⟩ : ∃ c : Nat, p 78 = (c : Int) := Int.eq_ofNat_of_zero_le hp.turn.1
 have hc2 : c < 2 := by have := (argB_var ha).2.1; omega
 have HC := Lib.hid hc2
 have HC7 := Lib.hid (fun (W : World) (b : Nat) (h : VR W b p) => show W.cell? ⟨b, 78, none⟩ = some (.int .u8 (c : Int)) by rw [h.cell 78 (by decide), hcc]; rfl)
 obtain ⟨s, hs⟩ : ∃ s, p 83 = s := ⟨_, rfl⟩
 have hsr : -1 ≤ s ∧ s < 64 := by rw [← hs]; exact ⟨(argB_var ha).2.2.1, (argB_var ha).2.2.2.1⟩
 have ws : IntKind.i64.wrap s = s := IntWalk.i64_in _ (by omega)
 have HC83 := Lib.hid (fun (W : World) (b : Nat) (h : VR W b p) => show W.cell? ⟨b, 83, none⟩ = some (.int .i8 s) by rw [h.cell 83 (by decide), hs]; rfl)
 have h0 : (s == -1) = false := by rw [← hs]; exact q0
 have s0 : 0 ≤ s := by rw [beq_eq_false_iff_ne] at h0; omega
 obtain ⟨n, hn⟩ := Int.eq_ofNat_of_zero_le s0
 subst hn
 have hc78 : (p 78 == 1) = false := qt
 have hc1 : ((c : Int) == 1) = false := by rw [← hcc]; exact qt
 have hrk : prkZ p = 5 := by unfold prkZ; rw [qt]; rfl
 have hup : pupZ p = -8 := by unfold pupZ; rw [qt]; rfl
 have n64 : n < 64 := by omega
 have hn64 : (n : Int) < 64 := by omega
 have n0 : (0 : Int) ≤ (n : Int) := by omega
 have wq : IntKind.i64.wrap ((n : Int) / 8) = (n : Int) / 8 := IntWalk.i64_in _ (by omega)
 have htd : Int.tdiv (n : Int) 8 = (n : Int) / 8 := rfl
 have hr1 : (n : Int) / 8 = 5 := by rw [hs, hrk, htd, beq_iff_eq] at q1; exact q1
 obtain ⟨b, hb⟩ : ∃ b : Nat, (n : Int) - (-8) = (b : Int) := ⟨((n : Int) - (-8)).toNat, by omega⟩
 obtain ⟨a, hap⟩ : ∃ a : Nat, (n : Int) + (-8) = (a : Int) := ⟨((n : Int) + (-8)).toNat, by omega⟩
 have b64 : b < 64 := by omega
 have a64 : a < 64 := by omega
 have hb64 : (b : Int) < 64 := by omega
 have ha64 : (a : Int) < 64 := by omega
 have b0 : (0 : Int) ≤ (b : Int) := by omega
 have a0 : (0 : Int) ≤ (a : Int) := by omega
 have wb : IntKind.i64.wrap ((n : Int) - (-8)) = (b : Int) := by rw [hb]; exact IntWalk.i64_in _ (by omega)
 have wa : IntKind.i64.wrap ((n : Int) + (-8)) = (a : Int) := by rw [hap]; exact IntWalk.i64_in _ (by omega)
 have wb2 : IntKind.i64.wrap ((n : Int) + 8) = (b : Int) := by rw [show (n : Int) + 8 = (b : Int) by omega]; exact IntWalk.i64_in _ (by omega)
 have wa2 : IntKind.i64.wrap ((n : Int) - 8) = (a : Int) := by rw [show (n : Int) - 8 = (a : Int) by omega]; exact IntWalk.i64_in _ (by omega)
 obtain ⟨x, hx⟩ : ∃ x, p (1 + n) = x := ⟨_, rfl⟩
 obtain ⟨y, hy⟩ : ∃ y, p (1 + b) = y := ⟨_, rfl⟩
 obtain ⟨z, hz⟩ : ∃ z, p (1 + a) = z := ⟨_, rfl⟩
 have HCx := Lib.hid (fun (W : World) (k : Nat) (h : VR W k p) => show W.cell? ⟨k, 1 + n, none⟩ = some (.int .u8 x) by rw [h.cell (1 + n) (by omega), kAt_board (Nat.zero_le n) n64, hx])
 have HCy := Lib.hid (fun (W : World) (k : Nat) (h : VR W k p) => show W.cell? ⟨k, 1 + b, none⟩ = some (.int .u8 y) by rw [h.cell (1 + b) (by omega), kAt_board (Nat.zero_le b) b64, hy])
 have HCz := Lib.hid (fun (W : World) (k : Nat) (h : VR W k p) => show W.cell? ⟨k, 1 + a, none⟩ = some (.int .u8 z) by rw [h.cell (1 + a) (by omega), kAt_board (Nat.zero_le a) a64, hz])
 have e1 : p (1 + (p 83).toNat) = x := by rw [hs]; exact hx
 have e2 : p (1 + (p 83 - pupZ p).toNat) = y := by rw [hs, hup, hb]; exact hy
 have e3 : p (1 + (p 83 + pupZ p).toNat) = z := by rw [hs, hup, hap]; exact hz
 obtain ⟨mk, hmk⟩ : ∃ m, mkZ (1 - (c : Int)) 1 = m := ⟨_, rfl⟩
 have HMk := Lib.hid hmk
 have hmk2 : mkZ (1 - p 78) 1 = mk := by rw [hcc]; exact hmk
 have g1 : ((n : Int) / 8 == 5) = true := by rw [hr1]; rfl
 have g2 : (x == 0) = false := by rw [← e1]; exact q2
 have HS := Lib.hid (show pasB p = false by unfold pasB; rw [q0, q1, q2]; rfl)
 clear hp ha hD hL hs hsr q0 qt hc78 hrk hup n64 htd hcc hc2 q1 q2 hr1 hb hap b64 a64 hx hy hz e1 e2 e3 hmk hmk2
 have HB := Lib.hid (Below.refl w.heap.size w)
 go_enter Tryz.func23, Tryz.ntmps23
 go_wp2_with (first
   | (refine va_box rfl _ rfl p rfl ?_; intro b1 w1 N R; have HB := Lib.hid (HB.out.trans (N.below.mono HB.out.size)); have HR := Lib.hid R; clear N R)
   | (refine step_get rfl 26 _ rfl b1 83 rfl Tryz.underlying26 rfl (.int .i8 (n : Int)) ?_ ?_; exact HC83.out _ _ HR.out)
   | (refine step_get rfl 5 _ rfl b1 78 rfl Tryz.underlying5 rfl (.int .u8 (c : Int)) ?_ ?_; exact HC7.out _ _ HR.out))
 refine late_begin 55 (by kernel_rfl) ?_
 refine lv 0 rfl ?_; apply Exists.intro; refine ⟨fun w' hl => ?_, ?_⟩
 ·(go_simp; try with_reducible rfl)
 simp only [Act.put, pa, pb, pc]
 refine lv 1 rfl ⟨.int .i64 ((n : Int) / 8), fun w' hl => ?_, ?_⟩
 ·(go_simp; try simp [wq])
 simp only [Act.put, pa, pb, pc]
 refine lv 2 rfl ?_; apply Exists.intro; refine ⟨fun w' hl => ?_, ?_⟩
 ·(go_simp; try with_reducible rfl)
 simp only [Act.put, pa, pb, pc]
 refine lv 3 rfl ⟨.bool true, fun w' hl => ?_, ?_⟩
 ·(go_simp; try simp [g1])
 simp only [Act.put, pa, pb, pc]
 refine lv 4 rfl ?_; apply Exists.intro; refine ⟨fun w' hl => ?_, ?_⟩
 ·(go_simp; try with_reducible rfl)
 simp only [Act.put, pa, pb, pc]
 refine lv 5 rfl ?_; apply Exists.intro; refine ⟨fun w' hl => ?_, ?_⟩
 ·(go_simp; try with_reducible rfl)
 simp only [Act.put, pa, pb, pc]
 refine lv 6 rfl ?_; apply Exists.intro; refine ⟨fun w' hl => ?_, ?_⟩
 ·(go_simp; try with_reducible rfl)
 simp only [Act.put, pa, pb, pc]
 refine lv 7 rfl ?_; apply Exists.intro; refine ⟨fun w' hl => ?_, ?_⟩
 ·(go_simp; try with_reducible rfl)
 simp only [Act.put, pa, pb, pc]
 refine lv 8 rfl ?_; apply Exists.intro; refine ⟨fun w' hl => ?_, ?_⟩
 ·(go_simp; try with_reducible rfl)
 simp only [Act.put, pa, pb, pc]
 refine lv 9 rfl ⟨_, fun w' hl => (run_get 5 _ rfl b1 (1 + n) rfl Tryz.underlying5 rfl (.int .u8 x) (HCx.out _ _ (HR.out.later hl))), ?_⟩
 simp only [Act.put, pa, pb, pc]
 refine lv 10 rfl ⟨.bool false, fun w' hl => ?_, ?_⟩
 ·(go_simp; try simp [g2])
 simp only [Act.put, pa, pb, pc]
 refine lv 11 rfl ?_; apply Exists.intro; refine ⟨fun w' hl => ?_, ?_⟩
 ·(go_simp; try with_reducible rfl)
 simp only [Act.put, pa, pb, pc]
 refine lv 12 rfl ?_; apply Exists.intro; refine ⟨fun w' hl => ?_, ?_⟩
 ·(go_simp; try with_reducible rfl)
 simp only [Act.put, pa, pb, pc]
 refine lo 13 rfl ?_
 simp only [Act.put, pa, pb, pc]
 refine lo 14 rfl ?_
 simp only [Act.put, pa, pb, pc]
 refine lo 15 rfl ?_
 simp only [Act.put, pa, pb, pc]
 refine lo 16 rfl ?_
 simp only [Act.put, pa, pb, pc]
 refine lo 17 rfl ?_
 simp only [Act.put, pa, pb, pc]
 refine lo 18 rfl ?_
 simp only [Act.put, pa, pb, pc]
 refine lo 19 rfl ?_
 simp only [Act.put, pa, pb, pc]
 refine lo 20 rfl ?_
 simp only [Act.put, pa, pb, pc]
 refine lv 21 rfl ?_; apply Exists.intro; refine ⟨fun w' hl => ?_, ?_⟩
 ·(go_simp; try with_reducible rfl)
 simp only [Act.put, pa, pb, pc]
 refine lv 22 rfl ?_; apply Exists.intro; refine ⟨fun w' hl => ?_, ?_⟩
 ·(go_simp; try with_reducible rfl)
 simp only [Act.put, pa, pb, pc]
 refine lo 23 rfl ?_
 simp only [Act.put, pa, pb, pc]
 refine lo 24 rfl ?_
 simp only [Act.put, pa, pb, pc]
 refine lo 25 rfl ?_
 simp only [Act.put, pa, pb, pc]
 refine lo 26 rfl ?_
 simp only [Act.put, pa, pb, pc]
 refine lo 27 rfl ?_
 simp only [Act.put, pa, pb, pc]
 refine lo 28 rfl ?_
 simp only [Act.put, pa, pb, pc]
 refine lo 29 rfl ?_
 simp only [Act.put, pa, pb, pc]
 refine lo 30 rfl ?_
 simp only [Act.put, pa, pb, pc]
 refine lo 31 rfl ?_
 simp only [Act.put, pa, pb, pc]
 refine lo 32 rfl ?_
 simp only [Act.put, pa, pb, pc]
 refine lo 33 rfl ?_
 simp only [Act.put, pa, pb, pc]
 refine lo 34 rfl ?_
 simp only [Act.put, pa, pb, pc]
 refine lo 35 rfl ?_
 simp only [Act.put, pa, pb, pc]
 refine lv 36 rfl ?_; apply Exists.intro; refine ⟨fun w' hl => ?_, ?_⟩
 ·(go_simp; try with_reducible rfl)
 simp only [Act.put, pa, pb, pc]
 refine lv 37 rfl ?_; apply Exists.intro; refine ⟨fun w' hl => ?_, ?_⟩
 ·(go_simp; try with_reducible rfl)
 simp only [Act.put, pa, pb, pc]
 refine lo 38 rfl ?_
 simp only [Act.put, pa, pb, pc]
 refine lo 39 rfl ?_
 simp only [Act.put, pa, pb, pc]
 refine lo 40 rfl ?_
 simp only [Act.put, pa, pb, pc]
 refine lo 41 rfl ?_
 simp only [Act.put, pa, pb, pc]
 refine lo 42 rfl ?_
 simp only [Act.put, pa, pb, pc]
 refine lo 43 rfl ?_
 simp only [Act.put, pa, pb, pc]
 refine lo 44 rfl ?_
 simp only [Act.put, pa, pb, pc]
 refine lo 45 rfl ?_
 simp only [Act.put, pa, pb, pc]
 refine lo 46 rfl ?_
 simp only [Act.put, pa, pb, pc]
 refine lo 47 rfl ?_
 simp only [Act.put, pa, pb, pc]
 refine lo 48 rfl ?_
 simp only [Act.put, pa, pb, pc]
 refine lo 49 rfl ?_
 simp only [Act.put, pa, pb, pc]
 refine lo 50 rfl ?_
 simp only [Act.put, pa, pb, pc]
 refine lo 51 rfl ?_
 simp only [Act.put, pa, pb, pc]
 refine lo 52 rfl ?_
 simp only [Act.put, pa, pb, pc]
 refine lv 53 rfl ?_; apply Exists.intro; refine ⟨fun w' hl => ?_, ?_⟩
 ·(go_simp; try with_reducible rfl)
 simp only [Act.put, pa, pb, pc]
 refine lv 54 rfl ?_; apply Exists.intro; refine ⟨fun w' hl => ?_, ?_⟩
 ·(go_simp; try with_reducible rfl)
 simp only [Act.put, pa, pb, pc]
 refine late_end (by kernel_rfl) (fun wn hl => ?_)
 have HR := Lib.hid (HR.out.later hl); have HB := Lib.hid (below_on HB.out hl); clear hl
 go_wp2_with fail
 go_ret
 exact ⟨by (rw [HS.out]; try rfl), HB.out⟩
set_option maxRecDepth 100000 in
set_option maxHeartbeats 1000000 in
theorem ps_03 (p : Nat → Int) (w : World) (hp : FitP p) (ha : argB p = true) (hD : TabDb w) (hL : TabLead w) (q0 : (p 83 == -1) = false) (qt : (p 78 == 1) = false) (q1 : (Int.tdiv (p 83) 8 == prkZ p) = true) (q2 : (p (1 + (p 83).toNat) == 0) = true) (q3 : (p (1 + (p 83 - pupZ p).toNat) == 0) = false) : Calls Tryz.prog 23 #[.agg (posA p)] w (BoL (pasB p) w) := by
 have HP := Lib.hid hp
 have HD := Lib.hid hD
 have HL := Lib.hid hL
 obtain ⟨c, hcc⟩ : ∃ c : Nat, p 78 = (c : Int) := Int.eq_ofNat_of_zero_le hp.turn.1
 have hc2 : c < 2 := by have := (argB_var ha).2.1; omega
 have HC := Lib.hid hc2
 have HC7 := Lib.hid (fun (W : World) (b : Nat) (h : VR W b p) => show W.cell? ⟨b, 78, none⟩ = some (.int .u8 (c : Int)) by rw [h.cell 78 (by decide), hcc]; rfl)
 obtain ⟨s, hs⟩ : ∃ s, p 83 = s := ⟨_, rfl⟩
 have hsr : -1 ≤ s ∧ s < 64 := by rw [← hs]; exact ⟨(argB_var ha).2.2.1, (argB_var ha).2.2.2.1⟩
 have ws : IntKind.i64.wrap s = s := IntWalk.i64_in _ (by omega)
 have HC83 := Lib.hid (fun (W : World) (b : Nat) (h : VR W b p) => show W.cell? ⟨b, 83, none⟩ = some (.int .i8 s) by rw [h.cell 83 (by decide), hs]; rfl)
 have h0 : (s == -1) = false := by rw [← hs]; exact q0
 have s0 : 0 ≤ s := by rw [beq_eq_false_iff_ne] at h0; omega
 obtain ⟨n, hn⟩ := Int.eq_ofNat_of_zero_le s0
 subst hn
 have hc78 : (p 78 == 1) = false := qt
 have hc1 : ((c : Int) == 1) = false := by rw [← hcc]; exact qt
 have hrk : prkZ p = 5 := by unfold prkZ; rw [qt]; rfl
 have hup : pupZ p = -8 := by unfold pupZ; rw [qt]; rfl
 have n64 : n < 64 := by omega
 have hn64 : (n : Int) < 64 := by omega
 have n0 : (0 : Int) ≤ (n : Int) := by omega
 have wq : IntKind.i64.wrap ((n : Int) / 8) = (n : Int) / 8 := IntWalk.i64_in _ (by omega)
 have htd : Int.tdiv (n : Int) 8 = (n : Int) / 8 := rfl
 have hr1 : (n : Int) / 8 = 5 := by rw [hs, hrk, htd, beq_iff_eq] at q1; exact q1
 obtain ⟨b, hb⟩ : ∃ b : Nat, (n : Int) - (-8) = (b : Int) := ⟨((n : Int) - (-8)).toNat, by omega⟩
 obtain ⟨a, hap⟩ : ∃ a : Nat, (n : Int) + (-8) = (a : Int) := ⟨((n : Int) + (-8)).toNat, by omega⟩
 have b64 : b < 64 := by omega
 have a64 : a < 64 := by omega
 have hb64 : (b : Int) < 64 := by omega
 have ha64 : (a : Int) < 64 := by omega
 have b0 : (0 : Int) ≤ (b : Int) := by omega
 have a0 : (0 : Int) ≤ (a : Int) := by omega
 have wb : IntKind.i64.wrap ((n : Int) - (-8)) = (b : Int) := by rw [hb]; exact IntWalk.i64_in _ (by omega)
 have wa : IntKind.i64.wrap ((n : Int) + (-8)) = (a : Int) := by rw [hap]; exact IntWalk.i64_in _ (by omega)
 have wb2 : IntKind.i64.wrap ((n : Int) + 8) = (b : Int) := by rw [show (n : Int) + 8 = (b : Int) by omega]; exact IntWalk.i64_in _ (by omega)
 have wa2 : IntKind.i64.wrap ((n : Int) - 8) = (a : Int) := by rw [show (n : Int) - 8 = (a : Int) by omega]; exact IntWalk.i64_in _ (by omega)
 obtain ⟨x, hx⟩ : ∃ x, p (1 + n) = x := ⟨_, rfl⟩
 obtain ⟨y, hy⟩ : ∃ y, p (1 + b) = y := ⟨_, rfl⟩
 obtain ⟨z, hz⟩ : ∃ z, p (1 + a) = z := ⟨_, rfl⟩
 have HCx := Lib.hid (fun (W : World) (k : Nat) (h : VR W k p) => show W.cell? ⟨k, 1 + n, none⟩ = some (.int .u8 x) by rw [h.cell (1 + n) (by omega), kAt_board (Nat.zero_le n) n64, hx])
 have HCy := Lib.hid (fun (W : World) (k : Nat) (h : VR W k p) => show W.cell? ⟨k, 1 + b, none⟩ = some (.int .u8 y) by rw [h.cell (1 + b) (by omega), kAt_board (Nat.zero_le b) b64, hy])
 have HCz := Lib.hid (fun (W : World) (k : Nat) (h : VR W k p) => show W.cell? ⟨k, 1 + a, none⟩ = some (.int .u8 z) by rw [h.cell (1 + a) (by omega), kAt_board (Nat.zero_le a) a64, hz])
 have e1 : p (1 + (p 83).toNat) = x := by rw [hs]; exact hx
 have e2 : p (1 + (p 83 - pupZ p).toNat) = y := by rw [hs, hup, hb]; exact hy
 have e3 : p (1 + (p 83 + pupZ p).toNat) = z := by rw [hs, hup, hap]; exact hz
 obtain ⟨mk, hmk⟩ : ∃ m, mkZ (1 - (c : Int)) 1 = m := ⟨_, rfl⟩
 have HMk := Lib.hid hmk
 have hmk2 : mkZ (1 - p 78) 1 = mk := by rw [hcc]; exact hmk
 have g1 : ((n : Int) / 8 == 5) = true := by rw [hr1]; rfl
 have g2 : (x == 0) = true := by rw [← e1]; exact q2
 have g3 : (y == 0) = false := by rw [← e2]; exact q3
 have HS := Lib.hid (show pasB p = false by unfold pasB; rw [q0, q1, q2, q3]; rfl)
 clear hp ha hD hL hs hsr q0 qt hc78 hrk hup n64 htd hcc hc2 q1 q2 q3 hr1 hb hap b64 a64 hx hy hz e1 e2 e3 hmk hmk2
 have HB := Lib.hid (Below.refl w.heap.size w)
 go_enter Tryz.func23, Tryz.ntmps23
 go_wp2_with (first
   | (refine va_box rfl _ rfl p rfl ?_; intro b1 w1 N R; have HB := Lib.hid (HB.out.trans (N.below.mono HB.out.size)); have HR := Lib.hid R; clear N R)
   | (refine step_get rfl 26 _ rfl b1 83 rfl Tryz.underlying26 rfl (.int .i8 (n : Int)) ?_ ?_; exact HC83.out _ _ HR.out)
   | (refine step_get rfl 5 _ rfl b1 78 rfl Tryz.underlying5 rfl (.int .u8 (c : Int)) ?_ ?_; exact HC7.out _ _ HR.out))
 refine late_begin 55 (by kernel_rfl) ?_
 refine lv 0 rfl ?_; apply Exists.intro; refine ⟨fun w' hl => ?_, ?_⟩
 ·(go_simp; try with_reducible rfl)
 simp only [Act.put, pa, pb, pc]
 refine lv 1 rfl ⟨.int .i64 ((n : Int) / 8), fun w' hl => ?_, ?_⟩
 ·(go_simp; try simp [wq])
 simp only [Act.put, pa, pb, pc]
 refine lv 2 rfl ?_; apply Exists.intro; refine ⟨fun w' hl => ?_, ?_⟩
 ·(go_simp; try with_reducible rfl)
 simp only [Act.put, pa, pb, pc]
 refine lv 3 rfl ⟨.bool true, fun w' hl => ?_, ?_⟩
 ·(go_simp; try simp [g1])
 simp only [Act.put, pa, pb, pc]
 refine lv 4 rfl ?_; apply Exists.intro; refine ⟨fun w' hl => ?_, ?_⟩
 ·(go_simp; try with_reducible rfl)
 simp only [Act.put, pa, pb, pc]
 refine lv 5 rfl ?_; apply Exists.intro; refine ⟨fun w' hl => ?_, ?_⟩
 ·(go_simp; try with_reducible rfl)
 simp only [Act.put, pa, pb, pc]
 refine lv 6 rfl ?_; apply Exists.intro; refine ⟨fun w' hl => ?_, ?_⟩
 ·(go_simp; try with_reducible rfl)
 simp only [Act.put, pa, pb, pc]
 refine lv 7 rfl ?_; apply Exists.intro; refine ⟨fun w' hl => ?_, ?_⟩
 ·(go_simp; try with_reducible rfl)
 simp only [Act.put, pa, pb, pc]
 refine lv 8 rfl ?_; apply Exists.intro; refine ⟨fun w' hl => ?_, ?_⟩
 ·(go_simp; try with_reducible rfl)
 simp only [Act.put, pa, pb, pc]
 refine lv 9 rfl ⟨_, fun w' hl => (run_get 5 _ rfl b1 (1 + n) rfl Tryz.underlying5 rfl (.int .u8 x) (HCx.out _ _ (HR.out.later hl))), ?_⟩
 simp only [Act.put, pa, pb, pc]
 refine lv 10 rfl ⟨.bool true, fun w' hl => ?_, ?_⟩
 ·(go_simp; try simp [g2])
 simp only [Act.put, pa, pb, pc]
 refine lv 11 rfl ?_; apply Exists.intro; refine ⟨fun w' hl => ?_, ?_⟩
 ·(go_simp; try with_reducible rfl)
 simp only [Act.put, pa, pb, pc]
 refine lv 12 rfl ?_; apply Exists.intro; refine ⟨fun w' hl => ?_, ?_⟩
 ·(go_simp; try with_reducible rfl)
 simp only [Act.put, pa, pb, pc]
 refine lv 13 rfl ?_; apply Exists.intro; refine ⟨fun w' hl => ?_, ?_⟩
 ·(go_simp; try with_reducible rfl)
 simp only [Act.put, pa, pb, pc]
 refine lv 14 rfl ?_; apply Exists.intro; refine ⟨fun w' hl => ?_, ?_⟩
 ·(go_simp; try with_reducible rfl)
 simp only [Act.put, pa, pb, pc]
 refine lv 15 rfl ⟨.int .i64 (b : Int), fun w' hl => ?_, ?_⟩
 ·(go_simp; try simp [wb, wb2])
 simp only [Act.put, pa, pb, pc]
 refine lv 16 rfl ?_; apply Exists.intro; refine ⟨fun w' hl => ?_, ?_⟩
 ·(go_simp; try with_reducible rfl)
 simp only [Act.put, pa, pb, pc]
 refine lv 17 rfl ?_; apply Exists.intro; refine ⟨fun w' hl => ?_, ?_⟩
 ·(go_simp; try with_reducible rfl)
 simp only [Act.put, pa, pb, pc]
 refine lv 18 rfl ?_; apply Exists.intro; refine ⟨fun w' hl => ?_, ?_⟩
 ·(go_simp; try with_reducible rfl)
 simp only [Act.put, pa, pb, pc]
 refine lv 19 rfl ⟨_, fun w' hl => (run_get 5 _ rfl b1 (1 + b) rfl Tryz.underlying5 rfl (.int .u8 y) (HCy.out _ _ (HR.out.later hl))), ?_⟩
 simp only [Act.put, pa, pb, pc]
 refine lv 20 rfl ⟨.bool false, fun w' hl => ?_, ?_⟩
 ·(go_simp; try simp [g3])
 simp only [Act.put, pa, pb, pc]
 refine lv 21 rfl ?_; apply Exists.intro; refine ⟨fun w' hl => ?_, ?_⟩
 ·(go_simp; try with_reducible rfl)
 simp only [Act.put, pa, pb, pc]
 refine lv 22 rfl ?_; apply Exists.intro; refine ⟨fun w' hl => ?_, ?_⟩
 ·(go_simp; try with_reducible rfl)
 simp only [Act.put, pa, pb, pc]
 refine lo 23 rfl ?_
 simp only [Act.put, pa, pb, pc]
 refine lo 24 rfl ?_
 simp only [Act.put, pa, pb, pc]
 refine lo 25 rfl ?_
 simp only [Act.put, pa, pb, pc]
 refine lo 26 rfl ?_
 simp only [Act.put, pa, pb, pc]
 refine lo 27 rfl ?_
 simp only [Act.put, pa, pb, pc]
 refine lo 28 rfl ?_
 simp only [Act.put, pa, pb, pc]
 refine lo 29 rfl ?_
 simp only [Act.put, pa, pb, pc]
 refine lo 30 rfl ?_
 simp only [Act.put, pa, pb, pc]
 refine lo 31 rfl ?_
 simp only [Act.put, pa, pb, pc]
 refine lo 32 rfl ?_
 simp only [Act.put, pa, pb, pc]
 refine lo 33 rfl ?_
 simp only [Act.put, pa, pb, pc]
 refine lo 34 rfl ?_
 simp only [Act.put, pa, pb, pc]
 refine lo 35 rfl ?_
 simp only [Act.put, pa, pb, pc]
 refine lv 36 rfl ?_; apply Exists.intro; refine ⟨fun w' hl => ?_, ?_⟩
 ·(go_simp; try with_reducible rfl)
 simp only [Act.put, pa, pb, pc]
 refine lv 37 rfl ?_; apply Exists.intro; refine ⟨fun w' hl => ?_, ?_⟩
 ·(go_simp; try with_reducible rfl)
 simp only [Act.put, pa, pb, pc]
 refine lo 38 rfl ?_
 simp only [Act.put, pa, pb, pc]
 refine lo 39 rfl ?_
 simp only [Act.put, pa, pb, pc]
 refine lo 40 rfl ?_
 simp only [Act.put, pa, pb, pc]
 refine lo 41 rfl ?_
 simp only [Act.put, pa, pb, pc]
 refine lo 42 rfl ?_
 simp only [Act.put, pa, pb, pc]
 refine lo 43 rfl ?_
 simp only [Act.put, pa, pb, pc]
 refine lo 44 rfl ?_
 simp only [Act.put, pa, pb, pc]
 refine lo 45 rfl ?_
 simp only [Act.put, pa, pb, pc]
 refine lo 46 rfl ?_
 simp only [Act.put, pa, pb, pc]
 refine lo 47 rfl ?_
 simp only [Act.put, pa, pb, pc]
 refine lo 48 rfl ?_
 simp only [Act.put, pa, pb, pc]
 refine lo 49 rfl ?_
 simp only [Act.put, pa, pb, pc]
 refine lo 50 rfl ?_
 simp only [Act.put, pa, pb, pc]
 refine lo 51 rfl ?_
 simp only [Act.put, pa, pb, pc]
 refine lo 52 rfl ?_
 simp only [Act.put, pa, pb, pc]
 refine lv 53 rfl ?_; apply Exists.intro; refine ⟨fun w' hl => ?_, ?_⟩
 ·(go_simp; try with_reducible rfl)
 simp only [Act.put, pa, pb, pc]
 refine lv 54 rfl ?_; apply Exists.intro; refine ⟨fun w' hl => ?_, ?_⟩
 ·(go_simp; try with_reducible rfl)
 simp only [Act.put, pa, pb, pc]
 refine late_end (by kernel_rfl) (fun wn hl => ?_)
 have HR := Lib.hid (HR.out.later hl); have HB := Lib.hid (below_on HB.out hl); clear hl
 go_wp2_with fail
 go_ret
 exact ⟨by (rw [HS.out]; try rfl), HB.out⟩
set_option maxRecDepth 100000 in
set_option maxHeartbeats 1000000 in
theorem ps_04 (p : Nat → Int) (w : World) (hp : FitP p) (ha : argB p = true) (hD : TabDb w) (hL : TabLead w) (q0 : (p 83 == -1) = false) (qt : (p 78 == 1) = false) (q1 : (Int.tdiv (p 83) 8 == prkZ p) = true) (q2 : (p (1 + (p 83).toNat) == 0) = true) (q3 : (p (1 + (p 83 - pupZ p).toNat) == 0) = true) (q4 : (p (1 + (p 83 + pupZ p).toNat) == mkZ (1 - p 78) 1) = false) : Calls Tryz.prog 23 #[.agg (posA p)] w (BoL (pasB p) w) := by
 have HP := Lib.hid hp
 have HD := Lib.hid hD
 have HL := Lib.hid hL
 obtain ⟨c, hcc⟩ : ∃ c : Nat, p 78 = (c : Int) := Int.eq_ofNat_of_zero_le hp.turn.1
 have hc2 : c < 2 := by have := (argB_var ha).2.1; omega
 have HC := Lib.hid hc2
 have HC7 := Lib.hid (fun (W : World) (b : Nat) (h : VR W b p) => show W.cell? ⟨b, 78, none⟩ = some (.int .u8 (c : Int)) by rw [h.cell 78 (by decide), hcc]; rfl)
 obtain ⟨s, hs⟩ : ∃ s, p 83 = s := ⟨_, rfl⟩
 have hsr : -1 ≤ s ∧ s < 64 := by rw [← hs]; exact ⟨(argB_var ha).2.2.1, (argB_var ha).2.2.2.1⟩
 have ws : IntKind.i64.wrap s = s := IntWalk.i64_in _ (by omega)
 have HC83 := Lib.hid (fun (W : World) (b : Nat) (h : VR W b p) => show W.cell? ⟨b, 83, none⟩ = some (.int .i8 s) by rw [h.cell 83 (by decide), hs]; rfl)
 have h0 : (s == -1) = false := by rw [← hs]; exact q0
 have s0 : 0 ≤ s := by rw [beq_eq_false_iff_ne] at h0; omega
 obtain ⟨n, hn⟩ := Int.eq_ofNat_of_zero_le s0
 subst hn
 have hc78 : (p 78 == 1) = false := qt
 have hc1 : ((c : Int) == 1) = false := by rw [← hcc]; exact qt
 have hrk : prkZ p = 5 := by unfold prkZ; rw [qt]; rfl
 have hup : pupZ p = -8 := by unfold pupZ; rw [qt]; rfl
 have n64 : n < 64 := by omega
 have hn64 : (n : Int) < 64 := by omega
 have n0 : (0 : Int) ≤ (n : Int) := by omega
 have wq : IntKind.i64.wrap ((n : Int) / 8) = (n : Int) / 8 := IntWalk.i64_in _ (by omega)
 have htd : Int.tdiv (n : Int) 8 = (n : Int) / 8 := rfl
 have hr1 : (n : Int) / 8 = 5 := by rw [hs, hrk, htd, beq_iff_eq] at q1; exact q1
 obtain ⟨b, hb⟩ : ∃ b : Nat, (n : Int) - (-8) = (b : Int) := ⟨((n : Int) - (-8)).toNat, by omega⟩
 obtain ⟨a, hap⟩ : ∃ a : Nat, (n : Int) + (-8) = (a : Int) := ⟨((n : Int) + (-8)).toNat, by omega⟩
 have b64 : b < 64 := by omega
 have a64 : a < 64 := by omega
 have hb64 : (b : Int) < 64 := by omega
 have ha64 : (a : Int) < 64 := by omega
 have b0 : (0 : Int) ≤ (b : Int) := by omega
 have a0 : (0 : Int) ≤ (a : Int) := by omega
 have wb : IntKind.i64.wrap ((n : Int) - (-8)) = (b : Int) := by rw [hb]; exact IntWalk.i64_in _ (by omega)
 have wa : IntKind.i64.wrap ((n : Int) + (-8)) = (a : Int) := by rw [hap]; exact IntWalk.i64_in _ (by omega)
 have wb2 : IntKind.i64.wrap ((n : Int) + 8) = (b : Int) := by rw [show (n : Int) + 8 = (b : Int) by omega]; exact IntWalk.i64_in _ (by omega)
 have wa2 : IntKind.i64.wrap ((n : Int) - 8) = (a : Int) := by rw [show (n : Int) - 8 = (a : Int) by omega]; exact IntWalk.i64_in _ (by omega)
 obtain ⟨x, hx⟩ : ∃ x, p (1 + n) = x := ⟨_, rfl⟩
 obtain ⟨y, hy⟩ : ∃ y, p (1 + b) = y := ⟨_, rfl⟩
 obtain ⟨z, hz⟩ : ∃ z, p (1 + a) = z := ⟨_, rfl⟩
 have HCx := Lib.hid (fun (W : World) (k : Nat) (h : VR W k p) => show W.cell? ⟨k, 1 + n, none⟩ = some (.int .u8 x) by rw [h.cell (1 + n) (by omega), kAt_board (Nat.zero_le n) n64, hx])
 have HCy := Lib.hid (fun (W : World) (k : Nat) (h : VR W k p) => show W.cell? ⟨k, 1 + b, none⟩ = some (.int .u8 y) by rw [h.cell (1 + b) (by omega), kAt_board (Nat.zero_le b) b64, hy])
 have HCz := Lib.hid (fun (W : World) (k : Nat) (h : VR W k p) => show W.cell? ⟨k, 1 + a, none⟩ = some (.int .u8 z) by rw [h.cell (1 + a) (by omega), kAt_board (Nat.zero_le a) a64, hz])
 have e1 : p (1 + (p 83).toNat) = x := by rw [hs]; exact hx
 have e2 : p (1 + (p 83 - pupZ p).toNat) = y := by rw [hs, hup, hb]; exact hy
 have e3 : p (1 + (p 83 + pupZ p).toNat) = z := by rw [hs, hup, hap]; exact hz
 obtain ⟨mk, hmk⟩ : ∃ m, mkZ (1 - (c : Int)) 1 = m := ⟨_, rfl⟩
 have HMk := Lib.hid hmk
 have hmk2 : mkZ (1 - p 78) 1 = mk := by rw [hcc]; exact hmk
 have g1 : ((n : Int) / 8 == 5) = true := by rw [hr1]; rfl
 have g2 : (x == 0) = true := by rw [← e1]; exact q2
 have g3 : (y == 0) = true := by rw [← e2]; exact q3
 have g4 : (z == mk) = false := by rw [← e3, ← hmk2]; exact q4
 have HS := Lib.hid (show pasB p = false by unfold pasB; rw [q0, q1, q2, q3, q4]; rfl)
 clear hp ha hD hL hs hsr q0 qt hc78 hrk hup n64 htd hcc hc2 q1 q2 q3 q4 hr1 hb hap b64 a64 hx hy hz e1 e2 e3 hmk hmk2
 have HB := Lib.hid (Below.refl w.heap.size w)
 go_enter Tryz.func23, Tryz.ntmps23
 go_wp2_with (first
   | (refine va_box rfl _ rfl p rfl ?_; intro b1 w1 N R; have HB := Lib.hid (HB.out.trans (N.below.mono HB.out.size)); have HR := Lib.hid R; clear N R)
   | (refine step_get rfl 26 _ rfl b1 83 rfl Tryz.underlying26 rfl (.int .i8 (n : Int)) ?_ ?_; exact HC83.out _ _ HR.out)
   | (refine step_get rfl 5 _ rfl b1 78 rfl Tryz.underlying5 rfl (.int .u8 (c : Int)) ?_ ?_; exact HC7.out _ _ HR.out))
 refine late_begin 55 (by kernel_rfl) ?_
 refine lv 0 rfl ?_; apply Exists.intro; refine ⟨fun w' hl => ?_, ?_⟩
 ·(go_simp; try with_reducible rfl)
 simp only [Act.put, pa, pb, pc]
 refine lv 1 rfl ⟨.int .i64 ((n : Int) / 8), fun w' hl => ?_, ?_⟩
 ·(go_simp; try simp [wq])
 simp only [Act.put, pa, pb, pc]
 refine lv 2 rfl ?_; apply Exists.intro; refine ⟨fun w' hl => ?_, ?_⟩
 ·(go_simp; try with_reducible rfl)
 simp only [Act.put, pa, pb, pc]
 refine lv 3 rfl ⟨.bool true, fun w' hl => ?_, ?_⟩
 ·(go_simp; try simp [g1])
 simp only [Act.put, pa, pb, pc]
 refine lv 4 rfl ?_; apply Exists.intro; refine ⟨fun w' hl => ?_, ?_⟩
 ·(go_simp; try with_reducible rfl)
 simp only [Act.put, pa, pb, pc]
 refine lv 5 rfl ?_; apply Exists.intro; refine ⟨fun w' hl => ?_, ?_⟩
 ·(go_simp; try with_reducible rfl)
 simp only [Act.put, pa, pb, pc]
 refine lv 6 rfl ?_; apply Exists.intro; refine ⟨fun w' hl => ?_, ?_⟩
 ·(go_simp; try with_reducible rfl)
 simp only [Act.put, pa, pb, pc]
 refine lv 7 rfl ?_; apply Exists.intro; refine ⟨fun w' hl => ?_, ?_⟩
 ·(go_simp; try with_reducible rfl)
 simp only [Act.put, pa, pb, pc]
 refine lv 8 rfl ?_; apply Exists.intro; refine ⟨fun w' hl => ?_, ?_⟩
 ·(go_simp; try with_reducible rfl)
 simp only [Act.put, pa, pb, pc]
 refine lv 9 rfl ⟨_, fun w' hl => (run_get 5 _ rfl b1 (1 + n) rfl Tryz.underlying5 rfl (.int .u8 x) (HCx.out _ _ (HR.out.later hl))), ?_⟩
 simp only [Act.put, pa, pb, pc]
 refine lv 10 rfl ⟨.bool true, fun w' hl => ?_, ?_⟩
 ·(go_simp; try simp [g2])
 simp only [Act.put, pa, pb, pc]
 refine lv 11 rfl ?_; apply Exists.intro; refine ⟨fun w' hl => ?_, ?_⟩
 ·(go_simp; try with_reducible rfl)
 simp only [Act.put, pa, pb, pc]
 refine lv 12 rfl ?_; apply Exists.intro; refine ⟨fun w' hl => ?_, ?_⟩
 ·(go_simp; try with_reducible rfl)
 simp only [Act.put, pa, pb, pc]
 refine lv 13 rfl ?_; apply Exists.intro; refine ⟨fun w' hl => ?_, ?_⟩
 ·(go_simp; try with_reducible rfl)
 simp only [Act.put, pa, pb, pc]
 refine lv 14 rfl ?_; apply Exists.intro; refine ⟨fun w' hl => ?_, ?_⟩
 ·(go_simp; try with_reducible rfl)
 simp only [Act.put, pa, pb, pc]
 refine lv 15 rfl ⟨.int .i64 (b : Int), fun w' hl => ?_, ?_⟩
 ·(go_simp; try simp [wb, wb2])
 simp only [Act.put, pa, pb, pc]
 refine lv 16 rfl ?_; apply Exists.intro; refine ⟨fun w' hl => ?_, ?_⟩
 ·(go_simp; try with_reducible rfl)
 simp only [Act.put, pa, pb, pc]
 refine lv 17 rfl ?_; apply Exists.intro; refine ⟨fun w' hl => ?_, ?_⟩
 ·(go_simp; try with_reducible rfl)
 simp only [Act.put, pa, pb, pc]
 refine lv 18 rfl ?_; apply Exists.intro; refine ⟨fun w' hl => ?_, ?_⟩
 ·(go_simp; try with_reducible rfl)
 simp only [Act.put, pa, pb, pc]
 refine lv 19 rfl ⟨_, fun w' hl => (run_get 5 _ rfl b1 (1 + b) rfl Tryz.underlying5 rfl (.int .u8 y) (HCy.out _ _ (HR.out.later hl))), ?_⟩
 simp only [Act.put, pa, pb, pc]
 refine lv 20 rfl ⟨.bool true, fun w' hl => ?_, ?_⟩
 ·(go_simp; try simp [g3])
 simp only [Act.put, pa, pb, pc]
 refine lv 21 rfl ?_; apply Exists.intro; refine ⟨fun w' hl => ?_, ?_⟩
 ·(go_simp; try with_reducible rfl)
 simp only [Act.put, pa, pb, pc]
 refine lv 22 rfl ?_; apply Exists.intro; refine ⟨fun w' hl => ?_, ?_⟩
 ·(go_simp; try with_reducible rfl)
 simp only [Act.put, pa, pb, pc]
 refine lv 23 rfl ?_; apply Exists.intro; refine ⟨fun w' hl => ?_, ?_⟩
 ·(go_simp; try with_reducible rfl)
 simp only [Act.put, pa, pb, pc]
 refine lv 24 rfl ?_; apply Exists.intro; refine ⟨fun w' hl => ?_, ?_⟩
 ·(go_simp; try with_reducible rfl)
 simp only [Act.put, pa, pb, pc]
 refine lv 25 rfl ⟨.int .i64 (a : Int), fun w' hl => ?_, ?_⟩
 ·(go_simp; try simp [wa, wa2])
 simp only [Act.put, pa, pb, pc]
 refine lv 26 rfl ?_; apply Exists.intro; refine ⟨fun w' hl => ?_, ?_⟩
 ·(go_simp; try with_reducible rfl)
 simp only [Act.put, pa, pb, pc]
 refine lv 27 rfl ?_; apply Exists.intro; refine ⟨fun w' hl => ?_, ?_⟩
 ·(go_simp; try with_reducible rfl)
 simp only [Act.put, pa, pb, pc]
 refine lv 28 rfl ?_; apply Exists.intro; refine ⟨fun w' hl => ?_, ?_⟩
 ·(go_simp; try with_reducible rfl)
 simp only [Act.put, pa, pb, pc]
 refine lv 29 rfl ⟨_, fun w' hl => (run_get 5 _ rfl b1 (1 + a) rfl Tryz.underlying5 rfl (.int .u8 z) (HCz.out _ _ (HR.out.later hl))), ?_⟩
 simp only [Act.put, pa, pb, pc]
 refine lv 30 rfl ?_; apply Exists.intro; refine ⟨fun w' hl => ?_, ?_⟩
 ·(go_simp; try with_reducible rfl)
 simp only [Act.put, pa, pb, pc]
 refine lv 31 rfl ?_; apply Exists.intro; refine ⟨fun w' hl => ?_, ?_⟩
 ·(go_simp; try with_reducible rfl)
 simp only [Act.put, pa, pb, pc]
 refine lv 32 rfl ⟨_, fun w' hl => (run_get 5 _ rfl b1 78 rfl Tryz.underlying5 rfl (.int .u8 (c : Int)) (HC7.out _ _ (HR.out.later hl))), ?_⟩
 simp only [Act.put, pa, pb, pc]
 refine late_one 33 (by kernel_rfl) (by kernel_rfl) (fun o ho => ?_)
 simp only [qa, qb, qc, qd] at ho; subst ho
 refine ⟨by kernel_rfl, fun wn hl K hK => ?_⟩
 have HR := Lib.hid (HR.out.later hl); have HB := Lib.hid (below_on HB.out hl); clear hl
 refine wp_enter _ _ (by go_simp; exact ⟨rfl, rfl⟩) ?_
 refine (voth_any c HC.out _).mono ?_; rintro e wm ⟨rfl, rfl⟩; refine ⟨_, rfl, ?_⟩
 refine hK.out _ _ (Later.refl _) ?_
 clear hK K
 simp only [Act.put, pa, pb, pc]
 refine late_one 34 (by kernel_rfl) (by kernel_rfl) (fun o ho => ?_)
 simp only [qa, qb, qc, qd] at ho; subst ho
 refine ⟨by kernel_rfl, fun wn hl K hK => ?_⟩
 have HR := Lib.hid (HR.out.later hl); have HB := Lib.hid (below_on HB.out hl); clear hl
 refine wp_enter _ _ (by go_simp; exact ⟨rfl, rfl⟩) ?_
 refine (mk_any (1 - (c : Int)) 1 _ (by have := HC.out; omega) (by decide)).mono ?_; rintro e wm ⟨rfl, rfl⟩; refine ⟨_, rfl, ?_⟩
 rw [HMk.out]
 refine hK.out _ _ (Later.refl _) ?_
 clear hK K
 simp only [Act.put, pa, pb, pc]
 refine lv 35 rfl ⟨.bool false, fun w' hl => ?_, ?_⟩
 ·(go_simp; try simp [g4])
 simp only [Act.put, pa, pb, pc]
 refine lv 36 rfl ?_; apply Exists.intro; refine ⟨fun w' hl => ?_, ?_⟩
 ·(go_simp; try with_reducible rfl)
 simp only [Act.put, pa, pb, pc]
 refine lv 37 rfl ?_; apply Exists.intro; refine ⟨fun w' hl => ?_, ?_⟩
 ·(go_simp; try with_reducible rfl)
 simp only [Act.put, pa, pb, pc]
 refine lo 38 rfl ?_
 simp only [Act.put, pa, pb, pc]
 refine lo 39 rfl ?_
 simp only [Act.put, pa, pb, pc]
 refine lo 40 rfl ?_
 simp only [Act.put, pa, pb, pc]
 refine lo 41 rfl ?_
 simp only [Act.put, pa, pb, pc]
 refine lo 42 rfl ?_
 simp only [Act.put, pa, pb, pc]
 refine lo 43 rfl ?_
 simp only [Act.put, pa, pb, pc]
 refine lo 44 rfl ?_
 simp only [Act.put, pa, pb, pc]
 refine lo 45 rfl ?_
 simp only [Act.put, pa, pb, pc]
 refine lo 46 rfl ?_
 simp only [Act.put, pa, pb, pc]
 refine lo 47 rfl ?_
 simp only [Act.put, pa, pb, pc]
 refine lo 48 rfl ?_
 simp only [Act.put, pa, pb, pc]
 refine lo 49 rfl ?_
 simp only [Act.put, pa, pb, pc]
 refine lo 50 rfl ?_
 simp only [Act.put, pa, pb, pc]
 refine lo 51 rfl ?_
 simp only [Act.put, pa, pb, pc]
 refine lo 52 rfl ?_
 simp only [Act.put, pa, pb, pc]
 refine lv 53 rfl ?_; apply Exists.intro; refine ⟨fun w' hl => ?_, ?_⟩
 ·(go_simp; try with_reducible rfl)
 simp only [Act.put, pa, pb, pc]
 refine lv 54 rfl ?_; apply Exists.intro; refine ⟨fun w' hl => ?_, ?_⟩
 ·(go_simp; try with_reducible rfl)
 simp only [Act.put, pa, pb, pc]
 refine late_end (by kernel_rfl) (fun wn hl => ?_)
 have HR := Lib.hid (HR.out.later hl); have HB := Lib.hid (below_on HB.out hl); clear hl
 go_wp2_with fail
 go_ret
 exact ⟨by (rw [HS.out]; try rfl), HB.out⟩
set_option maxRecDepth 100000 in
set_option maxHeartbeats 1000000 in
theorem ps_05 (p : Nat → Int) (w : World) (hp : FitP p) (ha : argB p = true) (hD : TabDb w) (hL : TabLead w) (q0 : (p 83 == -1) = false) (qt : (p 78 == 1) = false) (q1 : (Int.tdiv (p 83) 8 == prkZ p) = true) (q2 : (p (1 + (p 83).toNat) == 0) = true) (q3 : (p (1 + (p 83 - pupZ p).toNat) == 0) = true) (q4 : (p (1 + (p 83 + pupZ p).toNat) == mkZ (1 - p 78) 1) = true)  : Calls Tryz.prog 23 #[.agg (posA p)] w (BoL (pasB p) w) := by
 have HP := Lib.hid hp
 have HD := Lib.hid hD
 have HL := Lib.hid hL
 obtain ⟨c, hcc⟩ : ∃ c : Nat, p 78 = (c : Int) := Int.eq_ofNat_of_zero_le hp.turn.1
 have hc2 : c < 2 := by have := (argB_var ha).2.1; omega
 have HC := Lib.hid hc2
 have HC7 := Lib.hid (fun (W : World) (b : Nat) (h : VR W b p) => show W.cell? ⟨b, 78, none⟩ = some (.int .u8 (c : Int)) by rw [h.cell 78 (by decide), hcc]; rfl)
 obtain ⟨s, hs⟩ : ∃ s, p 83 = s := ⟨_, rfl⟩
 have hsr : -1 ≤ s ∧ s < 64 := by rw [← hs]; exact ⟨(argB_var ha).2.2.1, (argB_var ha).2.2.2.1⟩
 have ws : IntKind.i64.wrap s = s := IntWalk.i64_in _ (by omega)
 have HC83 := Lib.hid (fun (W : World) (b : Nat) (h : VR W b p) => show W.cell? ⟨b, 83, none⟩ = some (.int .i8 s) by rw [h.cell 83 (by decide), hs]; rfl)
 have h0 : (s == -1) = false := by rw [← hs]; exact q0
 have s0 : 0 ≤ s := by rw [beq_eq_false_iff_ne] at h0; omega
 obtain ⟨n, hn⟩ := Int.eq_ofNat_of_zero_le s0
 subst hn
 have hc78 : (p 78 == 1) = false := qt
 have hc1 : ((c : Int) == 1) = false := by rw [← hcc]; exact qt
 have hrk : prkZ p = 5 := by unfold prkZ; rw [qt]; rfl
 have hup : pupZ p = -8 := by unfold pupZ; rw [qt]; rfl
 have n64 : n < 64 := by omega
 have hn64 : (n : Int) < 64 := by omega
 have n0 : (0 : Int) ≤ (n : Int) := by omega
 have wq : IntKind.i64.wrap ((n : Int) / 8) = (n : Int) / 8 := IntWalk.i64_in _ (by omega)
 have htd : Int.tdiv (n : Int) 8 = (n : Int) / 8 := rfl
 have hr1 : (n : Int) / 8 = 5 := by rw [hs, hrk, htd, beq_iff_eq] at q1; exact q1
 obtain ⟨b, hb⟩ : ∃ b : Nat, (n : Int) - (-8) = (b : Int) := ⟨((n : Int) - (-8)).toNat, by omega⟩
 obtain ⟨a, hap⟩ : ∃ a : Nat, (n : Int) + (-8) = (a : Int) := ⟨((n : Int) + (-8)).toNat, by omega⟩
 have b64 : b < 64 := by omega
 have a64 : a < 64 := by omega
 have hb64 : (b : Int) < 64 := by omega
 have ha64 : (a : Int) < 64 := by omega
 have b0 : (0 : Int) ≤ (b : Int) := by omega
 have a0 : (0 : Int) ≤ (a : Int) := by omega
 have wb : IntKind.i64.wrap ((n : Int) - (-8)) = (b : Int) := by rw [hb]; exact IntWalk.i64_in _ (by omega)
 have wa : IntKind.i64.wrap ((n : Int) + (-8)) = (a : Int) := by rw [hap]; exact IntWalk.i64_in _ (by omega)
 have wb2 : IntKind.i64.wrap ((n : Int) + 8) = (b : Int) := by rw [show (n : Int) + 8 = (b : Int) by omega]; exact IntWalk.i64_in _ (by omega)
 have wa2 : IntKind.i64.wrap ((n : Int) - 8) = (a : Int) := by rw [show (n : Int) - 8 = (a : Int) by omega]; exact IntWalk.i64_in _ (by omega)
 obtain ⟨x, hx⟩ : ∃ x, p (1 + n) = x := ⟨_, rfl⟩
 obtain ⟨y, hy⟩ : ∃ y, p (1 + b) = y := ⟨_, rfl⟩
 obtain ⟨z, hz⟩ : ∃ z, p (1 + a) = z := ⟨_, rfl⟩
 have HCx := Lib.hid (fun (W : World) (k : Nat) (h : VR W k p) => show W.cell? ⟨k, 1 + n, none⟩ = some (.int .u8 x) by rw [h.cell (1 + n) (by omega), kAt_board (Nat.zero_le n) n64, hx])
 have HCy := Lib.hid (fun (W : World) (k : Nat) (h : VR W k p) => show W.cell? ⟨k, 1 + b, none⟩ = some (.int .u8 y) by rw [h.cell (1 + b) (by omega), kAt_board (Nat.zero_le b) b64, hy])
 have HCz := Lib.hid (fun (W : World) (k : Nat) (h : VR W k p) => show W.cell? ⟨k, 1 + a, none⟩ = some (.int .u8 z) by rw [h.cell (1 + a) (by omega), kAt_board (Nat.zero_le a) a64, hz])
 have e1 : p (1 + (p 83).toNat) = x := by rw [hs]; exact hx
 have e2 : p (1 + (p 83 - pupZ p).toNat) = y := by rw [hs, hup, hb]; exact hy
 have e3 : p (1 + (p 83 + pupZ p).toNat) = z := by rw [hs, hup, hap]; exact hz
 obtain ⟨mk, hmk⟩ : ∃ m, mkZ (1 - (c : Int)) 1 = m := ⟨_, rfl⟩
 have HMk := Lib.hid hmk
 have hmk2 : mkZ (1 - p 78) 1 = mk := by rw [hcc]; exact hmk
 have g1 : ((n : Int) / 8 == 5) = true := by rw [hr1]; rfl
 have g2 : (x == 0) = true := by rw [← e1]; exact q2
 have g3 : (y == 0) = true := by rw [← e2]; exact q3
 have g4 : (z == mk) = true := by rw [← e3, ← hmk2]; exact q4
 obtain ⟨by', hby⟩ : ∃ m, byN p (n : Int) (c : Int) = m := ⟨_, rfl⟩
 obtain ⟨of', hof⟩ : ∃ m, ofN p (c : Int) 1 = m := ⟨_, rfl⟩
 have HBy := Lib.hid hby
 have HOf := Lib.hid hof
 have hbl : by' < W64 := by rw [← hby]; exact byN_lt _ _ _
 have hol : of' < W64 := by rw [← hof]; exact ofN_lt _ _ _
 have hand : bits .and .u64 (by' : Int) (of' : Int) = ((by' &&& of' : Nat) : Int) := and_nat hbl hol
 obtain ⟨q, hq⟩ : ∃ q, (by' &&& of' != 0) = q := ⟨_, rfl⟩
 have g5 : ((((by' &&& of' : Nat) : Int)) != 0) = q := by rw [bne_nat]; exact hq
 have HS := Lib.hid (show pasB p = q by unfold pasB; rw [q0, q1, q2, q3, q4, hs, hcc, hby, hof, hq]; rfl)
 clear hp ha hD hL hs hsr q0 qt hc78 hrk hup n64 htd hcc hc2 q1 q2 q3 q4 hr1 hb hap b64 a64 hx hy hz e1 e2 e3 hmk hmk2 hby hof hbl hol hq
 have HB := Lib.hid (Below.refl w.heap.size w)
 go_enter Tryz.func23, Tryz.ntmps23
 go_wp2_with (first
   | (refine va_box rfl _ rfl p rfl ?_; intro b1 w1 N R; have HB := Lib.hid (HB.out.trans (N.below.mono HB.out.size)); have HR := Lib.hid R; clear N R)
   | (refine step_get rfl 26 _ rfl b1 83 rfl Tryz.underlying26 rfl (.int .i8 (n : Int)) ?_ ?_; exact HC83.out _ _ HR.out)
   | (refine step_get rfl 5 _ rfl b1 78 rfl Tryz.underlying5 rfl (.int .u8 (c : Int)) ?_ ?_; exact HC7.out _ _ HR.out))
 refine late_begin 55 (by kernel_rfl) ?_
 refine lv 0 rfl ?_; apply Exists.intro; refine ⟨fun w' hl => ?_, ?_⟩
 ·(go_simp; try with_reducible rfl)
 simp only [Act.put, pa, pb, pc]
 refine lv 1 rfl ⟨.int .i64 ((n : Int) / 8), fun w' hl => ?_, ?_⟩
 ·(go_simp; try simp [wq])
 simp only [Act.put, pa, pb, pc]
 refine lv 2 rfl ?_; apply Exists.intro; refine ⟨fun w' hl => ?_, ?_⟩
 ·(go_simp; try with_reducible rfl)
 simp only [Act.put, pa, pb, pc]
 refine lv 3 rfl ⟨.bool true, fun w' hl => ?_, ?_⟩
 ·(go_simp; try simp [g1])
 simp only [Act.put, pa, pb, pc]
 refine lv 4 rfl ?_; apply Exists.intro; refine ⟨fun w' hl => ?_, ?_⟩
 ·(go_simp; try with_reducible rfl)
 simp only [Act.put, pa, pb, pc]
 refine lv 5 rfl ?_; apply Exists.intro; refine ⟨fun w' hl => ?_, ?_⟩
 ·(go_simp; try with_reducible rfl)
 simp only [Act.put, pa, pb, pc]
 refine lv 6 rfl ?_; apply Exists.intro; refine ⟨fun w' hl => ?_, ?_⟩
 ·(go_simp; try with_reducible rfl)
 simp only [Act.put, pa, pb, pc]
 refine lv 7 rfl ?_; apply Exists.intro; refine ⟨fun w' hl => ?_, ?_⟩
 ·(go_simp; try with_reducible rfl)
 simp only [Act.put, pa, pb, pc]
 refine lv 8 rfl ?_; apply Exists.intro; refine ⟨fun w' hl => ?_, ?_⟩
 ·(go_simp; try with_reducible rfl)
 simp only [Act.put, pa, pb, pc]
 refine lv 9 rfl ⟨_, fun w' hl => (run_get 5 _ rfl b1 (1 + n) rfl Tryz.underlying5 rfl (.int .u8 x) (HCx.out _ _ (HR.out.later hl))), ?_⟩
 simp only [Act.put, pa, pb, pc]
 refine lv 10 rfl ⟨.bool true, fun w' hl => ?_, ?_⟩
 ·(go_simp; try simp [g2])
 simp only [Act.put, pa, pb, pc]
 refine lv 11 rfl ?_; apply Exists.intro; refine ⟨fun w' hl => ?_, ?_⟩
 ·(go_simp; try with_reducible rfl)
 simp only [Act.put, pa, pb, pc]
 refine lv 12 rfl ?_; apply Exists.intro; refine ⟨fun w' hl => ?_, ?_⟩
 ·(go_simp; try with_reducible rfl)
 simp only [Act.put, pa, pb, pc]
 refine lv 13 rfl ?_; apply Exists.intro; refine ⟨fun w' hl => ?_, ?_⟩
 ·(go_simp; try with_reducible rfl)
 simp only [Act.put, pa, pb, pc]
 refine lv 14 rfl ?_; apply Exists.intro; refine ⟨fun w' hl => ?_, ?_⟩
 ·(go_simp; try with_reducible rfl)
 simp only [Act.put, pa, pb, pc]
 refine lv 15 rfl ⟨.int .i64 (b : Int), fun w' hl => ?_, ?_⟩
 ·(go_simp; try simp [wb, wb2])
 simp only [Act.put, pa, pb, pc]
 refine lv 16 rfl ?_; apply Exists.intro; refine ⟨fun w' hl => ?_, ?_⟩
 ·(go_simp; try with_reducible rfl)
 simp only [Act.put, pa, pb, pc]
 refine lv 17 rfl ?_; apply Exists.intro; refine ⟨fun w' hl => ?_, ?_⟩
 ·(go_simp; try with_reducible rfl)
 simp only [Act.put, pa, pb, pc]
 refine lv 18 rfl ?_; apply Exists.intro; refine ⟨fun w' hl => ?_, ?_⟩
 ·(go_simp; try with_reducible rfl)
 simp only [Act.put, pa, pb, pc]
 refine lv 19 rfl ⟨_, fun w' hl => (run_get 5 _ rfl b1 (1 + b) rfl Tryz.underlying5 rfl (.int .u8 y) (HCy.out _ _ (HR.out.later hl))), ?_⟩
 simp only [Act.put, pa, pb, pc]
 refine lv 20 rfl ⟨.bool true, fun w' hl => ?_, ?_⟩
 ·(go_simp; try simp [g3])
 simp only [Act.put, pa, pb, pc]
 refine lv 21 rfl ?_; apply Exists.intro; refine ⟨fun w' hl => ?_, ?_⟩
 ·(go_simp; try with_reducible rfl)
 simp only [Act.put, pa, pb, pc]
 refine lv 22 rfl ?_; apply Exists.intro; refine ⟨fun w' hl => ?_, ?_⟩
 ·(go_simp; try with_reducible rfl)
 simp only [Act.put, pa, pb, pc]
 refine lv 23 rfl ?_; apply Exists.intro; refine ⟨fun w' hl => ?_, ?_⟩
 ·(go_simp; try with_reducible rfl)
 simp only [Act.put, pa, pb, pc]
 refine lv 24 rfl ?_; apply Exists.intro; refine ⟨fun w' hl => ?_, ?_⟩
 ·(go_simp; try with_reducible rfl)
 simp only [Act.put, pa, pb, pc]
 refine lv 25 rfl ⟨.int .i64 (a : Int), fun w' hl => ?_, ?_⟩
 ·(go_simp; try simp [wa, wa2])
 simp only [Act.put, pa, pb, pc]
 refine lv 26 rfl ?_; apply Exists.intro; refine ⟨fun w' hl => ?_, ?_⟩
 ·(go_simp; try with_reducible rfl)
 simp only [Act.put, pa, pb, pc]
 refine lv 27 rfl ?_; apply Exists.intro; refine ⟨fun w' hl => ?_, ?_⟩
 ·(go_simp; try with_reducible rfl)
 simp only [Act.put, pa, pb, pc]
 refine lv 28 rfl ?_; apply Exists.intro; refine ⟨fun w' hl => ?_, ?_⟩
 ·(go_simp; try with_reducible rfl)
 simp only [Act.put, pa, pb, pc]
 refine lv 29 rfl ⟨_, fun w' hl => (run_get 5 _ rfl b1 (1 + a) rfl Tryz.underlying5 rfl (.int .u8 z) (HCz.out _ _ (HR.out.later hl))), ?_⟩
 simp only [Act.put, pa, pb, pc]
 refine lv 30 rfl ?_; apply Exists.intro; refine ⟨fun w' hl => ?_, ?_⟩
 ·(go_simp; try with_reducible rfl)
 simp only [Act.put, pa, pb, pc]
 refine lv 31 rfl ?_; apply Exists.intro; refine ⟨fun w' hl => ?_, ?_⟩
 ·(go_simp; try with_reducible rfl)
 simp only [Act.put, pa, pb, pc]
 refine lv 32 rfl ⟨_, fun w' hl => (run_get 5 _ rfl b1 78 rfl Tryz.underlying5 rfl (.int .u8 (c : Int)) (HC7.out _ _ (HR.out.later hl))), ?_⟩
 simp only [Act.put, pa, pb, pc]
 refine late_one 33 (by kernel_rfl) (by kernel_rfl) (fun o ho => ?_)
 simp only [qa, qb, qc, qd] at ho; subst ho
 refine ⟨by kernel_rfl, fun wn hl K hK => ?_⟩
 have HR := Lib.hid (HR.out.later hl); have HB := Lib.hid (below_on HB.out hl); clear hl
 refine wp_enter _ _ (by go_simp; exact ⟨rfl, rfl⟩) ?_
 refine (voth_any c HC.out _).mono ?_; rintro e wm ⟨rfl, rfl⟩; refine ⟨_, rfl, ?_⟩
 refine hK.out _ _ (Later.refl _) ?_
 clear hK K
 simp only [Act.put, pa, pb, pc]
 refine late_one 34 (by kernel_rfl) (by kernel_rfl) (fun o ho => ?_)
 simp only [qa, qb, qc, qd] at ho; subst ho
 refine ⟨by kernel_rfl, fun wn hl K hK => ?_⟩
 have HR := Lib.hid (HR.out.later hl); have HB := Lib.hid (below_on HB.out hl); clear hl
 refine wp_enter _ _ (by go_simp; exact ⟨rfl, rfl⟩) ?_
 refine (mk_any (1 - (c : Int)) 1 _ (by have := HC.out; omega) (by decide)).mono ?_; rintro e wm ⟨rfl, rfl⟩; refine ⟨_, rfl, ?_⟩
 rw [HMk.out]
 refine hK.out _ _ (Later.refl _) ?_
 clear hK K
 simp only [Act.put, pa, pb, pc]
 refine lv 35 rfl ⟨.bool true, fun w' hl => ?_, ?_⟩
 ·(go_simp; try simp [g4])
 simp only [Act.put, pa, pb, pc]
 refine lv 36 rfl ?_; apply Exists.intro; refine ⟨fun w' hl => ?_, ?_⟩
 ·(go_simp; try with_reducible rfl)
 simp only [Act.put, pa, pb, pc]
 refine lv 37 rfl ?_; apply Exists.intro; refine ⟨fun w' hl => ?_, ?_⟩
 ·(go_simp; try with_reducible rfl)
 simp only [Act.put, pa, pb, pc]
 refine lv 38 rfl ?_; apply Exists.intro; refine ⟨fun w' hl => ?_, ?_⟩
 ·(go_simp; try with_reducible rfl)
 simp only [Act.put, pa, pb, pc]
 refine lv 39 rfl ⟨_, fun w' hl => (run_vin _ rfl b1 rfl p (HR.out.later hl)), ?_⟩
 simp only [Act.put, pa, pb, pc]
 refine lv 40 rfl ?_; apply Exists.intro; refine ⟨fun w' hl => ?_, ?_⟩
 ·(go_simp; try with_reducible rfl)
 simp only [Act.put, pa, pb, pc]
 refine lv 41 rfl ?_; apply Exists.intro; refine ⟨fun w' hl => ?_, ?_⟩
 ·(go_simp; try with_reducible rfl)
 simp only [Act.put, pa, pb, pc]
 refine lv 42 rfl ?_; apply Exists.intro; refine ⟨fun w' hl => ?_, ?_⟩
 ·(go_simp; try with_reducible rfl)
 simp only [Act.put, pa, pb, pc]
 refine lv 43 rfl ⟨_, fun w' hl => (run_get 5 _ rfl b1 78 rfl Tryz.underlying5 rfl (.int .u8 (c : Int)) (HC7.out _ _ (HR.out.later hl))), ?_⟩
 simp only [Act.put, pa, pb, pc]
 refine lv 45 rfl ?_; apply Exists.intro; refine ⟨fun w' hl => ?_, ?_⟩
 ·(go_simp; try with_reducible rfl)
 simp only [Act.put, pa, pb, pc]
 refine lv 46 rfl ⟨_, fun w' hl => (run_vin _ rfl b1 rfl p (HR.out.later hl)), ?_⟩
 simp only [Act.put, pa, pb, pc]
 refine lv 47 rfl ?_; apply Exists.intro; refine ⟨fun w' hl => ?_, ?_⟩
 ·(go_simp; try with_reducible rfl)
 simp only [Act.put, pa, pb, pc]
 refine lv 48 rfl ?_; apply Exists.intro; refine ⟨fun w' hl => ?_, ?_⟩
 ·(go_simp; try with_reducible rfl)
 simp only [Act.put, pa, pb, pc]
 refine lv 49 rfl ⟨_, fun w' hl => (run_get 5 _ rfl b1 78 rfl Tryz.underlying5 rfl (.int .u8 (c : Int)) (HC7.out _ _ (HR.out.later hl))), ?_⟩
 simp only [Act.put, pa, pb, pc]
 refine late_one 44 (by kernel_rfl) (by kernel_rfl) (fun o ho => ?_)
 simp only [qa, qb, qc, qd] at ho; subst ho
 refine ⟨by kernel_rfl, fun wn hl K hK => ?_⟩
 have HR := Lib.hid (HR.out.later hl); have HB := Lib.hid (below_on HB.out hl); clear hl
 refine wp_enter _ _ (by go_simp; exact ⟨rfl, rfl⟩) ?_
 refine (by_any p (n : Int) (c : Int) _ HP.out.at.bd (by omega) (HD.out.next HB.out) (HL.out.next HB.out)).mono ?_; rintro e wm ⟨rfl, hb⟩; refine ⟨_, rfl, ?_⟩
 rw [HBy.out]
 refine hK.out _ _ hb ?_
 have HR := Lib.hid (HR.out.later hb); have HB := Lib.hid (below_on HB.out hb); clear hb
 clear hK K
 simp only [Act.put, pa, pb, pc]
 refine late_one 50 (by kernel_rfl) (by kernel_rfl) (fun o ho => ?_)
 simp only [qa, qb, qc, qd] at ho; subst ho
 refine ⟨by kernel_rfl, fun wn hl K hK => ?_⟩
 have HR := Lib.hid (HR.out.later hl); have HB := Lib.hid (below_on HB.out hl); clear hl
 refine wp_enter _ _ (by go_simp; exact ⟨rfl, rfl⟩) ?_
 refine (of_any p (c : Int) 1 _ HP.out.at.bd).mono ?_; rintro e wm ⟨rfl, hb⟩; refine ⟨_, rfl, ?_⟩
 rw [HOf.out]
 refine hK.out _ _ hb ?_
 have HR := Lib.hid (HR.out.later hb); have HB := Lib.hid (below_on HB.out hb); clear hb
 clear hK K
 simp only [Act.put, pa, pb, pc]
 refine lv 51 rfl ⟨.int .u64 ((by' &&& of' : Nat) : Int), fun w' hl => ?_, ?_⟩
 ·(go_simp; try simp [hand])
 simp only [Act.put, pa, pb, pc]
 refine lv 52 rfl ⟨.bool q, fun w' hl => ?_, ?_⟩
 ·(go_simp; try simp [g5])
 simp only [Act.put, pa, pb, pc]
 refine lv 53 rfl ?_; apply Exists.intro; refine ⟨fun w' hl => ?_, ?_⟩
 ·(go_simp; try with_reducible rfl)
 simp only [Act.put, pa, pb, pc]
 refine lv 54 rfl ?_; apply Exists.intro; refine ⟨fun w' hl => ?_, ?_⟩
 ·(go_simp; try with_reducible rfl)
 simp only [Act.put, pa, pb, pc]
 refine late_end (by kernel_rfl) (fun wn hl => ?_)
 have HR := Lib.hid (HR.out.later hl); have HB := Lib.hid (below_on HB.out hl); clear hl
 go_wp2_with fail
 go_ret
 exact ⟨by (rw [HS.out]; try rfl), HB.out⟩
set_option maxRecDepth 100000 in
set_option maxHeartbeats 1000000 in
theorem ps_11 (p : Nat → Int) (w : World) (hp : FitP p) (ha : argB p = true) (hD : TabDb w) (hL : TabLead w) (q0 : (p 83 == -1) = false) (qt : (p 78 == 1) = true)  (q1 : (Int.tdiv (p 83) 8 == prkZ p) = false) : Calls Tryz.prog 23 #[.agg (posA p)] w (BoL (pasB p) w) := by
 have HP := Lib.hid hp
 have HD := Lib.hid hD
 have HL := Lib.hid hL
 obtain ⟨c, hcc⟩ : ∃ c : Nat, p 78 = (c : Int) := Int.eq_ofNat_of_zero_le hp.turn.1
 have hc2 : c < 2 := by have := (argB_var ha).2.1; omega
 have HC := Lib.hid hc2
 have HC7 := Lib.hid (fun (W : World) (b : Nat) (h : VR W b p) => show W.cell? ⟨b, 78, none⟩ = some (.int .u8 (c : Int)) by rw [h.cell 78 (by decide), hcc]; rfl)
 obtain ⟨s, hs⟩ : ∃ s, p 83 = s := ⟨_, rfl⟩
 have hsr : -1 ≤ s ∧ s < 64 := by rw [← hs]; exact ⟨(argB_var ha).2.2.1, (argB_var ha).2.2.2.1⟩
 have ws : IntKind.i64.wrap s = s := IntWalk.i64_in _ (by omega)
 have HC83 := Lib.hid (fun (W : World) (b : Nat) (h : VR W b p) => show W.cell? ⟨b, 83, none⟩ = some (.int .i8 s) by rw [h.cell 83 (by decide), hs]; rfl)
 have h0 : (s == -1) = false := by rw [← hs]; exact q0
 have s0 : 0 ≤ s := by rw [beq_eq_false_iff_ne] at h0; omega
 obtain ⟨n, hn⟩ := Int.eq_ofNat_of_zero_le s0
 subst hn
 have hc78 : (p 78 == 1) = true := qt
 have hc1 : ((c : Int) == 1) = true := by rw [← hcc]; exact qt
 have hrk : prkZ p = 2 := by unfold prkZ; rw [qt]; rfl
 have hup : pupZ p = 8 := by unfold pupZ; rw [qt]; rfl
 have n64 : n < 64 := by omega
 have hn64 : (n : Int) < 64 := by omega
 have n0 : (0 : Int) ≤ (n : Int) := by omega
 have wq : IntKind.i64.wrap ((n : Int) / 8) = (n : Int) / 8 := IntWalk.i64_in _ (by omega)
 have htd : Int.tdiv (n : Int) 8 = (n : Int) / 8 := rfl
 have g1 : ((n : Int) / 8 == 2) = false := by rw [hs, hrk, htd] at q1; exact q1
 have HS := Lib.hid (show pasB p = false by unfold pasB; rw [q0, q1]; rfl)
 clear hp ha hD hL hs hsr q0 qt hc78 hrk hup n64 htd hcc hc2 q1
 have HB := Lib.hid (Below.refl w.heap.size w)
 go_enter Tryz.func23, Tryz.ntmps23
 go_wp2_with (first
   | (refine va_box rfl _ rfl p rfl ?_; intro b1 w1 N R; have HB := Lib.hid (HB.out.trans (N.below.mono HB.out.size)); have HR := Lib.hid R; clear N R)
   | (refine step_get rfl 26 _ rfl b1 83 rfl Tryz.underlying26 rfl (.int .i8 (n : Int)) ?_ ?_; exact HC83.out _ _ HR.out)
   | (refine step_get rfl 5 _ rfl b1 78 rfl Tryz.underlying5 rfl (.int .u8 (c : Int)) ?_ ?_; exact HC7.out _ _ HR.out))
 refine late_begin 55 (by kernel_rfl) ?_
 refine lv 0 rfl ?_; apply Exists.intro; refine ⟨fun w' hl => ?_, ?_⟩
 ·(go_simp; try with_reducible rfl)
 simp only [Act.put, pa, pb, pc]
 refine lv 1 rfl ⟨.int .i64 ((n : Int) / 8), fun w' hl => ?_, ?_⟩
 ·(go_simp; try simp [wq])
 simp only [Act.put, pa, pb, pc]
 refine lv 2 rfl ?_; apply Exists.intro; refine ⟨fun w' hl => ?_, ?_⟩
 ·(go_simp; try with_reducible rfl)
 simp only [Act.put, pa, pb, pc]
 refine lv 3 rfl ⟨.bool false, fun w' hl => ?_, ?_⟩
 ·(go_simp; try simp [g1])
 simp only [Act.put, pa, pb, pc]
 refine lv 4 rfl ?_; apply Exists.intro; refine ⟨fun w' hl => ?_, ?_⟩
 ·(go_simp; try with_reducible rfl)
 simp only [Act.put, pa, pb, pc]
 refine lo 5 rfl ?_
 simp only [Act.put, pa, pb, pc]
 refine lo 6 rfl ?_
 simp only [Act.put, pa, pb, pc]
 refine lo 7 rfl ?_
 simp only [Act.put, pa, pb, pc]
 refine lo 8 rfl ?_
 simp only [Act.put, pa, pb, pc]
 refine lo 9 rfl ?_
 simp only [Act.put, pa, pb, pc]
 refine lo 10 rfl ?_
 simp only [Act.put, pa, pb, pc]
 refine lv 11 rfl ?_; apply Exists.intro; refine ⟨fun w' hl => ?_, ?_⟩
 ·(go_simp; try with_reducible rfl)
 simp only [Act.put, pa, pb, pc]
 refine lv 12 rfl ?_; apply Exists.intro; refine ⟨fun w' hl => ?_, ?_⟩
 ·(go_simp; try with_reducible rfl)
 simp only [Act.put, pa, pb, pc]
 refine lo 13 rfl ?_
 simp only [Act.put, pa, pb, pc]
 refine lo 14 rfl ?_
 simp only [Act.put, pa, pb, pc]
 refine lo 15 rfl ?_
 simp only [Act.put, pa, pb, pc]
 refine lo 16 rfl ?_
 simp only [Act.put, pa, pb, pc]
 refine lo 17 rfl ?_
 simp only [Act.put, pa, pb, pc]
 refine lo 18 rfl ?_
 simp only [Act.put, pa, pb, pc]
 refine lo 19 rfl ?_
 simp only [Act.put, pa, pb, pc]
 refine lo 20 rfl ?_
 simp only [Act.put, pa, pb, pc]
 refine lv 21 rfl ?_; apply Exists.intro; refine ⟨fun w' hl => ?_, ?_⟩
 ·(go_simp; try with_reducible rfl)
 simp only [Act.put, pa, pb, pc]
 refine lv 22 rfl ?_; apply Exists.intro; refine ⟨fun w' hl => ?_, ?_⟩
 ·(go_simp; try with_reducible rfl)
 simp only [Act.put, pa, pb, pc]
 refine lo 23 rfl ?_
 simp only [Act.put, pa, pb, pc]
 refine lo 24 rfl ?_
 simp only [Act.put, pa, pb, pc]
 refine lo 25 rfl ?_
 simp only [Act.put, pa, pb, pc]
 refine lo 26 rfl ?_
 simp only [Act.put, pa, pb, pc]
 refine lo 27 rfl ?_
 simp only [Act.put, pa, pb, pc]
 refine lo 28 rfl ?_
 simp only [Act.put, pa, pb, pc]
 refine lo 29 rfl ?_
 simp only [Act.put, pa, pb, pc]
 refine lo 30 rfl ?_
 simp only [Act.put, pa, pb, pc]
 refine lo 31 rfl ?_
 simp only [Act.put, pa, pb, pc]
 refine lo 32 rfl ?_
 simp only [Act.put, pa, pb, pc]
 refine lo 33 rfl ?_
 simp only [Act.put, pa, pb, pc]
 refine lo 34 rfl ?_
 simp only [Act.put, pa, pb, pc]
 refine lo 35 rfl ?_
 simp only [Act.put, pa, pb, pc]
 refine lv 36 rfl ?_; apply Exists.intro; refine ⟨fun w' hl => ?_, ?_⟩
 ·(go_simp; try with_reducible rfl)
 simp only [Act.put, pa, pb, pc]
 refine lv 37 rfl ?_; apply Exists.intro; refine ⟨fun w' hl => ?_, ?_⟩
 ·(go_simp; try with_reducible rfl)
 simp only [Act.put, pa, pb, pc]
 refine lo 38 rfl ?_
 simp only [Act.put, pa, pb, pc]
 refine lo 39 rfl ?_
 simp only [Act.put, pa, pb, pc]
 refine lo 40 rfl ?_
 simp only [Act.put, pa, pb, pc]
 refine lo 41 rfl ?_
 simp only [Act.put, pa, pb, pc]
 refine lo 42 rfl ?_
 simp only [Act.put, pa, pb, pc]
 refine lo 43 rfl ?_
 simp only [Act.put, pa, pb, pc]
 refine lo 44 rfl ?_
 simp only [Act.put, pa, pb, pc]
 refine lo 45 rfl ?_
 simp only [Act.put, pa, pb, pc]
 refine lo 46 rfl ?_
 simp only [Act.put, pa, pb, pc]
 refine lo 47 rfl ?_
 simp only [Act.put, pa, pb, pc]
 refine lo 48 rfl ?_
 simp only [Act.put, pa, pb, pc]
 refine lo 49 rfl ?_
 simp only [Act.put, pa, pb, pc]
 refine lo 50 rfl ?_
 simp only [Act.put, pa, pb, pc]
 refine lo 51 rfl ?_
 simp only [Act.put, pa, pb, pc]
 refine lo 52 rfl ?_
 simp only [Act.put, pa, pb, pc]
 refine lv 53 rfl ?_; apply Exists.intro; refine ⟨fun w' hl => ?_, ?_⟩
 ·(go_simp; try with_reducible rfl)
 simp only [Act.put, pa, pb, pc]
 refine lv 54 rfl ?_; apply Exists.intro; refine ⟨fun w' hl => ?_, ?_⟩
 ·(go_simp; try with_reducible rfl)
 simp only [Act.put, pa, pb, pc]
 refine late_end (by kernel_rfl) (fun wn hl => ?_)
 have HR := Lib.hid (HR.out.later hl); have HB := Lib.hid (below_on HB.out hl); clear hl
 go_wp2_with fail
 go_ret
 exact ⟨by (rw [HS.out]; try rfl), HB.out⟩
set_option maxRecDepth 100000 in
set_option maxHeartbeats 1000000 in
theorem ps_12 (p : Nat → Int) (w : World) (hp : FitP p) (ha : argB p = true) (hD : TabDb w) (hL : TabLead w) (q0 : (p 83 == -1) = false) (qt : (p 78 == 1) = true) (q1 : (Int.tdiv (p 83) 8 == prkZ p) = true) (q2 : (p (1 + (p 83).toNat) == 0) = false) : Calls Tryz.prog 23 #[.agg (posA p)] w (BoL (pasB p) w) := by
 have HP := Lib.hid hp
 have HD := Lib.hid hD
 have HL := Lib.hid hL
 obtain ⟨c, hcc⟩ : ∃ c : Nat, p 78 = (c : Int) := Int.eq_ofNat_of_zero_le hp.turn.1
 have hc2 : c < 2 := by have := (argB_var ha).2.1; omega
 have HC := Lib.hid hc2
 have HC7 := Lib.hid (fun (W : World) (b : Nat) (h : VR W b p) => show W.cell? ⟨b, 78, none⟩ = some (.int .u8 (c : Int)) by rw [h.cell 78 (by decide), hcc]; rfl)
 obtain ⟨s, hs⟩ : ∃ s, p 83 = s := ⟨_, rfl⟩
 have hsr : -1 ≤ s ∧ s < 64 := by rw [← hs]; exact ⟨(argB_var ha).2.2.1, (argB_var ha).2.2.2.1⟩
 have ws : IntKind.i64.wrap s = s := IntWalk.i64_in _ (by omega)
 have HC83 := Lib.hid (fun (W : World) (b : Nat) (h : VR W b p) => show W.cell? ⟨b, 83, none⟩ = some (.int .i8 s) by rw [h.cell 83 (by decide), hs]; rfl)
 have h0 : (s == -1) = false := by rw [← hs]; exact q0
 have s0 : 0 ≤ s := by rw [beq_eq_false_iff_ne] at h0; omega
 obtain ⟨n, hn⟩ := Int.eq_ofNat_of_zero_le s0
 subst hn
 have hc78 : (p 78 == 1) = true := qt
 have hc1 : ((c : Int) == 1) = true := by rw [← hcc]; exact qt
 have hrk : prkZ p = 2 := by unfold prkZ; rw [qt]; rfl
 have hup : pupZ p = 8 := by unfold pupZ; rw [qt]; rfl
 have n64 : n < 64 := by omega
 have hn64 : (n : Int) < 64 := by omega
 have n0 : (0 : Int) ≤ (n : Int) := by omega
 have wq : IntKind.i64.wrap ((n : Int) / 8) = (n : Int) / 8 := IntWalk.i64_in _ (by omega)
 have htd : Int.tdiv (n : Int) 8 = (n : Int) / 8 := rfl
 have hr1 : (n : Int) / 8 = 2 := by rw [hs, hrk, htd, beq_iff_eq] at q1; exact q1
 obtain ⟨b, hb⟩ : ∃ b : Nat, (n : Int) - (8) = (b : Int) := ⟨((n : Int) - (8)).toNat, by omega⟩
 obtain ⟨a, hap⟩ : ∃ a : Nat, (n : Int) + (8) = (a : Int) := ⟨((n : Int) + (8)).toNat, by omega⟩
 have b64 : b < 64 := by omega
 have a64 : a < 64 := by omega
 have hb64 : (b : Int) < 64 := by omega
 have ha64 : (a : Int) < 64 := by omega
 have b0 : (0 : Int) ≤ (b : Int) := by omega
 have a0 : (0 : Int) ≤ (a : Int) := by omega
 have wb : IntKind.i64.wrap ((n : Int) - (8)) = (b : Int) := by rw [hb]; exact IntWalk.i64_in _ (by omega)
 have wa : IntKind.i64.wrap ((n : Int) + (8)) = (a : Int) := by rw [hap]; exact IntWalk.i64_in _ (by omega)
 obtain ⟨x, hx⟩ : ∃ x, p (1 + n) = x := ⟨_, rfl⟩
 obtain ⟨y, hy⟩ : ∃ y, p (1 + b) = y := ⟨_, rfl⟩
 obtain ⟨z, hz⟩ : ∃ z, p (1 + a) = z := ⟨_, rfl⟩
 have HCx := Lib.hid (fun (W : World) (k : Nat) (h : VR W k p) => show W.cell? ⟨k, 1 + n, none⟩ = some (.int .u8 x) by rw [h.cell (1 + n) (by omega), kAt_board (Nat.zero_le n) n64, hx])
 have HCy := Lib.hid (fun (W : World) (k : Nat) (h : VR W k p) => show W.cell? ⟨k, 1 + b, none⟩ = some (.int .u8 y) by rw [h.cell (1 + b) (by omega), kAt_board (Nat.zero_le b) b64, hy])
 have HCz := Lib.hid (fun (W : World) (k : Nat) (h : VR W k p) => show W.cell? ⟨k, 1 + a, none⟩ = some (.int .u8 z) by rw [h.cell (1 + a) (by omega), kAt_board (Nat.zero_le a) a64, hz])
 have e1 : p (1 + (p 83).toNat) = x := by rw [hs]; exact hx
 have e2 : p (1 + (p 83 - pupZ p).toNat) = y := by rw [hs, hup, hb]; exact hy
 have e3 : p (1 + (p 83 + pupZ p).toNat) = z := by rw [hs, hup, hap]; exact hz
 obtain ⟨mk, hmk⟩ : ∃ m, mkZ (1 - (c : Int)) 1 = m := ⟨_, rfl⟩
 have HMk := Lib.hid hmk
 have hmk2 : mkZ (1 - p 78) 1 = mk := by rw [hcc]; exact hmk
 have g1 : ((n : Int) / 8 == 2) = true := by rw [hr1]; rfl
 have g2 : (x == 0) = false := by rw [← e1]; exact q2
 have HS := Lib.hid (show pasB p = false by unfold pasB; rw [q0, q1, q2]; rfl)
 clear hp ha hD hL hs hsr q0 qt hc78 hrk hup n64 htd hcc hc2 q1 q2 hr1 hb hap b64 a64 hx hy hz e1 e2 e3 hmk hmk2
 have HB := Lib.hid (Below.refl w.heap.size w)
 go_enter Tryz.func23, Tryz.ntmps23
 go_wp2_with (first
   | (refine va_box rfl _ rfl p rfl ?_; intro b1 w1 N R; have HB := Lib.hid (HB.out.trans (N.below.mono HB.out.size)); have HR := Lib.hid R; clear N R)
   | (refine step_get rfl 26 _ rfl b1 83 rfl Tryz.underlying26 rfl (.int .i8 (n : Int)) ?_ ?_; exact HC83.out _ _ HR.out)
   | (refine step_get rfl 5 _ rfl b1 78 rfl Tryz.underlying5 rfl (.int .u8 (c : Int)) ?_ ?_; exact HC7.out _ _ HR.out))
 refine late_begin 55 (by kernel_rfl) ?_
 refine lv 0 rfl ?_; apply Exists.intro; refine ⟨fun w' hl => ?_, ?_⟩
 ·(go_simp; try with_reducible rfl)
 simp only [Act.put, pa, pb, pc]
 refine lv 1 rfl ⟨.int .i64 ((n : Int) / 8), fun w' hl => ?_, ?_⟩
 ·(go_simp; try simp [wq])
 simp only [Act.put, pa, pb, pc]
 refine lv 2 rfl ?_; apply Exists.intro; refine ⟨fun w' hl => ?_, ?_⟩
 ·(go_simp; try with_reducible rfl)
 simp only [Act.put, pa, pb, pc]
 refine lv 3 rfl ⟨.bool true, fun w' hl => ?_, ?_⟩
 ·(go_simp; try simp [g1])
 simp only [Act.put, pa, pb, pc]
 refine lv 4 rfl ?_; apply Exists.intro; refine ⟨fun w' hl => ?_, ?_⟩
 ·(go_simp; try with_reducible rfl)
 simp only [Act.put, pa, pb, pc]
 refine lv 5 rfl ?_; apply Exists.intro; refine ⟨fun w' hl => ?_, ?_⟩
 ·(go_simp; try with_reducible rfl)
 simp only [Act.put, pa, pb, pc]
 refine lv 6 rfl ?_; apply Exists.intro; refine ⟨fun w' hl => ?_, ?_⟩
 ·(go_simp; try with_reducible rfl)
 simp only [Act.put, pa, pb, pc]
 refine lv 7 rfl ?_; apply Exists.intro; refine ⟨fun w' hl => ?_, ?_⟩
 ·(go_simp; try with_reducible rfl)
 simp only [Act.put, pa, pb, pc]
 refine lv 8 rfl ?_; apply Exists.intro; refine ⟨fun w' hl => ?_, ?_⟩
 ·(go_simp; try with_reducible rfl)
 simp only [Act.put, pa, pb, pc]
 refine lv 9 rfl ⟨_, fun w' hl => (run_get 5 _ rfl b1 (1 + n) rfl Tryz.underlying5 rfl (.int .u8 x) (HCx.out _ _ (HR.out.later hl))), ?_⟩
 simp only [Act.put, pa, pb, pc]
 refine lv 10 rfl ⟨.bool false, fun w' hl => ?_, ?_⟩
 ·(go_simp; try simp [g2])
 simp only [Act.put, pa, pb, pc]
 refine lv 11 rfl ?_; apply Exists.intro; refine ⟨fun w' hl => ?_, ?_⟩
 ·(go_simp; try with_reducible rfl)
 simp only [Act.put, pa, pb, pc]
 refine lv 12 rfl ?_; apply Exists.intro; refine ⟨fun w' hl => ?_, ?_⟩
 ·(go_simp; try with_reducible rfl)
 simp only [Act.put, pa, pb, pc]
 refine lo 13 rfl ?_
 simp only [Act.put, pa, pb, pc]
 refine lo 14 rfl ?_
 simp only [Act.put, pa, pb, pc]
 refine lo 15 rfl ?_
 simp only [Act.put, pa, pb, pc]
 refine lo 16 rfl ?_
 simp only [Act.put, pa, pb, pc]
 refine lo 17 rfl ?_
 simp only [Act.put, pa, pb, pc]
 refine lo 18 rfl ?_
 simp only [Act.put, pa, pb, pc]
 refine lo 19 rfl ?_
 simp only [Act.put, pa, pb, pc]
 refine lo 20 rfl ?_
 simp only [Act.put, pa, pb, pc]
 refine lv 21 rfl ?_; apply Exists.intro; refine ⟨fun w' hl => ?_, ?_⟩
 ·(go_simp; try with_reducible rfl)
 simp only [Act.put, pa, pb, pc]
 refine lv 22 rfl ?_; apply Exists.intro; refine ⟨fun w' hl => ?_, ?_⟩
 ·(go_simp; try with_reducible rfl)
 simp only [Act.put, pa, pb, pc]
 refine lo 23 rfl ?_
 simp only [Act.put, pa, pb, pc]
 refine lo 24 rfl ?_
 simp only [Act.put, pa, pb, pc]
 refine lo 25 rfl ?_
 simp only [Act.put, pa, pb, pc]
 refine lo 26 rfl ?_
 simp only [Act.put, pa, pb, pc]
 refine lo 27 rfl ?_
 simp only [Act.put, pa, pb, pc]
 refine lo 28 rfl ?_
 simp only [Act.put, pa, pb, pc]
 refine lo 29 rfl ?_
 simp only [Act.put, pa, pb, pc]
 refine lo 30 rfl ?_
 simp only [Act.put, pa, pb, pc]
 refine lo 31 rfl ?_
 simp only [Act.put, pa, pb, pc]
 refine lo 32 rfl ?_
 simp only [Act.put, pa, pb, pc]
 refine lo 33 rfl ?_
 simp only [Act.put, pa, pb, pc]
 refine lo 34 rfl ?_
 simp only [Act.put, pa, pb, pc]
 refine lo 35 rfl ?_
 simp only [Act.put, pa, pb, pc]
 refine lv 36 rfl ?_; apply Exists.intro; refine ⟨fun w' hl => ?_, ?_⟩
 ·(go_simp; try with_reducible rfl)
 simp only [Act.put, pa, pb, pc]
 refine lv 37 rfl ?_; apply Exists.intro; refine ⟨fun w' hl => ?_, ?_⟩
 ·(go_simp; try with_reducible rfl)
 simp only [Act.put, pa, pb, pc]
 refine lo 38 rfl ?_
 simp only [Act.put, pa, pb, pc]
 refine lo 39 rfl ?_
 simp only [Act.put, pa, pb, pc]
 refine lo 40 rfl ?_
 simp only [Act.put, pa, pb, pc]
 refine lo 41 rfl ?_
 simp only [Act.put, pa, pb, pc]
 refine lo 42 rfl ?_
 simp only [Act.put, pa, pb, pc]
 refine lo 43 rfl ?_
 simp only [Act.put, pa, pb, pc]
 refine lo 44 rfl ?_
 simp only [Act.put, pa, pb, pc]
 refine lo 45 rfl ?_
 simp only [Act.put, pa, pb, pc]
 refine lo 46 rfl ?_
 simp only [Act.put, pa, pb, pc]
 refine lo 47 rfl ?_
 simp only [Act.put, pa, pb, pc]
 refine lo 48 rfl ?_
 simp only [Act.put, pa, pb, pc]
 refine lo 49 rfl ?_
 simp only [Act.put, pa, pb, pc]
 refine lo 50 rfl ?_
 simp only [Act.put, pa, pb, pc]
 refine lo 51 rfl ?_
 simp only [Act.put, pa, pb, pc]
 refine lo 52 rfl ?_
 simp only [Act.put, pa, pb, pc]
 refine lv 53 rfl ?_; apply Exists.intro; refine ⟨fun w' hl => ?_, ?_⟩
 ·(go_simp; try with_reducible rfl)
 simp only [Act.put, pa, pb, pc]
 refine lv 54 rfl ?_; apply Exists.intro; refine ⟨fun w' hl => ?_, ?_⟩
 ·(go_simp; try with_reducible rfl)
 simp only [Act.put, pa, pb, pc]
 refine late_end (by kernel_rfl) (fun wn hl => ?_)
 have HR := Lib.hid (HR.out.later hl); have HB := Lib.hid (below_on HB.out hl); clear hl
 go_wp2_with fail
 go_ret
 exact ⟨by (rw [HS.out]; try rfl), HB.out⟩
set_option maxRecDepth 100000 in
set_option maxHeartbeats 1000000 in
theorem ps_13 (p : Nat → Int) (w : World) (hp : FitP p) (ha : argB p = true) (hD : TabDb w) (hL : TabLead w) (q0 : (p 83 == -1) = false) (qt : (p 78 == 1) = true) (q1 : (Int.tdiv (p 83) 8 == prkZ p) = true) (q2 : (p (1 + (p 83).toNat) == 0) = true) (q3 : (p (1 + (p 83 - pupZ p).toNat) == 0) = false) : Calls Tryz.prog 23 #[.agg (posA p)] w (BoL (pasB p) w) := by
 have HP := Lib.hid hp
 have HD := Lib.hid hD
 have HL := Lib.hid hL
 obtain ⟨c, hcc⟩ : ∃ c : Nat, p 78 = (c : Int) := Int.eq_ofNat_of_zero_le hp.turn.1
 have hc2 : c < 2 := by have := (argB_var ha).2.1; omega
 have HC := Lib.hid hc2
 have HC7 := Lib.hid (fun (W : World) (b : Nat) (h : VR W b p) => show W.cell? ⟨b, 78, none⟩ = some (.int .u8 (c : Int)) by rw [h.cell 78 (by decide), hcc]; rfl)
 obtain ⟨s, hs⟩ : ∃ s, p 83 = s := ⟨_, rfl⟩
 have hsr : -1 ≤ s ∧ s < 64 := by rw [← hs]; exact ⟨(argB_var ha).2.2.1, (argB_var ha).2.2.2.1⟩
 have ws : IntKind.i64.wrap s = s := IntWalk.i64_in _ (by omega)
 have HC83 := Lib.hid (fun (W : World) (b : Nat) (h : VR W b p) => show W.cell? ⟨b, 83, none⟩ = some (.int .i8 s) by rw [h.cell 83 (by decide), hs]; rfl)
 have h0 : (s == -1) = false := by rw [← hs]; exact q0
 have s0 : 0 ≤ s := by rw [beq_eq_false_iff_ne] at h0; omega
 obtain ⟨n, hn⟩ := Int.eq_ofNat_of_zero_le s0
 subst hn
 have hc78 : (p 78 == 1) = true := qt
 have hc1 : ((c : Int) == 1) = true := by rw [← hcc]; exact qt
 have hrk : prkZ p = 2 := by unfold prkZ; rw [qt]; rfl
 have hup : pupZ p = 8 := by unfold pupZ; rw [qt]; rfl
 have n64 : n < 64 := by omega
 have hn64 : (n : Int) < 64 := by omega
 have n0 : (0 : Int) ≤ (n : Int) := by omega
 have wq : IntKind.i64.wrap ((n : Int) / 8) = (n : Int) / 8 := IntWalk.i64_in _ (by omega)
 have htd : Int.tdiv (n : Int) 8 = (n : Int) / 8 := rfl
 have hr1 : (n : Int) / 8 = 2 := by rw [hs, hrk, htd, beq_iff_eq] at q1; exact q1
 obtain ⟨b, hb⟩ : ∃ b : Nat, (n : Int) - (8) = (b : Int) := ⟨((n : Int) - (8)).toNat, by omega⟩
 obtain ⟨a, hap⟩ : ∃ a : Nat, (n : Int) + (8) = (a : Int) := ⟨((n : Int) + (8)).toNat, by omega⟩
 have b64 : b < 64 := by omega
 have a64 : a < 64 := by omega
 have hb64 : (b : Int) < 64 := by omega
 have ha64 : (a : Int) < 64 := by omega
 have b0 : (0 : Int) ≤ (b : Int) := by omega
 have a0 : (0 : Int) ≤ (a : Int) := by omega
 have wb : IntKind.i64.wrap ((n : Int) - (8)) = (b : Int) := by rw [hb]; exact IntWalk.i64_in _ (by omega)
 have wa : IntKind.i64.wrap ((n : Int) + (8)) = (a : Int) := by rw [hap]; exact IntWalk.i64_in _ (by omega)
 obtain ⟨x, hx⟩ : ∃ x, p (1 + n) = x := ⟨_, rfl⟩
 obtain ⟨y, hy⟩ : ∃ y, p (1 + b) = y := ⟨_, rfl⟩
 obtain ⟨z, hz⟩ : ∃ z, p (1 + a) = z := ⟨_, rfl⟩
 have HCx := Lib.hid (fun (W : World) (k : Nat) (h : VR W k p) => show W.cell? ⟨k, 1 + n, none⟩ = some (.int .u8 x) by rw [h.cell (1 + n) (by omega), kAt_board (Nat.zero_le n) n64, hx])
 have HCy := Lib.hid (fun (W : World) (k : Nat) (h : VR W k p) => show W.cell? ⟨k, 1 + b, none⟩ = some (.int .u8 y) by rw [h.cell (1 + b) (by omega), kAt_board (Nat.zero_le b) b64, hy])
 have HCz := Lib.hid (fun (W : World) (k : Nat) (h : VR W k p) => show W.cell? ⟨k, 1 + a, none⟩ = some (.int .u8 z) by rw [h.cell (1 + a) (by omega), kAt_board (Nat.zero_le a) a64, hz])
 have e1 : p (1 + (p 83).toNat) = x := by rw [hs]; exact hx
 have e2 : p (1 + (p 83 - pupZ p).toNat) = y := by rw [hs, hup, hb]; exact hy
 have e3 : p (1 + (p 83 + pupZ p).toNat) = z := by rw [hs, hup, hap]; exact hz
 obtain ⟨mk, hmk⟩ : ∃ m, mkZ (1 - (c : Int)) 1 = m := ⟨_, rfl⟩
 have HMk := Lib.hid hmk
 have hmk2 : mkZ (1 - p 78) 1 = mk := by rw [hcc]; exact hmk
 have g1 : ((n : Int) / 8 == 2) = true := by rw [hr1]; rfl
 have g2 : (x == 0) = true := by rw [← e1]; exact q2
 have g3 : (y == 0) = false := by rw [← e2]; exact q3
 have HS := Lib.hid (show pasB p = false by unfold pasB; rw [q0, q1, q2, q3]; rfl)
 clear hp ha hD hL hs hsr q0 qt hc78 hrk hup n64 htd hcc hc2 q1 q2 q3 hr1 hb hap b64 a64 hx hy hz e1 e2 e3 hmk hmk2
 have HB := Lib.hid (Below.refl w.heap.size w)
 go_enter Tryz.func23, Tryz.ntmps23
 go_wp2_with (first
   | (refine va_box rfl _ rfl p rfl ?_; intro b1 w1 N R; have HB := Lib.hid (HB.out.trans (N.below.mono HB.out.size)); have HR := Lib.hid R; clear N R)
   | (refine step_get rfl 26 _ rfl b1 83 rfl Tryz.underlying26 rfl (.int .i8 (n : Int)) ?_ ?_; exact HC83.out _ _ HR.out)
   | (refine step_get rfl 5 _ rfl b1 78 rfl Tryz.underlying5 rfl (.int .u8 (c : Int)) ?_ ?_; exact HC7.out _ _ HR.out))
 refine late_begin 55 (by kernel_rfl) ?_
 refine lv 0 rfl ?_; apply Exists.intro; refine ⟨fun w' hl => ?_, ?_⟩
 ·(go_simp; try with_reducible rfl)
 simp only [Act.put, pa, pb, pc]
 refine lv 1 rfl ⟨.int .i64 ((n : Int) / 8), fun w' hl => ?_, ?_⟩
 ·(go_simp; try simp [wq])
 simp only [Act.put, pa, pb, pc]
 refine lv 2 rfl ?_; apply Exists.intro; refine ⟨fun w' hl => ?_, ?_⟩
 ·(go_simp; try with_reducible rfl)
 simp only [Act.put, pa, pb, pc]
 refine lv 3 rfl ⟨.bool true, fun w' hl => ?_, ?_⟩
 ·(go_simp; try simp [g1])
 simp only [Act.put, pa, pb, pc]
 refine lv 4 rfl ?_; apply Exists.intro; refine ⟨fun w' hl => ?_, ?_⟩
 ·(go_simp; try with_reducible rfl)
 simp only [Act.put, pa, pb, pc]
 refine lv 5 rfl ?_; apply Exists.intro; refine ⟨fun w' hl => ?_, ?_⟩
 ·(go_simp; try with_reducible rfl)
 simp only [Act.put, pa, pb, pc]
 refine lv 6 rfl ?_; apply Exists.intro; refine ⟨fun w' hl => ?_, ?_⟩
 ·(go_simp; try with_reducible rfl)
 simp only [Act.put, pa, pb, pc]
 refine lv 7 rfl ?_; apply Exists.intro; refine ⟨fun w' hl => ?_, ?_⟩
 ·(go_simp; try with_reducible rfl)
 simp only [Act.put, pa, pb, pc]
 refine lv 8 rfl ?_; apply Exists.intro; refine ⟨fun w' hl => ?_, ?_⟩
 ·(go_simp; try with_reducible rfl)
 simp only [Act.put, pa, pb, pc]
 refine lv 9 rfl ⟨_, fun w' hl => (run_get 5 _ rfl b1 (1 + n) rfl Tryz.underlying5 rfl (.int .u8 x) (HCx.out _ _ (HR.out.later hl))), ?_⟩
 simp only [Act.put, pa, pb, pc]
 refine lv 10 rfl ⟨.bool true, fun w' hl => ?_, ?_⟩
 ·(go_simp; try simp [g2])
 simp only [Act.put, pa, pb, pc]
 refine lv 11 rfl ?_; apply Exists.intro; refine ⟨fun w' hl => ?_, ?_⟩
 ·(go_simp; try with_reducible rfl)
 simp only [Act.put, pa, pb, pc]
 refine lv 12 rfl ?_; apply Exists.intro; refine ⟨fun w' hl => ?_, ?_⟩
 ·(go_simp; try with_reducible rfl)
 simp only [Act.put, pa, pb, pc]
 refine lv 13 rfl ?_; apply Exists.intro; refine ⟨fun w' hl => ?_, ?_⟩
 ·(go_simp; try with_reducible rfl)
 simp only [Act.put, pa, pb, pc]
 refine lv 14 rfl ?_; apply Exists.intro; refine ⟨fun w' hl => ?_, ?_⟩
 ·(go_simp; try with_reducible rfl)
 simp only [Act.put, pa, pb, pc]
 refine lv 15 rfl ⟨.int .i64 (b : Int), fun w' hl => ?_, ?_⟩
 ·(go_simp; try simp [wb])
 simp only [Act.put, pa, pb, pc]
 refine lv 16 rfl ?_; apply Exists.intro; refine ⟨fun w' hl => ?_, ?_⟩
 ·(go_simp; try with_reducible rfl)
 simp only [Act.put, pa, pb, pc]
 refine lv 17 rfl ?_; apply Exists.intro; refine ⟨fun w' hl => ?_, ?_⟩
 ·(go_simp; try with_reducible rfl)
 simp only [Act.put, pa, pb, pc]
 refine lv 18 rfl ?_; apply Exists.intro; refine ⟨fun w' hl => ?_, ?_⟩
 ·(go_simp; try with_reducible rfl)
 simp only [Act.put, pa, pb, pc]
 refine lv 19 rfl ⟨_, fun w' hl => (run_get 5 _ rfl b1 (1 + b) rfl Tryz.underlying5 rfl (.int .u8 y) (HCy.out _ _ (HR.out.later hl))), ?_⟩
 simp only [Act.put, pa, pb, pc]
 refine lv 20 rfl ⟨.bool false, fun w' hl => ?_, ?_⟩
 ·(go_simp; try simp [g3])
 simp only [Act.put, pa, pb, pc]
 refine lv 21 rfl ?_; apply Exists.intro; refine ⟨fun w' hl => ?_, ?_⟩
 ·(go_simp; try with_reducible rfl)
 simp only [Act.put, pa, pb, pc]
 refine lv 22 rfl ?_; apply Exists.intro; refine ⟨fun w' hl => ?_, ?_⟩
 ·(go_simp; try with_reducible rfl)
 simp only [Act.put, pa, pb, pc]
 refine lo 23 rfl ?_
 simp only [Act.put, pa, pb, pc]
 refine lo 24 rfl ?_
 simp only [Act.put, pa, pb, pc]
 refine lo 25 rfl ?_
 simp only [Act.put, pa, pb, pc]
 refine lo 26 rfl ?_
 simp only [Act.put, pa, pb, pc]
 refine lo 27 rfl ?_
 simp only [Act.put, pa, pb, pc]
 refine lo 28 rfl ?_
 simp only [Act.put, pa, pb, pc]
 refine lo 29 rfl ?_
 simp only [Act.put, pa, pb, pc]
 refine lo 30 rfl ?_
 simp only [Act.put, pa, pb, pc]
 refine lo 31 rfl ?_
 simp only [Act.put, pa, pb, pc]
 refine lo 32 rfl ?_
 simp only [Act.put, pa, pb, pc]
 refine lo 33 rfl ?_
 simp only [Act.put, pa, pb, pc]
 refine lo 34 rfl ?_
 simp only [Act.put, pa, pb, pc]
 refine lo 35 rfl ?_
 simp only [Act.put, pa, pb, pc]
 refine lv 36 rfl ?_; apply Exists.intro; refine ⟨fun w' hl => ?_, ?_⟩
 ·(go_simp; try with_reducible rfl)
 simp only [Act.put, pa, pb, pc]
 refine lv 37 rfl ?_; apply Exists.intro; refine ⟨fun w' hl => ?_, ?_⟩
 ·(go_simp; try with_reducible rfl)
 simp only [Act.put, pa, pb, pc]
 refine lo 38 rfl ?_
 simp only [Act.put, pa, pb, pc]
 refine lo 39 rfl ?_
 simp only [Act.put, pa, pb, pc]
 refine lo 40 rfl ?_
 simp only [Act.put, pa, pb, pc]
 refine lo 41 rfl ?_
 simp only [Act.put, pa, pb, pc]
 refine lo 42 rfl ?_
 simp only [Act.put, pa, pb, pc]
 refine lo 43 rfl ?_
 simp only [Act.put, pa, pb, pc]
 refine lo 44 rfl ?_
 simp only [Act.put, pa, pb, pc]
 refine lo 45 rfl ?_
 simp only [Act.put, pa, pb, pc]
 refine lo 46 rfl ?_
 simp only [Act.put, pa, pb, pc]
 refine lo 47 rfl ?_
 simp only [Act.put, pa, pb, pc]
 refine lo 48 rfl ?_
 simp only [Act.put, pa, pb, pc]
 refine lo 49 rfl ?_
 simp only [Act.put, pa, pb, pc]
 refine lo 50 rfl ?_
 simp only [Act.put, pa, pb, pc]
 refine lo 51 rfl ?_
 simp only [Act.put, pa, pb, pc]
 refine lo 52 rfl ?_
 simp only [Act.put, pa, pb, pc]
 refine lv 53 rfl ?_; apply Exists.intro; refine ⟨fun w' hl => ?_, ?_⟩
 ·(go_simp; try with_reducible rfl)
 simp only [Act.put, pa, pb, pc]
 refine lv 54 rfl ?_; apply Exists.intro; refine ⟨fun w' hl => ?_, ?_⟩
 ·(go_simp; try with_reducible rfl)
 simp only [Act.put, pa, pb, pc]
 refine late_end (by kernel_rfl) (fun wn hl => ?_)
 have HR := Lib.hid (HR.out.later hl); have HB := Lib.hid (below_on HB.out hl); clear hl
 go_wp2_with fail
 go_ret
 exact ⟨by (rw [HS.out]; try rfl), HB.out⟩
set_option maxRecDepth 100000 in
set_option maxHeartbeats 1000000 in
theorem ps_14 (p : Nat → Int) (w : World) (hp : FitP p) (ha : argB p = true) (hD : TabDb w) (hL : TabLead w) (q0 : (p 83 == -1) = false) (qt : (p 78 == 1) = true) (q1 : (Int.tdiv (p 83) 8 == prkZ p) = true) (q2 : (p (1 + (p 83).toNat) == 0) = true) (q3 : (p (1 + (p 83 - pupZ p).toNat) == 0) = true) (q4 : (p (1 + (p 83 + pupZ p).toNat) == mkZ (1 - p 78) 1) = false) : Calls Tryz.prog 23 #[.agg (posA p)] w (BoL (pasB p) w) := by
 have HP := Lib.hid hp
 have HD := Lib.hid hD
 have HL := Lib.hid hL
 obtain ⟨c, hcc⟩ : ∃ c : Nat, p 78 = (c : Int) := Int.eq_ofNat_of_zero_le hp.turn.1
 have hc2 : c < 2 := by have := (argB_var ha).2.1; omega
 have HC := Lib.hid hc2
 have HC7 := Lib.hid (fun (W : World) (b : Nat) (h : VR W b p) => show W.cell? ⟨b, 78, none⟩ = some (.int .u8 (c : Int)) by rw [h.cell 78 (by decide), hcc]; rfl)
 obtain ⟨s, hs⟩ : ∃ s, p 83 = s := ⟨_, rfl⟩
 have hsr : -1 ≤ s ∧ s < 64 := by rw [← hs]; exact ⟨(argB_var ha).2.2.1, (argB_var ha).2.2.2.1⟩
 have ws : IntKind.i64.wrap s = s := IntWalk.i64_in _ (by omega)
 have HC83 := Lib.hid (fun (W : World) (b : Nat) (h : VR W b p) => show W.cell? ⟨b, 83, none⟩ = some (.int .i8 s) by rw [h.cell 83 (by decide), hs]; rfl)
 have h0 : (s == -1) = false := by rw [← hs]; exact q0
 have s0 : 0 ≤ s := by rw [beq_eq_false_iff_ne] at h0; omega
 obtain ⟨n, hn⟩ := Int.eq_ofNat_of_zero_le s0
 subst hn
 have hc78 : (p 78 == 1) = true := qt
 have hc1 : ((c : Int) == 1) = true := by rw [← hcc]; exact qt
 have hrk : prkZ p = 2 := by unfold prkZ; rw [qt]; rfl
 have hup : pupZ p = 8 := by unfold pupZ; rw [qt]; rfl
 have n64 : n < 64 := by omega
 have hn64 : (n : Int) < 64 := by omega
 have n0 : (0 : Int) ≤ (n : Int) := by omega
 have wq : IntKind.i64.wrap ((n : Int) / 8) = (n : Int) / 8 := IntWalk.i64_in _ (by omega)
 have htd : Int.tdiv (n : Int) 8 = (n : Int) / 8 := rfl
 have hr1 : (n : Int) / 8 = 2 := by rw [hs, hrk, htd, beq_iff_eq] at q1; exact q1
 obtain ⟨b, hb⟩ : ∃ b : Nat, (n : Int) - (8) = (b : Int) := ⟨((n : Int) - (8)).toNat, by omega⟩
 obtain ⟨a, hap⟩ : ∃ a : Nat, (n : Int) + (8) = (a : Int) := ⟨((n : Int) + (8)).toNat, by omega⟩
 have b64 : b < 64 := by omega
 have a64 : a < 64 := by omega
 have hb64 : (b : Int) < 64 := by omega
 have ha64 : (a : Int) < 64 := by omega
 have b0 : (0 : Int) ≤ (b : Int) := by omega
 have a0 : (0 : Int) ≤ (a : Int) := by omega
 have wb : IntKind.i64.wrap ((n : Int) - (8)) = (b : Int) := by rw [hb]; exact IntWalk.i64_in _ (by omega)
 have wa : IntKind.i64.wrap ((n : Int) + (8)) = (a : Int) := by rw [hap]; exact IntWalk.i64_in _ (by omega)
 obtain ⟨x, hx⟩ : ∃ x, p (1 + n) = x := ⟨_, rfl⟩
 obtain ⟨y, hy⟩ : ∃ y, p (1 + b) = y := ⟨_, rfl⟩
 obtain ⟨z, hz⟩ : ∃ z, p (1 + a) = z := ⟨_, rfl⟩
 have HCx := Lib.hid (fun (W : World) (k : Nat) (h : VR W k p) => show W.cell? ⟨k, 1 + n, none⟩ = some (.int .u8 x) by rw [h.cell (1 + n) (by omega), kAt_board (Nat.zero_le n) n64, hx])
 have HCy := Lib.hid (fun (W : World) (k : Nat) (h : VR W k p) => show W.cell? ⟨k, 1 + b, none⟩ = some (.int .u8 y) by rw [h.cell (1 + b) (by omega), kAt_board (Nat.zero_le b) b64, hy])
 have HCz := Lib.hid (fun (W : World) (k : Nat) (h : VR W k p) => show W.cell? ⟨k, 1 + a, none⟩ = some (.int .u8 z) by rw [h.cell (1 + a) (by omega), kAt_board (Nat.zero_le a) a64, hz])
 have e1 : p (1 + (p 83).toNat) = x := by rw [hs]; exact hx
 have e2 : p (1 + (p 83 - pupZ p).toNat) = y := by rw [hs, hup, hb]; exact hy
 have e3 : p (1 + (p 83 + pupZ p).toNat) = z := by rw [hs, hup, hap]; exact hz
 obtain ⟨mk, hmk⟩ : ∃ m, mkZ (1 - (c : Int)) 1 = m := ⟨_, rfl⟩
 have HMk := Lib.hid hmk
 have hmk2 : mkZ (1 - p 78) 1 = mk := by rw [hcc]; exact hmk
 have g1 : ((n : Int) / 8 == 2) = true := by rw [hr1]; rfl
 have g2 : (x == 0) = true := by rw [← e1]; exact q2
 have g3 : (y == 0) = true := by rw [← e2]; exact q3
 have g4 : (z == mk) = false := by rw [← e3, ← hmk2]; exact q4
 have HS := Lib.hid (show pasB p = false by unfold pasB; rw [q0, q1, q2, q3, q4]; rfl)
 clear hp ha hD hL hs hsr q0 qt hc78 hrk hup n64 htd hcc hc2 q1 q2 q3 q4 hr1 hb hap b64 a64 hx hy hz e1 e2 e3 hmk hmk2
 have HB := Lib.hid (Below.refl w.heap.size w)
 go_enter Tryz.func23, Tryz.ntmps23
 go_wp2_with (first
   | (refine va_box rfl _ rfl p rfl ?_; intro b1 w1 N R; have HB := Lib.hid (HB.out.trans (N.below.mono HB.out.size)); have HR := Lib.hid R; clear N R)
   | (refine step_get rfl 26 _ rfl b1 83 rfl Tryz.underlying26 rfl (.int .i8 (n : Int)) ?_ ?_; exact HC83.out _ _ HR.out)
   | (refine step_get rfl 5 _ rfl b1 78 rfl Tryz.underlying5 rfl (.int .u8 (c : Int)) ?_ ?_; exact HC7.out _ _ HR.out))
 refine late_begin 55 (by kernel_rfl) ?_
 refine lv 0 rfl ?_; apply Exists.intro; refine ⟨fun w' hl => ?_, ?_⟩
 ·(go_simp; try with_reducible rfl)
 simp only [Act.put, pa, pb, pc]
 refine lv 1 rfl ⟨.int .i64 ((n : Int) / 8), fun w' hl => ?_, ?_⟩
 ·(go_simp; try simp [wq])
 simp only [Act.put, pa, pb, pc]
 refine lv 2 rfl ?_; apply Exists.intro; refine ⟨fun w' hl => ?_, ?_⟩
 ·(go_simp; try with_reducible rfl)
 simp only [Act.put, pa, pb, pc]
 refine lv 3 rfl ⟨.bool true, fun w' hl => ?_, ?_⟩
 ·(go_simp; try simp [g1])
 simp only [Act.put, pa, pb, pc]
 refine lv 4 rfl ?_; apply Exists.intro; refine ⟨fun w' hl => ?_, ?_⟩
 ·(go_simp; try with_reducible rfl)
 simp only [Act.put, pa, pb, pc]
 refine lv 5 rfl ?_; apply Exists.intro; refine ⟨fun w' hl => ?_, ?_⟩
 ·(go_simp; try with_reducible rfl)
 simp only [Act.put, pa, pb, pc]
 refine lv 6 rfl ?_; apply Exists.intro; refine ⟨fun w' hl => ?_, ?_⟩
 ·(go_simp; try with_reducible rfl)
 simp only [Act.put, pa, pb, pc]
 refine lv 7 rfl ?_; apply Exists.intro; refine ⟨fun w' hl => ?_, ?_⟩
 ·(go_simp; try with_reducible rfl)
 simp only [Act.put, pa, pb, pc]
 refine lv 8 rfl ?_; apply Exists.intro; refine ⟨fun w' hl => ?_, ?_⟩
 ·(go_simp; try with_reducible rfl)
 simp only [Act.put, pa, pb, pc]
 refine lv 9 rfl ⟨_, fun w' hl => (run_get 5 _ rfl b1 (1 + n) rfl Tryz.underlying5 rfl (.int .u8 x) (HCx.out _ _ (HR.out.later hl))), ?_⟩
 simp only [Act.put, pa, pb, pc]
 refine lv 10 rfl ⟨.bool true, fun w' hl => ?_, ?_⟩
 ·(go_simp; try simp [g2])
 simp only [Act.put, pa, pb, pc]
 refine lv 11 rfl ?_; apply Exists.intro; refine ⟨fun w' hl => ?_, ?_⟩
 ·(go_simp; try with_reducible rfl)
 simp only [Act.put, pa, pb, pc]
 refine lv 12 rfl ?_; apply Exists.intro; refine ⟨fun w' hl => ?_, ?_⟩
 ·(go_simp; try with_reducible rfl)
 simp only [Act.put, pa, pb, pc]
 refine lv 13 rfl ?_; apply Exists.intro; refine ⟨fun w' hl => ?_, ?_⟩
 ·(go_simp; try with_reducible rfl)
 simp only [Act.put, pa, pb, pc]
 refine lv 14 rfl ?_; apply Exists.intro; refine ⟨fun w' hl => ?_, ?_⟩
 ·(go_simp; try with_reducible rfl)
 simp only [Act.put, pa, pb, pc]
 refine lv 15 rfl ⟨.int .i64 (b : Int), fun w' hl => ?_, ?_⟩
 ·(go_simp; try simp [wb])
 simp only [Act.put, pa, pb, pc]
 refine lv 16 rfl ?_; apply Exists.intro; refine ⟨fun w' hl => ?_, ?_⟩
 ·(go_simp; try with_reducible rfl)
 simp only [Act.put, pa, pb, pc]
 refine lv 17 rfl ?_; apply Exists.intro; refine ⟨fun w' hl => ?_, ?_⟩
 ·(go_simp; try with_reducible rfl)
 simp only [Act.put, pa, pb, pc]
 refine lv 18 rfl ?_; apply Exists.intro; refine ⟨fun w' hl => ?_, ?_⟩
 ·(go_simp; try with_reducible rfl)
 simp only [Act.put, pa, pb, pc]
 refine lv 19 rfl ⟨_, fun w' hl => (run_get 5 _ rfl b1 (1 + b) rfl Tryz.underlying5 rfl (.int .u8 y) (HCy.out _ _ (HR.out.later hl))), ?_⟩
 simp only [Act.put, pa, pb, pc]
 refine lv 20 rfl ⟨.bool true, fun w' hl => ?_, ?_⟩
 ·(go_simp; try simp [g3])
 simp only [Act.put, pa, pb, pc]
 refine lv 21 rfl ?_; apply Exists.intro; refine ⟨fun w' hl => ?_, ?_⟩
 ·(go_simp; try with_reducible rfl)
 simp only [Act.put, pa, pb, pc]
 refine lv 22 rfl ?_; apply Exists.intro; refine ⟨fun w' hl => ?_, ?_⟩
 ·(go_simp; try with_reducible rfl)
 simp only [Act.put, pa, pb, pc]
 refine lv 23 rfl ?_; apply Exists.intro; refine ⟨fun w' hl => ?_, ?_⟩
 ·(go_simp; try with_reducible rfl)
 simp only [Act.put, pa, pb, pc]
 refine lv 24 rfl ?_; apply Exists.intro; refine ⟨fun w' hl => ?_, ?_⟩
 ·(go_simp; try with_reducible rfl)
 simp only [Act.put, pa, pb, pc]
 refine lv 25 rfl ⟨.int .i64 (a : Int), fun w' hl => ?_, ?_⟩
 ·(go_simp; try simp [wa])
 simp only [Act.put, pa, pb, pc]
 refine lv 26 rfl ?_; apply Exists.intro; refine ⟨fun w' hl => ?_, ?_⟩
 ·(go_simp; try with_reducible rfl)
 simp only [Act.put, pa, pb, pc]
 refine lv 27 rfl ?_; apply Exists.intro; refine ⟨fun w' hl => ?_, ?_⟩
 ·(go_simp; try with_reducible rfl)
 simp only [Act.put, pa, pb, pc]
 refine lv 28 rfl ?_; apply Exists.intro; refine ⟨fun w' hl => ?_, ?_⟩
 ·(go_simp; try with_reducible rfl)
 simp only [Act.put, pa, pb, pc]
 refine lv 29 rfl ⟨_, fun w' hl => (run_get 5 _ rfl b1 (1 + a) rfl Tryz.underlying5 rfl (.int .u8 z) (HCz.out _ _ (HR.out.later hl))), ?_⟩
 simp only [Act.put, pa, pb, pc]
 refine lv 30 rfl ?_; apply Exists.intro; refine ⟨fun w' hl => ?_, ?_⟩
 ·(go_simp; try with_reducible rfl)
 simp only [Act.put, pa, pb, pc]
 refine lv 31 rfl ?_; apply Exists.intro; refine ⟨fun w' hl => ?_, ?_⟩
 ·(go_simp; try with_reducible rfl)
 simp only [Act.put, pa, pb, pc]
 refine lv 32 rfl ⟨_, fun w' hl => (run_get 5 _ rfl b1 78 rfl Tryz.underlying5 rfl (.int .u8 (c : Int)) (HC7.out _ _ (HR.out.later hl))), ?_⟩
 simp only [Act.put, pa, pb, pc]
 refine late_one 33 (by kernel_rfl) (by kernel_rfl) (fun o ho => ?_)
 simp only [qa, qb, qc, qd] at ho; subst ho
 refine ⟨by kernel_rfl, fun wn hl K hK => ?_⟩
 have HR := Lib.hid (HR.out.later hl); have HB := Lib.hid (below_on HB.out hl); clear hl
 refine wp_enter _ _ (by go_simp; exact ⟨rfl, rfl⟩) ?_
 refine (voth_any c HC.out _).mono ?_; rintro e wm ⟨rfl, rfl⟩; refine ⟨_, rfl, ?_⟩
 refine hK.out _ _ (Later.refl _) ?_
 clear hK K
 simp only [Act.put, pa, pb, pc]
 refine late_one 34 (by kernel_rfl) (by kernel_rfl) (fun o ho => ?_)
 simp only [qa, qb, qc, qd] at ho; subst ho
 refine ⟨by kernel_rfl, fun wn hl K hK => ?_⟩
 have HR := Lib.hid (HR.out.later hl); have HB := Lib.hid (below_on HB.out hl); clear hl
 refine wp_enter _ _ (by go_simp; exact ⟨rfl, rfl⟩) ?_
 refine (mk_any (1 - (c : Int)) 1 _ (by have := HC.out; omega) (by decide)).mono ?_; rintro e wm ⟨rfl, rfl⟩; refine ⟨_, rfl, ?_⟩
 rw [HMk.out]
 refine hK.out _ _ (Later.refl _) ?_
 clear hK K
 simp only [Act.put, pa, pb, pc]
 refine lv 35 rfl ⟨.bool false, fun w' hl => ?_, ?_⟩
 ·(go_simp; try simp [g4])
 simp only [Act.put, pa, pb, pc]
 refine lv 36 rfl ?_; apply Exists.intro; refine ⟨fun w' hl => ?_, ?_⟩
 ·(go_simp; try with_reducible rfl)
 simp only [Act.put, pa, pb, pc]
 refine lv 37 rfl ?_; apply Exists.intro; refine ⟨fun w' hl => ?_, ?_⟩
 ·(go_simp; try with_reducible rfl)
 simp only [Act.put, pa, pb, pc]
 refine lo 38 rfl ?_
 simp only [Act.put, pa, pb, pc]
 refine lo 39 rfl ?_
 simp only [Act.put, pa, pb, pc]
 refine lo 40 rfl ?_
 simp only [Act.put, pa, pb, pc]
 refine lo 41 rfl ?_
 simp only [Act.put, pa, pb, pc]
 refine lo 42 rfl ?_
 simp only [Act.put, pa, pb, pc]
 refine lo 43 rfl ?_
 simp only [Act.put, pa, pb, pc]
 refine lo 44 rfl ?_
 simp only [Act.put, pa, pb, pc]
 refine lo 45 rfl ?_
 simp only [Act.put, pa, pb, pc]
 refine lo 46 rfl ?_
 simp only [Act.put, pa, pb, pc]
 refine lo 47 rfl ?_
 simp only [Act.put, pa, pb, pc]
 refine lo 48 rfl ?_
 simp only [Act.put, pa, pb, pc]
 refine lo 49 rfl ?_
 simp only [Act.put, pa, pb, pc]
 refine lo 50 rfl ?_
 simp only [Act.put, pa, pb, pc]
 refine lo 51 rfl ?_
 simp only [Act.put, pa, pb, pc]
 refine lo 52 rfl ?_
 simp only [Act.put, pa, pb, pc]
 refine lv 53 rfl ?_; apply Exists.intro; refine ⟨fun w' hl => ?_, ?_⟩
 ·(go_simp; try with_reducible rfl)
 simp only [Act.put, pa, pb, pc]
 refine lv 54 rfl ?_; apply Exists.intro; refine ⟨fun w' hl => ?_, ?_⟩
 ·(go_simp; try with_reducible rfl)
 simp only [Act.put, pa, pb, pc]
 refine late_end (by kernel_rfl) (fun wn hl => ?_)
 have HR := Lib.hid (HR.out.later hl); have HB := Lib.hid (below_on HB.out hl); clear hl
 go_wp2_with fail
 go_ret
 exact ⟨by (rw [HS.out]; try rfl), HB.out⟩
set_option maxRecDepth 100000 in
set_option maxHeartbeats 1000000 in
theorem ps_15 (p : Nat → Int) (w : World) (hp : FitP p) (ha : argB p = true) (hD : TabDb w) (hL : TabLead w) (q0 : (p 83 == -1) = false) (qt : (p 78 == 1) = true) (q1 : (Int.tdiv (p 83) 8 == prkZ p) = true) (q2 : (p (1 + (p 83).toNat) == 0) = true) (q3 : (p (1 + (p 83 - pupZ p).toNat) == 0) = true) (q4 : (p (1 + (p 83 + pupZ p).toNat) == mkZ (1 - p 78) 1) = true)  : Calls Tryz.prog 23 #[.agg (posA p)] w (BoL (pasB p) w) := by
 have HP := Lib.hid hp
 have HD := Lib.hid hD
 have HL := Lib.hid hL
 obtain ⟨c, hcc⟩ : ∃ c : Nat, p 78 = (c : Int) := Int.eq_ofNat_of_zero_le hp.turn.1
 have hc2 : c < 2 := by have := (argB_var ha).2.1; omega
 have HC := Lib.hid hc2
 have HC7 := Lib.hid (fun (W : World) (b : Nat) (h : VR W b p) => show W.cell? ⟨b, 78, none⟩ = some (.int .u8 (c : Int)) by rw [h.cell 78 (by decide), hcc]; rfl)
 obtain ⟨s, hs⟩ : ∃ s, p 83 = s := ⟨_, rfl⟩
 have hsr : -1 ≤ s ∧ s < 64 := by rw [← hs]; exact ⟨(argB_var ha).2.2.1, (argB_var ha).2.2.2.1⟩
 have ws : IntKind.i64.wrap s = s := IntWalk.i64_in _ (by omega)
 have HC83 := Lib.hid (fun (W : World) (b : Nat) (h : VR W b p) => show W.cell? ⟨b, 83, none⟩ = some (.int .i8 s) by rw [h.cell 83 (by decide), hs]; rfl)
 have h0 : (s == -1) = false := by rw [← hs]; exact q0
 have s0 : 0 ≤ s := by rw [beq_eq_false_iff_ne] at h0; omega
 obtain ⟨n, hn⟩ := Int.eq_ofNat_of_zero_le s0
 subst hn
 have hc78 : (p 78 == 1) = true := qt
 have hc1 : ((c : Int) == 1) = true := by rw [← hcc]; exact qt
 have hrk : prkZ p = 2 := by unfold prkZ; rw [qt]; rfl
 have hup : pupZ p = 8 := by unfold pupZ; rw [qt]; rfl
 have n64 : n < 64 := by omega
 have hn64 : (n : Int) < 64 := by omega
 have n0 : (0 : Int) ≤ (n : Int) := by omega
 have wq : IntKind.i64.wrap ((n : Int) / 8) = (n : Int) / 8 := IntWalk.i64_in _ (by omega)
 have htd : Int.tdiv (n : Int) 8 = (n : Int) / 8 := rfl
 have hr1 : (n : Int) / 8 = 2 := by rw [hs, hrk, htd, beq_iff_eq] at q1; exact q1
 obtain ⟨b, hb⟩ : ∃ b : Nat, (n : Int) - (8) = (b : Int) := ⟨((n : Int) - (8)).toNat, by omega⟩
 obtain ⟨a, hap⟩ : ∃ a : Nat, (n : Int) + (8) = (a : Int) := ⟨((n : Int) + (8)).toNat, by omega⟩
 have b64 : b < 64 := by omega
 have a64 : a < 64 := by omega
 have hb64 : (b : Int) < 64 := by omega
 have ha64 : (a : Int) < 64 := by omega
 have b0 : (0 : Int) ≤ (b : Int) := by omega
 have a0 : (0 : Int) ≤ (a : Int) := by omega
 have wb : IntKind.i64.wrap ((n : Int) - (8)) = (b : Int) := by rw [hb]; exact IntWalk.i64_in _ (by omega)
 have wa : IntKind.i64.wrap ((n : Int) + (8)) = (a : Int) := by rw [hap]; exact IntWalk.i64_in _ (by omega)
 obtain ⟨x, hx⟩ : ∃ x, p (1 + n) = x := ⟨_, rfl⟩
 obtain ⟨y, hy⟩ : ∃ y, p (1 + b) = y := ⟨_, rfl⟩
 obtain ⟨z, hz⟩ : ∃ z, p (1 + a) = z := ⟨_, rfl⟩
 have HCx := Lib.hid (fun (W : World) (k : Nat) (h : VR W k p) => show W.cell? ⟨k, 1 + n, none⟩ = some (.int .u8 x) by rw [h.cell (1 + n) (by omega), kAt_board (Nat.zero_le n) n64, hx])
 have HCy := Lib.hid (fun (W : World) (k : Nat) (h : VR W k p) => show W.cell? ⟨k, 1 + b, none⟩ = some (.int .u8 y) by rw [h.cell (1 + b) (by omega), kAt_board (Nat.zero_le b) b64, hy])
 have HCz := Lib.hid (fun (W : World) (k : Nat) (h : VR W k p) => show W.cell? ⟨k, 1 + a, none⟩ = some (.int .u8 z) by rw [h.cell (1 + a) (by omega), kAt_board (Nat.zero_le a) a64, hz])
 have e1 : p (1 + (p 83).toNat) = x := by rw [hs]; exact hx
 have e2 : p (1 + (p 83 - pupZ p).toNat) = y := by rw [hs, hup, hb]; exact hy
 have e3 : p (1 + (p 83 + pupZ p).toNat) = z := by rw [hs, hup, hap]; exact hz
 obtain ⟨mk, hmk⟩ : ∃ m, mkZ (1 - (c : Int)) 1 = m := ⟨_, rfl⟩
 have HMk := Lib.hid hmk
 have hmk2 : mkZ (1 - p 78) 1 = mk := by rw [hcc]; exact hmk
 have g1 : ((n : Int) / 8 == 2) = true := by rw [hr1]; rfl
 have g2 : (x == 0) = true := by rw [← e1]; exact q2
 have g3 : (y == 0) = true := by rw [← e2]; exact q3
 have g4 : (z == mk) = true := by rw [← e3, ← hmk2]; exact q4
 obtain ⟨by', hby⟩ : ∃ m, byN p (n : Int) (c : Int) = m := ⟨_, rfl⟩
 obtain ⟨of', hof⟩ : ∃ m, ofN p (c : Int) 1 = m := ⟨_, rfl⟩
 have HBy := Lib.hid hby
 have HOf := Lib.hid hof
 have hbl : by' < W64 := by rw [← hby]; exact byN_lt _ _ _
 have hol : of' < W64 := by rw [← hof]; exact ofN_lt _ _ _
 have hand : bits .and .u64 (by' : Int) (of' : Int) = ((by' &&& of' : Nat) : Int) := and_nat hbl hol
 obtain ⟨q, hq⟩ : ∃ q, (by' &&& of' != 0) = q := ⟨_, rfl⟩
 have g5 : ((((by' &&& of' : Nat) : Int)) != 0) = q := by rw [bne_nat]; exact hq
 have HS := Lib.hid (show pasB p = q by unfold pasB; rw [q0, q1, q2, q3, q4, hs, hcc, hby, hof, hq]; rfl)
 clear hp ha hD hL hs hsr q0 qt hc78 hrk hup n64 htd hcc hc2 q1 q2 q3 q4 hr1 hb hap b64 a64 hx hy hz e1 e2 e3 hmk hmk2 hby hof hbl hol hq
 have HB := Lib.hid (Below.refl w.heap.size w)
 go_enter Tryz.func23, Tryz.ntmps23
 go_wp2_with (first
   | (refine va_box rfl _ rfl p rfl ?_; intro b1 w1 N R; have HB := Lib.hid (HB.out.trans (N.below.mono HB.out.size)); have HR := Lib.hid R; clear N R)
   | (refine step_get rfl 26 _ rfl b1 83 rfl Tryz.underlying26 rfl (.int .i8 (n : Int)) ?_ ?_; exact HC83.out _ _ HR.out)
   | (refine step_get rfl 5 _ rfl b1 78 rfl Tryz.underlying5 rfl (.int .u8 (c : Int)) ?_ ?_; exact HC7.out _ _ HR.out))
 refine late_begin 55 (by kernel_rfl) ?_
 refine lv 0 rfl ?_; apply Exists.intro; refine ⟨fun w' hl => ?_, ?_⟩
 ·(go_simp; try with_reducible rfl)
 simp only [Act.put, pa, pb, pc]
 refine lv 1 rfl ⟨.int .i64 ((n : Int) / 8), fun w' hl => ?_, ?_⟩
 ·(go_simp; try simp [wq])
 simp only [Act.put, pa, pb, pc]
 refine lv 2 rfl ?_; apply Exists.intro; refine ⟨fun w' hl => ?_, ?_⟩
 ·(go_simp; try with_reducible rfl)
 simp only [Act.put, pa, pb, pc]
 refine lv 3 rfl ⟨.bool true, fun w' hl => ?_, ?_⟩
 ·(go_simp; try simp [g1])
 simp only [Act.put, pa, pb, pc]
 refine lv 4 rfl ?_; apply Exists.intro; refine ⟨fun w' hl => ?_, ?_⟩
 ·(go_simp; try with_reducible rfl)
 simp only [Act.put, pa, pb, pc]
 refine lv 5 rfl ?_; apply Exists.intro; refine ⟨fun w' hl => ?_, ?_⟩
 ·(go_simp; try with_reducible rfl)
 simp only [Act.put, pa, pb, pc]
 refine lv 6 rfl ?_; apply Exists.intro; refine ⟨fun w' hl => ?_, ?_⟩
 ·(go_simp; try with_reducible rfl)
 simp only [Act.put, pa, pb, pc]
 refine lv 7 rfl ?_; apply Exists.intro; refine ⟨fun w' hl => ?_, ?_⟩
 ·(go_simp; try with_reducible rfl)
 simp only [Act.put, pa, pb, pc]
 refine lv 8 rfl ?_; apply Exists.intro; refine ⟨fun w' hl => ?_, ?_⟩
 ·(go_simp; try with_reducible rfl)
 simp only [Act.put, pa, pb, pc]
 refine lv 9 rfl ⟨_, fun w' hl => (run_get 5 _ rfl b1 (1 + n) rfl Tryz.underlying5 rfl (.int .u8 x) (HCx.out _ _ (HR.out.later hl))), ?_⟩
 simp only [Act.put, pa, pb, pc]
 refine lv 10 rfl ⟨.bool true, fun w' hl => ?_, ?_⟩
 ·(go_simp; try simp [g2])
 simp only [Act.put, pa, pb, pc]
 refine lv 11 rfl ?_; apply Exists.intro; refine ⟨fun w' hl => ?_, ?_⟩
 ·(go_simp; try with_reducible rfl)
 simp only [Act.put, pa, pb, pc]
 refine lv 12 rfl ?_; apply Exists.intro; refine ⟨fun w' hl => ?_, ?_⟩
 ·(go_simp; try with_reducible rfl)
 simp only [Act.put, pa, pb, pc]
 refine lv 13 rfl ?_; apply Exists.intro; refine ⟨fun w' hl => ?_, ?_⟩
 ·(go_simp; try with_reducible rfl)
 simp only [Act.put, pa, pb, pc]
 refine lv 14 rfl ?_; apply Exists.intro; refine ⟨fun w' hl => ?_, ?_⟩
 ·(go_simp; try with_reducible rfl)
 simp only [Act.put, pa, pb, pc]
 refine lv 15 rfl ⟨.int .i64 (b : Int), fun w' hl => ?_, ?_⟩
 ·(go_simp; try simp [wb])
 simp only [Act.put, pa, pb, pc]
 refine lv 16 rfl ?_; apply Exists.intro; refine ⟨fun w' hl => ?_, ?_⟩
 ·(go_simp; try with_reducible rfl)
 simp only [Act.put, pa, pb, pc]
 refine lv 17 rfl ?_; apply Exists.intro; refine ⟨fun w' hl => ?_, ?_⟩
 ·(go_simp; try with_reducible rfl)
 simp only [Act.put, pa, pb, pc]
 refine lv 18 rfl ?_; apply Exists.intro; refine ⟨fun w' hl => ?_, ?_⟩
 ·(go_simp; try with_reducible rfl)
 simp only [Act.put, pa, pb, pc]
 refine lv 19 rfl ⟨_, fun w' hl => (run_get 5 _ rfl b1 (1 + b) rfl Tryz.underlying5 rfl (.int .u8 y) (HCy.out _ _ (HR.out.later hl))), ?_⟩
 simp only [Act.put, pa, pb, pc]
 refine lv 20 rfl ⟨.bool true, fun w' hl => ?_, ?_⟩
 ·(go_simp; try simp [g3])
 simp only [Act.put, pa, pb, pc]
 refine lv 21 rfl ?_; apply Exists.intro; refine ⟨fun w' hl => ?_, ?_⟩
 ·(go_simp; try with_reducible rfl)
 simp only [Act.put, pa, pb, pc]
 refine lv 22 rfl ?_; apply Exists.intro; refine ⟨fun w' hl => ?_, ?_⟩
 ·(go_simp; try with_reducible rfl)
 simp only [Act.put, pa, pb, pc]
 refine lv 23 rfl ?_; apply Exists.intro; refine ⟨fun w' hl => ?_, ?_⟩
 ·(go_simp; try with_reducible rfl)
 simp only [Act.put, pa, pb, pc]
 refine lv 24 rfl ?_; apply Exists.intro; refine ⟨fun w' hl => ?_, ?_⟩
 ·(go_simp; try with_reducible rfl)
 simp only [Act.put, pa, pb, pc]
 refine lv 25 rfl ⟨.int .i64 (a : Int), fun w' hl => ?_, ?_⟩
 ·(go_simp; try simp [wa])
 simp only [Act.put, pa, pb, pc]
 refine lv 26 rfl ?_; apply Exists.intro; refine ⟨fun w' hl => ?_, ?_⟩
 ·(go_simp; try with_reducible rfl)
 simp only [Act.put, pa, pb, pc]
 refine lv 27 rfl ?_; apply Exists.intro; refine ⟨fun w' hl => ?_, ?_⟩
 ·(go_simp; try with_reducible rfl)
 simp only [Act.put, pa, pb, pc]
 refine lv 28 rfl ?_; apply Exists.intro; refine ⟨fun w' hl => ?_, ?_⟩
 ·(go_simp; try with_reducible rfl)
 simp only [Act.put, pa, pb, pc]
 refine lv 29 rfl ⟨_, fun w' hl => (run_get 5 _ rfl b1 (1 + a) rfl Tryz.underlying5 rfl (.int .u8 z) (HCz.out _ _ (HR.out.later hl))), ?_⟩
 simp only [Act.put, pa, pb, pc]
 refine lv 30 rfl ?_; apply Exists.intro; refine ⟨fun w' hl => ?_, ?_⟩
 ·(go_simp; try with_reducible rfl)
 simp only [Act.put, pa, pb, pc]
 refine lv 31 rfl ?_; apply Exists.intro; refine ⟨fun w' hl => ?_, ?_⟩
 ·(go_simp; try with_reducible rfl)
 simp only [Act.put, pa, pb, pc]
 refine lv 32 rfl ⟨_, fun w' hl => (run_get 5 _ rfl b1 78 rfl Tryz.underlying5 rfl (.int .u8 (c : Int)) (HC7.out _ _ (HR.out.later hl))), ?_⟩
 simp only [Act.put, pa, pb, pc]
 refine late_one 33 (by kernel_rfl) (by kernel_rfl) (fun o ho => ?_)
 simp only [qa, qb, qc, qd] at ho; subst ho
 refine ⟨by kernel_rfl, fun wn hl K hK => ?_⟩
 have HR := Lib.hid (HR.out.later hl); have HB := Lib.hid (below_on HB.out hl); clear hl
 refine wp_enter _ _ (by go_simp; exact ⟨rfl, rfl⟩) ?_
 refine (voth_any c HC.out _).mono ?_; rintro e wm ⟨rfl, rfl⟩; refine ⟨_, rfl, ?_⟩
 refine hK.out _ _ (Later.refl _) ?_
 clear hK K
 simp only [Act.put, pa, pb, pc]
 refine late_one 34 (by kernel_rfl) (by kernel_rfl) (fun o ho => ?_)
 simp only [qa, qb, qc, qd] at ho; subst ho
 refine ⟨by kernel_rfl, fun wn hl K hK => ?_⟩
 have HR := Lib.hid (HR.out.later hl); have HB := Lib.hid (below_on HB.out hl); clear hl
 refine wp_enter _ _ (by go_simp; exact ⟨rfl, rfl⟩) ?_
 refine (mk_any (1 - (c : Int)) 1 _ (by have := HC.out; omega) (by decide)).mono ?_; rintro e wm ⟨rfl, rfl⟩; refine ⟨_, rfl, ?_⟩
 rw [HMk.out]
 refine hK.out _ _ (Later.refl _) ?_
 clear hK K
 simp only [Act.put, pa, pb, pc]
 refine lv 35 rfl ⟨.bool true, fun w' hl => ?_, ?_⟩
 ·(go_simp; try simp [g4])
 simp only [Act.put, pa, pb, pc]
 refine lv 36 rfl ?_; apply Exists.intro; refine ⟨fun w' hl => ?_, ?_⟩
 ·(go_simp; try with_reducible rfl)
 simp only [Act.put, pa, pb, pc]
 refine lv 37 rfl ?_; apply Exists.intro; refine ⟨fun w' hl => ?_, ?_⟩
 ·(go_simp; try with_reducible rfl)
 simp only [Act.put, pa, pb, pc]
 refine lv 38 rfl ?_; apply Exists.intro; refine ⟨fun w' hl => ?_, ?_⟩
 ·(go_simp; try with_reducible rfl)
 simp only [Act.put, pa, pb, pc]
 refine lv 39 rfl ⟨_, fun w' hl => (run_vin _ rfl b1 rfl p (HR.out.later hl)), ?_⟩
 simp only [Act.put, pa, pb, pc]
 refine lv 40 rfl ?_; apply Exists.intro; refine ⟨fun w' hl => ?_, ?_⟩
 ·(go_simp; try with_reducible rfl)
 simp only [Act.put, pa, pb, pc]
 refine lv 41 rfl ?_; apply Exists.intro; refine ⟨fun w' hl => ?_, ?_⟩
 ·(go_simp; try with_reducible rfl)
 simp only [Act.put, pa, pb, pc]
 refine lv 42 rfl ?_; apply Exists.intro; refine ⟨fun w' hl => ?_, ?_⟩
 ·(go_simp; try with_reducible rfl)
 simp only [Act.put, pa, pb, pc]
 refine lv 43 rfl ⟨_, fun w' hl => (run_get 5 _ rfl b1 78 rfl Tryz.underlying5 rfl (.int .u8 (c : Int)) (HC7.out _ _ (HR.out.later hl))), ?_⟩
 simp only [Act.put, pa, pb, pc]
 refine lv 45 rfl ?_; apply Exists.intro; refine ⟨fun w' hl => ?_, ?_⟩
 ·(go_simp; try with_reducible rfl)
 simp only [Act.put, pa, pb, pc]
 refine lv 46 rfl ⟨_, fun w' hl => (run_vin _ rfl b1 rfl p (HR.out.later hl)), ?_⟩
 simp only [Act.put, pa, pb, pc]
 refine lv 47 rfl ?_; apply Exists.intro; refine ⟨fun w' hl => ?_, ?_⟩
 ·(go_simp; try with_reducible rfl)
 simp only [Act.put, pa, pb, pc]
 refine lv 48 rfl ?_; apply Exists.intro; refine ⟨fun w' hl => ?_, ?_⟩
 ·(go_simp; try with_reducible rfl)
 simp only [Act.put, pa, pb, pc]
 refine lv 49 rfl ⟨_, fun w' hl => (run_get 5 _ rfl b1 78 rfl Tryz.underlying5 rfl (.int .u8 (c : Int)) (HC7.out _ _ (HR.out.later hl))), ?_⟩
 simp only [Act.put, pa, pb, pc]
 refine late_one 44 (by kernel_rfl) (by kernel_rfl) (fun o ho => ?_)
 simp only [qa, qb, qc, qd] at ho; subst ho
 refine ⟨by kernel_rfl, fun wn hl K hK => ?_⟩
 have HR := Lib.hid (HR.out.later hl); have HB := Lib.hid (below_on HB.out hl); clear hl
 refine wp_enter _ _ (by go_simp; exact ⟨rfl, rfl⟩) ?_
 refine (by_any p (n : Int) (c : Int) _ HP.out.at.bd (by omega) (HD.out.next HB.out) (HL.out.next HB.out)).mono ?_; rintro e wm ⟨rfl, hb⟩; refine ⟨_, rfl, ?_⟩
 rw [HBy.out]
 refine hK.out _ _ hb ?_
 have HR := Lib.hid (HR.out.later hb); have HB := Lib.hid (below_on HB.out hb); clear hb
 clear hK K
 simp only [Act.put, pa, pb, pc]
 refine late_one 50 (by kernel_rfl) (by kernel_rfl) (fun o ho => ?_)
 simp only [qa, qb, qc, qd] at ho; subst ho
 refine ⟨by kernel_rfl, fun wn hl K hK => ?_⟩
 have HR := Lib.hid (HR.out.later hl); have HB := Lib.hid (below_on HB.out hl); clear hl
 refine wp_enter _ _ (by go_simp; exact ⟨rfl, rfl⟩) ?_
 refine (of_any p (c : Int) 1 _ HP.out.at.bd).mono ?_; rintro e wm ⟨rfl, hb⟩; refine ⟨_, rfl, ?_⟩
 rw [HOf.out]
 refine hK.out _ _ hb ?_
 have HR := Lib.hid (HR.out.later hb); have HB := Lib.hid (below_on HB.out hb); clear hb
 clear hK K
 simp only [Act.put, pa, pb, pc]
 refine lv 51 rfl ⟨.int .u64 ((by' &&& of' : Nat) : Int), fun w' hl => ?_, ?_⟩
 ·(go_simp; try simp [hand])
 simp only [Act.put, pa, pb, pc]
 refine lv 52 rfl ⟨.bool q, fun w' hl => ?_, ?_⟩
 ·(go_simp; try simp [g5])
 simp only [Act.put, pa, pb, pc]
 refine lv 53 rfl ?_; apply Exists.intro; refine ⟨fun w' hl => ?_, ?_⟩
 ·(go_simp; try with_reducible rfl)
 simp only [Act.put, pa, pb, pc]
 refine lv 54 rfl ?_; apply Exists.intro; refine ⟨fun w' hl => ?_, ?_⟩
 ·(go_simp; try with_reducible rfl)
 simp only [Act.put, pa, pb, pc]
 refine late_end (by kernel_rfl) (fun wn hl => ?_)
 have HR := Lib.hid (HR.out.later hl); have HB := Lib.hid (below_on HB.out hl); clear hl
 go_wp2_with fail
 go_ret
 exact ⟨by (rw [HS.out]; try rfl), HB.out⟩
theorem ps_any (p : Nat → Int) (w : World) (hp : FitP p) (ha : argB p = true) (hD : TabDb w) (hL : TabLead w) : Calls Tryz.prog 23 #[.agg (posA p)] w (BoL (pasB p) w) := by
 cases q0 : (p 83 == -1)
 case true => exact ps_n p w hp ha hD hL q0
 cases q1 : (Int.tdiv (p 83) 8 == prkZ p)
 case false =>
  ·cases qt : (p 78 == 1)
   ·exact ps_01 p w hp ha hD hL q0 qt q1
   ·exact ps_11 p w hp ha hD hL q0 qt q1
 cases q2 : (p (1 + (p 83).toNat) == 0)
 case false =>
  ·cases qt : (p 78 == 1)
   ·exact ps_02 p w hp ha hD hL q0 qt q1 q2
   ·exact ps_12 p w hp ha hD hL q0 qt q1 q2
 cases q3 : (p (1 + (p 83 - pupZ p).toNat) == 0)
 case false =>
  ·cases qt : (p 78 == 1)
   ·exact ps_03 p w hp ha hD hL q0 qt q1 q2 q3
   ·exact ps_13 p w hp ha hD hL q0 qt q1 q2 q3
 cases q4 : (p (1 + (p 83 + pupZ p).toNat) == mkZ (1 - p 78) 1)
 case false =>
  ·cases qt : (p 78 == 1)
   ·exact ps_04 p w hp ha hD hL q0 qt q1 q2 q3 q4
   ·exact ps_14 p w hp ha hD hL q0 qt q1 q2 q3 q4
 case true =>
  ·cases qt : (p 78 == 1)
   ·exact ps_05 p w hp ha hD hL q0 qt q1 q2 q3 q4
   ·exact ps_15 p w hp ha hD hL q0 qt q1 q2 q3 q4
set_option maxRecDepth 100000 in
set_option maxHeartbeats 1000000 in
theorem pas_any (p : Nat → Int) (w : World) (hp : FitP p) (ha : argB p = true) (hD : TabDb w) (hL : TabLead w) : Calls Tryz.prog 58 #[.agg (posA p)] w (IntL (anZ p 6) w) := by
 have HP := Lib.hid hp
 have HA := Lib.hid ha
 have HD := Lib.hid hD
 have HL := Lib.hid hL
 clear hp ha hD hL
 have HB := Lib.hid (Below.refl w.heap.size w)
 have HQu1 := Lib.hid trivial
 have HQu2 := Lib.hid trivial
 have HQu3 := Lib.hid trivial
 have HQu4 := Lib.hid trivial
 go_enter Tryz.func58, Tryz.ntmps58
 go_wp2_with (first
   | (clear HQu1; refine va_box rfl _ rfl p rfl ?_; intro b1 w1 N R; have HB := Lib.hid (HB.out.trans (N.below.mono HB.out.size)); have HR := Lib.hid R; clear N R)
   | (clear HQu2; refine va_load rfl _ rfl b1 rfl p HR.out ?_)
   | (clear HQu3; go_at_call 23; refine (ps_any p _ HP.out HA.out (HD.out.next HB.out) (HL.out.next HB.out)).mono ?_; rintro e w3 ⟨rfl, hb⟩; have HR := Lib.hid (HR.out.later hb); have HB := Lib.hid (below_on HB.out hb); clear hb)
   | (clear HQu4; go_at_call 42; refine (unl_any _ _ _).mono ?_; rintro e w9 ⟨rfl, rfl⟩))
 go_ret
 exact ⟨rfl, HB.out⟩
end Go.Proofs.YtigkbccpkepdmaaGreatDoor
