/-
 The contract of the document's own Hits, kind by kind.
-/
import Derived.Test.YtidgfadbdgheiaaGreatDoorAfAtQ
set_option maxRecDepth 100000
set_option maxHeartbeats 1000000
namespace Go.Proofs.YtidgfadbdgheiaaGreatDoor
open Go.RowKit
set_option linter.unusedVariables false
set_option linter.unusedSimpArgs false
theorem str_int (a b : Nat) : strB a b = ((upZ a b == 0) != (absZ (offZ a b) == 0)) := by
 unfold strB
 rw [show decide (upZ a b = 0) = (upZ a b == 0) by rw [Bool.eq_iff_iff, decide_eq_true_eq, beq_iff_eq], show decide (absZ (offZ a b) = 0) = (absZ (offZ a b) == 0) by rw [Bool.eq_iff_iff, decide_eq_true_eq, beq_iff_eq]]
theorem acr_int (a b : Nat) : acrB a b = ((absZ (upZ a b) == absZ (offZ a b)) && decide (0 < absZ (offZ a b))) := by
 unfold acrB
 rw [show decide (absZ (upZ a b) = absZ (offZ a b)) = (absZ (upZ a b) == absZ (offZ a b)) by rw [Bool.eq_iff_iff, decide_eq_true_eq, beq_iff_eq]]
theorem dec_beq (x y : Int) : decide (x = y) = (x == y) := by rw [Bool.eq_iff_iff, decide_eq_true_eq, beq_iff_eq]
theorem hits_0 (p : Nat → Int) (a b : Nat) (w : World) (hp : BdR p) (ha : a < 64) (hb : b < 64) (hk : kndZ (p (1 + a)) = 0) : Calls Tryz.prog 96 #[.agg (posA p), .int .i64 (a : Int), .int .i64 (b : Int)] w (BoL ((fromN p (a : Int)).testBit b) w) := by
 have hg := from_geo p ha hb
 rw [if_neg (by rw [hk]; decide), if_neg (by rw [hk]; decide), if_neg (by rw [hk]; decide), if_neg (by rw [hk]; decide), if_neg (by rw [hk]; decide), if_neg (by rw [hk]; decide)] at hg
 have HPb := H_ hp
 have HAb := H_ ha
 have HBb := H_ hb
 obtain ⟨x0, x1⟩ := hp a ha
 obtain ⟨x, HX⟩ : ∃ x, Hid (p (1 + a) = x) := ⟨_, H_ rfl⟩
 rw [HX.out] at x0 x1 hk
 have X0 := H_ (And.intro x0 x1)
 have HK := H_ hk
 have s0 := str_int a b
 have q0 := acr_int a b
 rw [up_int, off_int] at s0 q0
 try simp only [up_int, off_int] at hg
 obtain ⟨ra, e1⟩ : ∃ r : Int, (a : Int) / 8 = r := ⟨_, rfl⟩
 obtain ⟨rb, e2⟩ : ∃ r : Int, (b : Int) / 8 = r := ⟨_, rfl⟩
 obtain ⟨fa, e3⟩ : ∃ r : Int, (a : Int) % 8 = r := ⟨_, rfl⟩
 obtain ⟨fb, e4⟩ : ∃ r : Int, (b : Int) % 8 = r := ⟨_, rfl⟩
 rw [e1, e2, e3, e4] at s0 q0
 try simp only [e1, e2, e3, e4] at hg
 have b1 : 0 ≤ ra := by omega
 have b2 : ra ≤ 7 := by omega
 have b3 : 0 ≤ rb := by omega
 have b4 : rb ≤ 7 := by omega
 have b5 : 0 ≤ fa := by omega
 have b6 : fa ≤ 7 := by omega
 have b7 : 0 ≤ fb := by omega
 have b8 : fb ≤ 7 := by omega
 obtain ⟨up, e5⟩ : ∃ r : Int, rb - ra = r := ⟨_, rfl⟩
 have u1 : -7 ≤ up := by omega
 have u2 : up ≤ 7 := by omega
 rw [e5] at s0 q0
 try simp only [e5] at hg
 obtain ⟨asd, HAsd⟩ : ∃ r : Int, Hid (absZ (fb - fa) = r) := ⟨_, H_ rfl⟩
 rw [HAsd.out] at s0 q0
 try simp only [HAsd.out] at hg
 obtain ⟨au, HAu⟩ : ∃ r : Int, Hid (absZ up = r) := ⟨_, H_ rfl⟩
 rw [HAu.out] at q0
 try simp only [HAu.out] at hg
 have k1 := H_ (show -100 ≤ fb - fa ∧ fb - fa ≤ 100 by omega)
 have k2 := H_ (show -100 ≤ up ∧ up ≤ 100 by omega)
 have l0 : (a : Int) ≤ 63 := by omega
 obtain ⟨res, HRes⟩ : ∃ r, Hid ((fromN p (a : Int)).testBit b = r) := ⟨_, H_ rfl⟩
 rw [HRes.out] at hg ⊢
 have HG := H_ hg
 have S0 := H_ s0
 have Q0 := H_ q0
 have HA2 := H_ ha
 clear hg s0 q0 hp hk x0 x1
 cases g1 : (au == asd)
 ·go_enter Tryz.func96, Tryz.ntmps96
  go_wp2_with (refine step_box rfl _ rfl p rfl ?_; intro b1 w1 N R; have HB := H_ N.below; have HR1 := H_ R; have hcell := R.cell (1 + a) (by have := HA2.out; omega); rw [HX.out] at hcell; rw [kAt_board (by omega) HA2.out] at hcell; clear N R)
  refine (abs_any (fb - fa) _ k1.out).mono ?_; rintro e wn ⟨rfl, rfl⟩; rw [HAsd.out]
  go_wp2_with fail
  refine (abs_any up _ k2.out).mono ?_; rintro e wn ⟨rfl, rfl⟩; rw [HAu.out]
  go_wp2_with fail
  refine (rkind_any x _ X0.out.1 X0.out.2).mono ?_; rintro e wn ⟨rfl, rfl⟩; rw [HK.out]
  go_wp2_with fail
  go_ret
  exact ⟨by rw [HG.out]; rfl, HB.out⟩
 ·go_enter Tryz.func96, Tryz.ntmps96
  go_wp2_with (refine step_box rfl _ rfl p rfl ?_; intro b1 w1 N R; have HB := H_ N.below; have HR1 := H_ R; have hcell := R.cell (1 + a) (by have := HA2.out; omega); rw [HX.out] at hcell; rw [kAt_board (by omega) HA2.out] at hcell; clear N R)
  refine (abs_any (fb - fa) _ k1.out).mono ?_; rintro e wn ⟨rfl, rfl⟩; rw [HAsd.out]
  go_wp2_with fail
  refine (abs_any up _ k2.out).mono ?_; rintro e wn ⟨rfl, rfl⟩; rw [HAu.out]
  go_wp2_with fail
  refine (rkind_any x _ X0.out.1 X0.out.2).mono ?_; rintro e wn ⟨rfl, rfl⟩; rw [HK.out]
  go_wp2_with fail
  go_ret
  exact ⟨by rw [HG.out]; rfl, HB.out⟩
theorem hits_w (p : Nat → Int) (a b : Nat) (w : World) (hp : BdR p) (ha : a < 64) (hb : b < 64) (hk : kndZ (p (1 + a)) = 1 ∧ (p (1 + a)) / 8 = 0) : Calls Tryz.prog 96 #[.agg (posA p), .int .i64 (a : Int), .int .i64 (b : Int)] w (BoL ((fromN p (a : Int)).testBit b) w) := by
 have hg := from_geo p ha hb
 have hcol : colZ (p (1 + a)) = 0 := by
  rw [colZ_yes (by cases h : pcB (p (1 + a)); { rw [kndZ_no h] at hk; cases hk.1 }; { rfl }), hk.2]
 rw [if_pos hk.1, if_pos hcol, dec_beq, dec_beq] at hg
 have HPb := H_ hp
 have HAb := H_ ha
 have HBb := H_ hb
 obtain ⟨x0, x1⟩ := hp a ha
 obtain ⟨x, HX⟩ : ∃ x, Hid (p (1 + a) = x) := ⟨_, H_ rfl⟩
 rw [HX.out] at x0 x1 hk
 have X0 := H_ (And.intro x0 x1)
 have HK := H_ hk
 have s0 := str_int a b
 have q0 := acr_int a b
 rw [up_int, off_int] at s0 q0
 try simp only [up_int, off_int] at hg
 obtain ⟨ra, e1⟩ : ∃ r : Int, (a : Int) / 8 = r := ⟨_, rfl⟩
 obtain ⟨rb, e2⟩ : ∃ r : Int, (b : Int) / 8 = r := ⟨_, rfl⟩
 obtain ⟨fa, e3⟩ : ∃ r : Int, (a : Int) % 8 = r := ⟨_, rfl⟩
 obtain ⟨fb, e4⟩ : ∃ r : Int, (b : Int) % 8 = r := ⟨_, rfl⟩
 rw [e1, e2, e3, e4] at s0 q0
 try simp only [e1, e2, e3, e4] at hg
 have b1 : 0 ≤ ra := by omega
 have b2 : ra ≤ 7 := by omega
 have b3 : 0 ≤ rb := by omega
 have b4 : rb ≤ 7 := by omega
 have b5 : 0 ≤ fa := by omega
 have b6 : fa ≤ 7 := by omega
 have b7 : 0 ≤ fb := by omega
 have b8 : fb ≤ 7 := by omega
 obtain ⟨up, e5⟩ : ∃ r : Int, rb - ra = r := ⟨_, rfl⟩
 have u1 : -7 ≤ up := by omega
 have u2 : up ≤ 7 := by omega
 rw [e5] at s0 q0
 try simp only [e5] at hg
 obtain ⟨asd, HAsd⟩ : ∃ r : Int, Hid (absZ (fb - fa) = r) := ⟨_, H_ rfl⟩
 rw [HAsd.out] at s0 q0
 try simp only [HAsd.out] at hg
 obtain ⟨au, HAu⟩ : ∃ r : Int, Hid (absZ up = r) := ⟨_, H_ rfl⟩
 rw [HAu.out] at q0
 try simp only [HAu.out] at hg
 have k1 := H_ (show -100 ≤ fb - fa ∧ fb - fa ≤ 100 by omega)
 have k2 := H_ (show -100 ≤ up ∧ up ≤ 100 by omega)
 have l0 : (a : Int) ≤ 63 := by omega
 obtain ⟨res, HRes⟩ : ∃ r, Hid ((fromN p (a : Int)).testBit b = r) := ⟨_, H_ rfl⟩
 rw [HRes.out] at hg ⊢
 have HG := H_ hg
 have S0 := H_ s0
 have Q0 := H_ q0
 have HA2 := H_ ha
 clear hg s0 q0 hp hk x0 x1
 cases g1 : (au == asd)
 ·cases g2 : (up == 1)
  ·go_enter Tryz.func96, Tryz.ntmps96
   go_wp2_with (refine step_box rfl _ rfl p rfl ?_; intro b1 w1 N R; have HB := H_ N.below; have HR1 := H_ R; have hcell := R.cell (1 + a) (by have := HA2.out; omega); rw [HX.out] at hcell; rw [kAt_board (by omega) HA2.out] at hcell; clear N R)
   refine (abs_any (fb - fa) _ k1.out).mono ?_; rintro e wn ⟨rfl, rfl⟩; rw [HAsd.out]
   go_wp2_with fail
   refine (abs_any up _ k2.out).mono ?_; rintro e wn ⟨rfl, rfl⟩; rw [HAu.out]
   go_wp2_with fail
   refine (rkind_any x _ X0.out.1 X0.out.2).mono ?_; rintro e wn ⟨rfl, rfl⟩; rw [HK.out.1]
   go_wp2_with (first | (refine step_load (by rfl) _ rfl _ rfl p HR1.out ?_) | fail)
   refine (rcolor_any x _ X0.out.1 X0.out.2).mono ?_; rintro e wn ⟨rfl, rfl⟩; rw [HK.out.2]
   go_wp2_with fail
   go_ret
   exact ⟨by rw [HG.out, g2]; rfl, HB.out⟩
  ·go_enter Tryz.func96, Tryz.ntmps96
   go_wp2_with (refine step_box rfl _ rfl p rfl ?_; intro b1 w1 N R; have HB := H_ N.below; have HR1 := H_ R; have hcell := R.cell (1 + a) (by have := HA2.out; omega); rw [HX.out] at hcell; rw [kAt_board (by omega) HA2.out] at hcell; clear N R)
   refine (abs_any (fb - fa) _ k1.out).mono ?_; rintro e wn ⟨rfl, rfl⟩; rw [HAsd.out]
   go_wp2_with fail
   refine (abs_any up _ k2.out).mono ?_; rintro e wn ⟨rfl, rfl⟩; rw [HAu.out]
   go_wp2_with fail
   refine (rkind_any x _ X0.out.1 X0.out.2).mono ?_; rintro e wn ⟨rfl, rfl⟩; rw [HK.out.1]
   go_wp2_with (first | (refine step_load (by rfl) _ rfl _ rfl p HR1.out ?_) | fail)
   refine (rcolor_any x _ X0.out.1 X0.out.2).mono ?_; rintro e wn ⟨rfl, rfl⟩; rw [HK.out.2]
   go_wp2_with fail
   go_ret
   exact ⟨by rw [HG.out, g2]; rfl, HB.out⟩
 ·cases g2 : (up == 1)
  ·go_enter Tryz.func96, Tryz.ntmps96
   go_wp2_with (refine step_box rfl _ rfl p rfl ?_; intro b1 w1 N R; have HB := H_ N.below; have HR1 := H_ R; have hcell := R.cell (1 + a) (by have := HA2.out; omega); rw [HX.out] at hcell; rw [kAt_board (by omega) HA2.out] at hcell; clear N R)
   refine (abs_any (fb - fa) _ k1.out).mono ?_; rintro e wn ⟨rfl, rfl⟩; rw [HAsd.out]
   go_wp2_with fail
   refine (abs_any up _ k2.out).mono ?_; rintro e wn ⟨rfl, rfl⟩; rw [HAu.out]
   go_wp2_with fail
   refine (rkind_any x _ X0.out.1 X0.out.2).mono ?_; rintro e wn ⟨rfl, rfl⟩; rw [HK.out.1]
   go_wp2_with (first | (refine step_load (by rfl) _ rfl _ rfl p HR1.out ?_) | fail)
   refine (rcolor_any x _ X0.out.1 X0.out.2).mono ?_; rintro e wn ⟨rfl, rfl⟩; rw [HK.out.2]
   go_wp2_with fail
   go_ret
   exact ⟨by rw [HG.out, g2]; rfl, HB.out⟩
  ·go_enter Tryz.func96, Tryz.ntmps96
   go_wp2_with (refine step_box rfl _ rfl p rfl ?_; intro b1 w1 N R; have HB := H_ N.below; have HR1 := H_ R; have hcell := R.cell (1 + a) (by have := HA2.out; omega); rw [HX.out] at hcell; rw [kAt_board (by omega) HA2.out] at hcell; clear N R)
   refine (abs_any (fb - fa) _ k1.out).mono ?_; rintro e wn ⟨rfl, rfl⟩; rw [HAsd.out]
   go_wp2_with fail
   refine (abs_any up _ k2.out).mono ?_; rintro e wn ⟨rfl, rfl⟩; rw [HAu.out]
   go_wp2_with fail
   refine (rkind_any x _ X0.out.1 X0.out.2).mono ?_; rintro e wn ⟨rfl, rfl⟩; rw [HK.out.1]
   go_wp2_with (first | (refine step_load (by rfl) _ rfl _ rfl p HR1.out ?_) | fail)
   refine (rcolor_any x _ X0.out.1 X0.out.2).mono ?_; rintro e wn ⟨rfl, rfl⟩; rw [HK.out.2]
   go_wp2_with fail
   go_ret
   exact ⟨by rw [HG.out, g2]; rfl, HB.out⟩
theorem hits_b (p : Nat → Int) (a b : Nat) (w : World) (hp : BdR p) (ha : a < 64) (hb : b < 64) (hk : kndZ (p (1 + a)) = 1 ∧ (p (1 + a)) / 8 = 1) : Calls Tryz.prog 96 #[.agg (posA p), .int .i64 (a : Int), .int .i64 (b : Int)] w (BoL ((fromN p (a : Int)).testBit b) w) := by
 have hg := from_geo p ha hb
 have hcol : colZ (p (1 + a)) = 1 := by
  rw [colZ_yes (by cases h : pcB (p (1 + a)); { rw [kndZ_no h] at hk; cases hk.1 }; { rfl }), hk.2]
 rw [if_pos hk.1, if_neg (by rw [hcol]; decide), dec_beq, dec_beq] at hg
 have HPb := H_ hp
 have HAb := H_ ha
 have HBb := H_ hb
 obtain ⟨x0, x1⟩ := hp a ha
 obtain ⟨x, HX⟩ : ∃ x, Hid (p (1 + a) = x) := ⟨_, H_ rfl⟩
 rw [HX.out] at x0 x1 hk
 have X0 := H_ (And.intro x0 x1)
 have HK := H_ hk
 have s0 := str_int a b
 have q0 := acr_int a b
 rw [up_int, off_int] at s0 q0
 try simp only [up_int, off_int] at hg
 obtain ⟨ra, e1⟩ : ∃ r : Int, (a : Int) / 8 = r := ⟨_, rfl⟩
 obtain ⟨rb, e2⟩ : ∃ r : Int, (b : Int) / 8 = r := ⟨_, rfl⟩
 obtain ⟨fa, e3⟩ : ∃ r : Int, (a : Int) % 8 = r := ⟨_, rfl⟩
 obtain ⟨fb, e4⟩ : ∃ r : Int, (b : Int) % 8 = r := ⟨_, rfl⟩
 rw [e1, e2, e3, e4] at s0 q0
 try simp only [e1, e2, e3, e4] at hg
 have b1 : 0 ≤ ra := by omega
 have b2 : ra ≤ 7 := by omega
 have b3 : 0 ≤ rb := by omega
 have b4 : rb ≤ 7 := by omega
 have b5 : 0 ≤ fa := by omega
 have b6 : fa ≤ 7 := by omega
 have b7 : 0 ≤ fb := by omega
 have b8 : fb ≤ 7 := by omega
 obtain ⟨up, e5⟩ : ∃ r : Int, rb - ra = r := ⟨_, rfl⟩
 have u1 : -7 ≤ up := by omega
 have u2 : up ≤ 7 := by omega
 rw [e5] at s0 q0
 try simp only [e5] at hg
 obtain ⟨asd, HAsd⟩ : ∃ r : Int, Hid (absZ (fb - fa) = r) := ⟨_, H_ rfl⟩
 rw [HAsd.out] at s0 q0
 try simp only [HAsd.out] at hg
 obtain ⟨au, HAu⟩ : ∃ r : Int, Hid (absZ up = r) := ⟨_, H_ rfl⟩
 rw [HAu.out] at q0
 try simp only [HAu.out] at hg
 have k1 := H_ (show -100 ≤ fb - fa ∧ fb - fa ≤ 100 by omega)
 have k2 := H_ (show -100 ≤ up ∧ up ≤ 100 by omega)
 have l0 : (a : Int) ≤ 63 := by omega
 obtain ⟨res, HRes⟩ : ∃ r, Hid ((fromN p (a : Int)).testBit b = r) := ⟨_, H_ rfl⟩
 rw [HRes.out] at hg ⊢
 have HG := H_ hg
 have S0 := H_ s0
 have Q0 := H_ q0
 have HA2 := H_ ha
 clear hg s0 q0 hp hk x0 x1
 cases g1 : (au == asd)
 ·cases g2 : (up == -1)
  ·go_enter Tryz.func96, Tryz.ntmps96
   go_wp2_with (refine step_box rfl _ rfl p rfl ?_; intro b1 w1 N R; have HB := H_ N.below; have HR1 := H_ R; have hcell := R.cell (1 + a) (by have := HA2.out; omega); rw [HX.out] at hcell; rw [kAt_board (by omega) HA2.out] at hcell; clear N R)
   refine (abs_any (fb - fa) _ k1.out).mono ?_; rintro e wn ⟨rfl, rfl⟩; rw [HAsd.out]
   go_wp2_with fail
   refine (abs_any up _ k2.out).mono ?_; rintro e wn ⟨rfl, rfl⟩; rw [HAu.out]
   go_wp2_with fail
   refine (rkind_any x _ X0.out.1 X0.out.2).mono ?_; rintro e wn ⟨rfl, rfl⟩; rw [HK.out.1]
   go_wp2_with (first | (refine step_load (by rfl) _ rfl _ rfl p HR1.out ?_) | fail)
   refine (rcolor_any x _ X0.out.1 X0.out.2).mono ?_; rintro e wn ⟨rfl, rfl⟩; rw [HK.out.2]
   go_wp2_with fail
   go_ret
   exact ⟨by rw [HG.out, g2]; rfl, HB.out⟩
  ·go_enter Tryz.func96, Tryz.ntmps96
   go_wp2_with (refine step_box rfl _ rfl p rfl ?_; intro b1 w1 N R; have HB := H_ N.below; have HR1 := H_ R; have hcell := R.cell (1 + a) (by have := HA2.out; omega); rw [HX.out] at hcell; rw [kAt_board (by omega) HA2.out] at hcell; clear N R)
   refine (abs_any (fb - fa) _ k1.out).mono ?_; rintro e wn ⟨rfl, rfl⟩; rw [HAsd.out]
   go_wp2_with fail
   refine (abs_any up _ k2.out).mono ?_; rintro e wn ⟨rfl, rfl⟩; rw [HAu.out]
   go_wp2_with fail
   refine (rkind_any x _ X0.out.1 X0.out.2).mono ?_; rintro e wn ⟨rfl, rfl⟩; rw [HK.out.1]
   go_wp2_with (first | (refine step_load (by rfl) _ rfl _ rfl p HR1.out ?_) | fail)
   refine (rcolor_any x _ X0.out.1 X0.out.2).mono ?_; rintro e wn ⟨rfl, rfl⟩; rw [HK.out.2]
   go_wp2_with fail
   go_ret
   exact ⟨by rw [HG.out, g2]; rfl, HB.out⟩
 ·cases g2 : (up == -1)
  ·go_enter Tryz.func96, Tryz.ntmps96
   go_wp2_with (refine step_box rfl _ rfl p rfl ?_; intro b1 w1 N R; have HB := H_ N.below; have HR1 := H_ R; have hcell := R.cell (1 + a) (by have := HA2.out; omega); rw [HX.out] at hcell; rw [kAt_board (by omega) HA2.out] at hcell; clear N R)
   refine (abs_any (fb - fa) _ k1.out).mono ?_; rintro e wn ⟨rfl, rfl⟩; rw [HAsd.out]
   go_wp2_with fail
   refine (abs_any up _ k2.out).mono ?_; rintro e wn ⟨rfl, rfl⟩; rw [HAu.out]
   go_wp2_with fail
   refine (rkind_any x _ X0.out.1 X0.out.2).mono ?_; rintro e wn ⟨rfl, rfl⟩; rw [HK.out.1]
   go_wp2_with (first | (refine step_load (by rfl) _ rfl _ rfl p HR1.out ?_) | fail)
   refine (rcolor_any x _ X0.out.1 X0.out.2).mono ?_; rintro e wn ⟨rfl, rfl⟩; rw [HK.out.2]
   go_wp2_with fail
   go_ret
   exact ⟨by rw [HG.out, g2]; rfl, HB.out⟩
  ·go_enter Tryz.func96, Tryz.ntmps96
   go_wp2_with (refine step_box rfl _ rfl p rfl ?_; intro b1 w1 N R; have HB := H_ N.below; have HR1 := H_ R; have hcell := R.cell (1 + a) (by have := HA2.out; omega); rw [HX.out] at hcell; rw [kAt_board (by omega) HA2.out] at hcell; clear N R)
   refine (abs_any (fb - fa) _ k1.out).mono ?_; rintro e wn ⟨rfl, rfl⟩; rw [HAsd.out]
   go_wp2_with fail
   refine (abs_any up _ k2.out).mono ?_; rintro e wn ⟨rfl, rfl⟩; rw [HAu.out]
   go_wp2_with fail
   refine (rkind_any x _ X0.out.1 X0.out.2).mono ?_; rintro e wn ⟨rfl, rfl⟩; rw [HK.out.1]
   go_wp2_with (first | (refine step_load (by rfl) _ rfl _ rfl p HR1.out ?_) | fail)
   refine (rcolor_any x _ X0.out.1 X0.out.2).mono ?_; rintro e wn ⟨rfl, rfl⟩; rw [HK.out.2]
   go_wp2_with fail
   go_ret
   exact ⟨by rw [HG.out, g2]; rfl, HB.out⟩
theorem hits_n (p : Nat → Int) (a b : Nat) (w : World) (hp : BdR p) (ha : a < 64) (hb : b < 64) (hk : kndZ (p (1 + a)) = 2) : Calls Tryz.prog 96 #[.agg (posA p), .int .i64 (a : Int), .int .i64 (b : Int)] w (BoL ((fromN p (a : Int)).testBit b) w) := by
 have hg := from_geo p ha hb
 rw [if_neg (by rw [hk]; decide), if_pos hk, dec_beq, dec_beq, dec_beq, dec_beq] at hg
 have HPb := H_ hp
 have HAb := H_ ha
 have HBb := H_ hb
 obtain ⟨x0, x1⟩ := hp a ha
 obtain ⟨x, HX⟩ : ∃ x, Hid (p (1 + a) = x) := ⟨_, H_ rfl⟩
 rw [HX.out] at x0 x1 hk
 have X0 := H_ (And.intro x0 x1)
 have HK := H_ hk
 have s0 := str_int a b
 have q0 := acr_int a b
 rw [up_int, off_int] at s0 q0
 try simp only [up_int, off_int] at hg
 obtain ⟨ra, e1⟩ : ∃ r : Int, (a : Int) / 8 = r := ⟨_, rfl⟩
 obtain ⟨rb, e2⟩ : ∃ r : Int, (b : Int) / 8 = r := ⟨_, rfl⟩
 obtain ⟨fa, e3⟩ : ∃ r : Int, (a : Int) % 8 = r := ⟨_, rfl⟩
 obtain ⟨fb, e4⟩ : ∃ r : Int, (b : Int) % 8 = r := ⟨_, rfl⟩
 rw [e1, e2, e3, e4] at s0 q0
 try simp only [e1, e2, e3, e4] at hg
 have b1 : 0 ≤ ra := by omega
 have b2 : ra ≤ 7 := by omega
 have b3 : 0 ≤ rb := by omega
 have b4 : rb ≤ 7 := by omega
 have b5 : 0 ≤ fa := by omega
 have b6 : fa ≤ 7 := by omega
 have b7 : 0 ≤ fb := by omega
 have b8 : fb ≤ 7 := by omega
 obtain ⟨up, e5⟩ : ∃ r : Int, rb - ra = r := ⟨_, rfl⟩
 have u1 : -7 ≤ up := by omega
 have u2 : up ≤ 7 := by omega
 rw [e5] at s0 q0
 try simp only [e5] at hg
 obtain ⟨asd, HAsd⟩ : ∃ r : Int, Hid (absZ (fb - fa) = r) := ⟨_, H_ rfl⟩
 rw [HAsd.out] at s0 q0
 try simp only [HAsd.out] at hg
 obtain ⟨au, HAu⟩ : ∃ r : Int, Hid (absZ up = r) := ⟨_, H_ rfl⟩
 rw [HAu.out] at q0
 try simp only [HAu.out] at hg
 have k1 := H_ (show -100 ≤ fb - fa ∧ fb - fa ≤ 100 by omega)
 have k2 := H_ (show -100 ≤ up ∧ up ≤ 100 by omega)
 have l0 : (a : Int) ≤ 63 := by omega
 obtain ⟨res, HRes⟩ : ∃ r, Hid ((fromN p (a : Int)).testBit b = r) := ⟨_, H_ rfl⟩
 rw [HRes.out] at hg ⊢
 have HG := H_ hg
 have S0 := H_ s0
 have Q0 := H_ q0
 have HA2 := H_ ha
 clear hg s0 q0 hp hk x0 x1
 cases g1 : (au == asd)
 ·cases g2 : (au == 1)
  ·cases g3 : (asd == 2)
   ·cases g4 : (au == 2)
    ·go_enter Tryz.func96, Tryz.ntmps96
     go_wp2_with (refine step_box rfl _ rfl p rfl ?_; intro b1 w1 N R; have HB := H_ N.below; have HR1 := H_ R; have hcell := R.cell (1 + a) (by have := HA2.out; omega); rw [HX.out] at hcell; rw [kAt_board (by omega) HA2.out] at hcell; clear N R)
     refine (abs_any (fb - fa) _ k1.out).mono ?_; rintro e wn ⟨rfl, rfl⟩; rw [HAsd.out]
     go_wp2_with fail
     refine (abs_any up _ k2.out).mono ?_; rintro e wn ⟨rfl, rfl⟩; rw [HAu.out]
     go_wp2_with fail
     refine (rkind_any x _ X0.out.1 X0.out.2).mono ?_; rintro e wn ⟨rfl, rfl⟩; rw [HK.out]
     go_wp2_with (first | (refine step_load (by rfl) _ rfl _ rfl p HR1.out ?_) | fail)
     refine (abs_any up _ k2.out).mono ?_; rintro e wn ⟨rfl, rfl⟩; rw [HAu.out]
     go_wp2_with (first | (refine step_load (by rfl) _ rfl _ rfl p HR1.out ?_) | fail)
     refine (abs_any up _ k2.out).mono ?_; rintro e wn ⟨rfl, rfl⟩; rw [HAu.out]
     go_wp2_with fail
     go_ret
     exact ⟨by rw [HG.out, g2, g3, g4]; rfl, HB.out⟩
    ·go_enter Tryz.func96, Tryz.ntmps96
     go_wp2_with (refine step_box rfl _ rfl p rfl ?_; intro b1 w1 N R; have HB := H_ N.below; have HR1 := H_ R; have hcell := R.cell (1 + a) (by have := HA2.out; omega); rw [HX.out] at hcell; rw [kAt_board (by omega) HA2.out] at hcell; clear N R)
     refine (abs_any (fb - fa) _ k1.out).mono ?_; rintro e wn ⟨rfl, rfl⟩; rw [HAsd.out]
     go_wp2_with fail
     refine (abs_any up _ k2.out).mono ?_; rintro e wn ⟨rfl, rfl⟩; rw [HAu.out]
     go_wp2_with fail
     refine (rkind_any x _ X0.out.1 X0.out.2).mono ?_; rintro e wn ⟨rfl, rfl⟩; rw [HK.out]
     go_wp2_with (first | (refine step_load (by rfl) _ rfl _ rfl p HR1.out ?_) | fail)
     refine (abs_any up _ k2.out).mono ?_; rintro e wn ⟨rfl, rfl⟩; rw [HAu.out]
     go_wp2_with (first | (refine step_load (by rfl) _ rfl _ rfl p HR1.out ?_) | fail)
     refine (abs_any up _ k2.out).mono ?_; rintro e wn ⟨rfl, rfl⟩; rw [HAu.out]
     go_wp2_with fail
     go_ret
     exact ⟨by rw [HG.out, g2, g3, g4]; rfl, HB.out⟩
   ·cases g4 : (au == 2)
    ·go_enter Tryz.func96, Tryz.ntmps96
     go_wp2_with (refine step_box rfl _ rfl p rfl ?_; intro b1 w1 N R; have HB := H_ N.below; have HR1 := H_ R; have hcell := R.cell (1 + a) (by have := HA2.out; omega); rw [HX.out] at hcell; rw [kAt_board (by omega) HA2.out] at hcell; clear N R)
     refine (abs_any (fb - fa) _ k1.out).mono ?_; rintro e wn ⟨rfl, rfl⟩; rw [HAsd.out]
     go_wp2_with fail
     refine (abs_any up _ k2.out).mono ?_; rintro e wn ⟨rfl, rfl⟩; rw [HAu.out]
     go_wp2_with fail
     refine (rkind_any x _ X0.out.1 X0.out.2).mono ?_; rintro e wn ⟨rfl, rfl⟩; rw [HK.out]
     go_wp2_with (first | (refine step_load (by rfl) _ rfl _ rfl p HR1.out ?_) | fail)
     refine (abs_any up _ k2.out).mono ?_; rintro e wn ⟨rfl, rfl⟩; rw [HAu.out]
     go_wp2_with (first | (refine step_load (by rfl) _ rfl _ rfl p HR1.out ?_) | fail)
     refine (abs_any up _ k2.out).mono ?_; rintro e wn ⟨rfl, rfl⟩; rw [HAu.out]
     go_wp2_with fail
     go_ret
     exact ⟨by rw [HG.out, g2, g3, g4]; rfl, HB.out⟩
    ·go_enter Tryz.func96, Tryz.ntmps96
     go_wp2_with (refine step_box rfl _ rfl p rfl ?_; intro b1 w1 N R; have HB := H_ N.below; have HR1 := H_ R; have hcell := R.cell (1 + a) (by have := HA2.out; omega); rw [HX.out] at hcell; rw [kAt_board (by omega) HA2.out] at hcell; clear N R)
     refine (abs_any (fb - fa) _ k1.out).mono ?_; rintro e wn ⟨rfl, rfl⟩; rw [HAsd.out]
     go_wp2_with fail
     refine (abs_any up _ k2.out).mono ?_; rintro e wn ⟨rfl, rfl⟩; rw [HAu.out]
     go_wp2_with fail
     refine (rkind_any x _ X0.out.1 X0.out.2).mono ?_; rintro e wn ⟨rfl, rfl⟩; rw [HK.out]
     go_wp2_with (first | (refine step_load (by rfl) _ rfl _ rfl p HR1.out ?_) | fail)
     refine (abs_any up _ k2.out).mono ?_; rintro e wn ⟨rfl, rfl⟩; rw [HAu.out]
     go_wp2_with (first | (refine step_load (by rfl) _ rfl _ rfl p HR1.out ?_) | fail)
     refine (abs_any up _ k2.out).mono ?_; rintro e wn ⟨rfl, rfl⟩; rw [HAu.out]
     go_wp2_with fail
     go_ret
     exact ⟨by rw [HG.out, g2, g3, g4]; rfl, HB.out⟩
  ·cases g3 : (asd == 2)
   ·cases g4 : (au == 2)
    ·go_enter Tryz.func96, Tryz.ntmps96
     go_wp2_with (refine step_box rfl _ rfl p rfl ?_; intro b1 w1 N R; have HB := H_ N.below; have HR1 := H_ R; have hcell := R.cell (1 + a) (by have := HA2.out; omega); rw [HX.out] at hcell; rw [kAt_board (by omega) HA2.out] at hcell; clear N R)
     refine (abs_any (fb - fa) _ k1.out).mono ?_; rintro e wn ⟨rfl, rfl⟩; rw [HAsd.out]
     go_wp2_with fail
     refine (abs_any up _ k2.out).mono ?_; rintro e wn ⟨rfl, rfl⟩; rw [HAu.out]
     go_wp2_with fail
     refine (rkind_any x _ X0.out.1 X0.out.2).mono ?_; rintro e wn ⟨rfl, rfl⟩; rw [HK.out]
     go_wp2_with (first | (refine step_load (by rfl) _ rfl _ rfl p HR1.out ?_) | fail)
     refine (abs_any up _ k2.out).mono ?_; rintro e wn ⟨rfl, rfl⟩; rw [HAu.out]
     go_wp2_with (first | (refine step_load (by rfl) _ rfl _ rfl p HR1.out ?_) | fail)
     refine (abs_any up _ k2.out).mono ?_; rintro e wn ⟨rfl, rfl⟩; rw [HAu.out]
     go_wp2_with fail
     go_ret
     exact ⟨by rw [HG.out, g2, g3, g4]; rfl, HB.out⟩
    ·go_enter Tryz.func96, Tryz.ntmps96
     go_wp2_with (refine step_box rfl _ rfl p rfl ?_; intro b1 w1 N R; have HB := H_ N.below; have HR1 := H_ R; have hcell := R.cell (1 + a) (by have := HA2.out; omega); rw [HX.out] at hcell; rw [kAt_board (by omega) HA2.out] at hcell; clear N R)
     refine (abs_any (fb - fa) _ k1.out).mono ?_; rintro e wn ⟨rfl, rfl⟩; rw [HAsd.out]
     go_wp2_with fail
     refine (abs_any up _ k2.out).mono ?_; rintro e wn ⟨rfl, rfl⟩; rw [HAu.out]
     go_wp2_with fail
     refine (rkind_any x _ X0.out.1 X0.out.2).mono ?_; rintro e wn ⟨rfl, rfl⟩; rw [HK.out]
     go_wp2_with (first | (refine step_load (by rfl) _ rfl _ rfl p HR1.out ?_) | fail)
     refine (abs_any up _ k2.out).mono ?_; rintro e wn ⟨rfl, rfl⟩; rw [HAu.out]
     go_wp2_with (first | (refine step_load (by rfl) _ rfl _ rfl p HR1.out ?_) | fail)
     refine (abs_any up _ k2.out).mono ?_; rintro e wn ⟨rfl, rfl⟩; rw [HAu.out]
     go_wp2_with fail
     go_ret
     exact ⟨by rw [HG.out, g2, g3, g4]; rfl, HB.out⟩
   ·cases g4 : (au == 2)
    ·go_enter Tryz.func96, Tryz.ntmps96
     go_wp2_with (refine step_box rfl _ rfl p rfl ?_; intro b1 w1 N R; have HB := H_ N.below; have HR1 := H_ R; have hcell := R.cell (1 + a) (by have := HA2.out; omega); rw [HX.out] at hcell; rw [kAt_board (by omega) HA2.out] at hcell; clear N R)
     refine (abs_any (fb - fa) _ k1.out).mono ?_; rintro e wn ⟨rfl, rfl⟩; rw [HAsd.out]
     go_wp2_with fail
     refine (abs_any up _ k2.out).mono ?_; rintro e wn ⟨rfl, rfl⟩; rw [HAu.out]
     go_wp2_with fail
     refine (rkind_any x _ X0.out.1 X0.out.2).mono ?_; rintro e wn ⟨rfl, rfl⟩; rw [HK.out]
     go_wp2_with (first | (refine step_load (by rfl) _ rfl _ rfl p HR1.out ?_) | fail)
     refine (abs_any up _ k2.out).mono ?_; rintro e wn ⟨rfl, rfl⟩; rw [HAu.out]
     go_wp2_with fail
     go_ret
     exact ⟨by rw [HG.out, g2, g3, g4]; rfl, HB.out⟩
    ·go_enter Tryz.func96, Tryz.ntmps96
     go_wp2_with (refine step_box rfl _ rfl p rfl ?_; intro b1 w1 N R; have HB := H_ N.below; have HR1 := H_ R; have hcell := R.cell (1 + a) (by have := HA2.out; omega); rw [HX.out] at hcell; rw [kAt_board (by omega) HA2.out] at hcell; clear N R)
     refine (abs_any (fb - fa) _ k1.out).mono ?_; rintro e wn ⟨rfl, rfl⟩; rw [HAsd.out]
     go_wp2_with fail
     refine (abs_any up _ k2.out).mono ?_; rintro e wn ⟨rfl, rfl⟩; rw [HAu.out]
     go_wp2_with fail
     refine (rkind_any x _ X0.out.1 X0.out.2).mono ?_; rintro e wn ⟨rfl, rfl⟩; rw [HK.out]
     go_wp2_with (first | (refine step_load (by rfl) _ rfl _ rfl p HR1.out ?_) | fail)
     refine (abs_any up _ k2.out).mono ?_; rintro e wn ⟨rfl, rfl⟩; rw [HAu.out]
     go_wp2_with fail
     go_ret
     exact ⟨by rw [HG.out, g2, g3, g4]; rfl, HB.out⟩
 ·cases g2 : (au == 1)
  ·cases g3 : (asd == 2)
   ·cases g4 : (au == 2)
    ·go_enter Tryz.func96, Tryz.ntmps96
     go_wp2_with (refine step_box rfl _ rfl p rfl ?_; intro b1 w1 N R; have HB := H_ N.below; have HR1 := H_ R; have hcell := R.cell (1 + a) (by have := HA2.out; omega); rw [HX.out] at hcell; rw [kAt_board (by omega) HA2.out] at hcell; clear N R)
     refine (abs_any (fb - fa) _ k1.out).mono ?_; rintro e wn ⟨rfl, rfl⟩; rw [HAsd.out]
     go_wp2_with fail
     refine (abs_any up _ k2.out).mono ?_; rintro e wn ⟨rfl, rfl⟩; rw [HAu.out]
     go_wp2_with fail
     refine (rkind_any x _ X0.out.1 X0.out.2).mono ?_; rintro e wn ⟨rfl, rfl⟩; rw [HK.out]
     go_wp2_with (first | (refine step_load (by rfl) _ rfl _ rfl p HR1.out ?_) | fail)
     refine (abs_any up _ k2.out).mono ?_; rintro e wn ⟨rfl, rfl⟩; rw [HAu.out]
     go_wp2_with (first | (refine step_load (by rfl) _ rfl _ rfl p HR1.out ?_) | fail)
     refine (abs_any up _ k2.out).mono ?_; rintro e wn ⟨rfl, rfl⟩; rw [HAu.out]
     go_wp2_with fail
     go_ret
     exact ⟨by rw [HG.out, g2, g3, g4]; rfl, HB.out⟩
    ·go_enter Tryz.func96, Tryz.ntmps96
     go_wp2_with (refine step_box rfl _ rfl p rfl ?_; intro b1 w1 N R; have HB := H_ N.below; have HR1 := H_ R; have hcell := R.cell (1 + a) (by have := HA2.out; omega); rw [HX.out] at hcell; rw [kAt_board (by omega) HA2.out] at hcell; clear N R)
     refine (abs_any (fb - fa) _ k1.out).mono ?_; rintro e wn ⟨rfl, rfl⟩; rw [HAsd.out]
     go_wp2_with fail
     refine (abs_any up _ k2.out).mono ?_; rintro e wn ⟨rfl, rfl⟩; rw [HAu.out]
     go_wp2_with fail
     refine (rkind_any x _ X0.out.1 X0.out.2).mono ?_; rintro e wn ⟨rfl, rfl⟩; rw [HK.out]
     go_wp2_with (first | (refine step_load (by rfl) _ rfl _ rfl p HR1.out ?_) | fail)
     refine (abs_any up _ k2.out).mono ?_; rintro e wn ⟨rfl, rfl⟩; rw [HAu.out]
     go_wp2_with (first | (refine step_load (by rfl) _ rfl _ rfl p HR1.out ?_) | fail)
     refine (abs_any up _ k2.out).mono ?_; rintro e wn ⟨rfl, rfl⟩; rw [HAu.out]
     go_wp2_with fail
     go_ret
     exact ⟨by rw [HG.out, g2, g3, g4]; rfl, HB.out⟩
   ·cases g4 : (au == 2)
    ·go_enter Tryz.func96, Tryz.ntmps96
     go_wp2_with (refine step_box rfl _ rfl p rfl ?_; intro b1 w1 N R; have HB := H_ N.below; have HR1 := H_ R; have hcell := R.cell (1 + a) (by have := HA2.out; omega); rw [HX.out] at hcell; rw [kAt_board (by omega) HA2.out] at hcell; clear N R)
     refine (abs_any (fb - fa) _ k1.out).mono ?_; rintro e wn ⟨rfl, rfl⟩; rw [HAsd.out]
     go_wp2_with fail
     refine (abs_any up _ k2.out).mono ?_; rintro e wn ⟨rfl, rfl⟩; rw [HAu.out]
     go_wp2_with fail
     refine (rkind_any x _ X0.out.1 X0.out.2).mono ?_; rintro e wn ⟨rfl, rfl⟩; rw [HK.out]
     go_wp2_with (first | (refine step_load (by rfl) _ rfl _ rfl p HR1.out ?_) | fail)
     refine (abs_any up _ k2.out).mono ?_; rintro e wn ⟨rfl, rfl⟩; rw [HAu.out]
     go_wp2_with (first | (refine step_load (by rfl) _ rfl _ rfl p HR1.out ?_) | fail)
     refine (abs_any up _ k2.out).mono ?_; rintro e wn ⟨rfl, rfl⟩; rw [HAu.out]
     go_wp2_with fail
     go_ret
     exact ⟨by rw [HG.out, g2, g3, g4]; rfl, HB.out⟩
    ·go_enter Tryz.func96, Tryz.ntmps96
     go_wp2_with (refine step_box rfl _ rfl p rfl ?_; intro b1 w1 N R; have HB := H_ N.below; have HR1 := H_ R; have hcell := R.cell (1 + a) (by have := HA2.out; omega); rw [HX.out] at hcell; rw [kAt_board (by omega) HA2.out] at hcell; clear N R)
     refine (abs_any (fb - fa) _ k1.out).mono ?_; rintro e wn ⟨rfl, rfl⟩; rw [HAsd.out]
     go_wp2_with fail
     refine (abs_any up _ k2.out).mono ?_; rintro e wn ⟨rfl, rfl⟩; rw [HAu.out]
     go_wp2_with fail
     refine (rkind_any x _ X0.out.1 X0.out.2).mono ?_; rintro e wn ⟨rfl, rfl⟩; rw [HK.out]
     go_wp2_with (first | (refine step_load (by rfl) _ rfl _ rfl p HR1.out ?_) | fail)
     refine (abs_any up _ k2.out).mono ?_; rintro e wn ⟨rfl, rfl⟩; rw [HAu.out]
     go_wp2_with (first | (refine step_load (by rfl) _ rfl _ rfl p HR1.out ?_) | fail)
     refine (abs_any up _ k2.out).mono ?_; rintro e wn ⟨rfl, rfl⟩; rw [HAu.out]
     go_wp2_with fail
     go_ret
     exact ⟨by rw [HG.out, g2, g3, g4]; rfl, HB.out⟩
  ·cases g3 : (asd == 2)
   ·cases g4 : (au == 2)
    ·go_enter Tryz.func96, Tryz.ntmps96
     go_wp2_with (refine step_box rfl _ rfl p rfl ?_; intro b1 w1 N R; have HB := H_ N.below; have HR1 := H_ R; have hcell := R.cell (1 + a) (by have := HA2.out; omega); rw [HX.out] at hcell; rw [kAt_board (by omega) HA2.out] at hcell; clear N R)
     refine (abs_any (fb - fa) _ k1.out).mono ?_; rintro e wn ⟨rfl, rfl⟩; rw [HAsd.out]
     go_wp2_with fail
     refine (abs_any up _ k2.out).mono ?_; rintro e wn ⟨rfl, rfl⟩; rw [HAu.out]
     go_wp2_with fail
     refine (rkind_any x _ X0.out.1 X0.out.2).mono ?_; rintro e wn ⟨rfl, rfl⟩; rw [HK.out]
     go_wp2_with (first | (refine step_load (by rfl) _ rfl _ rfl p HR1.out ?_) | fail)
     refine (abs_any up _ k2.out).mono ?_; rintro e wn ⟨rfl, rfl⟩; rw [HAu.out]
     go_wp2_with (first | (refine step_load (by rfl) _ rfl _ rfl p HR1.out ?_) | fail)
     refine (abs_any up _ k2.out).mono ?_; rintro e wn ⟨rfl, rfl⟩; rw [HAu.out]
     go_wp2_with fail
     go_ret
     exact ⟨by rw [HG.out, g2, g3, g4]; rfl, HB.out⟩
    ·go_enter Tryz.func96, Tryz.ntmps96
     go_wp2_with (refine step_box rfl _ rfl p rfl ?_; intro b1 w1 N R; have HB := H_ N.below; have HR1 := H_ R; have hcell := R.cell (1 + a) (by have := HA2.out; omega); rw [HX.out] at hcell; rw [kAt_board (by omega) HA2.out] at hcell; clear N R)
     refine (abs_any (fb - fa) _ k1.out).mono ?_; rintro e wn ⟨rfl, rfl⟩; rw [HAsd.out]
     go_wp2_with fail
     refine (abs_any up _ k2.out).mono ?_; rintro e wn ⟨rfl, rfl⟩; rw [HAu.out]
     go_wp2_with fail
     refine (rkind_any x _ X0.out.1 X0.out.2).mono ?_; rintro e wn ⟨rfl, rfl⟩; rw [HK.out]
     go_wp2_with (first | (refine step_load (by rfl) _ rfl _ rfl p HR1.out ?_) | fail)
     refine (abs_any up _ k2.out).mono ?_; rintro e wn ⟨rfl, rfl⟩; rw [HAu.out]
     go_wp2_with (first | (refine step_load (by rfl) _ rfl _ rfl p HR1.out ?_) | fail)
     refine (abs_any up _ k2.out).mono ?_; rintro e wn ⟨rfl, rfl⟩; rw [HAu.out]
     go_wp2_with fail
     go_ret
     exact ⟨by rw [HG.out, g2, g3, g4]; rfl, HB.out⟩
   ·cases g4 : (au == 2)
    ·go_enter Tryz.func96, Tryz.ntmps96
     go_wp2_with (refine step_box rfl _ rfl p rfl ?_; intro b1 w1 N R; have HB := H_ N.below; have HR1 := H_ R; have hcell := R.cell (1 + a) (by have := HA2.out; omega); rw [HX.out] at hcell; rw [kAt_board (by omega) HA2.out] at hcell; clear N R)
     refine (abs_any (fb - fa) _ k1.out).mono ?_; rintro e wn ⟨rfl, rfl⟩; rw [HAsd.out]
     go_wp2_with fail
     refine (abs_any up _ k2.out).mono ?_; rintro e wn ⟨rfl, rfl⟩; rw [HAu.out]
     go_wp2_with fail
     refine (rkind_any x _ X0.out.1 X0.out.2).mono ?_; rintro e wn ⟨rfl, rfl⟩; rw [HK.out]
     go_wp2_with (first | (refine step_load (by rfl) _ rfl _ rfl p HR1.out ?_) | fail)
     refine (abs_any up _ k2.out).mono ?_; rintro e wn ⟨rfl, rfl⟩; rw [HAu.out]
     go_wp2_with fail
     go_ret
     exact ⟨by rw [HG.out, g2, g3, g4]; rfl, HB.out⟩
    ·go_enter Tryz.func96, Tryz.ntmps96
     go_wp2_with (refine step_box rfl _ rfl p rfl ?_; intro b1 w1 N R; have HB := H_ N.below; have HR1 := H_ R; have hcell := R.cell (1 + a) (by have := HA2.out; omega); rw [HX.out] at hcell; rw [kAt_board (by omega) HA2.out] at hcell; clear N R)
     refine (abs_any (fb - fa) _ k1.out).mono ?_; rintro e wn ⟨rfl, rfl⟩; rw [HAsd.out]
     go_wp2_with fail
     refine (abs_any up _ k2.out).mono ?_; rintro e wn ⟨rfl, rfl⟩; rw [HAu.out]
     go_wp2_with fail
     refine (rkind_any x _ X0.out.1 X0.out.2).mono ?_; rintro e wn ⟨rfl, rfl⟩; rw [HK.out]
     go_wp2_with (first | (refine step_load (by rfl) _ rfl _ rfl p HR1.out ?_) | fail)
     refine (abs_any up _ k2.out).mono ?_; rintro e wn ⟨rfl, rfl⟩; rw [HAu.out]
     go_wp2_with fail
     go_ret
     exact ⟨by rw [HG.out, g2, g3, g4]; rfl, HB.out⟩
theorem hits_k (p : Nat → Int) (a b : Nat) (w : World) (hp : BdR p) (ha : a < 64) (hb : b < 64) (hk : kndZ (p (1 + a)) = 6) : Calls Tryz.prog 96 #[.agg (posA p), .int .i64 (a : Int), .int .i64 (b : Int)] w (BoL ((fromN p (a : Int)).testBit b) w) := by
 have hg := from_geo p ha hb
 rw [if_neg (by rw [hk]; decide), if_neg (by rw [hk]; decide), if_pos hk] at hg
 have HPb := H_ hp
 have HAb := H_ ha
 have HBb := H_ hb
 obtain ⟨x0, x1⟩ := hp a ha
 obtain ⟨x, HX⟩ : ∃ x, Hid (p (1 + a) = x) := ⟨_, H_ rfl⟩
 rw [HX.out] at x0 x1 hk
 have X0 := H_ (And.intro x0 x1)
 have HK := H_ hk
 have s0 := str_int a b
 have q0 := acr_int a b
 rw [up_int, off_int] at s0 q0
 try simp only [up_int, off_int] at hg
 obtain ⟨ra, e1⟩ : ∃ r : Int, (a : Int) / 8 = r := ⟨_, rfl⟩
 obtain ⟨rb, e2⟩ : ∃ r : Int, (b : Int) / 8 = r := ⟨_, rfl⟩
 obtain ⟨fa, e3⟩ : ∃ r : Int, (a : Int) % 8 = r := ⟨_, rfl⟩
 obtain ⟨fb, e4⟩ : ∃ r : Int, (b : Int) % 8 = r := ⟨_, rfl⟩
 rw [e1, e2, e3, e4] at s0 q0
 try simp only [e1, e2, e3, e4] at hg
 have b1 : 0 ≤ ra := by omega
 have b2 : ra ≤ 7 := by omega
 have b3 : 0 ≤ rb := by omega
 have b4 : rb ≤ 7 := by omega
 have b5 : 0 ≤ fa := by omega
 have b6 : fa ≤ 7 := by omega
 have b7 : 0 ≤ fb := by omega
 have b8 : fb ≤ 7 := by omega
 obtain ⟨up, e5⟩ : ∃ r : Int, rb - ra = r := ⟨_, rfl⟩
 have u1 : -7 ≤ up := by omega
 have u2 : up ≤ 7 := by omega
 rw [e5] at s0 q0
 try simp only [e5] at hg
 obtain ⟨asd, HAsd⟩ : ∃ r : Int, Hid (absZ (fb - fa) = r) := ⟨_, H_ rfl⟩
 rw [HAsd.out] at s0 q0
 try simp only [HAsd.out] at hg
 obtain ⟨au, HAu⟩ : ∃ r : Int, Hid (absZ up = r) := ⟨_, H_ rfl⟩
 rw [HAu.out] at q0
 try simp only [HAu.out] at hg
 have k1 := H_ (show -100 ≤ fb - fa ∧ fb - fa ≤ 100 by omega)
 have k2 := H_ (show -100 ≤ up ∧ up ≤ 100 by omega)
 have l0 : (a : Int) ≤ 63 := by omega
 obtain ⟨res, HRes⟩ : ∃ r, Hid ((fromN p (a : Int)).testBit b = r) := ⟨_, H_ rfl⟩
 rw [HRes.out] at hg ⊢
 have HG := H_ hg
 have S0 := H_ s0
 have Q0 := H_ q0
 have HA2 := H_ ha
 clear hg s0 q0 hp hk x0 x1
 cases g1 : (au == asd)
 ·go_enter Tryz.func96, Tryz.ntmps96
  go_wp2_with (refine step_box rfl _ rfl p rfl ?_; intro b1 w1 N R; have HB := H_ N.below; have HR1 := H_ R; have hcell := R.cell (1 + a) (by have := HA2.out; omega); rw [HX.out] at hcell; rw [kAt_board (by omega) HA2.out] at hcell; clear N R)
  refine (abs_any (fb - fa) _ k1.out).mono ?_; rintro e wn ⟨rfl, rfl⟩; rw [HAsd.out]
  go_wp2_with fail
  refine (abs_any up _ k2.out).mono ?_; rintro e wn ⟨rfl, rfl⟩; rw [HAu.out]
  go_wp2_with fail
  refine (rkind_any x _ X0.out.1 X0.out.2).mono ?_; rintro e wn ⟨rfl, rfl⟩; rw [HK.out]
  go_wp2_with (first | (refine step_load (by rfl) _ rfl _ rfl p HR1.out ?_) | fail)
  refine (rbeside_any a b _ HAb.out HBb.out).mono ?_; rintro e wn ⟨rfl, rfl⟩
  go_wp2_with fail
  go_ret
  exact ⟨by rw [HG.out]; rfl, HB.out⟩
 ·go_enter Tryz.func96, Tryz.ntmps96
  go_wp2_with (refine step_box rfl _ rfl p rfl ?_; intro b1 w1 N R; have HB := H_ N.below; have HR1 := H_ R; have hcell := R.cell (1 + a) (by have := HA2.out; omega); rw [HX.out] at hcell; rw [kAt_board (by omega) HA2.out] at hcell; clear N R)
  refine (abs_any (fb - fa) _ k1.out).mono ?_; rintro e wn ⟨rfl, rfl⟩; rw [HAsd.out]
  go_wp2_with fail
  refine (abs_any up _ k2.out).mono ?_; rintro e wn ⟨rfl, rfl⟩; rw [HAu.out]
  go_wp2_with fail
  refine (rkind_any x _ X0.out.1 X0.out.2).mono ?_; rintro e wn ⟨rfl, rfl⟩; rw [HK.out]
  go_wp2_with (first | (refine step_load (by rfl) _ rfl _ rfl p HR1.out ?_) | fail)
  refine (rbeside_any a b _ HAb.out HBb.out).mono ?_; rintro e wn ⟨rfl, rfl⟩
  go_wp2_with fail
  go_ret
  exact ⟨by rw [HG.out]; rfl, HB.out⟩
theorem hits_r (p : Nat → Int) (a b : Nat) (w : World) (hp : BdR p) (ha : a < 64) (hb : b < 64) (hk : kndZ (p (1 + a)) = 4) : Calls Tryz.prog 96 #[.agg (posA p), .int .i64 (a : Int), .int .i64 (b : Int)] w (BoL ((fromN p (a : Int)).testBit b) w) := by
 have hg := from_geo p ha hb
 rw [if_neg (by rw [hk]; decide), if_neg (by rw [hk]; decide), if_neg (by rw [hk]; decide), if_pos hk] at hg
 have HPb := H_ hp
 have HAb := H_ ha
 have HBb := H_ hb
 obtain ⟨x0, x1⟩ := hp a ha
 obtain ⟨x, HX⟩ : ∃ x, Hid (p (1 + a) = x) := ⟨_, H_ rfl⟩
 rw [HX.out] at x0 x1 hk
 have X0 := H_ (And.intro x0 x1)
 have HK := H_ hk
 have s0 := str_int a b
 have q0 := acr_int a b
 rw [up_int, off_int] at s0 q0
 try simp only [up_int, off_int] at hg
 obtain ⟨ra, e1⟩ : ∃ r : Int, (a : Int) / 8 = r := ⟨_, rfl⟩
 obtain ⟨rb, e2⟩ : ∃ r : Int, (b : Int) / 8 = r := ⟨_, rfl⟩
 obtain ⟨fa, e3⟩ : ∃ r : Int, (a : Int) % 8 = r := ⟨_, rfl⟩
 obtain ⟨fb, e4⟩ : ∃ r : Int, (b : Int) % 8 = r := ⟨_, rfl⟩
 rw [e1, e2, e3, e4] at s0 q0
 try simp only [e1, e2, e3, e4] at hg
 have b1 : 0 ≤ ra := by omega
 have b2 : ra ≤ 7 := by omega
 have b3 : 0 ≤ rb := by omega
 have b4 : rb ≤ 7 := by omega
 have b5 : 0 ≤ fa := by omega
 have b6 : fa ≤ 7 := by omega
 have b7 : 0 ≤ fb := by omega
 have b8 : fb ≤ 7 := by omega
 obtain ⟨up, e5⟩ : ∃ r : Int, rb - ra = r := ⟨_, rfl⟩
 have u1 : -7 ≤ up := by omega
 have u2 : up ≤ 7 := by omega
 rw [e5] at s0 q0
 try simp only [e5] at hg
 obtain ⟨asd, HAsd⟩ : ∃ r : Int, Hid (absZ (fb - fa) = r) := ⟨_, H_ rfl⟩
 rw [HAsd.out] at s0 q0
 try simp only [HAsd.out] at hg
 obtain ⟨au, HAu⟩ : ∃ r : Int, Hid (absZ up = r) := ⟨_, H_ rfl⟩
 rw [HAu.out] at q0
 try simp only [HAu.out] at hg
 have k1 := H_ (show -100 ≤ fb - fa ∧ fb - fa ≤ 100 by omega)
 have k2 := H_ (show -100 ≤ up ∧ up ≤ 100 by omega)
 have l0 : (a : Int) ≤ 63 := by omega
 obtain ⟨res, HRes⟩ : ∃ r, Hid ((fromN p (a : Int)).testBit b = r) := ⟨_, H_ rfl⟩
 rw [HRes.out] at hg ⊢
 have HG := H_ hg
 have S0 := H_ s0
 have Q0 := H_ q0
 have HA2 := H_ ha
 clear hg s0 q0 hp hk x0 x1
 cases g1 : (au == asd)
 ·cases g4 : (up == 0)
  ·cases g5 : (asd == 0)
   ·go_enter Tryz.func96, Tryz.ntmps96
    go_wp2_with (refine step_box rfl _ rfl p rfl ?_; intro b1 w1 N R; have HB := H_ N.below; have HR1 := H_ R; have hcell := R.cell (1 + a) (by have := HA2.out; omega); rw [HX.out] at hcell; rw [kAt_board (by omega) HA2.out] at hcell; clear N R)
    refine (abs_any (fb - fa) _ k1.out).mono ?_; rintro e wn ⟨rfl, rfl⟩; rw [HAsd.out]
    go_wp2_with fail
    refine (abs_any up _ k2.out).mono ?_; rintro e wn ⟨rfl, rfl⟩; rw [HAu.out]
    go_wp2_with fail
    refine (rkind_any x _ X0.out.1 X0.out.2).mono ?_; rintro e wn ⟨rfl, rfl⟩; rw [HK.out]
    go_wp2_with fail
    go_ret
    exact ⟨by rw [HG.out, S0.out, g4, g5]; rfl, HB.out⟩
   ·go_enter Tryz.func96, Tryz.ntmps96
    go_wp2_with (refine step_box rfl _ rfl p rfl ?_; intro b1 w1 N R; have HB := H_ N.below; have HR1 := H_ R; have hcell := R.cell (1 + a) (by have := HA2.out; omega); rw [HX.out] at hcell; rw [kAt_board (by omega) HA2.out] at hcell; clear N R)
    refine (abs_any (fb - fa) _ k1.out).mono ?_; rintro e wn ⟨rfl, rfl⟩; rw [HAsd.out]
    go_wp2_with fail
    refine (abs_any up _ k2.out).mono ?_; rintro e wn ⟨rfl, rfl⟩; rw [HAu.out]
    go_wp2_with fail
    refine (rkind_any x _ X0.out.1 X0.out.2).mono ?_; rintro e wn ⟨rfl, rfl⟩; rw [HK.out]
    go_wp2_with (first | (refine step_load (by rfl) _ rfl _ rfl p HR1.out ?_) | fail)
    refine (rclear_any8 p a b _ HPb.out HAb.out HBb.out (by rw [S0.out, g4, g5]; rfl)).mono ?_; rintro e wn ⟨rfl, hb9⟩; have HB := H_ (below_on HB.out hb9); clear hb9
    go_wp2_with fail
    go_ret
    exact ⟨by rw [HG.out, S0.out, g4, g5]; rfl, HB.out⟩
  ·cases g5 : (asd == 0)
   ·go_enter Tryz.func96, Tryz.ntmps96
    go_wp2_with (refine step_box rfl _ rfl p rfl ?_; intro b1 w1 N R; have HB := H_ N.below; have HR1 := H_ R; have hcell := R.cell (1 + a) (by have := HA2.out; omega); rw [HX.out] at hcell; rw [kAt_board (by omega) HA2.out] at hcell; clear N R)
    refine (abs_any (fb - fa) _ k1.out).mono ?_; rintro e wn ⟨rfl, rfl⟩; rw [HAsd.out]
    go_wp2_with fail
    refine (abs_any up _ k2.out).mono ?_; rintro e wn ⟨rfl, rfl⟩; rw [HAu.out]
    go_wp2_with fail
    refine (rkind_any x _ X0.out.1 X0.out.2).mono ?_; rintro e wn ⟨rfl, rfl⟩; rw [HK.out]
    go_wp2_with (first | (refine step_load (by rfl) _ rfl _ rfl p HR1.out ?_) | fail)
    refine (rclear_any8 p a b _ HPb.out HAb.out HBb.out (by rw [S0.out, g4, g5]; rfl)).mono ?_; rintro e wn ⟨rfl, hb9⟩; have HB := H_ (below_on HB.out hb9); clear hb9
    go_wp2_with fail
    go_ret
    exact ⟨by rw [HG.out, S0.out, g4, g5]; rfl, HB.out⟩
   ·go_enter Tryz.func96, Tryz.ntmps96
    go_wp2_with (refine step_box rfl _ rfl p rfl ?_; intro b1 w1 N R; have HB := H_ N.below; have HR1 := H_ R; have hcell := R.cell (1 + a) (by have := HA2.out; omega); rw [HX.out] at hcell; rw [kAt_board (by omega) HA2.out] at hcell; clear N R)
    refine (abs_any (fb - fa) _ k1.out).mono ?_; rintro e wn ⟨rfl, rfl⟩; rw [HAsd.out]
    go_wp2_with fail
    refine (abs_any up _ k2.out).mono ?_; rintro e wn ⟨rfl, rfl⟩; rw [HAu.out]
    go_wp2_with fail
    refine (rkind_any x _ X0.out.1 X0.out.2).mono ?_; rintro e wn ⟨rfl, rfl⟩; rw [HK.out]
    go_wp2_with fail
    go_ret
    exact ⟨by rw [HG.out, S0.out, g4, g5]; rfl, HB.out⟩
 ·cases g4 : (up == 0)
  ·cases g5 : (asd == 0)
   ·go_enter Tryz.func96, Tryz.ntmps96
    go_wp2_with (refine step_box rfl _ rfl p rfl ?_; intro b1 w1 N R; have HB := H_ N.below; have HR1 := H_ R; have hcell := R.cell (1 + a) (by have := HA2.out; omega); rw [HX.out] at hcell; rw [kAt_board (by omega) HA2.out] at hcell; clear N R)
    refine (abs_any (fb - fa) _ k1.out).mono ?_; rintro e wn ⟨rfl, rfl⟩; rw [HAsd.out]
    go_wp2_with fail
    refine (abs_any up _ k2.out).mono ?_; rintro e wn ⟨rfl, rfl⟩; rw [HAu.out]
    go_wp2_with fail
    refine (rkind_any x _ X0.out.1 X0.out.2).mono ?_; rintro e wn ⟨rfl, rfl⟩; rw [HK.out]
    go_wp2_with fail
    go_ret
    exact ⟨by rw [HG.out, S0.out, g4, g5]; rfl, HB.out⟩
   ·go_enter Tryz.func96, Tryz.ntmps96
    go_wp2_with (refine step_box rfl _ rfl p rfl ?_; intro b1 w1 N R; have HB := H_ N.below; have HR1 := H_ R; have hcell := R.cell (1 + a) (by have := HA2.out; omega); rw [HX.out] at hcell; rw [kAt_board (by omega) HA2.out] at hcell; clear N R)
    refine (abs_any (fb - fa) _ k1.out).mono ?_; rintro e wn ⟨rfl, rfl⟩; rw [HAsd.out]
    go_wp2_with fail
    refine (abs_any up _ k2.out).mono ?_; rintro e wn ⟨rfl, rfl⟩; rw [HAu.out]
    go_wp2_with fail
    refine (rkind_any x _ X0.out.1 X0.out.2).mono ?_; rintro e wn ⟨rfl, rfl⟩; rw [HK.out]
    go_wp2_with (first | (refine step_load (by rfl) _ rfl _ rfl p HR1.out ?_) | fail)
    refine (rclear_any8 p a b _ HPb.out HAb.out HBb.out (by rw [S0.out, g4, g5]; rfl)).mono ?_; rintro e wn ⟨rfl, hb9⟩; have HB := H_ (below_on HB.out hb9); clear hb9
    go_wp2_with fail
    go_ret
    exact ⟨by rw [HG.out, S0.out, g4, g5]; rfl, HB.out⟩
  ·cases g5 : (asd == 0)
   ·go_enter Tryz.func96, Tryz.ntmps96
    go_wp2_with (refine step_box rfl _ rfl p rfl ?_; intro b1 w1 N R; have HB := H_ N.below; have HR1 := H_ R; have hcell := R.cell (1 + a) (by have := HA2.out; omega); rw [HX.out] at hcell; rw [kAt_board (by omega) HA2.out] at hcell; clear N R)
    refine (abs_any (fb - fa) _ k1.out).mono ?_; rintro e wn ⟨rfl, rfl⟩; rw [HAsd.out]
    go_wp2_with fail
    refine (abs_any up _ k2.out).mono ?_; rintro e wn ⟨rfl, rfl⟩; rw [HAu.out]
    go_wp2_with fail
    refine (rkind_any x _ X0.out.1 X0.out.2).mono ?_; rintro e wn ⟨rfl, rfl⟩; rw [HK.out]
    go_wp2_with (first | (refine step_load (by rfl) _ rfl _ rfl p HR1.out ?_) | fail)
    refine (rclear_any8 p a b _ HPb.out HAb.out HBb.out (by rw [S0.out, g4, g5]; rfl)).mono ?_; rintro e wn ⟨rfl, hb9⟩; have HB := H_ (below_on HB.out hb9); clear hb9
    go_wp2_with fail
    go_ret
    exact ⟨by rw [HG.out, S0.out, g4, g5]; rfl, HB.out⟩
   ·go_enter Tryz.func96, Tryz.ntmps96
    go_wp2_with (refine step_box rfl _ rfl p rfl ?_; intro b1 w1 N R; have HB := H_ N.below; have HR1 := H_ R; have hcell := R.cell (1 + a) (by have := HA2.out; omega); rw [HX.out] at hcell; rw [kAt_board (by omega) HA2.out] at hcell; clear N R)
    refine (abs_any (fb - fa) _ k1.out).mono ?_; rintro e wn ⟨rfl, rfl⟩; rw [HAsd.out]
    go_wp2_with fail
    refine (abs_any up _ k2.out).mono ?_; rintro e wn ⟨rfl, rfl⟩; rw [HAu.out]
    go_wp2_with fail
    refine (rkind_any x _ X0.out.1 X0.out.2).mono ?_; rintro e wn ⟨rfl, rfl⟩; rw [HK.out]
    go_wp2_with fail
    go_ret
    exact ⟨by rw [HG.out, S0.out, g4, g5]; rfl, HB.out⟩
theorem hits_bi (p : Nat → Int) (a b : Nat) (w : World) (hp : BdR p) (ha : a < 64) (hb : b < 64) (hk : kndZ (p (1 + a)) = 3) : Calls Tryz.prog 96 #[.agg (posA p), .int .i64 (a : Int), .int .i64 (b : Int)] w (BoL ((fromN p (a : Int)).testBit b) w) := by
 have hg := from_geo p ha hb
 rw [if_neg (by rw [hk]; decide), if_neg (by rw [hk]; decide), if_neg (by rw [hk]; decide), if_neg (by rw [hk]; decide), if_pos hk] at hg
 have HPb := H_ hp
 have HAb := H_ ha
 have HBb := H_ hb
 obtain ⟨x0, x1⟩ := hp a ha
 obtain ⟨x, HX⟩ : ∃ x, Hid (p (1 + a) = x) := ⟨_, H_ rfl⟩
 rw [HX.out] at x0 x1 hk
 have X0 := H_ (And.intro x0 x1)
 have HK := H_ hk
 have s0 := str_int a b
 have q0 := acr_int a b
 rw [up_int, off_int] at s0 q0
 try simp only [up_int, off_int] at hg
 obtain ⟨ra, e1⟩ : ∃ r : Int, (a : Int) / 8 = r := ⟨_, rfl⟩
 obtain ⟨rb, e2⟩ : ∃ r : Int, (b : Int) / 8 = r := ⟨_, rfl⟩
 obtain ⟨fa, e3⟩ : ∃ r : Int, (a : Int) % 8 = r := ⟨_, rfl⟩
 obtain ⟨fb, e4⟩ : ∃ r : Int, (b : Int) % 8 = r := ⟨_, rfl⟩
 rw [e1, e2, e3, e4] at s0 q0
 try simp only [e1, e2, e3, e4] at hg
 have b1 : 0 ≤ ra := by omega
 have b2 : ra ≤ 7 := by omega
 have b3 : 0 ≤ rb := by omega
 have b4 : rb ≤ 7 := by omega
 have b5 : 0 ≤ fa := by omega
 have b6 : fa ≤ 7 := by omega
 have b7 : 0 ≤ fb := by omega
 have b8 : fb ≤ 7 := by omega
 obtain ⟨up, e5⟩ : ∃ r : Int, rb - ra = r := ⟨_, rfl⟩
 have u1 : -7 ≤ up := by omega
 have u2 : up ≤ 7 := by omega
 rw [e5] at s0 q0
 try simp only [e5] at hg
 obtain ⟨asd, HAsd⟩ : ∃ r : Int, Hid (absZ (fb - fa) = r) := ⟨_, H_ rfl⟩
 rw [HAsd.out] at s0 q0
 try simp only [HAsd.out] at hg
 obtain ⟨au, HAu⟩ : ∃ r : Int, Hid (absZ up = r) := ⟨_, H_ rfl⟩
 rw [HAu.out] at q0
 try simp only [HAu.out] at hg
 have k1 := H_ (show -100 ≤ fb - fa ∧ fb - fa ≤ 100 by omega)
 have k2 := H_ (show -100 ≤ up ∧ up ≤ 100 by omega)
 have l0 : (a : Int) ≤ 63 := by omega
 obtain ⟨res, HRes⟩ : ∃ r, Hid ((fromN p (a : Int)).testBit b = r) := ⟨_, H_ rfl⟩
 rw [HRes.out] at hg ⊢
 have HG := H_ hg
 have S0 := H_ s0
 have Q0 := H_ q0
 have HA2 := H_ ha
 clear hg s0 q0 hp hk x0 x1
 cases g1 : (au == asd)
 ·cases g3 : (decide (0 < asd))
  ·go_enter Tryz.func96, Tryz.ntmps96
   go_wp2_with (refine step_box rfl _ rfl p rfl ?_; intro b1 w1 N R; have HB := H_ N.below; have HR1 := H_ R; have hcell := R.cell (1 + a) (by have := HA2.out; omega); rw [HX.out] at hcell; rw [kAt_board (by omega) HA2.out] at hcell; clear N R)
   refine (abs_any (fb - fa) _ k1.out).mono ?_; rintro e wn ⟨rfl, rfl⟩; rw [HAsd.out]
   go_wp2_with fail
   refine (abs_any up _ k2.out).mono ?_; rintro e wn ⟨rfl, rfl⟩; rw [HAu.out]
   go_wp2_with fail
   refine (rkind_any x _ X0.out.1 X0.out.2).mono ?_; rintro e wn ⟨rfl, rfl⟩; rw [HK.out]
   go_wp2_with fail
   go_ret
   exact ⟨by rw [HG.out, Q0.out, g1, g3]; rfl, HB.out⟩
  ·go_enter Tryz.func96, Tryz.ntmps96
   go_wp2_with (refine step_box rfl _ rfl p rfl ?_; intro b1 w1 N R; have HB := H_ N.below; have HR1 := H_ R; have hcell := R.cell (1 + a) (by have := HA2.out; omega); rw [HX.out] at hcell; rw [kAt_board (by omega) HA2.out] at hcell; clear N R)
   refine (abs_any (fb - fa) _ k1.out).mono ?_; rintro e wn ⟨rfl, rfl⟩; rw [HAsd.out]
   go_wp2_with fail
   refine (abs_any up _ k2.out).mono ?_; rintro e wn ⟨rfl, rfl⟩; rw [HAu.out]
   go_wp2_with fail
   refine (rkind_any x _ X0.out.1 X0.out.2).mono ?_; rintro e wn ⟨rfl, rfl⟩; rw [HK.out]
   go_wp2_with fail
   go_ret
   exact ⟨by rw [HG.out, Q0.out, g1, g3]; rfl, HB.out⟩
 ·cases g3 : (decide (0 < asd))
  ·go_enter Tryz.func96, Tryz.ntmps96
   go_wp2_with (refine step_box rfl _ rfl p rfl ?_; intro b1 w1 N R; have HB := H_ N.below; have HR1 := H_ R; have hcell := R.cell (1 + a) (by have := HA2.out; omega); rw [HX.out] at hcell; rw [kAt_board (by omega) HA2.out] at hcell; clear N R)
   refine (abs_any (fb - fa) _ k1.out).mono ?_; rintro e wn ⟨rfl, rfl⟩; rw [HAsd.out]
   go_wp2_with fail
   refine (abs_any up _ k2.out).mono ?_; rintro e wn ⟨rfl, rfl⟩; rw [HAu.out]
   go_wp2_with fail
   refine (rkind_any x _ X0.out.1 X0.out.2).mono ?_; rintro e wn ⟨rfl, rfl⟩; rw [HK.out]
   go_wp2_with fail
   go_ret
   exact ⟨by rw [HG.out, Q0.out, g1, g3]; rfl, HB.out⟩
  ·go_enter Tryz.func96, Tryz.ntmps96
   go_wp2_with (refine step_box rfl _ rfl p rfl ?_; intro b1 w1 N R; have HB := H_ N.below; have HR1 := H_ R; have hcell := R.cell (1 + a) (by have := HA2.out; omega); rw [HX.out] at hcell; rw [kAt_board (by omega) HA2.out] at hcell; clear N R)
   refine (abs_any (fb - fa) _ k1.out).mono ?_; rintro e wn ⟨rfl, rfl⟩; rw [HAsd.out]
   go_wp2_with fail
   refine (abs_any up _ k2.out).mono ?_; rintro e wn ⟨rfl, rfl⟩; rw [HAu.out]
   go_wp2_with fail
   refine (rkind_any x _ X0.out.1 X0.out.2).mono ?_; rintro e wn ⟨rfl, rfl⟩; rw [HK.out]
   go_wp2_with (first | (refine step_load (by rfl) _ rfl _ rfl p HR1.out ?_) | fail)
   refine (rclear_any8 p a b _ HPb.out HAb.out HBb.out (by rw [Q0.out, g1, g3]; simp)).mono ?_; rintro e wn ⟨rfl, hb9⟩; have HB := H_ (below_on HB.out hb9); clear hb9
   go_wp2_with fail
   go_ret
   exact ⟨by rw [HG.out, Q0.out, g1, g3]; rfl, HB.out⟩
theorem hits_q (p : Nat → Int) (a b : Nat) (w : World) (hp : BdR p) (ha : a < 64) (hb : b < 64) (hk : kndZ (p (1 + a)) = 5) : Calls Tryz.prog 96 #[.agg (posA p), .int .i64 (a : Int), .int .i64 (b : Int)] w (BoL ((fromN p (a : Int)).testBit b) w) := by
 have hg := from_geo p ha hb
 rw [if_neg (by rw [hk]; decide), if_neg (by rw [hk]; decide), if_neg (by rw [hk]; decide), if_neg (by rw [hk]; decide), if_neg (by rw [hk]; decide), if_pos hk] at hg
 have HPb := H_ hp
 have HAb := H_ ha
 have HBb := H_ hb
 obtain ⟨x0, x1⟩ := hp a ha
 obtain ⟨x, HX⟩ : ∃ x, Hid (p (1 + a) = x) := ⟨_, H_ rfl⟩
 rw [HX.out] at x0 x1 hk
 have X0 := H_ (And.intro x0 x1)
 have HK := H_ hk
 have s0 := str_int a b
 have q0 := acr_int a b
 rw [up_int, off_int] at s0 q0
 try simp only [up_int, off_int] at hg
 obtain ⟨ra, e1⟩ : ∃ r : Int, (a : Int) / 8 = r := ⟨_, rfl⟩
 obtain ⟨rb, e2⟩ : ∃ r : Int, (b : Int) / 8 = r := ⟨_, rfl⟩
 obtain ⟨fa, e3⟩ : ∃ r : Int, (a : Int) % 8 = r := ⟨_, rfl⟩
 obtain ⟨fb, e4⟩ : ∃ r : Int, (b : Int) % 8 = r := ⟨_, rfl⟩
 rw [e1, e2, e3, e4] at s0 q0
 try simp only [e1, e2, e3, e4] at hg
 have b1 : 0 ≤ ra := by omega
 have b2 : ra ≤ 7 := by omega
 have b3 : 0 ≤ rb := by omega
 have b4 : rb ≤ 7 := by omega
 have b5 : 0 ≤ fa := by omega
 have b6 : fa ≤ 7 := by omega
 have b7 : 0 ≤ fb := by omega
 have b8 : fb ≤ 7 := by omega
 obtain ⟨up, e5⟩ : ∃ r : Int, rb - ra = r := ⟨_, rfl⟩
 have u1 : -7 ≤ up := by omega
 have u2 : up ≤ 7 := by omega
 rw [e5] at s0 q0
 try simp only [e5] at hg
 obtain ⟨asd, HAsd⟩ : ∃ r : Int, Hid (absZ (fb - fa) = r) := ⟨_, H_ rfl⟩
 rw [HAsd.out] at s0 q0
 try simp only [HAsd.out] at hg
 obtain ⟨au, HAu⟩ : ∃ r : Int, Hid (absZ up = r) := ⟨_, H_ rfl⟩
 rw [HAu.out] at q0
 try simp only [HAu.out] at hg
 have k1 := H_ (show -100 ≤ fb - fa ∧ fb - fa ≤ 100 by omega)
 have k2 := H_ (show -100 ≤ up ∧ up ≤ 100 by omega)
 have l0 : (a : Int) ≤ 63 := by omega
 obtain ⟨res, HRes⟩ : ∃ r, Hid ((fromN p (a : Int)).testBit b = r) := ⟨_, H_ rfl⟩
 rw [HRes.out] at hg ⊢
 have HG := H_ hg
 have S0 := H_ s0
 have Q0 := H_ q0
 have HA2 := H_ ha
 clear hg s0 q0 hp hk x0 x1
 cases g1 : (au == asd)
 ·cases g3 : (decide (0 < asd))
  ·cases g4 : (up == 0)
   ·cases g5 : (asd == 0)
    ·go_enter Tryz.func96, Tryz.ntmps96
     go_wp2_with (refine step_box rfl _ rfl p rfl ?_; intro b1 w1 N R; have HB := H_ N.below; have HR1 := H_ R; have hcell := R.cell (1 + a) (by have := HA2.out; omega); rw [HX.out] at hcell; rw [kAt_board (by omega) HA2.out] at hcell; clear N R)
     refine (abs_any (fb - fa) _ k1.out).mono ?_; rintro e wn ⟨rfl, rfl⟩; rw [HAsd.out]
     go_wp2_with fail
     refine (abs_any up _ k2.out).mono ?_; rintro e wn ⟨rfl, rfl⟩; rw [HAu.out]
     go_wp2_with fail
     refine (rkind_any x _ X0.out.1 X0.out.2).mono ?_; rintro e wn ⟨rfl, rfl⟩; rw [HK.out]
     go_wp2_with fail
     go_ret
     exact ⟨by rw [HG.out, S0.out, Q0.out, g1, g3, g4, g5]; rfl, HB.out⟩
    ·go_enter Tryz.func96, Tryz.ntmps96
     go_wp2_with (refine step_box rfl _ rfl p rfl ?_; intro b1 w1 N R; have HB := H_ N.below; have HR1 := H_ R; have hcell := R.cell (1 + a) (by have := HA2.out; omega); rw [HX.out] at hcell; rw [kAt_board (by omega) HA2.out] at hcell; clear N R)
     refine (abs_any (fb - fa) _ k1.out).mono ?_; rintro e wn ⟨rfl, rfl⟩; rw [HAsd.out]
     go_wp2_with fail
     refine (abs_any up _ k2.out).mono ?_; rintro e wn ⟨rfl, rfl⟩; rw [HAu.out]
     go_wp2_with fail
     refine (rkind_any x _ X0.out.1 X0.out.2).mono ?_; rintro e wn ⟨rfl, rfl⟩; rw [HK.out]
     go_wp2_with (first | (refine step_load (by rfl) _ rfl _ rfl p HR1.out ?_) | fail)
     refine (rclear_any8 p a b _ HPb.out HAb.out HBb.out (by rw [S0.out, Q0.out, g1, g3, g4, g5]; rfl)).mono ?_; rintro e wn ⟨rfl, hb9⟩; have HB := H_ (below_on HB.out hb9); clear hb9
     go_wp2_with fail
     go_ret
     exact ⟨by rw [HG.out, S0.out, Q0.out, g1, g3, g4, g5]; rfl, HB.out⟩
   ·cases g5 : (asd == 0)
    ·go_enter Tryz.func96, Tryz.ntmps96
     go_wp2_with (refine step_box rfl _ rfl p rfl ?_; intro b1 w1 N R; have HB := H_ N.below; have HR1 := H_ R; have hcell := R.cell (1 + a) (by have := HA2.out; omega); rw [HX.out] at hcell; rw [kAt_board (by omega) HA2.out] at hcell; clear N R)
     refine (abs_any (fb - fa) _ k1.out).mono ?_; rintro e wn ⟨rfl, rfl⟩; rw [HAsd.out]
     go_wp2_with fail
     refine (abs_any up _ k2.out).mono ?_; rintro e wn ⟨rfl, rfl⟩; rw [HAu.out]
     go_wp2_with fail
     refine (rkind_any x _ X0.out.1 X0.out.2).mono ?_; rintro e wn ⟨rfl, rfl⟩; rw [HK.out]
     go_wp2_with (first | (refine step_load (by rfl) _ rfl _ rfl p HR1.out ?_) | fail)
     refine (rclear_any8 p a b _ HPb.out HAb.out HBb.out (by rw [S0.out, Q0.out, g1, g3, g4, g5]; rfl)).mono ?_; rintro e wn ⟨rfl, hb9⟩; have HB := H_ (below_on HB.out hb9); clear hb9
     go_wp2_with fail
     go_ret
     exact ⟨by rw [HG.out, S0.out, Q0.out, g1, g3, g4, g5]; rfl, HB.out⟩
    ·go_enter Tryz.func96, Tryz.ntmps96
     go_wp2_with (refine step_box rfl _ rfl p rfl ?_; intro b1 w1 N R; have HB := H_ N.below; have HR1 := H_ R; have hcell := R.cell (1 + a) (by have := HA2.out; omega); rw [HX.out] at hcell; rw [kAt_board (by omega) HA2.out] at hcell; clear N R)
     refine (abs_any (fb - fa) _ k1.out).mono ?_; rintro e wn ⟨rfl, rfl⟩; rw [HAsd.out]
     go_wp2_with fail
     refine (abs_any up _ k2.out).mono ?_; rintro e wn ⟨rfl, rfl⟩; rw [HAu.out]
     go_wp2_with fail
     refine (rkind_any x _ X0.out.1 X0.out.2).mono ?_; rintro e wn ⟨rfl, rfl⟩; rw [HK.out]
     go_wp2_with fail
     go_ret
     exact ⟨by rw [HG.out, S0.out, Q0.out, g1, g3, g4, g5]; rfl, HB.out⟩
  ·cases g4 : (up == 0)
   ·cases g5 : (asd == 0)
    ·go_enter Tryz.func96, Tryz.ntmps96
     go_wp2_with (refine step_box rfl _ rfl p rfl ?_; intro b1 w1 N R; have HB := H_ N.below; have HR1 := H_ R; have hcell := R.cell (1 + a) (by have := HA2.out; omega); rw [HX.out] at hcell; rw [kAt_board (by omega) HA2.out] at hcell; clear N R)
     refine (abs_any (fb - fa) _ k1.out).mono ?_; rintro e wn ⟨rfl, rfl⟩; rw [HAsd.out]
     go_wp2_with fail
     refine (abs_any up _ k2.out).mono ?_; rintro e wn ⟨rfl, rfl⟩; rw [HAu.out]
     go_wp2_with fail
     refine (rkind_any x _ X0.out.1 X0.out.2).mono ?_; rintro e wn ⟨rfl, rfl⟩; rw [HK.out]
     go_wp2_with fail
     go_ret
     exact ⟨by rw [HG.out, S0.out, Q0.out, g1, g3, g4, g5]; rfl, HB.out⟩
    ·go_enter Tryz.func96, Tryz.ntmps96
     go_wp2_with (refine step_box rfl _ rfl p rfl ?_; intro b1 w1 N R; have HB := H_ N.below; have HR1 := H_ R; have hcell := R.cell (1 + a) (by have := HA2.out; omega); rw [HX.out] at hcell; rw [kAt_board (by omega) HA2.out] at hcell; clear N R)
     refine (abs_any (fb - fa) _ k1.out).mono ?_; rintro e wn ⟨rfl, rfl⟩; rw [HAsd.out]
     go_wp2_with fail
     refine (abs_any up _ k2.out).mono ?_; rintro e wn ⟨rfl, rfl⟩; rw [HAu.out]
     go_wp2_with fail
     refine (rkind_any x _ X0.out.1 X0.out.2).mono ?_; rintro e wn ⟨rfl, rfl⟩; rw [HK.out]
     go_wp2_with (first | (refine step_load (by rfl) _ rfl _ rfl p HR1.out ?_) | fail)
     refine (rclear_any8 p a b _ HPb.out HAb.out HBb.out (by rw [S0.out, Q0.out, g1, g3, g4, g5]; rfl)).mono ?_; rintro e wn ⟨rfl, hb9⟩; have HB := H_ (below_on HB.out hb9); clear hb9
     go_wp2_with fail
     go_ret
     exact ⟨by rw [HG.out, S0.out, Q0.out, g1, g3, g4, g5]; rfl, HB.out⟩
   ·cases g5 : (asd == 0)
    ·go_enter Tryz.func96, Tryz.ntmps96
     go_wp2_with (refine step_box rfl _ rfl p rfl ?_; intro b1 w1 N R; have HB := H_ N.below; have HR1 := H_ R; have hcell := R.cell (1 + a) (by have := HA2.out; omega); rw [HX.out] at hcell; rw [kAt_board (by omega) HA2.out] at hcell; clear N R)
     refine (abs_any (fb - fa) _ k1.out).mono ?_; rintro e wn ⟨rfl, rfl⟩; rw [HAsd.out]
     go_wp2_with fail
     refine (abs_any up _ k2.out).mono ?_; rintro e wn ⟨rfl, rfl⟩; rw [HAu.out]
     go_wp2_with fail
     refine (rkind_any x _ X0.out.1 X0.out.2).mono ?_; rintro e wn ⟨rfl, rfl⟩; rw [HK.out]
     go_wp2_with (first | (refine step_load (by rfl) _ rfl _ rfl p HR1.out ?_) | fail)
     refine (rclear_any8 p a b _ HPb.out HAb.out HBb.out (by rw [S0.out, Q0.out, g1, g3, g4, g5]; rfl)).mono ?_; rintro e wn ⟨rfl, hb9⟩; have HB := H_ (below_on HB.out hb9); clear hb9
     go_wp2_with fail
     go_ret
     exact ⟨by rw [HG.out, S0.out, Q0.out, g1, g3, g4, g5]; rfl, HB.out⟩
    ·go_enter Tryz.func96, Tryz.ntmps96
     go_wp2_with (refine step_box rfl _ rfl p rfl ?_; intro b1 w1 N R; have HB := H_ N.below; have HR1 := H_ R; have hcell := R.cell (1 + a) (by have := HA2.out; omega); rw [HX.out] at hcell; rw [kAt_board (by omega) HA2.out] at hcell; clear N R)
     refine (abs_any (fb - fa) _ k1.out).mono ?_; rintro e wn ⟨rfl, rfl⟩; rw [HAsd.out]
     go_wp2_with fail
     refine (abs_any up _ k2.out).mono ?_; rintro e wn ⟨rfl, rfl⟩; rw [HAu.out]
     go_wp2_with fail
     refine (rkind_any x _ X0.out.1 X0.out.2).mono ?_; rintro e wn ⟨rfl, rfl⟩; rw [HK.out]
     go_wp2_with fail
     go_ret
     exact ⟨by rw [HG.out, S0.out, Q0.out, g1, g3, g4, g5]; rfl, HB.out⟩
 ·cases g3 : (decide (0 < asd))
  ·cases g4 : (up == 0)
   ·cases g5 : (asd == 0)
    ·go_enter Tryz.func96, Tryz.ntmps96
     go_wp2_with (refine step_box rfl _ rfl p rfl ?_; intro b1 w1 N R; have HB := H_ N.below; have HR1 := H_ R; have hcell := R.cell (1 + a) (by have := HA2.out; omega); rw [HX.out] at hcell; rw [kAt_board (by omega) HA2.out] at hcell; clear N R)
     refine (abs_any (fb - fa) _ k1.out).mono ?_; rintro e wn ⟨rfl, rfl⟩; rw [HAsd.out]
     go_wp2_with fail
     refine (abs_any up _ k2.out).mono ?_; rintro e wn ⟨rfl, rfl⟩; rw [HAu.out]
     go_wp2_with fail
     refine (rkind_any x _ X0.out.1 X0.out.2).mono ?_; rintro e wn ⟨rfl, rfl⟩; rw [HK.out]
     go_wp2_with fail
     go_ret
     exact ⟨by rw [HG.out, S0.out, Q0.out, g1, g3, g4, g5]; rfl, HB.out⟩
    ·go_enter Tryz.func96, Tryz.ntmps96
     go_wp2_with (refine step_box rfl _ rfl p rfl ?_; intro b1 w1 N R; have HB := H_ N.below; have HR1 := H_ R; have hcell := R.cell (1 + a) (by have := HA2.out; omega); rw [HX.out] at hcell; rw [kAt_board (by omega) HA2.out] at hcell; clear N R)
     refine (abs_any (fb - fa) _ k1.out).mono ?_; rintro e wn ⟨rfl, rfl⟩; rw [HAsd.out]
     go_wp2_with fail
     refine (abs_any up _ k2.out).mono ?_; rintro e wn ⟨rfl, rfl⟩; rw [HAu.out]
     go_wp2_with fail
     refine (rkind_any x _ X0.out.1 X0.out.2).mono ?_; rintro e wn ⟨rfl, rfl⟩; rw [HK.out]
     go_wp2_with (first | (refine step_load (by rfl) _ rfl _ rfl p HR1.out ?_) | fail)
     refine (rclear_any8 p a b _ HPb.out HAb.out HBb.out (by rw [S0.out, Q0.out, g1, g3, g4, g5]; rfl)).mono ?_; rintro e wn ⟨rfl, hb9⟩; have HB := H_ (below_on HB.out hb9); clear hb9
     go_wp2_with fail
     go_ret
     exact ⟨by rw [HG.out, S0.out, Q0.out, g1, g3, g4, g5]; rfl, HB.out⟩
   ·cases g5 : (asd == 0)
    ·go_enter Tryz.func96, Tryz.ntmps96
     go_wp2_with (refine step_box rfl _ rfl p rfl ?_; intro b1 w1 N R; have HB := H_ N.below; have HR1 := H_ R; have hcell := R.cell (1 + a) (by have := HA2.out; omega); rw [HX.out] at hcell; rw [kAt_board (by omega) HA2.out] at hcell; clear N R)
     refine (abs_any (fb - fa) _ k1.out).mono ?_; rintro e wn ⟨rfl, rfl⟩; rw [HAsd.out]
     go_wp2_with fail
     refine (abs_any up _ k2.out).mono ?_; rintro e wn ⟨rfl, rfl⟩; rw [HAu.out]
     go_wp2_with fail
     refine (rkind_any x _ X0.out.1 X0.out.2).mono ?_; rintro e wn ⟨rfl, rfl⟩; rw [HK.out]
     go_wp2_with (first | (refine step_load (by rfl) _ rfl _ rfl p HR1.out ?_) | fail)
     refine (rclear_any8 p a b _ HPb.out HAb.out HBb.out (by rw [S0.out, Q0.out, g1, g3, g4, g5]; rfl)).mono ?_; rintro e wn ⟨rfl, hb9⟩; have HB := H_ (below_on HB.out hb9); clear hb9
     go_wp2_with fail
     go_ret
     exact ⟨by rw [HG.out, S0.out, Q0.out, g1, g3, g4, g5]; rfl, HB.out⟩
    ·go_enter Tryz.func96, Tryz.ntmps96
     go_wp2_with (refine step_box rfl _ rfl p rfl ?_; intro b1 w1 N R; have HB := H_ N.below; have HR1 := H_ R; have hcell := R.cell (1 + a) (by have := HA2.out; omega); rw [HX.out] at hcell; rw [kAt_board (by omega) HA2.out] at hcell; clear N R)
     refine (abs_any (fb - fa) _ k1.out).mono ?_; rintro e wn ⟨rfl, rfl⟩; rw [HAsd.out]
     go_wp2_with fail
     refine (abs_any up _ k2.out).mono ?_; rintro e wn ⟨rfl, rfl⟩; rw [HAu.out]
     go_wp2_with fail
     refine (rkind_any x _ X0.out.1 X0.out.2).mono ?_; rintro e wn ⟨rfl, rfl⟩; rw [HK.out]
     go_wp2_with fail
     go_ret
     exact ⟨by rw [HG.out, S0.out, Q0.out, g1, g3, g4, g5]; rfl, HB.out⟩
  ·cases g4 : (up == 0)
   ·cases g5 : (asd == 0)
    ·go_enter Tryz.func96, Tryz.ntmps96
     go_wp2_with (refine step_box rfl _ rfl p rfl ?_; intro b1 w1 N R; have HB := H_ N.below; have HR1 := H_ R; have hcell := R.cell (1 + a) (by have := HA2.out; omega); rw [HX.out] at hcell; rw [kAt_board (by omega) HA2.out] at hcell; clear N R)
     refine (abs_any (fb - fa) _ k1.out).mono ?_; rintro e wn ⟨rfl, rfl⟩; rw [HAsd.out]
     go_wp2_with fail
     refine (abs_any up _ k2.out).mono ?_; rintro e wn ⟨rfl, rfl⟩; rw [HAu.out]
     go_wp2_with fail
     refine (rkind_any x _ X0.out.1 X0.out.2).mono ?_; rintro e wn ⟨rfl, rfl⟩; rw [HK.out]
     go_wp2_with (first | (refine step_load (by rfl) _ rfl _ rfl p HR1.out ?_) | fail)
     refine (rclear_any8 p a b _ HPb.out HAb.out HBb.out (by rw [S0.out, Q0.out, g1, g3, g4, g5]; rfl)).mono ?_; rintro e wn ⟨rfl, hb9⟩; have HB := H_ (below_on HB.out hb9); clear hb9
     go_wp2_with fail
     go_ret
     exact ⟨by rw [HG.out, S0.out, Q0.out, g1, g3, g4, g5]; rfl, HB.out⟩
    ·go_enter Tryz.func96, Tryz.ntmps96
     go_wp2_with (refine step_box rfl _ rfl p rfl ?_; intro b1 w1 N R; have HB := H_ N.below; have HR1 := H_ R; have hcell := R.cell (1 + a) (by have := HA2.out; omega); rw [HX.out] at hcell; rw [kAt_board (by omega) HA2.out] at hcell; clear N R)
     refine (abs_any (fb - fa) _ k1.out).mono ?_; rintro e wn ⟨rfl, rfl⟩; rw [HAsd.out]
     go_wp2_with fail
     refine (abs_any up _ k2.out).mono ?_; rintro e wn ⟨rfl, rfl⟩; rw [HAu.out]
     go_wp2_with fail
     refine (rkind_any x _ X0.out.1 X0.out.2).mono ?_; rintro e wn ⟨rfl, rfl⟩; rw [HK.out]
     go_wp2_with (first | (refine step_load (by rfl) _ rfl _ rfl p HR1.out ?_) | fail)
     refine (rclear_any8 p a b _ HPb.out HAb.out HBb.out (by rw [S0.out, Q0.out, g1, g3, g4, g5]; rfl)).mono ?_; rintro e wn ⟨rfl, hb9⟩; have HB := H_ (below_on HB.out hb9); clear hb9
     go_wp2_with fail
     go_ret
     exact ⟨by rw [HG.out, S0.out, Q0.out, g1, g3, g4, g5]; rfl, HB.out⟩
   ·cases g5 : (asd == 0)
    ·go_enter Tryz.func96, Tryz.ntmps96
     go_wp2_with (refine step_box rfl _ rfl p rfl ?_; intro b1 w1 N R; have HB := H_ N.below; have HR1 := H_ R; have hcell := R.cell (1 + a) (by have := HA2.out; omega); rw [HX.out] at hcell; rw [kAt_board (by omega) HA2.out] at hcell; clear N R)
     refine (abs_any (fb - fa) _ k1.out).mono ?_; rintro e wn ⟨rfl, rfl⟩; rw [HAsd.out]
     go_wp2_with fail
     refine (abs_any up _ k2.out).mono ?_; rintro e wn ⟨rfl, rfl⟩; rw [HAu.out]
     go_wp2_with fail
     refine (rkind_any x _ X0.out.1 X0.out.2).mono ?_; rintro e wn ⟨rfl, rfl⟩; rw [HK.out]
     go_wp2_with (first | (refine step_load (by rfl) _ rfl _ rfl p HR1.out ?_) | fail)
     refine (rclear_any8 p a b _ HPb.out HAb.out HBb.out (by rw [S0.out, Q0.out, g1, g3, g4, g5]; rfl)).mono ?_; rintro e wn ⟨rfl, hb9⟩; have HB := H_ (below_on HB.out hb9); clear hb9
     go_wp2_with fail
     go_ret
     exact ⟨by rw [HG.out, S0.out, Q0.out, g1, g3, g4, g5]; rfl, HB.out⟩
    ·go_enter Tryz.func96, Tryz.ntmps96
     go_wp2_with (refine step_box rfl _ rfl p rfl ?_; intro b1 w1 N R; have HB := H_ N.below; have HR1 := H_ R; have hcell := R.cell (1 + a) (by have := HA2.out; omega); rw [HX.out] at hcell; rw [kAt_board (by omega) HA2.out] at hcell; clear N R)
     refine (abs_any (fb - fa) _ k1.out).mono ?_; rintro e wn ⟨rfl, rfl⟩; rw [HAsd.out]
     go_wp2_with fail
     refine (abs_any up _ k2.out).mono ?_; rintro e wn ⟨rfl, rfl⟩; rw [HAu.out]
     go_wp2_with fail
     refine (rkind_any x _ X0.out.1 X0.out.2).mono ?_; rintro e wn ⟨rfl, rfl⟩; rw [HK.out]
     go_wp2_with (first | (refine step_load (by rfl) _ rfl _ rfl p HR1.out ?_) | fail)
     refine (rclear_any8 p a b _ HPb.out HAb.out HBb.out (by rw [S0.out, Q0.out, g1, g3, g4, g5]; rfl)).mono ?_; rintro e wn ⟨rfl, hb9⟩; have HB := H_ (below_on HB.out hb9); clear hb9
     go_wp2_with fail
     go_ret
     exact ⟨by rw [HG.out, S0.out, Q0.out, g1, g3, g4, g5]; rfl, HB.out⟩
theorem rhits_any (p : Nat → Int) (a b : Nat) (w : World) (hp : BdR p) (ha : a < 64) (hb : b < 64) : Calls Tryz.prog 96 #[.agg (posA p), .int .i64 (a : Int), .int .i64 (b : Int)] w (BoL ((fromN p (a : Int)).testBit b) w) := by
 cases h : pcB (p (1 + a))
 ·exact hits_0 p a b w hp ha hb (kndZ_no h)
 ·have hk := kndZ_yes h
  have h' := pcB_true.1 h
  have : p (1 + a) % 8 = 1 ∨ p (1 + a) % 8 = 2 ∨ p (1 + a) % 8 = 3 ∨ p (1 + a) % 8 = 4 ∨ p (1 + a) % 8 = 5 ∨ p (1 + a) % 8 = 6 := by omega
  rcases this with e | e | e | e | e | e
  ·have : p (1 + a) / 8 = 0 ∨ p (1 + a) / 8 = 1 := by omega
   rcases this with c | c
   ·exact hits_w p a b w hp ha hb ⟨hk.trans e, c⟩
   ·exact hits_b p a b w hp ha hb ⟨hk.trans e, c⟩
  ·exact hits_n p a b w hp ha hb (hk.trans e)
  ·exact hits_bi p a b w hp ha hb (hk.trans e)
  ·exact hits_r p a b w hp ha hb (hk.trans e)
  ·exact hits_q p a b w hp ha hb (hk.trans e)
  ·exact hits_k p a b w hp ha hb (hk.trans e)
end Go.Proofs.YtidgfadbdgheiaaGreatDoor
