/-
 Several texts in one: AtRef, AtClear.
-/
import Derived.Test.YtidgfadbdgheiaaGreatDoorAtMath
import Derived.Test.YtidgfadbdgheiaaGreatDoorAtWays
import Derived.IntWalk
/-
 Contracts of the document's own layer 8, first part: abs, sign, Kind, Color, Is, Beside, Clear, Hits.
-/
set_option maxRecDepth 100000
set_option maxHeartbeats 1000000
namespace Go.Proofs.YtidgfadbdgheiaaGreatDoor
open Go.RowKit
set_option linter.unusedVariables false
set_option linter.unusedSimpArgs false

def I64At (n : Int) (w : World) (e : Ending) (w' : World) : Prop := e = .returned (.int .i64 n) ∧ w = w'
theorem abs_any (n : Int) (w : World) (h : -100 ≤ n ∧ n ≤ 100) : Calls Tryz.prog 65 #[.int .i64 n] w (I64At (absZ n) w) := by
 obtain ⟨h1, h2⟩ := h
 by_cases h0 : n < 0
 ·have HS := H_ (show absZ n = -n by unfold absZ; rw [if_pos h0])
  have g0 : decide (n < 0) = true := decide_eq_true h0
  have gw : wrap64 (-n) = -n := IntWalk.wrap64_in _ ⟨by omega, by omega⟩
  clear h0
  go_enter Tryz.func65, Tryz.ntmps65
  go_wp2_with fail
  go_ret
  exact ⟨ret_int (by rw [HS.out]), rfl⟩
 ·have HS := H_ (show absZ n = n by unfold absZ; rw [if_neg h0])
  have g0 : decide (n < 0) = false := decide_eq_false h0
  clear h0
  go_enter Tryz.func65, Tryz.ntmps65
  go_wp2_with fail
  go_ret
  exact ⟨ret_int (by rw [HS.out]), rfl⟩
theorem sign_any (n : Int) (w : World) : Calls Tryz.prog 170 #[.int .i64 n] w (I64At (sgn n) w) := by
 by_cases h0 : n < 0
 ·have HS := H_ (show sgn n = -1 by unfold sgn; rw [if_pos h0])
  have g0 : decide (n < 0) = true := decide_eq_true h0
  clear h0
  go_enter Tryz.func170, Tryz.ntmps170
  go_wp2_with fail
  go_ret
  exact ⟨ret_int (by rw [HS.out]), rfl⟩
 ·have g0 : decide (n < 0) = false := decide_eq_false h0
  by_cases h1 : 0 < n
  ·have HS := H_ (show sgn n = 1 by unfold sgn; rw [if_neg h0, if_pos h1])
   have g1 : decide (0 < n) = true := decide_eq_true h1
   clear h0 h1
   go_enter Tryz.func170, Tryz.ntmps170
   go_wp2_with fail
   go_ret
   exact ⟨ret_int (by rw [HS.out]), rfl⟩
  ·have HS := H_ (show sgn n = 0 by unfold sgn; rw [if_neg h0, if_neg h1])
   have g1 : decide (0 < n) = false := decide_eq_false h1
   clear h0 h1
   go_enter Tryz.func170, Tryz.ntmps170
   go_wp2_with fail
   go_ret
   exact ⟨ret_int (by rw [HS.out]), rfl⟩
theorem rkind_any (x : Int) (w : World) (h0 : 0 ≤ x) (h1 : x ≤ 255) : Calls Tryz.prog 28 #[.int .u8 x] w (U8S (kndZ x) w) := by
 by_cases e1 : 15 < x
 ·have HS := H_ (show kndZ x = 0 from kndZ_no (pcB_false.2 (by omega)))
  have g1 : decide (15 < x) = true := decide_eq_true e1
  clear e1
  go_enter Tryz.func28, Tryz.ntmps28
  go_wp2_with fail
  go_ret
  exact ⟨ret_int HS.out.symm, rfl⟩
 ·have g1 : decide (15 < x) = false := decide_eq_false e1
  by_cases e2 : x % 8 < 1
  ·have HS := H_ (show kndZ x = 0 from kndZ_no (pcB_false.2 (by omega)))
   have g2 : decide (x % 8 < 1) = true := decide_eq_true e2
   clear e1 e2
   go_enter Tryz.func28, Tryz.ntmps28
   go_wp2_with fail
   go_ret
   exact ⟨ret_int HS.out.symm, rfl⟩
  ·have g2 : decide (x % 8 < 1) = false := decide_eq_false e2
   by_cases e3 : 6 < x % 8
   ·have HS := H_ (show kndZ x = 0 from kndZ_no (pcB_false.2 (by omega)))
    have g3 : decide (6 < x % 8) = true := decide_eq_true e3
    clear e1 e2 e3
    go_enter Tryz.func28, Tryz.ntmps28
    go_wp2_with fail
    go_ret
    exact ⟨ret_int HS.out.symm, rfl⟩
   ·have HS := H_ (show kndZ x = x % 8 from kndZ_yes (pcB_true.2 (by omega)))
    have g3 : decide (6 < x % 8) = false := decide_eq_false e3
    clear e1 e2 e3
    go_enter Tryz.func28, Tryz.ntmps28
    go_wp2_with fail
    go_ret
    exact ⟨ret_int (by rw [HS.out]), rfl⟩
theorem rcolor_any (x : Int) (w : World) (h0 : 0 ≤ x) (h1 : x ≤ 255) : Calls Tryz.prog 144 #[.int .u8 x] w (U8S (x / 8) w) := by
 go_enter Tryz.func144, Tryz.ntmps144
 go_wp2_with fail
 go_ret
 exact ⟨rfl, rfl⟩
theorem ris_any (p : Nat → Int) (n : Nat) (c k : Int) (w : World) (hp : BdR p) (hn : n < 64) : Calls Tryz.prog 100 #[.agg (posA p), .int .i64 (n : Int), .int .u8 c, .int .u8 k] w (BoL (kndZ (p (1 + n)) == k && (p (1 + n)) / 8 == c) w) := by
 obtain ⟨r0, r1⟩ := hp n hn
 obtain ⟨x, HX⟩ : ∃ x, Hid (p (1 + n) = x) := ⟨_, H_ rfl⟩
 rw [HX.out] at r0 r1 ⊢
 have l0 : (n : Int) ≤ 63 := by omega
 clear hp
 cases g : (kndZ x == k)
 ·go_enter Tryz.func100, Tryz.ntmps100
  go_wp2_with (refine step_box rfl _ rfl p rfl ?_; intro b1 w1 N R; have HB := H_ N.below; have hcell := R.cell (1 + n) (by omega); rw [HX.out] at hcell; rw [kAt_board (by omega) hn] at hcell; clear N R)
  refine (rkind_any x _ r0 r1).mono ?_; rintro e wn ⟨rfl, rfl⟩
  go_wp2_with fail
  go_ret
  exact ⟨rfl, HB.out⟩
 ·go_enter Tryz.func100, Tryz.ntmps100
  go_wp2_with (refine step_box rfl _ rfl p rfl ?_; intro b1 w1 N R; have HB := H_ N.below; have hcell := R.cell (1 + n) (by omega); rw [HX.out] at hcell; rw [kAt_board (by omega) hn] at hcell; clear N R)
  refine (rkind_any x _ r0 r1).mono ?_; rintro e wn ⟨rfl, rfl⟩
  go_wp2_with fail
  refine (rcolor_any x _ r0 r1).mono ?_; rintro e wn ⟨rfl, rfl⟩
  go_wp2_with fail
  go_ret
  exact ⟨rfl, HB.out⟩
theorem abs_swap (a b : Int) : absZ (a - b) = absZ (b - a) := by unfold absZ; split <;> split <;> omega
theorem up_int (a b : Nat) : upZ a b = (b : Int) / 8 - (a : Int) / 8 := rfl
theorem off_int (a b : Nat) : offZ a b = (b : Int) % 8 - (a : Int) % 8 := rfl
theorem rbeside_any (a b : Nat) (w : World) (ha : a < 64) (hb : b < 64) : Calls Tryz.prog 29 #[.int .i64 (a : Int), .int .i64 (b : Int)] w fun e w' => e = .returned (.bool (besB a b)) ∧ w = w' := by
 have HE := H_ (show besB a b = (((a : Int) != (b : Int)) && decide (absZ ((a : Int) / 8 - (b : Int) / 8) ≤ 1) && decide (absZ ((a : Int) % 8 - (b : Int) % 8) ≤ 1)) by
  unfold besB; rw [up_int, off_int, abs_swap ((b : Int) / 8), abs_swap ((b : Int) % 8)]; congr 2; rw [Bool.eq_iff_iff, decide_eq_true_eq, bne_iff_ne]; omega)
 obtain ⟨ra, e1⟩ : ∃ r : Int, (a : Int) / 8 = r := ⟨_, rfl⟩
 obtain ⟨rb, e2⟩ : ∃ r : Int, (b : Int) / 8 = r := ⟨_, rfl⟩
 obtain ⟨fa, e3⟩ : ∃ r : Int, (a : Int) % 8 = r := ⟨_, rfl⟩
 obtain ⟨fb, e4⟩ : ∃ r : Int, (b : Int) % 8 = r := ⟨_, rfl⟩
 rw [e1, e2, e3, e4] at HE
 have b1 : 0 ≤ ra := by omega
 have b2 : ra ≤ 7 := by omega
 have b3 : 0 ≤ rb := by omega
 have b4 : rb ≤ 7 := by omega
 have b5 : 0 ≤ fa := by omega
 have b6 : fa ≤ 7 := by omega
 have b7 : 0 ≤ fb := by omega
 have b8 : fb ≤ 7 := by omega
 have k1 : -100 ≤ ra - rb ∧ ra - rb ≤ 100 := by omega
 have k2 : -100 ≤ fa - fb ∧ fa - fb ≤ 100 := by omega
 have K1 := H_ k1
 have K2 := H_ k2
 clear k1 k2
 cases g1 : ((a : Int) != (b : Int))
 ·go_enter Tryz.func29, Tryz.ntmps29
  go_wp2_with fail
  go_ret
  exact ⟨by rw [HE.out, g1]; rfl, rfl⟩
 ·cases g2 : decide (absZ (ra - rb) ≤ 1)
  ·go_enter Tryz.func29, Tryz.ntmps29
   go_wp2_with fail
   refine (abs_any (ra - rb) _ K1.out).mono ?_; rintro e wn ⟨rfl, rfl⟩
   go_wp2_with fail
   go_ret
   exact ⟨by rw [HE.out, g1, g2]; rfl, rfl⟩
  ·go_enter Tryz.func29, Tryz.ntmps29
   go_wp2_with fail
   refine (abs_any (ra - rb) _ K1.out).mono ?_; rintro e wn ⟨rfl, rfl⟩
   go_wp2_with fail
   refine (abs_any (fa - fb) _ K2.out).mono ?_; rintro e wn ⟨rfl, rfl⟩
   go_wp2_with fail
   go_ret
   exact ⟨by rw [HE.out, g1, g2]; rfl, rfl⟩
end Go.Proofs.YtidgfadbdgheiaaGreatDoor
/-
 Contracts of the document's own layer 8: Clear (nothing between two squares of a line).
-/
namespace Go.Proofs.YtidgfadbdgheiaaGreatDoor
open Go.RowKit
set_option linter.unusedVariables false
set_option linter.unusedSimpArgs false

theorem sgn_rng (n : Int) : -1 ≤ sgn n ∧ sgn n ≤ 1 := by unfold sgn; (repeat' split) <;> omega
theorem far_measure {st : Int} (h : st ≠ 0) (m : Nat) : (absZ (st * (m : Int))).toNat < (absZ (st * ((m + 1 : Nat) : Int))).toNat := by
 have e : st * ((m + 1 : Nat) : Int) = st * (m : Int) + st := by rw [Int.natCast_succ, Int.mul_add, Int.mul_one]
 rw [e]
 by_cases g : 0 < st
 ·have : 0 ≤ st * (m : Int) := Int.mul_nonneg (by omega) (by omega)
  unfold absZ; split <;> split <;> omega
 ·have : 0 ≤ (-st) * (m : Int) := Int.mul_nonneg (by omega) (by omega)
  rw [Int.neg_mul] at this
  unfold absZ; split <;> split <;> omega
theorem step_sub {a b st : Int} {far j : Nat} (hb : a + st * (far : Int) = b) (hj : j + 1 ≤ far) : b - (a + st * ((j + 1 : Nat) : Int)) = st * ((far - (j + 1) : Nat) : Int) := by
 rw [← hb, show ((far - (j + 1) : Nat) : Int) = (far : Int) - ((j + 1 : Nat) : Int) by omega, Int.mul_sub]; omega
theorem step_end {a b st : Int} {far j : Nat} (h0 : st ≠ 0) (hb : a + st * (far : Int) = b) (hj : j + 1 ≤ far) (h : a + st * ((j + 1 : Nat) : Int) = b) : j + 1 = far := by
 have e := step_sub hb hj
 rw [h, Int.sub_self] at e
 rcases Int.mul_eq_zero.1 e.symm with g | g
 ·exact absurd g h0
 ·omega
theorem rclear_any8 (p : Nat → Int) (a b : Nat) (w : World) (hp : BdR p) (ha : a < 64) (hb : b < 64) (hl : (strB a b || acrB a b) = true) :
  Calls Tryz.prog 146 #[.agg (posA p), .int .i64 (a : Int), .int .i64 (b : Int)] w (BoL (freeB (occN p) (a : Int) (b : Int)) w) := by
 obtain ⟨f1, f2, f3, f4, f5, f6⟩ := line_ok ha hb hl
 obtain ⟨far, HFar⟩ : ∃ far, Hid (farM a b = far) := ⟨_, H_ rfl⟩
 obtain ⟨u, HU⟩ : ∃ u, Hid (sgn (upZ a b) = u) := ⟨_, H_ rfl⟩
 obtain ⟨v, HV⟩ : ∃ v, Hid (sgn (offZ a b) = v) := ⟨_, H_ rfl⟩
 obtain ⟨st, HSt⟩ : ∃ st, Hid (stpZ a b = st) := ⟨_, H_ rfl⟩
 have HSt2 := H_ (show 8 * u + v = st by rw [← HSt.out, ← HU.out, ← HV.out]; rfl)
 have hu := sgn_rng (upZ a b)
 have hv := sgn_rng (offZ a b)
 rw [HU.out] at hu
 rw [HV.out] at hv
 rw [HFar.out] at f1 f2 f3 f5 f6
 rw [HSt.out] at f3 f4 f5 f6
 have F1 := H_ f1
 have F3 := H_ f3
 have F4 := H_ f4
 have F5 := H_ f5
 have F6 := H_ (f6 (occN p))
 have HP := H_ hp
 have HU2 := HU.out
 have HV2 := HV.out
 rw [up_int] at HU2
 rw [off_int] at HV2
 clear f1 f2 f3 f4 f5 f6 hp hl
 obtain ⟨ra, e1⟩ : ∃ r : Int, (a : Int) / 8 = r := ⟨_, rfl⟩
 obtain ⟨rb, e2⟩ : ∃ r : Int, (b : Int) / 8 = r := ⟨_, rfl⟩
 obtain ⟨fa, e3⟩ : ∃ r : Int, (a : Int) % 8 = r := ⟨_, rfl⟩
 obtain ⟨fb, e4⟩ : ∃ r : Int, (b : Int) % 8 = r := ⟨_, rfl⟩
 rw [e1, e2] at HU2
 rw [e3, e4] at HV2
 have HU3 := H_ HU2
 have HV3 := H_ HV2
 clear HU2 HV2
 have b1 : 0 ≤ ra := by omega
 have b2 : ra ≤ 7 := by omega
 have b3 : 0 ≤ rb := by omega
 have b4 : rb ≤ 7 := by omega
 have b5 : 0 ≤ fa := by omega
 have b6 : fa ≤ 7 := by omega
 have b7 : 0 ≤ fb := by omega
 have b8 : fb ≤ 7 := by omega
 obtain ⟨u1, u2⟩ := hu
 obtain ⟨v1, v2⟩ := hv
 have s1 : -9 ≤ st := by have := HSt2.out; omega
 have s2 : st ≤ 9 := by have := HSt2.out; omega
 have a1 : (a : Int) ≤ 63 := by omega
 go_enter Tryz.func146, Tryz.ntmps146
 go_wp2_with (refine step_box rfl _ rfl p rfl ?_; intro b1 w1 N R; have HB := H_ N.below; have HR1 := H_ R; clear N R)
 refine (sign_any (rb - ra) _).mono ?_; rintro e wn ⟨rfl, rfl⟩; rw [HU3.out]
 go_wp2_with fail
 refine (sign_any (fb - fa) _).mono ?_; rintro e wn ⟨rfl, rfl⟩; rw [HV3.out]
 go_wp2_with fail
 rw [HSt2.out]
 clear HSt2 HU HV HU3 HV3 e1 e2 e3 e4 b2 b3 b4 b5 b6 b7 b8 u1 u2 v1 v2
 go_loop [8] (fun s => ∃ (j : Nat) (sv : Int), s = .int .i64 sv ∧ Hid ((a : Int) + st * ((j + 1 : Nat) : Int) = sv) ∧ j + 1 ≤ far ∧ Hid (∀ i : Nat, i < j → (occN p).testBit ((a : Int) + st * ((i + 1 : Nat) : Int)).toNat = false)) (fun s => (absZ ((b : Int) - intOf s)).toNat)
 case atStart => exact ⟨0, _, rfl, H_ (by rw [show ((0 + 1 : Nat) : Int) = 1 from rfl, Int.mul_one]), F1.out, H_ (fun i h => by omega)⟩
 case round =>
  obtain ⟨j, sv, rfl, Hs, hj, Hi⟩ := hrel
  by_cases he : j + 1 = far
  ·obtain rfl : sv = (b : Int) := by rw [← Hs.out, he]; exact F3.out
   have HR := H_ (show freeB (occN p) (a : Int) (b : Int) = true from F6.out.2 fun i h => Hi.out i (by omega))
   have g : ((b : Int) != (b : Int)) = false := by simp
   clear he hj
   go_wp2_with fail
   go_ret
   exact ⟨by rw [HR.out]; rfl, HB.out⟩
  ·have hlt : j + 1 < far := by omega
   obtain ⟨r0, r1⟩ := F5.out j hlt
   rw [Hs.out] at r0 r1
   have g : (sv != (b : Int)) = true := by
    rw [bne_iff_ne]; intro e; exact he (step_end F4.out F3.out hj (Hs.out.trans e))
   obtain ⟨q, rfl⟩ := Int.eq_ofNat_of_zero_le r0
   have hq : q < 64 := by omega
   obtain ⟨x, HX⟩ : ∃ x, Hid (p (1 + q) = x) := ⟨_, H_ rfl⟩
   have hcell := HR1.out.cell (1 + q) (by omega)
   rw [HX.out, kAt_board (by omega) hq] at hcell
   obtain ⟨x0, x1⟩ := HP.out q hq
   rw [HX.out] at x0 x1
   have Ho := H_ (show (occN p).testBit q = pcB x by rw [occN_testBit p q hq, HX.out])
   have Hjl := H_ hlt
   have Hq := H_ hq
   have l0 : (q : Int) ≤ 63 := by omega
   have X0 := H_ (And.intro x0 x1)
   clear he hlt hq hj r1 x0 x1
   cases hpc : pcB x
   ·have hk := H_ (kndZ_no hpc)
    have Hpc := H_ hpc
    clear hpc
    go_wp2_with fail
    refine (rkind_any x _ X0.out.1 X0.out.2).mono ?_; rintro e wn ⟨rfl, rfl⟩; rw [hk.out]
    go_wp2_with fail
    go_round
    case rel => exact ⟨j + 1, _, rfl, H_ (by rw [← Hs.out, Int.natCast_succ (j + 1), Int.mul_add, Int.mul_one]; omega), Hjl.out, H_ (fun i h => by
     by_cases e : i = j
     ·rw [e, Hs.out, Int.toNat_natCast, Ho.out, Hpc.out]
     ·exact Hi.out i (by omega))⟩
    case measure =>
     have e1 : (b : Int) - (q : Int) = st * ((far - (j + 1) : Nat) : Int) := by rw [← Hs.out]; exact step_sub F3.out (by have := Hjl.out; omega)
     have e2 : (b : Int) - ((q : Int) + st) = st * ((far - (j + 2) : Nat) : Int) := by
      have := step_sub (j := j + 1) F3.out (by have := Hjl.out; omega)
      rw [← this, ← Hs.out, Int.natCast_succ (j + 1), Int.mul_add, Int.mul_one]; omega
     show (absZ ((b : Int) - ((q : Int) + st))).toNat < (absZ ((b : Int) - (q : Int))).toNat
     rw [e1, e2, show far - (j + 1) = (far - (j + 2)) + 1 by have := Hjl.out; omega]
     exact far_measure F4.out _
   ·have hne : (kndZ x != 0) = true := by rw [bne_iff_ne, kndZ_yes hpc]; rw [pcB_true] at hpc; omega
    have HR := H_ (show freeB (occN p) (a : Int) (b : Int) = false by
     cases h : freeB (occN p) (a : Int) (b : Int)
     ·rfl
     ·have := F6.out.1 h j Hjl.out
      rw [Hs.out, Int.toNat_natCast, Ho.out, hpc] at this
      cases this)
    clear hpc
    go_wp2_with fail
    refine (rkind_any x _ X0.out.1 X0.out.2).mono ?_; rintro e wn ⟨rfl, rfl⟩
    go_wp2_with fail
    go_ret
    exact ⟨by rw [HR.out]; rfl, HB.out⟩
end Go.Proofs.YtidgfadbdgheiaaGreatDoor
