/-
 Contracts of the document's own layer 8: Clear (nothing between two squares of a line).
-/
import Derived.Test.YtigkbccpkepdmaaGreatDoorAtRef
namespace Go.Proofs.YtigkbccpkepdmaaGreatDoor
open Go.RowKit
set_option linter.unusedVariables false
set_option linter.unusedSimpArgs false

theorem sgn_rng (n : Int) : -1 ≤ sgn n ∧ sgn n ≤ 1 := by unfold sgn; (repeat' split) <;> omega
theorem far_measure {st : Int} (h : st ≠ 0) (m : Nat) : (absZ (st * (m : Int))).toNat < (absZ (st * ((m + 1 : Nat) : Int))).toNat := by
 have e : st * ((m + 1 : Nat) : Int) = st * (m : Int) + st := by rw [Int.natCast_succ, Int.mul_add, Int.mul_one]
 rw [e]
 by_cases g : 0 < st
 ·have : 0 ≤ st * (m : Int) := Int.mul_nonneg (by omega) (by omega)
  unfold absZ; split <;> split <;> omega
 ·have : 0 ≤ (-st) * (m : Int) := Int.mul_nonneg (by omega) (by omega)
  rw [Int.neg_mul] at this
  unfold absZ; split <;> split <;> omega
theorem step_sub {a b st : Int} {far j : Nat} (hb : a + st * (far : Int) = b) (hj : j + 1 ≤ far) : b - (a + st * ((j + 1 : Nat) : Int)) = st * ((far - (j + 1) : Nat) : Int) := by
 rw [← hb, show ((far - (j + 1) : Nat) : Int) = (far : Int) - ((j + 1 : Nat) : Int) by omega, Int.mul_sub]; omega
theorem step_end {a b st : Int} {far j : Nat} (h0 : st ≠ 0) (hb : a + st * (far : Int) = b) (hj : j + 1 ≤ far) (h : a + st * ((j + 1 : Nat) : Int) = b) : j + 1 = far := by
 have e := step_sub hb hj
 rw [h, Int.sub_self] at e
 rcases Int.mul_eq_zero.1 e.symm with g | g
 ·exact absurd g h0
 ·omega
set_option maxRecDepth 100000 in
set_option maxHeartbeats 1000000 in
theorem rclear_any8 (p : Nat → Int) (a b : Nat) (w : World) (hp : BdR p) (ha : a < 64) (hb : b < 64) (hl : (strB a b || acrB a b) = true) :
  Calls Tryz.prog 64 #[.agg (posA p), .int .i64 (a : Int), .int .i64 (b : Int)] w (BoL (freeB (occN p) (a : Int) (b : Int)) w) := by
 obtain ⟨f1, f2, f3, f4, f5, f6⟩ := line_ok ha hb hl
 obtain ⟨far, HFar⟩ : ∃ far, Hid (farM a b = far) := ⟨_, Lib.hid rfl⟩
 obtain ⟨u, HU⟩ : ∃ u, Hid (sgn (upZ a b) = u) := ⟨_, Lib.hid rfl⟩
 obtain ⟨v, HV⟩ : ∃ v, Hid (sgn (offZ a b) = v) := ⟨_, Lib.hid rfl⟩
 obtain ⟨st, HSt⟩ : ∃ st, Hid (stpZ a b = st) := ⟨_, Lib.hid rfl⟩
 have HSt2 := Lib.hid (show 8 * u + v = st by rw [← HSt.out, ← HU.out, ← HV.out]; rfl)
 have hu := sgn_rng (upZ a b)
 have hv := sgn_rng (offZ a b)
 rw [HU.out] at hu
 rw [HV.out] at hv
 rw [HFar.out] at f1 f2 f3 f5 f6
 rw [HSt.out] at f3 f4 f5 f6
 have F1 := Lib.hid f1
 have F3 := Lib.hid f3
 have F4 := Lib.hid f4
 have F5 := Lib.hid f5
 have F6 := Lib.hid (f6 (occN p))
 have HP := Lib.hid hp
 have HU2 := HU.out
 have HV2 := HV.out
 rw [up_int] at HU2
 rw [off_int] at HV2
 clear f1 f2 f3 f4 f5 f6 hp hl
 obtain ⟨ra, e1⟩ : ∃ r : Int, (a : Int) / 8 = r := ⟨_, rfl⟩
 obtain ⟨rb, e2⟩ : ∃ r : Int, (b : Int) / 8 = r := ⟨_, rfl⟩
 obtain ⟨fa, e3⟩ : ∃ r : Int, (a : Int) % 8 = r := ⟨_, rfl⟩
 obtain ⟨fb, e4⟩ : ∃ r : Int, (b : Int) % 8 = r := ⟨_, rfl⟩
 rw [e1, e2] at HU2
 rw [e3, e4] at HV2
 have HU3 := Lib.hid HU2
 have HV3 := Lib.hid HV2
 clear HU2 HV2
 have b1 : 0 ≤ ra := by omega
 have b2 : ra ≤ 7 := by omega
 have b3 : 0 ≤ rb := by omega
 have b4 : rb ≤ 7 := by omega
 have b5 : 0 ≤ fa := by omega
 have b6 : fa ≤ 7 := by omega
 have b7 : 0 ≤ fb := by omega
 have b8 : fb ≤ 7 := by omega
 obtain ⟨u1, u2⟩ := hu
 obtain ⟨v1, v2⟩ := hv
 have s1 : -9 ≤ st := by have := HSt2.out; omega
 have s2 : st ≤ 9 := by have := HSt2.out; omega
 have a1 : (a : Int) ≤ 63 := by omega
 go_enter Tryz.func64, Tryz.ntmps64
 go_wp2_with (refine step_box rfl _ rfl p rfl ?_; intro b1 w1 N R; have HB := Lib.hid N.below; have HR1 := Lib.hid R; clear N R)
 refine (sign_any (rb - ra) _).mono ?_; rintro e wn ⟨rfl, rfl⟩; rw [HU3.out]
 go_wp2_with fail
 refine (sign_any (fb - fa) _).mono ?_; rintro e wn ⟨rfl, rfl⟩; rw [HV3.out]
 go_wp2_with fail
 rw [HSt2.out]
 clear HSt2 HU HV HU3 HV3 e1 e2 e3 e4 b2 b3 b4 b5 b6 b7 b8 u1 u2 v1 v2
 go_loop [8] (fun s => ∃ (j : Nat) (sv : Int), s = .int .i64 sv ∧ Hid ((a : Int) + st * ((j + 1 : Nat) : Int) = sv) ∧ j + 1 ≤ far ∧ Hid (∀ i : Nat, i < j → (occN p).testBit ((a : Int) + st * ((i + 1 : Nat) : Int)).toNat = false)) (fun s => (absZ ((b : Int) - intOf s)).toNat)
 case atStart => exact ⟨0, _, rfl, Lib.hid (by rw [show ((0 + 1 : Nat) : Int) = 1 from rfl, Int.mul_one]), F1.out, Lib.hid (fun i h => by omega)⟩
 case round =>
  obtain ⟨j, sv, rfl, Hs, hj, Hi⟩ := hrel
  by_cases he : j + 1 = far
  ·obtain rfl : sv = (b : Int) := by rw [← Hs.out, he]; exact F3.out
   have HR := Lib.hid (show freeB (occN p) (a : Int) (b : Int) = true from F6.out.2 fun i h => Hi.out i (by omega))
   have g : ((b : Int) != (b : Int)) = false := by simp
   clear he hj
   go_wp2_with fail
   go_ret
   exact ⟨by rw [HR.out]; rfl, HB.out⟩
  ·have hlt : j + 1 < far := by omega
   obtain ⟨r0, r1⟩ := F5.out j hlt
   rw [Hs.out] at r0 r1
   have g : (sv != (b : Int)) = true := by
    rw [bne_iff_ne]; intro e; exact he (step_end F4.out F3.out hj (Hs.out.trans e))
   obtain ⟨q, rfl⟩ := Int.eq_ofNat_of_zero_le r0
   have hq : q < 64 := by omega
   obtain ⟨x, HX⟩ : ∃ x, Hid (p (1 + q) = x) := ⟨_, Lib.hid rfl⟩
   have hcell := HR1.out.cell (1 + q) (by omega)
   rw [HX.out, kAt_board (by omega) hq] at hcell
   obtain ⟨x0, x1⟩ := HP.out q hq
   rw [HX.out] at x0 x1
   have Ho := Lib.hid (show (occN p).testBit q = pcB x by rw [occN_testBit p q hq, HX.out])
   have Hjl := Lib.hid hlt
   have Hq := Lib.hid hq
   have l0 : (q : Int) ≤ 63 := by omega
   have X0 := Lib.hid (And.intro x0 x1)
   clear he hlt hq hj r1 x0 x1
   cases hpc : pcB x
   ·have hk := Lib.hid (kndZ_no hpc)
    have Hpc := Lib.hid hpc
    clear hpc
    go_wp2_with fail
    refine (rkind_any x _ X0.out.1 X0.out.2).mono ?_; rintro e wn ⟨rfl, rfl⟩; rw [hk.out]
    go_wp2_with fail
    go_round
    case rel => exact ⟨j + 1, _, rfl, Lib.hid (by rw [← Hs.out, Int.natCast_succ (j + 1), Int.mul_add, Int.mul_one]; omega), Hjl.out, Lib.hid (fun i h => by
     by_cases e : i = j
     ·rw [e, Hs.out, Int.toNat_natCast, Ho.out, Hpc.out]
     ·exact Hi.out i (by omega))⟩
    case measure =>
     have e1 : (b : Int) - (q : Int) = st * ((far - (j + 1) : Nat) : Int) := by rw [← Hs.out]; exact step_sub F3.out (by have := Hjl.out; omega)
     have e2 : (b : Int) - ((q : Int) + st) = st * ((far - (j + 2) : Nat) : Int) := by
      have := step_sub (j := j + 1) F3.out (by have := Hjl.out; omega)
      rw [← this, ← Hs.out, Int.natCast_succ (j + 1), Int.mul_add, Int.mul_one]; omega
     show (absZ ((b : Int) - ((q : Int) + st))).toNat < (absZ ((b : Int) - (q : Int))).toNat
     rw [e1, e2, show far - (j + 1) = (far - (j + 2)) + 1 by have := Hjl.out; omega]
     exact far_measure F4.out _
   ·have hne : (kndZ x != 0) = true := by rw [bne_iff_ne, kndZ_yes hpc]; rw [pcB_true] at hpc; omega
    have HR := Lib.hid (show freeB (occN p) (a : Int) (b : Int) = false by
     cases h : freeB (occN p) (a : Int) (b : Int)
     ·rfl
     ·have := F6.out.1 h j Hjl.out
      rw [Hs.out, Int.toNat_natCast, Ho.out, hpc] at this
      cases this)
    clear hpc
    go_wp2_with fail
    refine (rkind_any x _ X0.out.1 X0.out.2).mono ?_; rintro e wn ⟨rfl, rfl⟩
    go_wp2_with fail
    go_ret
    exact ⟨by rw [HR.out]; rfl, HB.out⟩
end Go.Proofs.YtigkbccpkepdmaaGreatDoor
