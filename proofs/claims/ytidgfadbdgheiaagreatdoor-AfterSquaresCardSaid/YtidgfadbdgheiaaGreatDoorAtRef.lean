/-
 Contracts of the document's own layer 8, first part: abs, sign, Kind, Color, Is, Beside, Clear, Hits.
-/
import Derived.Test.YtidgfadbdgheiaaGreatDoorAtMath
import Derived.Test.YtidgfadbdgheiaaGreatDoorAtWays
import Derived.IntWalk
namespace Go.Proofs.YtidgfadbdgheiaaGreatDoor
open Go.RowKit
set_option linter.unusedVariables false
set_option linter.unusedSimpArgs false

def I64At (n : Int) (w : World) (e : Ending) (w' : World) : Prop := e = .returned (.int .i64 n) ∧ w = w'
theorem abs_any (n : Int) (w : World) (h : -100 ≤ n ∧ n ≤ 100) : Calls Tryz.prog 65 #[.int .i64 n] w (I64At (absZ n) w) := by
 obtain ⟨h1, h2⟩ := h
 by_cases h0 : n < 0
 ·have HS := Lib.hid (show absZ n = -n by unfold absZ; rw [if_pos h0])
  have g0 : decide (n < 0) = true := decide_eq_true h0
  have gw : wrap64 (-n) = -n := IntWalk.wrap64_in _ ⟨by omega, by omega⟩
  clear h0
  go_enter Tryz.func65, Tryz.ntmps65
  go_wp2_with fail
  go_ret
  exact ⟨ret_int (by rw [HS.out]), rfl⟩
 ·have HS := Lib.hid (show absZ n = n by unfold absZ; rw [if_neg h0])
  have g0 : decide (n < 0) = false := decide_eq_false h0
  clear h0
  go_enter Tryz.func65, Tryz.ntmps65
  go_wp2_with fail
  go_ret
  exact ⟨ret_int (by rw [HS.out]), rfl⟩
theorem rkind_any (x : Int) (w : World) (h0 : 0 ≤ x) (h1 : x ≤ 255) : Calls Tryz.prog 28 #[.int .u8 x] w (U8S (kndZ x) w) := by
 by_cases e1 : 15 < x
 ·have HS := Lib.hid (show kndZ x = 0 from kndZ_no (pcB_false.2 (by omega)))
  have g1 : decide (15 < x) = true := decide_eq_true e1
  clear e1
  go_enter Tryz.func28, Tryz.ntmps28
  go_wp2_with fail
  go_ret
  exact ⟨ret_int HS.out.symm, rfl⟩
 ·have g1 : decide (15 < x) = false := decide_eq_false e1
  by_cases e2 : x % 8 < 1
  ·have HS := Lib.hid (show kndZ x = 0 from kndZ_no (pcB_false.2 (by omega)))
   have g2 : decide (x % 8 < 1) = true := decide_eq_true e2
   clear e1 e2
   go_enter Tryz.func28, Tryz.ntmps28
   go_wp2_with fail
   go_ret
   exact ⟨ret_int HS.out.symm, rfl⟩
  ·have g2 : decide (x % 8 < 1) = false := decide_eq_false e2
   by_cases e3 : 6 < x % 8
   ·have HS := Lib.hid (show kndZ x = 0 from kndZ_no (pcB_false.2 (by omega)))
    have g3 : decide (6 < x % 8) = true := decide_eq_true e3
    clear e1 e2 e3
    go_enter Tryz.func28, Tryz.ntmps28
    go_wp2_with fail
    go_ret
    exact ⟨ret_int HS.out.symm, rfl⟩
   ·have HS := Lib.hid (show kndZ x = x % 8 from kndZ_yes (pcB_true.2 (by omega)))
    have g3 : decide (6 < x % 8) = false := decide_eq_false e3
    clear e1 e2 e3
    go_enter Tryz.func28, Tryz.ntmps28
    go_wp2_with fail
    go_ret
    exact ⟨ret_int (by rw [HS.out]), rfl⟩
theorem abs_swap (a b : Int) : absZ (a - b) = absZ (b - a) := by unfold absZ; split <;> split <;> omega
theorem up_int (a b : Nat) : upZ a b = (b : Int) / 8 - (a : Int) / 8 := rfl
theorem off_int (a b : Nat) : offZ a b = (b : Int) % 8 - (a : Int) % 8 := rfl
theorem rbeside_any (a b : Nat) (w : World) (ha : a < 64) (hb : b < 64) : Calls Tryz.prog 29 #[.int .i64 (a : Int), .int .i64 (b : Int)] w fun e w' => e = .returned (.bool (besB a b)) ∧ w = w' := by
 have HE := Lib.hid (show besB a b = (((a : Int) != (b : Int)) && decide (absZ ((a : Int) / 8 - (b : Int) / 8) ≤ 1) && decide (absZ ((a : Int) % 8 - (b : Int) % 8) ≤ 1)) by
  unfold besB; rw [up_int, off_int, abs_swap ((b : Int) / 8), abs_swap ((b : Int) % 8)]; congr 2; rw [Bool.eq_iff_iff, decide_eq_true_eq, bne_iff_ne]; omega)
 obtain ⟨ra, e1⟩ : ∃ r : Int, (a : Int) / 8 = r := ⟨_, rfl⟩
 obtain ⟨rb, e2⟩ : ∃ r : Int, (b : Int) / 8 = r := ⟨_, rfl⟩
 obtain ⟨fa, e3⟩ : ∃ r : Int, (a : Int) % 8 = r := ⟨_, rfl⟩
 obtain ⟨fb, e4⟩ : ∃ r : Int, (b : Int) % 8 = r := ⟨_, rfl⟩
 rw [e1, e2, e3, e4] at HE
 have b1 : 0 ≤ ra := by omega
 have b2 : ra ≤ 7 := by omega
 have b3 : 0 ≤ rb := by omega
 have b4 : rb ≤ 7 := by omega
 have b5 : 0 ≤ fa := by omega
 have b6 : fa ≤ 7 := by omega
 have b7 : 0 ≤ fb := by omega
 have b8 : fb ≤ 7 := by omega
 have k1 : -100 ≤ ra - rb ∧ ra - rb ≤ 100 := by omega
 have k2 : -100 ≤ fa - fb ∧ fa - fb ≤ 100 := by omega
 have K1 := Lib.hid k1
 have K2 := Lib.hid k2
 clear k1 k2
 cases g1 : ((a : Int) != (b : Int))
 ·go_enter Tryz.func29, Tryz.ntmps29
  go_wp2_with fail
  go_ret
  exact ⟨by rw [HE.out, g1]; rfl, rfl⟩
 ·cases g2 : decide (absZ (ra - rb) ≤ 1)
  ·go_enter Tryz.func29, Tryz.ntmps29
   go_wp2_with fail
   refine (abs_any (ra - rb) _ K1.out).mono ?_; rintro e wn ⟨rfl, rfl⟩
   go_wp2_with fail
   go_ret
   exact ⟨by rw [HE.out, g1, g2]; rfl, rfl⟩
  ·go_enter Tryz.func29, Tryz.ntmps29
   go_wp2_with fail
   refine (abs_any (ra - rb) _ K1.out).mono ?_; rintro e wn ⟨rfl, rfl⟩
   go_wp2_with fail
   refine (abs_any (fa - fb) _ K2.out).mono ?_; rintro e wn ⟨rfl, rfl⟩
   go_wp2_with fail
   go_ret
   exact ⟨by rw [HE.out, g1, g2]; rfl, rfl⟩
end Go.Proofs.YtidgfadbdgheiaaGreatDoor
