/-
  The walk of RaysParts.
-/
import Derived.Test.YtheaknnipbbnbaaDoorRayAwake
import Derived.Test.YtheaknnipbbnbaaDoorRayRefB
import Derived.Test.YtheaknnipbbnbaaDoorRayRefD
import Derived.WalkKit
import Derived.OpenShut
namespace Go.Proofs.YtheaknnipbbnbaaDoor.raysParts
open Go.RowKit
set_option linter.unusedVariables false
set_option maxRecDepth 100000 in
set_option maxHeartbeats 4000000 in
theorem walk (a0 : Int) (a1 : Int) (w0 : (Lit.int .i64 a0).wf = true) (w1 : (Lit.int .i64 a1).wf = true) (w : World) (hT : TabLead w) :
    Calls Tryd.prog 8 #[.int .i64 a0, .int .i64 a1] w fun e w' => e = .returned (.bool true) ∧ Below w.heap.size w w' := by
  have HT0 := Lib.hid hT
  have HB0 := Lib.hid (Below.refl w.heap.size w)
  clear hT
  clear w0 w1
  obtain ⟨p1, p2, p3⟩ := part_end a0 a1
  have HP1 := Lib.hid p1
  have HP2 := Lib.hid p2
  have HP3 := Lib.hid p3
  clear p1 p2 p3
  go_enter Tryd.func8, Tryd.ntmps8
  go_wp2_with fail
  refine (ray_awake _ HT0.out).mono ?_; rintro e w1 ⟨rfl, hb1⟩
  have HB1 := Lib.hid (below_on HB0.out hb1); have HT1 := Lib.hid (HT0.out.next hb1); clear hb1
  go_wp2
  go_loopw [5, 6, 7] (fun x y i wr => ∃ k : Nat, k ≤ 8 ∧ i = .int .i64 (k : Int) ∧ x = .int .u64 (allN a0 k : Nat) ∧ y = .int .u64 (fstN a0 k : Nat) ∧ Below w.heap.size w wr) (fun _ _ i _ => 8 - (intOf i).toNat)
  case atStart => exact ⟨0, by omega, rfl, rfl, rfl, HB1.out⟩
  case round =>
    obtain ⟨k, hk, rfl, rfl, rfl, hbel⟩ := hrel
    have HB0 := Lib.hid hbel
    have HT0 := Lib.hid (HT0.out.next hbel)
    clear hbel
    by_cases hlt : k < 8
    · have g1 := Lib.hid (part_ray a0 k hlt).1
      have g2 := Lib.hid (part_ray a0 k hlt).2
      have HA := Lib.hid (and_nat (allN_lt a0 k) (rayN_lt a0 (k : Int)))
      have HO := Lib.hid (or_nat (allN_lt a0 k) (rayN_lt a0 (k : Int)))
      have HF := Lib.hid (or_nat (fstN_lt a0 k) (shiftN_lt (putN 0 a0) (k : Int)))
      have HG := Lib.hid (or_nat (shiftN_lt (rayN a0 (k : Int)) (k : Int)) (shiftN_lt (putN 0 a0) (k : Int)))
      have z1 : bits BinOp.and IntKind.u64 ((allN a0 k : Nat) : Int) ((rayN a0 (k : Int) : Nat) : Int) = 0 := by rw [HA.out, g1.out]; rfl
      have z2 : bits BinOp.or IntKind.u64 ((shiftN (rayN a0 (k : Int)) (k : Int) : Nat) : Int) ((shiftN (putN 0 a0) (k : Int) : Nat) : Int) = ((rayN a0 (k : Int) : Nat) : Int) := by rw [HG.out, ← g2.out]
      have HPl := Lib.hid (putN_lt (b := 0) (by decide) a0)
      have HRl := Lib.hid (rayN_lt a0 (k : Int))
      go_wp2_with fail
      refine (ray_any _ _ _ HT0.out).mono ?_; rintro e w1 ⟨rfl, hb1⟩
      have HB1 := Lib.hid (below_on HB0.out hb1); have HT1 := Lib.hid (HT0.out.next hb1); clear hb1
      go_wp2_with fail
      refine (put_any 0 _ _ (by decide)).mono ?_; rintro e w' ⟨rfl, rfl⟩
      go_wp2_with fail
      refine (shift_any _ _ _ HPl.out HT1.out).mono ?_; rintro e w' ⟨rfl, rfl⟩
      go_wp2_with fail
      refine (shift_any _ _ _ HRl.out HT1.out).mono ?_; rintro e w' ⟨rfl, rfl⟩
      go_wp2_with fail
      refine (put_any 0 _ _ (by decide)).mono ?_; rintro e w' ⟨rfl, rfl⟩
      go_wp2_with fail
      refine (shift_any _ _ _ HPl.out HT1.out).mono ?_; rintro e w' ⟨rfl, rfl⟩
      go_wp2
      go_roundw
      case rel => exact ⟨k + 1, by omega, by go_num, by rw [HO.out]; rfl, by rw [HF.out]; rfl, HB1.out⟩
      case measure => simp [intOf]; omega
    · obtain rfl : k = 8 := by omega
      have HA := Lib.hid (and_nat (allN_lt a0 8) (knightN_lt a0))
      have z1 : bits BinOp.and IntKind.u64 ((allN a0 8 : Nat) : Int) ((knightN a0 : Nat) : Int) = 0 := by rw [HA.out, HP2.out]; rfl
      have q1 := HP1.out
      have HAl := Lib.hid (allN_lt a0 8)
      by_cases hl : lineN a0 a1 = 0
      · have HZ := Lib.hid hl
        have q2 : hasN (allN a0 8) a1 = false := by rw [HP3.out]; simp [hl]
        clear hl
        go_wp2_with fail
        refine (king_any _ _ HT0.out).mono ?_; rintro e w1 ⟨rfl, hb1⟩
        have HB1 := Lib.hid (below_on HB0.out hb1); have HT1 := Lib.hid (HT0.out.next hb1); clear hb1
        go_wp2_with fail
        refine (has_any _ _ _ HAl.out).mono ?_; rintro e w' ⟨rfl, rfl⟩
        go_wp2_with fail
        refine (line_i (r := 0) _ HT1.out (by rw [HZ.out]; rfl)).mono ?_; rintro e w2 ⟨rfl, hb2⟩
        have HB2 := Lib.hid (below_on HB1.out hb2); have HT2 := Lib.hid (HT1.out.next hb2); clear hb2
        go_wp2_with fail
        refine (knight_any _ _ HT2.out).mono ?_; rintro e w3 ⟨rfl, hb3⟩
        have HB3 := Lib.hid (below_on HB2.out hb3); have HT3 := Lib.hid (HT2.out.next hb3); clear hb3
        go_wp2_with fail
        go_ret
        exact ⟨rfl, HB3.out⟩
      · have q2 : hasN (allN a0 8) a1 = true := by rw [HP3.out]; simp [hl]
        have q3 : (((lineN a0 a1 : Nat) : Int) != 0) = true := by simp; omega
        clear hl
        go_wp2_with fail
        refine (king_any _ _ HT0.out).mono ?_; rintro e w1 ⟨rfl, hb1⟩
        have HB1 := Lib.hid (below_on HB0.out hb1); have HT1 := Lib.hid (HT0.out.next hb1); clear hb1
        go_wp2_with fail
        refine (has_any _ _ _ HAl.out).mono ?_; rintro e w' ⟨rfl, rfl⟩
        go_wp2_with fail
        refine (line_any _ _ _ HT1.out).mono ?_; rintro e w2 ⟨rfl, hb2⟩
        have HB2 := Lib.hid (below_on HB1.out hb2); have HT2 := Lib.hid (HT1.out.next hb2); clear hb2
        go_wp2_with fail
        refine (knight_any _ _ HT2.out).mono ?_; rintro e w3 ⟨rfl, hb3⟩
        have HB3 := Lib.hid (below_on HB2.out hb3); have HT3 := Lib.hid (HT2.out.next hb3); clear hb3
        go_wp2_with fail
        go_ret
        exact ⟨rfl, HB3.out⟩
end Go.Proofs.YtheaknnipbbnbaaDoor.raysParts
