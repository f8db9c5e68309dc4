/-
  The walk of BoardParts.
-/
import Derived.Test.YtgodoipmnenohaaDoorBoLaw
import Derived.Deep.LoopGhost
import Derived.WalkMore
import Derived.WalkKit
import Derived.OpenShut
namespace Go.Proofs.YtgodoipmnenohaaDoor.boardParts
open Go.RowKit
set_option linter.unusedVariables false
set_option maxRecDepth 100000 in
set_option maxHeartbeats 4000000 in
theorem walk (p : Nat → Int) (hp : WfP p) (w : World) (hD : TabDb w) :
    Calls Tryd.prog 5 #[.agg (posA p)] w fun e w' => e = .returned (.bool true) ∧ Below w.heap.size w w' := by
  have HW := Lib.hid hp
  have HP := Lib.hid hp.R
  have HT := Lib.hid hD
  clear hp hD
  have HZ := Lib.hid (part_first p)
  go_enter Tryd.func5, Tryd.ntmps5
  go_wp2_with (first | (refine step_box rfl _ rfl p rfl ?_; intro b1 wn N R; have HR1 := Lib.hid R; have HB := Lib.hid N.below; have HG1 := Lib.hid (Nat.le_of_eq N.at_.symm); clear N R))
  refine (bawake_any _ (HT.out.on HB.out)).mono ?_; rintro e wn ⟨rfl, hb⟩; have HR1 := Lib.hid (HR1.out.later hb); have HB := Lib.hid (below_on HB.out hb); clear hb
  go_wp2_with fail
  go_loopw [3, 4, 5] (fun al n co wr => ∃ c : Nat, c ≤ 2 ∧ co = .int .u8 (c : Int) ∧ al = .int .u64 ((ltN p (8 * (c : Int) + 1) : Nat) : Int) ∧ n = .int .i64 (cntN (ltN p (8 * (c : Int) + 1))) ∧ Below w.heap.size w wr ∧ Row wr b1 p) (fun _ _ co _ => 2 - (intOf co).toNat)
  case atStart => exact ⟨0, by omega, rfl, by show _ = Value.int .u64 ((ltN p (8 * 0 + 1) : Nat) : Int); rw [HZ.out]; rfl, by show _ = Value.int .i64 (cntN (ltN p (8 * 0 + 1))); rw [HZ.out]; rfl, HB.out, HR1.out⟩
  case round =>
    clear HB HR1
    obtain ⟨c, hc, rfl, rfl, rfl, hb, hr⟩ := hrel
    have HB := Lib.hid hb
    have HR1 := Lib.hid hr
    clear hb hr
    by_cases hlt : c < 2
    · have HC := Lib.hid (show (0 : Int) ≤ (c : Int) ∧ (c : Int) ≤ 1 by omega)
      have d1 : decide ((c : Int) < 2) = true := decide_eq_true (by omega)
      have HO := Lib.hid (part_none p HC.out)
      have HE := Lib.hid (part_color p HC.out)
      have HX := Lib.hid (part_next p HC.out)
      go_wp2_with fail
      go_loopw [3, 4, 6, 7] (fun al n ow kd wr => ∃ k : Nat, 1 ≤ k ∧ k ≤ 7 ∧ kd = .int .u8 (k : Int) ∧ al = .int .u64 ((ltN p (8 * (c : Int) + (k : Int)) : Nat) : Int) ∧ n = .int .i64 (cntN (ltN p (8 * (c : Int) + (k : Int)))) ∧ ow = .int .u64 ((inN p (8 * (c : Int)) (8 * (c : Int) + (k : Int)) : Nat) : Int) ∧ Below w.heap.size w wr ∧ Row wr b1 p) (fun _ _ _ kd _ => 7 - (intOf kd).toNat)
      case atStart => exact ⟨1, by omega, by omega, rfl, rfl, rfl, by show _ = Value.int .u64 ((inN p (8 * (c : Int)) (8 * (c : Int) + 1) : Nat) : Int); rw [HO.out]; rfl, HB.out, HR1.out⟩
      case round =>
        clear HB HR1
        obtain ⟨k, hk1, hk, rfl, rfl, rfl, rfl, hb, hr⟩ := hrel
        have HB := Lib.hid hb
        have HR1 := Lib.hid hr
        clear hb hr
        by_cases hl2 : k < 7
        · have HK := Lib.hid (show (1 : Int) ≤ (k : Int) ∧ (k : Int) ≤ 6 by omega)
          have HA := Lib.hid (part_apart p HC.out HK.out)
          have z1 : bits BinOp.and IntKind.u64 ((ltN p (8 * (c : Int) + (k : Int)) : Nat) : Int) ((ofN p (c : Int) (k : Int) : Nat) : Int) = 0 := by rw [and_nat (ltN_lt _ _) (ofN_lt _ _ _), HA.out]; rfl
          have z2 : bits BinOp.or IntKind.u64 ((ltN p (8 * (c : Int) + (k : Int)) : Nat) : Int) ((ofN p (c : Int) (k : Int) : Nat) : Int) = ((ltN p (8 * (c : Int) + ((k : Int) + 1)) : Nat) : Int) := by rw [or_nat (ltN_lt _ _) (ofN_lt _ _ _), part_all p HC.out HK.out]
          have z3 : bits BinOp.or IntKind.u64 ((inN p (8 * (c : Int)) (8 * (c : Int) + (k : Int)) : Nat) : Int) ((ofN p (c : Int) (k : Int) : Nat) : Int) = ((inN p (8 * (c : Int)) (8 * (c : Int) + ((k : Int) + 1)) : Nat) : Int) := by rw [or_nat (inN_lt _ _ _) (ofN_lt _ _ _), part_own p HC.out HK.out]
          have HS := Lib.hid (show cntN (ltN p (8 * (c : Int) + ((k : Int) + 1))) = cntN (ltN p (8 * (c : Int) + (k : Int))) + cntN (ofN p (c : Int) (k : Int)) by rw [← part_all p HC.out HK.out, cnt_or HA.out])
          obtain ⟨n0, n1⟩ := cnt_rng (ltN p (8 * (c : Int) + (k : Int)))
          obtain ⟨n2, n3⟩ := cnt_rng (ofN p (c : Int) (k : Int))
          obtain ⟨A, HAa⟩ : ∃ A : Nat, Hid (ltN p (8 * (c : Int) + (k : Int)) = A) := ⟨_, Lib.hid rfl⟩
          obtain ⟨N, HNn⟩ : ∃ N : Int, Hid (cntN A = N) := ⟨_, Lib.hid rfl⟩
          obtain ⟨O, HOo⟩ : ∃ O : Nat, Hid (ofN p (c : Int) (k : Int) = O) := ⟨_, Lib.hid rfl⟩
          obtain ⟨M, HMm⟩ : ∃ M : Int, Hid (cntN O = M) := ⟨_, Lib.hid rfl⟩
          have HOl := Lib.hid (show O < W64 by rw [← HOo.out]; exact ofN_lt _ _ _)
          rw [HAa.out, HOo.out] at z1 z2 HS
          rw [HOo.out] at z3
          rw [HAa.out] at n0 n1
          rw [HOo.out] at n2 n3
          rw [HNn.out] at n0 n1
          rw [HMm.out] at n2 n3
          rw [HNn.out, HMm.out] at HS
          rw [HAa.out, HNn.out]
          go_wp2_with (refine step_load (by rfl) _ rfl _ rfl p HR1.out ?_)
          refine (of_any p _ _ _ HP.out.bd).mono ?_; rintro e wn ⟨rfl, hb⟩; have HR1 := Lib.hid (HR1.out.later hb); have HB := Lib.hid (below_on HB.out hb); clear hb; rw [HOo.out]
          go_wp2_with (refine step_load (by rfl) _ rfl _ rfl p HR1.out ?_)
          refine (find_set p _ _ _ HP.out.bd (HT.out.on HB.out)).mono ?_; rintro e wn ⟨rfl, hb⟩; have HR1 := Lib.hid (HR1.out.later hb); have HB := Lib.hid (below_on HB.out hb); clear hb; rw [HOo.out]
          go_wp2_with fail
          refine (first_any _ _ HOl.out (HT.out.on HB.out)).mono ?_; rintro e wn ⟨rfl, rfl⟩
          go_wp2_with (refine step_load (by rfl) _ rfl _ rfl p HR1.out ?_)
          refine (count_set p _ _ _ HP.out.bd).mono ?_; rintro e wn ⟨rfl, hb⟩; have HR1 := Lib.hid (HR1.out.later hb); have HB := Lib.hid (below_on HB.out hb); clear hb; rw [HOo.out, HMm.out]
          go_wp2_with fail
          refine (count_any _ _ HOl.out).mono ?_; rintro e wn ⟨rfl, rfl⟩; rw [show ((listN O).length : Int) = M from HMm.out]
          go_wp2_with fail
          refine (count_any _ _ HOl.out).mono ?_; rintro e wn ⟨rfl, rfl⟩; rw [show ((listN O).length : Int) = M from HMm.out]
          go_wp2_with fail
          go_roundw
          case rel => exact ⟨k + 1, by omega, by omega, by go_num, by go_num, by rw [show ((k + 1 : Nat) : Int) = (k : Int) + 1 by omega, HS.out], by go_num, HB.out, HR1.out⟩
          case measure => simp [intOf]; omega
        · obtain rfl : k = 7 := by omega
          have HU := Lib.hid (show ((7 : Nat) : Int) = 7 from rfl)
          rw [HU.out, HE.out, HX.out]
          go_wp2_with (refine step_load (by rfl) _ rfl _ rfl p HR1.out ?_)
          refine (of_any p _ _ _ HP.out.bd).mono ?_; rintro e wn ⟨rfl, hb⟩; have HR1 := Lib.hid (HR1.out.later hb); have HB := Lib.hid (below_on HB.out hb); clear hb
          go_wp2_with fail
          go_roundw
          case rel => exact ⟨c + 1, by omega, by go_num, by rw [show ((c + 1 : Nat) : Int) = (c : Int) + 1 by omega], by rw [show ((c + 1 : Nat) : Int) = (c : Int) + 1 by omega], HB.out, HR1.out⟩
          case measure => simp [intOf]; omega
    · obtain rfl : c = 2 := by omega
      have HU := Lib.hid (show ((2 : Nat) : Int) = 2 from rfl)
      have HLs := Lib.hid (part_last p)
      rw [HU.out, HLs.out]
      go_wp2_with (refine step_load (by rfl) _ rfl _ rfl p HR1.out ?_)
      refine (all_set p _ HP.out.bd).mono ?_; rintro e wn ⟨rfl, hb⟩; have HR1 := Lib.hid (HR1.out.later hb); have HB := Lib.hid (below_on HB.out hb); clear hb
      go_wp2_with fail
      refine (count_any _ _ (allN_lt _)).mono ?_; rintro e wn ⟨rfl, rfl⟩
      go_wp2_with fail
      go_ret
      exact ⟨ret_bool (by simp [cntN]), HB.out⟩
end Go.Proofs.YtgodoipmnenohaaDoor.boardParts
