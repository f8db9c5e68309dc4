/-
  Contracts of the document's own layer 4: Dir, Rook, Bishop, Queen.
-/
import Derived.Test.YtomhacepoeecjaaDoorRayRefC
import Derived.Test.YtomhacepoeecjaaDoorSlides
namespace Go.Proofs.YtomhacepoeecjaaDoor
open Go.RowKit

set_option maxHeartbeats 1000000 in
theorem rdir_any (s d : Int) (occ : Nat) (w : World) (ho : occ < W64) : Calls Tryd.prog 12 #[.int .i64 s, .int .i64 d, .int .u64 (occ : Int)] w (U64L (seenN s d occ) w) := by
  have HO := Lib.hid ho
  clear ho
  go_enter Tryd.func12, Tryd.ntmps12
  go_wp2_with fail
  refine (rwalk_any _ _ _).mono ?_; rintro e w1 ⟨v, k, hk, hon, hoff, rfl, hL, hb⟩
  obtain ⟨p, cap, rfl, hp⟩ := listed_open hL
  have hlen := walkTo_len s d k
  have HP := Lib.hid hp
  have HB := Lib.hid hb
  have HOn := Lib.hid hon
  have HOff := Lib.hid hoff
  rw [hlen]
  clear hL hp hb hon hoff
  go_wp2
  go_loop [7, 9] (fun x i => ∃ m : Nat, m ≤ k ∧ i = .int .i64 (m : Int) ∧ x = .int .u64 (passN s d m : Nat) ∧ ∀ j, j < m → hasN occ (goN s d (j + 1)) = false) (fun _ i => k - (intOf i).toNat)
  case atStart => exact ⟨0, by omega, rfl, rfl, fun j h => by omega⟩
  case round =>
    obtain ⟨m, hmk, rfl, rfl, hno⟩ := hrel
    have HN := Lib.hid hno
    clear hno
    by_cases hlm : m < k
    · obtain ⟨x, HX⟩ : ∃ x : Nat, Hid (x = (goN s d (m + 1)).toNat) := ⟨_, Lib.hid rfl⟩
      have HG := Lib.hid (show (x : Int) = goN s d (m + 1) by have := HOn.out m hlm; rw [sq_true] at this; rw [HX.out]; omega)
      obtain ⟨g, rfl, hg1, hg2, hg3⟩ := HP.out (by omega)
      have hcell := (hg3 m x (by rw [HX.out]; exact walkTo_at s d k m hlm)).1
      have HPl := Lib.hid (passN_lt s d m)
      clear hg1 hg2 hg3
      cases hq : hasN occ (x : Int)
      · have HQ := Lib.hid hq
        go_wp2_with (first | (go_at_call 36; refine (rput_any _ _ _ HPl.out).mono ?_; rintro e w' ⟨rfl, rfl⟩) | (go_at_call 37; refine (rhas_any _ _ _ HO.out).mono ?_; rintro e w' ⟨rfl, rfl⟩))
        go_round
        case rel =>
          refine ⟨m + 1, by omega, by go_num, by rw [HG.out]; rfl, fun j hj => ?_⟩
          by_cases e : j = m
          · subst e; rw [← HG.out]; exact HQ.out
          · exact HN.out j (by omega)
        case measure => simp [intOf]; omega
      · have HQ := Lib.hid (seen_hit HN.out (by rw [← HG.out]; exact hq))
        go_wp2_with (first | (go_at_call 36; refine (rput_any _ _ _ HPl.out).mono ?_; rintro e w' ⟨rfl, rfl⟩) | (go_at_call 37; refine (rhas_any _ _ _ HO.out).mono ?_; rintro e w' ⟨rfl, rfl⟩))
        go_ret
        exact ⟨ret_int (by rw [HQ.out, HG.out]; rfl), HB.out⟩
    · obtain rfl : m = k := by omega
      have HQ := Lib.hid (seen_off HN.out HOff.out)
      go_wp2
      go_ret
      exact ⟨ret_int (by rw [HQ.out]), HB.out⟩

theorem rrook_any (s : Int) (occ : Nat) (w : World) (ho : occ < W64) : Calls Tryd.prog 14 #[.int .i64 s, .int .u64 (occ : Int)] w (U64L (rookN s occ) w) := by
  have HO := Lib.hid ho
  have HR := Lib.hid (rook_ref s occ)
  have HX := Lib.hid (or_nat (seenN_lt s 0 occ) (seenN_lt s 2 occ))
  have HY := Lib.hid (or_nat (or_lt (seenN_lt s 0 occ) (seenN_lt s 2 occ)) (seenN_lt s 4 occ))
  have HZ := Lib.hid (or_nat (or_lt (or_lt (seenN_lt s 0 occ) (seenN_lt s 2 occ)) (seenN_lt s 4 occ)) (seenN_lt s 6 occ))
  clear ho
  go_enter Tryd.func14, Tryd.ntmps14
  go_wp2_with fail
  refine (rdir_any s 0 _ _ HO.out).mono ?_; rintro e w1 ⟨rfl, hb1⟩
  have HB1 := Lib.hid hb1; clear hb1
  go_wp2_with fail
  refine (rdir_any s 2 _ _ HO.out).mono ?_; rintro e w2 ⟨rfl, hb2⟩
  have HB2 := Lib.hid (below_step HB1.out hb2); clear hb2
  go_wp2_with fail
  refine (rdir_any s 4 _ _ HO.out).mono ?_; rintro e w3 ⟨rfl, hb3⟩
  have HB3 := Lib.hid (below_step HB2.out hb3); clear hb3
  go_wp2_with fail
  refine (rdir_any s 6 _ _ HO.out).mono ?_; rintro e w4 ⟨rfl, hb4⟩
  have HB4 := Lib.hid (below_step HB3.out hb4); clear hb4
  go_wp2
  go_ret
  exact ⟨ret_int (by rw [HX.out, HY.out, HZ.out, HR.out]), HB4.out⟩
theorem rbish_any (s : Int) (occ : Nat) (w : World) (ho : occ < W64) : Calls Tryd.prog 16 #[.int .i64 s, .int .u64 (occ : Int)] w (U64L (bishN s occ) w) := by
  have HO := Lib.hid ho
  have HR := Lib.hid (bish_ref s occ)
  have HX := Lib.hid (or_nat (seenN_lt s 1 occ) (seenN_lt s 3 occ))
  have HY := Lib.hid (or_nat (or_lt (seenN_lt s 1 occ) (seenN_lt s 3 occ)) (seenN_lt s 5 occ))
  have HZ := Lib.hid (or_nat (or_lt (or_lt (seenN_lt s 1 occ) (seenN_lt s 3 occ)) (seenN_lt s 5 occ)) (seenN_lt s 7 occ))
  clear ho
  go_enter Tryd.func16, Tryd.ntmps16
  go_wp2_with fail
  refine (rdir_any s 1 _ _ HO.out).mono ?_; rintro e w1 ⟨rfl, hb1⟩
  have HB1 := Lib.hid hb1; clear hb1
  go_wp2_with fail
  refine (rdir_any s 3 _ _ HO.out).mono ?_; rintro e w2 ⟨rfl, hb2⟩
  have HB2 := Lib.hid (below_step HB1.out hb2); clear hb2
  go_wp2_with fail
  refine (rdir_any s 5 _ _ HO.out).mono ?_; rintro e w3 ⟨rfl, hb3⟩
  have HB3 := Lib.hid (below_step HB2.out hb3); clear hb3
  go_wp2_with fail
  refine (rdir_any s 7 _ _ HO.out).mono ?_; rintro e w4 ⟨rfl, hb4⟩
  have HB4 := Lib.hid (below_step HB3.out hb4); clear hb4
  go_wp2
  go_ret
  exact ⟨ret_int (by rw [HX.out, HY.out, HZ.out, HR.out]), HB4.out⟩
theorem rqueen_any (s : Int) (occ : Nat) (w : World) (ho : occ < W64) : Calls Tryd.prog 18 #[.int .i64 s, .int .u64 (occ : Int)] w (U64L (queenN s occ) w) := by
  have HO := Lib.hid ho
  have HR := Lib.hid (queen_ref s occ)
  have HX := Lib.hid (or_nat (rookN_lt s occ) (bishN_lt s occ))
  clear ho
  go_enter Tryd.func18, Tryd.ntmps18
  go_wp2_with fail
  refine (rrook_any _ _ _ HO.out).mono ?_; rintro e w1 ⟨rfl, hb1⟩
  have HB1 := Lib.hid hb1; clear hb1
  go_wp2_with fail
  refine (rbish_any _ _ _ HO.out).mono ?_; rintro e w2 ⟨rfl, hb2⟩
  have HB2 := Lib.hid (below_step HB1.out hb2); clear hb2
  go_wp2
  go_ret
  exact ⟨ret_int (by rw [HX.out, HR.out]), HB2.out⟩
end Go.Proofs.YtomhacepoeecjaaDoor
