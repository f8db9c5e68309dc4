/-
  Contracts of the document's own layer 3, second part: Knight, Pawn.
-/
import Derived.Test.YtheaknnipbbnbaaDoorRayRef
namespace Go.Proofs.YtheaknnipbbnbaaDoor
open Go.RowKit

theorem knight_p (s : Int) (k : Nat) (f2 r1 f1 r2 : Bool) (h1 : (gapZ (fileZ s) (fileZ (k : Int)) == 2) = f2) (h2 : (gapZ (rankZ s) (rankZ (k : Int)) == 1) = r1) (h3 : (gapZ (fileZ s) (fileZ (k : Int)) == 1) = f1) (h4 : (gapZ (rankZ s) (rankZ (k : Int)) == 2) = r2) : knightP s k = ((f2 && r1) || (f1 && r2)) := by
  subst h1 h2 h3 h4; rfl
set_option maxHeartbeats 2000000 in
theorem rknight_any (s : Int) (w : World) : Calls Tryd.prog 14 #[.int .i64 s] w (U64R (knightN s) w) := by
  cases hs : sq s
  · have HN := Lib.hid (knightN_no hs)
    go_enter Tryd.func14, Tryd.ntmps14
    go_wp2
    go_loop [3, 4] (fun x i => i = .int .i64 0 ∧ x = .int .u64 0) (fun _ _ => 0)
    case atStart => exact ⟨rfl, rfl⟩
    case round =>
      obtain ⟨rfl, rfl⟩ := hrel
      go_wp2_with (go_at_call 37; refine (rsquare_any _ _).mono ?_; rintro e w' ⟨rfl, rfl⟩)
      go_ret
      exact ⟨ret_int (by rw [HN.out]; rfl), rfl⟩
  · have HK := Lib.hid (knight_ref hs)
    have ra := rankZ_rng s
    have la := fileZ_rng s
    go_enter Tryd.func14, Tryd.ntmps14
    go_wp2
    go_loop [3, 4] (fun x i => ∃ k : Nat, k ≤ 64 ∧ i = .int .i64 (k : Int) ∧ x = .int .u64 (setTo (knightP s) k : Nat)) (fun _ i => 64 - (intOf i).toNat)
    case atStart => exact ⟨0, by omega, rfl, rfl⟩
    case round =>
      obtain ⟨k, hk, rfl, rfl⟩ := hrel
      by_cases hlt : k < 64
      · have HX := Lib.hid (setTo_lt (knightP s) k)
        have rb := rankZ_rng (k : Int)
        have lb := fileZ_rng (k : Int)
        cases f2 : (gapZ (fileZ s) (fileZ (k : Int)) == 2) <;> cases f1 : (gapZ (fileZ s) (fileZ (k : Int)) == 1) <;> cases r1 : (gapZ (rankZ s) (rankZ (k : Int)) == 1) <;> cases r2 : (gapZ (rankZ s) (rankZ (k : Int)) == 2)
        · have HN := Lib.hid (setTo_no (p := knightP s) (k := k) (knight_p s k _ _ _ _ f2 r1 f1 r2))
          go_wp2_with (first | (go_at_call 37; refine (rsquare_any _ _).mono ?_; rintro e w' ⟨rfl, rfl⟩) | (go_at_call 39; refine (rfile_any _ _).mono ?_; rintro e w' ⟨rfl, rfl⟩) | (go_at_call 40; refine (rrank_any _ _).mono ?_; rintro e w' ⟨rfl, rfl⟩) | (go_at_call 38; refine (rgap_any _ _ _ (by assumption) (by assumption)).mono ?_; rintro e w' ⟨rfl, rfl⟩) | (go_at_call 35; refine (rput_any _ _ _ HX.out).mono ?_; rintro e w' ⟨rfl, rfl⟩))
          go_round
          case rel => exact ⟨k + 1, by omega, by go_num, by rw [HN.out]⟩
          case measure => simp [intOf]; omega
        · have HN := Lib.hid (setTo_no (p := knightP s) (k := k) (knight_p s k _ _ _ _ f2 r1 f1 r2))
          go_wp2_with (first | (go_at_call 37; refine (rsquare_any _ _).mono ?_; rintro e w' ⟨rfl, rfl⟩) | (go_at_call 39; refine (rfile_any _ _).mono ?_; rintro e w' ⟨rfl, rfl⟩) | (go_at_call 40; refine (rrank_any _ _).mono ?_; rintro e w' ⟨rfl, rfl⟩) | (go_at_call 38; refine (rgap_any _ _ _ (by assumption) (by assumption)).mono ?_; rintro e w' ⟨rfl, rfl⟩) | (go_at_call 35; refine (rput_any _ _ _ HX.out).mono ?_; rintro e w' ⟨rfl, rfl⟩))
          go_round
          case rel => exact ⟨k + 1, by omega, by go_num, by rw [HN.out]⟩
          case measure => simp [intOf]; omega
        · have HN := Lib.hid (setTo_no (p := knightP s) (k := k) (knight_p s k _ _ _ _ f2 r1 f1 r2))
          go_wp2_with (first | (go_at_call 37; refine (rsquare_any _ _).mono ?_; rintro e w' ⟨rfl, rfl⟩) | (go_at_call 39; refine (rfile_any _ _).mono ?_; rintro e w' ⟨rfl, rfl⟩) | (go_at_call 40; refine (rrank_any _ _).mono ?_; rintro e w' ⟨rfl, rfl⟩) | (go_at_call 38; refine (rgap_any _ _ _ (by assumption) (by assumption)).mono ?_; rintro e w' ⟨rfl, rfl⟩) | (go_at_call 35; refine (rput_any _ _ _ HX.out).mono ?_; rintro e w' ⟨rfl, rfl⟩))
          go_round
          case rel => exact ⟨k + 1, by omega, by go_num, by rw [HN.out]⟩
          case measure => simp [intOf]; omega
        · have HN := Lib.hid (setTo_no (p := knightP s) (k := k) (knight_p s k _ _ _ _ f2 r1 f1 r2))
          go_wp2_with (first | (go_at_call 37; refine (rsquare_any _ _).mono ?_; rintro e w' ⟨rfl, rfl⟩) | (go_at_call 39; refine (rfile_any _ _).mono ?_; rintro e w' ⟨rfl, rfl⟩) | (go_at_call 40; refine (rrank_any _ _).mono ?_; rintro e w' ⟨rfl, rfl⟩) | (go_at_call 38; refine (rgap_any _ _ _ (by assumption) (by assumption)).mono ?_; rintro e w' ⟨rfl, rfl⟩) | (go_at_call 35; refine (rput_any _ _ _ HX.out).mono ?_; rintro e w' ⟨rfl, rfl⟩))
          go_round
          case rel => exact ⟨k + 1, by omega, by go_num, by rw [HN.out]⟩
          case measure => simp [intOf]; omega
        · have HN := Lib.hid (setTo_no (p := knightP s) (k := k) (knight_p s k _ _ _ _ f2 r1 f1 r2))
          go_wp2_with (first | (go_at_call 37; refine (rsquare_any _ _).mono ?_; rintro e w' ⟨rfl, rfl⟩) | (go_at_call 39; refine (rfile_any _ _).mono ?_; rintro e w' ⟨rfl, rfl⟩) | (go_at_call 40; refine (rrank_any _ _).mono ?_; rintro e w' ⟨rfl, rfl⟩) | (go_at_call 38; refine (rgap_any _ _ _ (by assumption) (by assumption)).mono ?_; rintro e w' ⟨rfl, rfl⟩) | (go_at_call 35; refine (rput_any _ _ _ HX.out).mono ?_; rintro e w' ⟨rfl, rfl⟩))
          go_round
          case rel => exact ⟨k + 1, by omega, by go_num, by rw [HN.out]⟩
          case measure => simp [intOf]; omega
        · have HN := Lib.hid (setTo_yes (p := knightP s) (k := k) (knight_p s k _ _ _ _ f2 r1 f1 r2))
          go_wp2_with (first | (go_at_call 37; refine (rsquare_any _ _).mono ?_; rintro e w' ⟨rfl, rfl⟩) | (go_at_call 39; refine (rfile_any _ _).mono ?_; rintro e w' ⟨rfl, rfl⟩) | (go_at_call 40; refine (rrank_any _ _).mono ?_; rintro e w' ⟨rfl, rfl⟩) | (go_at_call 38; refine (rgap_any _ _ _ (by assumption) (by assumption)).mono ?_; rintro e w' ⟨rfl, rfl⟩) | (go_at_call 35; refine (rput_any _ _ _ HX.out).mono ?_; rintro e w' ⟨rfl, rfl⟩))
          go_round
          case rel => exact ⟨k + 1, by omega, by go_num, by rw [HN.out]⟩
          case measure => simp [intOf]; omega
        · have HN := Lib.hid (setTo_no (p := knightP s) (k := k) (knight_p s k _ _ _ _ f2 r1 f1 r2))
          go_wp2_with (first | (go_at_call 37; refine (rsquare_any _ _).mono ?_; rintro e w' ⟨rfl, rfl⟩) | (go_at_call 39; refine (rfile_any _ _).mono ?_; rintro e w' ⟨rfl, rfl⟩) | (go_at_call 40; refine (rrank_any _ _).mono ?_; rintro e w' ⟨rfl, rfl⟩) | (go_at_call 38; refine (rgap_any _ _ _ (by assumption) (by assumption)).mono ?_; rintro e w' ⟨rfl, rfl⟩) | (go_at_call 35; refine (rput_any _ _ _ HX.out).mono ?_; rintro e w' ⟨rfl, rfl⟩))
          go_round
          case rel => exact ⟨k + 1, by omega, by go_num, by rw [HN.out]⟩
          case measure => simp [intOf]; omega
        · have HN := Lib.hid (setTo_yes (p := knightP s) (k := k) (knight_p s k _ _ _ _ f2 r1 f1 r2))
          go_wp2_with (first | (go_at_call 37; refine (rsquare_any _ _).mono ?_; rintro e w' ⟨rfl, rfl⟩) | (go_at_call 39; refine (rfile_any _ _).mono ?_; rintro e w' ⟨rfl, rfl⟩) | (go_at_call 40; refine (rrank_any _ _).mono ?_; rintro e w' ⟨rfl, rfl⟩) | (go_at_call 38; refine (rgap_any _ _ _ (by assumption) (by assumption)).mono ?_; rintro e w' ⟨rfl, rfl⟩) | (go_at_call 35; refine (rput_any _ _ _ HX.out).mono ?_; rintro e w' ⟨rfl, rfl⟩))
          go_round
          case rel => exact ⟨k + 1, by omega, by go_num, by rw [HN.out]⟩
          case measure => simp [intOf]; omega
        · have HN := Lib.hid (setTo_no (p := knightP s) (k := k) (knight_p s k _ _ _ _ f2 r1 f1 r2))
          go_wp2_with (first | (go_at_call 37; refine (rsquare_any _ _).mono ?_; rintro e w' ⟨rfl, rfl⟩) | (go_at_call 39; refine (rfile_any _ _).mono ?_; rintro e w' ⟨rfl, rfl⟩) | (go_at_call 40; refine (rrank_any _ _).mono ?_; rintro e w' ⟨rfl, rfl⟩) | (go_at_call 38; refine (rgap_any _ _ _ (by assumption) (by assumption)).mono ?_; rintro e w' ⟨rfl, rfl⟩) | (go_at_call 35; refine (rput_any _ _ _ HX.out).mono ?_; rintro e w' ⟨rfl, rfl⟩))
          go_round
          case rel => exact ⟨k + 1, by omega, by go_num, by rw [HN.out]⟩
          case measure => simp [intOf]; omega
        · have HN := Lib.hid (setTo_no (p := knightP s) (k := k) (knight_p s k _ _ _ _ f2 r1 f1 r2))
          go_wp2_with (first | (go_at_call 37; refine (rsquare_any _ _).mono ?_; rintro e w' ⟨rfl, rfl⟩) | (go_at_call 39; refine (rfile_any _ _).mono ?_; rintro e w' ⟨rfl, rfl⟩) | (go_at_call 40; refine (rrank_any _ _).mono ?_; rintro e w' ⟨rfl, rfl⟩) | (go_at_call 38; refine (rgap_any _ _ _ (by assumption) (by assumption)).mono ?_; rintro e w' ⟨rfl, rfl⟩) | (go_at_call 35; refine (rput_any _ _ _ HX.out).mono ?_; rintro e w' ⟨rfl, rfl⟩))
          go_round
          case rel => exact ⟨k + 1, by omega, by go_num, by rw [HN.out]⟩
          case measure => simp [intOf]; omega
        · have HN := Lib.hid (setTo_yes (p := knightP s) (k := k) (knight_p s k _ _ _ _ f2 r1 f1 r2))
          go_wp2_with (first | (go_at_call 37; refine (rsquare_any _ _).mono ?_; rintro e w' ⟨rfl, rfl⟩) | (go_at_call 39; refine (rfile_any _ _).mono ?_; rintro e w' ⟨rfl, rfl⟩) | (go_at_call 40; refine (rrank_any _ _).mono ?_; rintro e w' ⟨rfl, rfl⟩) | (go_at_call 38; refine (rgap_any _ _ _ (by assumption) (by assumption)).mono ?_; rintro e w' ⟨rfl, rfl⟩) | (go_at_call 35; refine (rput_any _ _ _ HX.out).mono ?_; rintro e w' ⟨rfl, rfl⟩))
          go_round
          case rel => exact ⟨k + 1, by omega, by go_num, by rw [HN.out]⟩
          case measure => simp [intOf]; omega
        · have HN := Lib.hid (setTo_yes (p := knightP s) (k := k) (knight_p s k _ _ _ _ f2 r1 f1 r2))
          go_wp2_with (first | (go_at_call 37; refine (rsquare_any _ _).mono ?_; rintro e w' ⟨rfl, rfl⟩) | (go_at_call 39; refine (rfile_any _ _).mono ?_; rintro e w' ⟨rfl, rfl⟩) | (go_at_call 40; refine (rrank_any _ _).mono ?_; rintro e w' ⟨rfl, rfl⟩) | (go_at_call 38; refine (rgap_any _ _ _ (by assumption) (by assumption)).mono ?_; rintro e w' ⟨rfl, rfl⟩) | (go_at_call 35; refine (rput_any _ _ _ HX.out).mono ?_; rintro e w' ⟨rfl, rfl⟩))
          go_round
          case rel => exact ⟨k + 1, by omega, by go_num, by rw [HN.out]⟩
          case measure => simp [intOf]; omega
        · have HN := Lib.hid (setTo_no (p := knightP s) (k := k) (knight_p s k _ _ _ _ f2 r1 f1 r2))
          go_wp2_with (first | (go_at_call 37; refine (rsquare_any _ _).mono ?_; rintro e w' ⟨rfl, rfl⟩) | (go_at_call 39; refine (rfile_any _ _).mono ?_; rintro e w' ⟨rfl, rfl⟩) | (go_at_call 40; refine (rrank_any _ _).mono ?_; rintro e w' ⟨rfl, rfl⟩) | (go_at_call 38; refine (rgap_any _ _ _ (by assumption) (by assumption)).mono ?_; rintro e w' ⟨rfl, rfl⟩) | (go_at_call 35; refine (rput_any _ _ _ HX.out).mono ?_; rintro e w' ⟨rfl, rfl⟩))
          go_round
          case rel => exact ⟨k + 1, by omega, by go_num, by rw [HN.out]⟩
          case measure => simp [intOf]; omega
        · have HN := Lib.hid (setTo_yes (p := knightP s) (k := k) (knight_p s k _ _ _ _ f2 r1 f1 r2))
          go_wp2_with (first | (go_at_call 37; refine (rsquare_any _ _).mono ?_; rintro e w' ⟨rfl, rfl⟩) | (go_at_call 39; refine (rfile_any _ _).mono ?_; rintro e w' ⟨rfl, rfl⟩) | (go_at_call 40; refine (rrank_any _ _).mono ?_; rintro e w' ⟨rfl, rfl⟩) | (go_at_call 38; refine (rgap_any _ _ _ (by assumption) (by assumption)).mono ?_; rintro e w' ⟨rfl, rfl⟩) | (go_at_call 35; refine (rput_any _ _ _ HX.out).mono ?_; rintro e w' ⟨rfl, rfl⟩))
          go_round
          case rel => exact ⟨k + 1, by omega, by go_num, by rw [HN.out]⟩
          case measure => simp [intOf]; omega
        · have HN := Lib.hid (setTo_yes (p := knightP s) (k := k) (knight_p s k _ _ _ _ f2 r1 f1 r2))
          go_wp2_with (first | (go_at_call 37; refine (rsquare_any _ _).mono ?_; rintro e w' ⟨rfl, rfl⟩) | (go_at_call 39; refine (rfile_any _ _).mono ?_; rintro e w' ⟨rfl, rfl⟩) | (go_at_call 40; refine (rrank_any _ _).mono ?_; rintro e w' ⟨rfl, rfl⟩) | (go_at_call 38; refine (rgap_any _ _ _ (by assumption) (by assumption)).mono ?_; rintro e w' ⟨rfl, rfl⟩) | (go_at_call 35; refine (rput_any _ _ _ HX.out).mono ?_; rintro e w' ⟨rfl, rfl⟩))
          go_round
          case rel => exact ⟨k + 1, by omega, by go_num, by rw [HN.out]⟩
          case measure => simp [intOf]; omega
        · have HN := Lib.hid (setTo_yes (p := knightP s) (k := k) (knight_p s k _ _ _ _ f2 r1 f1 r2))
          go_wp2_with (first | (go_at_call 37; refine (rsquare_any _ _).mono ?_; rintro e w' ⟨rfl, rfl⟩) | (go_at_call 39; refine (rfile_any _ _).mono ?_; rintro e w' ⟨rfl, rfl⟩) | (go_at_call 40; refine (rrank_any _ _).mono ?_; rintro e w' ⟨rfl, rfl⟩) | (go_at_call 38; refine (rgap_any _ _ _ (by assumption) (by assumption)).mono ?_; rintro e w' ⟨rfl, rfl⟩) | (go_at_call 35; refine (rput_any _ _ _ HX.out).mono ?_; rintro e w' ⟨rfl, rfl⟩))
          go_round
          case rel => exact ⟨k + 1, by omega, by go_num, by rw [HN.out]⟩
          case measure => simp [intOf]; omega
      · obtain rfl : k = 64 := by omega
        go_wp2_with fail
        go_ret
        exact ⟨ret_int (by rw [HK.out]), rfl⟩

theorem pawn_p (up s : Int) (k : Nat) (f r : Bool) (h1 : (gapZ (fileZ s) (fileZ (k : Int)) == 1) = f) (h2 : (rankZ (k : Int) == rankZ s + up) = r) : pawnP up s k = (f && r) := by
  subst h1 h2; rfl
theorem rpawn_off (c s : Int) (w : World) (h : sq s = false) : Calls Tryd.prog 16 #[.int .u8 c, .int .i64 s] w (U64R (pawnN c s) w) := by
  have HN := Lib.hid (pawnN_no (c := c) h)
  cases h1 : (c == 1)
  · go_enter Tryd.func16, Tryd.ntmps16
    go_wp2
    go_loop [6, 7] (fun x i => i = .int .i64 0 ∧ x = .int .u64 0) (fun _ _ => 0)
    case atStart => exact ⟨rfl, rfl⟩
    case round =>
      obtain ⟨rfl, rfl⟩ := hrel
      go_wp2_with (go_at_call 37; refine (rsquare_any _ _).mono ?_; rintro e w' ⟨rfl, rfl⟩)
      go_ret
      exact ⟨ret_int (by rw [HN.out]; rfl), rfl⟩
  · go_enter Tryd.func16, Tryd.ntmps16
    go_wp2
    go_loop [6, 7] (fun x i => i = .int .i64 0 ∧ x = .int .u64 0) (fun _ _ => 0)
    case atStart => exact ⟨rfl, rfl⟩
    case round =>
      obtain ⟨rfl, rfl⟩ := hrel
      go_wp2_with (go_at_call 37; refine (rsquare_any _ _).mono ?_; rintro e w' ⟨rfl, rfl⟩)
      go_ret
      exact ⟨ret_int (by rw [HN.out]; rfl), rfl⟩
theorem rpawn_col (c s : Int) (w : World) (h : sq s = true) (hc : 2 ≤ c ∧ c ≤ 255) : Calls Tryd.prog 16 #[.int .u8 c, .int .i64 s] w (U64R (pawnN c s) w) := by
  have HN := Lib.hid (pawnN_col (c := c) (s := s) (by simp; omega))
  have h1 : (c == 1) = false := by simp; omega
  have h2 : decide (c ≤ 1) = false := by simp; omega
  go_enter Tryd.func16, Tryd.ntmps16
  go_wp2
  go_loop [6, 7] (fun x i => i = .int .i64 0 ∧ x = .int .u64 0) (fun _ _ => 0)
  case atStart => exact ⟨rfl, rfl⟩
  case round =>
    obtain ⟨rfl, rfl⟩ := hrel
    go_wp2_with (go_at_call 37; refine (rsquare_any _ _).mono ?_; rintro e w' ⟨rfl, rfl⟩)
    go_ret
    exact ⟨ret_int (by rw [HN.out]; rfl), rfl⟩
theorem rpawn_0 (s : Int) (w : World) (hs : sq s = true) : Calls Tryd.prog 16 #[.int .u8 0, .int .i64 s] w (U64R (pawnN 0 s) w) := by
  have HK := Lib.hid (pawn_ref0 hs)
  have ra := rankZ_rng s
  have la := fileZ_rng s
  go_enter Tryd.func16, Tryd.ntmps16
  go_wp2
  go_loop [6, 7] (fun x i => ∃ k : Nat, k ≤ 64 ∧ i = .int .i64 (k : Int) ∧ x = .int .u64 (setTo (pawnP 1 s) k : Nat)) (fun _ i => 64 - (intOf i).toNat)
  case atStart => exact ⟨0, by omega, rfl, rfl⟩
  case round =>
    obtain ⟨k, hk, rfl, rfl⟩ := hrel
    by_cases hlt : k < 64
    · have HX := Lib.hid (setTo_lt (pawnP 1 s) k)
      have rb := rankZ_rng (k : Int)
      have lb := fileZ_rng (k : Int)
      cases f1 : (gapZ (fileZ s) (fileZ (k : Int)) == 1) <;> cases r1 : (rankZ (k : Int) == rankZ s + 1)
      · have HN := Lib.hid (setTo_no (p := pawnP 1 s) (k := k) (pawn_p 1 s k _ _ f1 r1))
        go_wp2_with (first | (go_at_call 37; refine (rsquare_any _ _).mono ?_; rintro e w' ⟨rfl, rfl⟩) | (go_at_call 39; refine (rfile_any _ _).mono ?_; rintro e w' ⟨rfl, rfl⟩) | (go_at_call 40; refine (rrank_any _ _).mono ?_; rintro e w' ⟨rfl, rfl⟩) | (go_at_call 38; refine (rgap_any _ _ _ (by assumption) (by assumption)).mono ?_; rintro e w' ⟨rfl, rfl⟩) | (go_at_call 35; refine (rput_any _ _ _ HX.out).mono ?_; rintro e w' ⟨rfl, rfl⟩))
        go_round
        case rel => exact ⟨k + 1, by omega, by go_num, by rw [HN.out]⟩
        case measure => simp [intOf]; omega
      · have HN := Lib.hid (setTo_no (p := pawnP 1 s) (k := k) (pawn_p 1 s k _ _ f1 r1))
        go_wp2_with (first | (go_at_call 37; refine (rsquare_any _ _).mono ?_; rintro e w' ⟨rfl, rfl⟩) | (go_at_call 39; refine (rfile_any _ _).mono ?_; rintro e w' ⟨rfl, rfl⟩) | (go_at_call 40; refine (rrank_any _ _).mono ?_; rintro e w' ⟨rfl, rfl⟩) | (go_at_call 38; refine (rgap_any _ _ _ (by assumption) (by assumption)).mono ?_; rintro e w' ⟨rfl, rfl⟩) | (go_at_call 35; refine (rput_any _ _ _ HX.out).mono ?_; rintro e w' ⟨rfl, rfl⟩))
        go_round
        case rel => exact ⟨k + 1, by omega, by go_num, by rw [HN.out]⟩
        case measure => simp [intOf]; omega
      · have HN := Lib.hid (setTo_no (p := pawnP 1 s) (k := k) (pawn_p 1 s k _ _ f1 r1))
        go_wp2_with (first | (go_at_call 37; refine (rsquare_any _ _).mono ?_; rintro e w' ⟨rfl, rfl⟩) | (go_at_call 39; refine (rfile_any _ _).mono ?_; rintro e w' ⟨rfl, rfl⟩) | (go_at_call 40; refine (rrank_any _ _).mono ?_; rintro e w' ⟨rfl, rfl⟩) | (go_at_call 38; refine (rgap_any _ _ _ (by assumption) (by assumption)).mono ?_; rintro e w' ⟨rfl, rfl⟩) | (go_at_call 35; refine (rput_any _ _ _ HX.out).mono ?_; rintro e w' ⟨rfl, rfl⟩))
        go_round
        case rel => exact ⟨k + 1, by omega, by go_num, by rw [HN.out]⟩
        case measure => simp [intOf]; omega
      · have HN := Lib.hid (setTo_yes (p := pawnP 1 s) (k := k) (pawn_p 1 s k _ _ f1 r1))
        go_wp2_with (first | (go_at_call 37; refine (rsquare_any _ _).mono ?_; rintro e w' ⟨rfl, rfl⟩) | (go_at_call 39; refine (rfile_any _ _).mono ?_; rintro e w' ⟨rfl, rfl⟩) | (go_at_call 40; refine (rrank_any _ _).mono ?_; rintro e w' ⟨rfl, rfl⟩) | (go_at_call 38; refine (rgap_any _ _ _ (by assumption) (by assumption)).mono ?_; rintro e w' ⟨rfl, rfl⟩) | (go_at_call 35; refine (rput_any _ _ _ HX.out).mono ?_; rintro e w' ⟨rfl, rfl⟩))
        go_round
        case rel => exact ⟨k + 1, by omega, by go_num, by rw [HN.out]⟩
        case measure => simp [intOf]; omega
    · obtain rfl : k = 64 := by omega
      go_wp2_with fail
      go_ret
      exact ⟨ret_int (by rw [HK.out]), rfl⟩
theorem rpawn_1 (s : Int) (w : World) (hs : sq s = true) : Calls Tryd.prog 16 #[.int .u8 1, .int .i64 s] w (U64R (pawnN 1 s) w) := by
  have HK := Lib.hid (pawn_ref1 hs)
  have ra := rankZ_rng s
  have la := fileZ_rng s
  go_enter Tryd.func16, Tryd.ntmps16
  go_wp2
  go_loop [6, 7] (fun x i => ∃ k : Nat, k ≤ 64 ∧ i = .int .i64 (k : Int) ∧ x = .int .u64 (setTo (pawnP (-1) s) k : Nat)) (fun _ i => 64 - (intOf i).toNat)
  case atStart => exact ⟨0, by omega, rfl, rfl⟩
  case round =>
    obtain ⟨k, hk, rfl, rfl⟩ := hrel
    by_cases hlt : k < 64
    · have HX := Lib.hid (setTo_lt (pawnP (-1) s) k)
      have rb := rankZ_rng (k : Int)
      have lb := fileZ_rng (k : Int)
      cases f1 : (gapZ (fileZ s) (fileZ (k : Int)) == 1) <;> cases r1 : (rankZ (k : Int) == rankZ s + -1)
      · have HN := Lib.hid (setTo_no (p := pawnP (-1) s) (k := k) (pawn_p (-1) s k _ _ f1 r1))
        go_wp2_with (first | (go_at_call 37; refine (rsquare_any _ _).mono ?_; rintro e w' ⟨rfl, rfl⟩) | (go_at_call 39; refine (rfile_any _ _).mono ?_; rintro e w' ⟨rfl, rfl⟩) | (go_at_call 40; refine (rrank_any _ _).mono ?_; rintro e w' ⟨rfl, rfl⟩) | (go_at_call 38; refine (rgap_any _ _ _ (by assumption) (by assumption)).mono ?_; rintro e w' ⟨rfl, rfl⟩) | (go_at_call 35; refine (rput_any _ _ _ HX.out).mono ?_; rintro e w' ⟨rfl, rfl⟩))
        go_round
        case rel => exact ⟨k + 1, by omega, by go_num, by rw [HN.out]⟩
        case measure => simp [intOf]; omega
      · have HN := Lib.hid (setTo_no (p := pawnP (-1) s) (k := k) (pawn_p (-1) s k _ _ f1 r1))
        go_wp2_with (first | (go_at_call 37; refine (rsquare_any _ _).mono ?_; rintro e w' ⟨rfl, rfl⟩) | (go_at_call 39; refine (rfile_any _ _).mono ?_; rintro e w' ⟨rfl, rfl⟩) | (go_at_call 40; refine (rrank_any _ _).mono ?_; rintro e w' ⟨rfl, rfl⟩) | (go_at_call 38; refine (rgap_any _ _ _ (by assumption) (by assumption)).mono ?_; rintro e w' ⟨rfl, rfl⟩) | (go_at_call 35; refine (rput_any _ _ _ HX.out).mono ?_; rintro e w' ⟨rfl, rfl⟩))
        go_round
        case rel => exact ⟨k + 1, by omega, by go_num, by rw [HN.out]⟩
        case measure => simp [intOf]; omega
      · have HN := Lib.hid (setTo_no (p := pawnP (-1) s) (k := k) (pawn_p (-1) s k _ _ f1 r1))
        go_wp2_with (first | (go_at_call 37; refine (rsquare_any _ _).mono ?_; rintro e w' ⟨rfl, rfl⟩) | (go_at_call 39; refine (rfile_any _ _).mono ?_; rintro e w' ⟨rfl, rfl⟩) | (go_at_call 40; refine (rrank_any _ _).mono ?_; rintro e w' ⟨rfl, rfl⟩) | (go_at_call 38; refine (rgap_any _ _ _ (by assumption) (by assumption)).mono ?_; rintro e w' ⟨rfl, rfl⟩) | (go_at_call 35; refine (rput_any _ _ _ HX.out).mono ?_; rintro e w' ⟨rfl, rfl⟩))
        go_round
        case rel => exact ⟨k + 1, by omega, by go_num, by rw [HN.out]⟩
        case measure => simp [intOf]; omega
      · have HN := Lib.hid (setTo_yes (p := pawnP (-1) s) (k := k) (pawn_p (-1) s k _ _ f1 r1))
        go_wp2_with (first | (go_at_call 37; refine (rsquare_any _ _).mono ?_; rintro e w' ⟨rfl, rfl⟩) | (go_at_call 39; refine (rfile_any _ _).mono ?_; rintro e w' ⟨rfl, rfl⟩) | (go_at_call 40; refine (rrank_any _ _).mono ?_; rintro e w' ⟨rfl, rfl⟩) | (go_at_call 38; refine (rgap_any _ _ _ (by assumption) (by assumption)).mono ?_; rintro e w' ⟨rfl, rfl⟩) | (go_at_call 35; refine (rput_any _ _ _ HX.out).mono ?_; rintro e w' ⟨rfl, rfl⟩))
        go_round
        case rel => exact ⟨k + 1, by omega, by go_num, by rw [HN.out]⟩
        case measure => simp [intOf]; omega
    · obtain rfl : k = 64 := by omega
      go_wp2_with fail
      go_ret
      exact ⟨ret_int (by rw [HK.out]), rfl⟩
theorem rpawn_any (c s : Int) (w : World) (hc : 0 ≤ c ∧ c ≤ 255) : Calls Tryd.prog 16 #[.int .u8 c, .int .i64 s] w (U64R (pawnN c s) w) := by
  cases h : sq s
  · exact rpawn_off c s w h
  · by_cases h0 : c = 0
    · subst h0; exact rpawn_0 s w h
    · by_cases h1 : c = 1
      · subst h1; exact rpawn_1 s w h
      · exact rpawn_col c s w h (by omega)
end Go.Proofs.YtheaknnipbbnbaaDoor
