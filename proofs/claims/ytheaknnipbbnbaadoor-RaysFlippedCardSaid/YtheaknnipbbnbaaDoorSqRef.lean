/-
  Contracts of the document's own File, Rank, Of, apart, Distance, Flip (layer 2): each answers the plain function of XSqMath.
-/
import Derived.Test.YtheaknnipbbnbaaDoorSq
namespace Go.Proofs.YtheaknnipbbnbaaDoor
open Go.RowKit

theorem rfile_any (s : Int) (w : World) : Calls Tryd.prog 39 #[.int .i64 s] w (I64 (fileZ s) w) := by
  by_cases h0 : s < 0
  · have HS := Lib.hid (fileZ_no (sqB_false.2 (.inl h0)))
    have g0 : decide (s < 0) = true := decide_eq_true h0
    go_enter Tryd.func39, Tryd.ntmps39
    go_wp2
    go_ret
    exact ⟨sq_int HS.out.symm, rfl⟩
  · by_cases h1 : 63 < s
    · have HS := Lib.hid (fileZ_no (sqB_false.2 (.inr (show 64 ≤ s by omega))))
      have g0 : decide (s < 0) = false := decide_eq_false h0
      have g1 : decide (63 < s) = true := decide_eq_true h1
      go_enter Tryd.func39, Tryd.ntmps39
      go_wp2
      go_ret
      exact ⟨sq_int HS.out.symm, rfl⟩
    · have HS := Lib.hid (fileZ_yes ((sqB_true (s := s)).2 ⟨by omega, by omega⟩))
      obtain ⟨n, rfl⟩ := Int.eq_ofNat_of_zero_le (a := s) (by omega)
      have g0 : decide ((n : Int) < 0) = false := decide_eq_false h0
      have g1 : decide (63 < (n : Int)) = false := decide_eq_false h1
      have h2 : n ≤ 63 := by omega
      clear h0 h1
      go_enter Tryd.func39, Tryd.ntmps39
      go_wp2
      go_loop [0] (fun x => ∃ k : Nat, k ≤ 63 ∧ k % 8 = n % 8 ∧ x = .int .i64 (k : Int)) (fun x => (intOf x).toNat)
      case atStart => exact ⟨n, h2, rfl, rfl⟩
      case round =>
        obtain ⟨k, hk, hm, rfl⟩ := hrel
        have HM := Lib.hid hm
        clear hm
        by_cases hlt : 8 ≤ k
        · obtain ⟨m, rfl⟩ : ∃ m, k = m + 8 := ⟨k - 8, by omega⟩
          go_wp2
          go_round
          case rel => exact ⟨m, by omega, by have := HM.out; omega, by go_num⟩
          case measure => simp [intOf]; omega
        · go_wp2
          go_ret
          exact ⟨sq_int (by rw [HS.out]; have := HM.out; omega), rfl⟩

theorem rrank_any (s : Int) (w : World) : Calls Tryd.prog 40 #[.int .i64 s] w (I64 (rankZ s) w) := by
  by_cases h0 : s < 0
  · have HS := Lib.hid (rankZ_no (sqB_false.2 (.inl h0)))
    have g0 : decide (s < 0) = true := decide_eq_true h0
    go_enter Tryd.func40, Tryd.ntmps40
    go_wp2
    go_ret
    exact ⟨sq_int HS.out.symm, rfl⟩
  · by_cases h1 : 63 < s
    · have HS := Lib.hid (rankZ_no (sqB_false.2 (.inr (show 64 ≤ s by omega))))
      have g0 : decide (s < 0) = false := decide_eq_false h0
      have g1 : decide (63 < s) = true := decide_eq_true h1
      go_enter Tryd.func40, Tryd.ntmps40
      go_wp2
      go_ret
      exact ⟨sq_int HS.out.symm, rfl⟩
    · have HS := Lib.hid (rankZ_yes ((sqB_true (s := s)).2 ⟨by omega, by omega⟩))
      obtain ⟨n, rfl⟩ := Int.eq_ofNat_of_zero_le (a := s) (by omega)
      have g0 : decide ((n : Int) < 0) = false := decide_eq_false h0
      have g1 : decide (63 < (n : Int)) = false := decide_eq_false h1
      have h2 : n ≤ 63 := by omega
      clear h0 h1
      go_enter Tryd.func40, Tryd.ntmps40
      go_wp2
      go_loop [0, 3] (fun x y => ∃ k j : Nat, k ≤ 63 ∧ k + 8 * j = n ∧ x = .int .i64 (k : Int) ∧ y = .int .i64 (j : Int)) (fun x _ => (intOf x).toNat)
      case atStart => exact ⟨n, 0, h2, by omega, rfl, rfl⟩
      case round =>
        obtain ⟨k, j, hk, hm, rfl, rfl⟩ := hrel
        have HM := Lib.hid hm
        have hj : j ≤ 7 := by omega
        clear hm
        by_cases hlt : 8 ≤ k
        · obtain ⟨m, rfl⟩ : ∃ m, k = m + 8 := ⟨k - 8, by omega⟩
          go_wp2
          go_round
          case rel => exact ⟨m, j + 1, by omega, by have := HM.out; omega, by go_num, by go_num⟩
          case measure => simp [intOf]; omega
        · go_wp2
          go_ret
          exact ⟨sq_int (by rw [HS.out]; have := HM.out; omega), rfl⟩


theorem rapart_any (a b : Int) (w : World) (ha : -1 ≤ a ∧ a ≤ 7) (hb : -1 ≤ b ∧ b ≤ 7) : Calls Tryd.prog 55 #[.int .i64 a, .int .i64 b] w (I64 (gapZ a b) w) := by
  obtain ⟨a1, a2⟩ := ha
  obtain ⟨b1, b2⟩ := hb
  by_cases h : a < b
  · have HS := Lib.hid (show gapZ a b = b - a by simp [gapZ, h])
    have g0 : decide (a < b) = true := decide_eq_true h
    go_enter Tryd.func55, Tryd.ntmps55
    go_wp2
    go_ret
    exact ⟨sq_int (by rw [HS.out]), rfl⟩
  · have HS := Lib.hid (show gapZ a b = a - b by simp [gapZ, h])
    have g0 : decide (a < b) = false := decide_eq_false h
    go_enter Tryd.func55, Tryd.ntmps55
    go_wp2
    go_ret
    exact ⟨sq_int (by rw [HS.out]), rfl⟩

theorem file_neg (s : Int) : decide (fileZ s < 0) = !sqB s := by
  cases h : sqB s
  · rw [fileZ_no h]; rfl
  · rw [fileZ_yes h]; simp; omega
theorem dist_far {a b : Int} (h : sqB a = true) (g : sqB b = true) (x : decide (gapZ (rankZ a) (rankZ b) < gapZ (fileZ a) (fileZ b)) = true) : distZ a b = gapZ (fileZ a) (fileZ b) := by
  rw [fileZ_yes h, fileZ_yes g, rankZ_yes h, rankZ_yes g] at *
  rw [distZ_yes (by rw [h, g]; rfl), if_pos (of_decide_eq_true x)]
theorem dist_near {a b : Int} (h : sqB a = true) (g : sqB b = true) (x : decide (gapZ (rankZ a) (rankZ b) < gapZ (fileZ a) (fileZ b)) = false) : distZ a b = gapZ (rankZ a) (rankZ b) := by
  rw [fileZ_yes h, fileZ_yes g, rankZ_yes h, rankZ_yes g] at *
  rw [distZ_yes (by rw [h, g]; rfl), if_neg (of_decide_eq_false x)]
set_option maxHeartbeats 1000000 in
theorem rdist_any (a b : Int) (w : World) : Calls Tryd.prog 34 #[.int .i64 a, .int .i64 b] w (I64 (distZ a b) w) := by
  have fa := file_neg a
  have fb := file_neg b
  have ra := rankZ_rng a
  have rb := rankZ_rng b
  have la := fileZ_rng a
  have lb := fileZ_rng b
  cases ha : sqB a
  · have HS := Lib.hid (distZ_no (a := a) (b := b) (by rw [ha]; rfl))
    rw [ha] at fa
    go_enter Tryd.func34, Tryd.ntmps34
    go_wp2_with (go_at_call 39; refine (rfile_any _ _).mono ?_; rintro e w' ⟨rfl, rfl⟩)
    go_ret
    exact ⟨sq_int HS.out.symm, rfl⟩
  · cases hb : sqB b
    · have HS := Lib.hid (distZ_no (a := a) (b := b) (by rw [hb]; simp))
      rw [ha] at fa
      rw [hb] at fb
      go_enter Tryd.func34, Tryd.ntmps34
      go_wp2_with (go_at_call 39; refine (rfile_any _ _).mono ?_; rintro e w' ⟨rfl, rfl⟩)
      go_ret
      exact ⟨sq_int HS.out.symm, rfl⟩
    · cases hx : decide (gapZ (rankZ a) (rankZ b) < gapZ (fileZ a) (fileZ b))
      · have HS := Lib.hid (dist_near ha hb hx)
        rw [ha] at fa
        rw [hb] at fb
        go_enter Tryd.func34, Tryd.ntmps34
        go_wp2_with (first | (go_at_call 39; refine (rfile_any _ _).mono ?_; rintro e w' ⟨rfl, rfl⟩) | (go_at_call 40; refine (rrank_any _ _).mono ?_; rintro e w' ⟨rfl, rfl⟩) | (go_at_call 55; refine (rapart_any _ _ _ (by assumption) (by assumption)).mono ?_; rintro e w' ⟨rfl, rfl⟩))
        go_ret
        exact ⟨sq_int HS.out.symm, rfl⟩
      · have HS := Lib.hid (dist_far ha hb hx)
        rw [ha] at fa
        rw [hb] at fb
        go_enter Tryd.func34, Tryd.ntmps34
        go_wp2_with (first | (go_at_call 39; refine (rfile_any _ _).mono ?_; rintro e w' ⟨rfl, rfl⟩) | (go_at_call 40; refine (rrank_any _ _).mono ?_; rintro e w' ⟨rfl, rfl⟩) | (go_at_call 55; refine (rapart_any _ _ _ (by assumption) (by assumption)).mono ?_; rintro e w' ⟨rfl, rfl⟩))
        go_ret
        exact ⟨sq_int HS.out.symm, rfl⟩
end Go.Proofs.YtheaknnipbbnbaaDoor
