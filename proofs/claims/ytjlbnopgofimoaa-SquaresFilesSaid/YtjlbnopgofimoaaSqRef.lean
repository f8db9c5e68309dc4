/-
  Contracts of the document's own File, Rank, Of, apart, Distance, Flip (layer 2): each answers the plain function of XSqMath.
-/
import Derived.Test.YtjlbnopgofimoaaSq
namespace Go.Proofs.Ytjlbnopgofimoaa
open Go.RowKit

theorem rfile_any (s : Int) (w : World) : Calls Try.prog 13 #[.int .i64 s] w (I64 (fileZ s) w) := by
  by_cases h0 : s < 0
  · have HS := Lib.hid (fileZ_no (sqB_false.2 (.inl h0)))
    have g0 : decide (s < 0) = true := decide_eq_true h0
    go_enter Try.func13, Try.ntmps13
    go_wp2
    go_ret
    exact ⟨sq_int HS.out.symm, rfl⟩
  · by_cases h1 : 63 < s
    · have HS := Lib.hid (fileZ_no (sqB_false.2 (.inr (show 64 ≤ s by omega))))
      have g0 : decide (s < 0) = false := decide_eq_false h0
      have g1 : decide (63 < s) = true := decide_eq_true h1
      go_enter Try.func13, Try.ntmps13
      go_wp2
      go_ret
      exact ⟨sq_int HS.out.symm, rfl⟩
    · have HS := Lib.hid (fileZ_yes ((sqB_true (s := s)).2 ⟨by omega, by omega⟩))
      obtain ⟨n, rfl⟩ := Int.eq_ofNat_of_zero_le (a := s) (by omega)
      have g0 : decide ((n : Int) < 0) = false := decide_eq_false h0
      have g1 : decide (63 < (n : Int)) = false := decide_eq_false h1
      have h2 : n ≤ 63 := by omega
      clear h0 h1
      go_enter Try.func13, Try.ntmps13
      go_wp2
      go_loop [0] (fun x => ∃ k : Nat, k ≤ 63 ∧ k % 8 = n % 8 ∧ x = .int .i64 (k : Int)) (fun x => (intOf x).toNat)
      case atStart => exact ⟨n, h2, rfl, rfl⟩
      case round =>
        obtain ⟨k, hk, hm, rfl⟩ := hrel
        have HM := Lib.hid hm
        clear hm
        by_cases hlt : 8 ≤ k
        · obtain ⟨m, rfl⟩ : ∃ m, k = m + 8 := ⟨k - 8, by omega⟩
          go_wp2
          go_round
          case rel => exact ⟨m, by omega, by have := HM.out; omega, by go_num⟩
          case measure => simp [intOf]; omega
        · go_wp2
          go_ret
          exact ⟨sq_int (by rw [HS.out]; have := HM.out; omega), rfl⟩

theorem rrank_any (s : Int) (w : World) : Calls Try.prog 15 #[.int .i64 s] w (I64 (rankZ s) w) := by
  by_cases h0 : s < 0
  · have HS := Lib.hid (rankZ_no (sqB_false.2 (.inl h0)))
    have g0 : decide (s < 0) = true := decide_eq_true h0
    go_enter Try.func15, Try.ntmps15
    go_wp2
    go_ret
    exact ⟨sq_int HS.out.symm, rfl⟩
  · by_cases h1 : 63 < s
    · have HS := Lib.hid (rankZ_no (sqB_false.2 (.inr (show 64 ≤ s by omega))))
      have g0 : decide (s < 0) = false := decide_eq_false h0
      have g1 : decide (63 < s) = true := decide_eq_true h1
      go_enter Try.func15, Try.ntmps15
      go_wp2
      go_ret
      exact ⟨sq_int HS.out.symm, rfl⟩
    · have HS := Lib.hid (rankZ_yes ((sqB_true (s := s)).2 ⟨by omega, by omega⟩))
      obtain ⟨n, rfl⟩ := Int.eq_ofNat_of_zero_le (a := s) (by omega)
      have g0 : decide ((n : Int) < 0) = false := decide_eq_false h0
      have g1 : decide (63 < (n : Int)) = false := decide_eq_false h1
      have h2 : n ≤ 63 := by omega
      clear h0 h1
      go_enter Try.func15, Try.ntmps15
      go_wp2
      go_loop [0, 3] (fun x y => ∃ k j : Nat, k ≤ 63 ∧ k + 8 * j = n ∧ x = .int .i64 (k : Int) ∧ y = .int .i64 (j : Int)) (fun x _ => (intOf x).toNat)
      case atStart => exact ⟨n, 0, h2, by omega, rfl, rfl⟩
      case round =>
        obtain ⟨k, j, hk, hm, rfl, rfl⟩ := hrel
        have HM := Lib.hid hm
        have hj : j ≤ 7 := by omega
        clear hm
        by_cases hlt : 8 ≤ k
        · obtain ⟨m, rfl⟩ : ∃ m, k = m + 8 := ⟨k - 8, by omega⟩
          go_wp2
          go_round
          case rel => exact ⟨m, j + 1, by omega, by have := HM.out; omega, by go_num, by go_num⟩
          case measure => simp [intOf]; omega
        · go_wp2
          go_ret
          exact ⟨sq_int (by rw [HS.out]; have := HM.out; omega), rfl⟩

theorem of_hit {f r : Int} {k : Nat} (hk : k < 64) (h1 : (fileZ (k : Int) == f) = true) (h2 : (rankZ (k : Int) == r) = true) : ofOk f r = true ∧ ofZ f r = (k : Int) := by
  have hs : sqB (k : Int) = true := sqB_true.2 ⟨by omega, by omega⟩
  rw [fileZ_yes hs] at h1
  rw [rankZ_yes hs] at h2
  obtain rfl := eq_of_beq h1
  obtain rfl := eq_of_beq h2
  exact ⟨ofOk_back hs, ofZ_back hs⟩
theorem of_miss {f r : Int} (h : ∀ k : Nat, k < 64 → ((fileZ (k : Int) == f) && (rankZ (k : Int) == r)) = false) : ofOk f r = false := by
  cases e : ofOk f r
  · rfl
  · have hs := of_sq e
    have hf := of_file e
    have hr := of_rank e
    rw [sqB_true] at hs
    have := h (ofZ f r).toNat (by omega)
    rw [show (((ofZ f r).toNat : Nat) : Int) = ofZ f r by omega, hf, hr] at this
    simp at this

theorem rof_any (f r : Int) (w : World) : Calls Try.prog 11 #[.int .i64 f, .int .i64 r] w (I64B (ofZ f r) (ofOk f r) w) := by
  go_enter Try.func11, Try.ntmps11
  go_wp2
  go_loop [6] (fun x => ∃ k : Nat, k ≤ 64 ∧ x = .int .i64 (k : Int) ∧ ∀ j : Nat, j < k → ((fileZ (j : Int) == f) && (rankZ (j : Int) == r)) = false) (fun x => 64 - (intOf x).toNat)
  case atStart => exact ⟨0, by omega, rfl, fun j h => by omega⟩
  case round =>
    obtain ⟨k, hk, rfl, hm⟩ := hrel
    have HM := Lib.hid hm
    clear hm
    by_cases hlt : k < 64
    · cases h1 : (fileZ (k : Int) == f)
      · go_wp2_with (first | (go_at_call 13; refine (rfile_any _ _).mono ?_; rintro e w' ⟨rfl, rfl⟩) | (go_at_call 15; refine (rrank_any _ _).mono ?_; rintro e w' ⟨rfl, rfl⟩))
        go_round
        case rel =>
          refine ⟨k + 1, by omega, by go_num, fun j hj => ?_⟩
          by_cases e : j = k
          · subst e; rw [h1]; rfl
          · exact HM.out j (by omega)
        case measure => simp [intOf]; omega
      · cases h2 : (rankZ (k : Int) == r)
        · go_wp2_with (first | (go_at_call 13; refine (rfile_any _ _).mono ?_; rintro e w' ⟨rfl, rfl⟩) | (go_at_call 15; refine (rrank_any _ _).mono ?_; rintro e w' ⟨rfl, rfl⟩))
          go_round
          case rel =>
            refine ⟨k + 1, by omega, by go_num, fun j hj => ?_⟩
            by_cases e : j = k
            · subst e; rw [h2]; simp
            · exact HM.out j (by omega)
          case measure => simp [intOf]; omega
        · have HH := Lib.hid (of_hit hlt h1 h2)
          go_wp2_with (first | (go_at_call 13; refine (rfile_any _ _).mono ?_; rintro e w' ⟨rfl, rfl⟩) | (go_at_call 15; refine (rrank_any _ _).mono ?_; rintro e w' ⟨rfl, rfl⟩))
          go_ret2
          exact ⟨sq_pair HH.out.2.symm HH.out.1.symm, rfl⟩
    · have HH := Lib.hid (of_miss fun j hj => HM.out j (by omega))
      have HZ := Lib.hid (ofZ_no HH.out)
      go_wp2
      go_ret2
      exact ⟨sq_pair HZ.out.symm HH.out.symm, rfl⟩

theorem rapart_any (a b : Int) (w : World) (ha : -1 ≤ a ∧ a ≤ 7) (hb : -1 ≤ b ∧ b ≤ 7) : Calls Try.prog 28 #[.int .i64 a, .int .i64 b] w (I64 (gapZ a b) w) := by
  obtain ⟨a1, a2⟩ := ha
  obtain ⟨b1, b2⟩ := hb
  by_cases h : a < b
  · have HS := Lib.hid (show gapZ a b = b - a by simp [gapZ, h])
    have g0 : decide (a < b) = true := decide_eq_true h
    go_enter Try.func28, Try.ntmps28
    go_wp2
    go_ret
    exact ⟨sq_int (by rw [HS.out]), rfl⟩
  · have HS := Lib.hid (show gapZ a b = a - b by simp [gapZ, h])
    have g0 : decide (a < b) = false := decide_eq_false h
    go_enter Try.func28, Try.ntmps28
    go_wp2
    go_ret
    exact ⟨sq_int (by rw [HS.out]), rfl⟩

theorem file_neg (s : Int) : decide (fileZ s < 0) = !sqB s := by
  cases h : sqB s
  · rw [fileZ_no h]; rfl
  · rw [fileZ_yes h]; simp; omega
theorem dist_far {a b : Int} (h : sqB a = true) (g : sqB b = true) (x : decide (gapZ (rankZ a) (rankZ b) < gapZ (fileZ a) (fileZ b)) = true) : distZ a b = gapZ (fileZ a) (fileZ b) := by
  rw [fileZ_yes h, fileZ_yes g, rankZ_yes h, rankZ_yes g] at *
  rw [distZ_yes (by rw [h, g]; rfl), if_pos (of_decide_eq_true x)]
theorem dist_near {a b : Int} (h : sqB a = true) (g : sqB b = true) (x : decide (gapZ (rankZ a) (rankZ b) < gapZ (fileZ a) (fileZ b)) = false) : distZ a b = gapZ (rankZ a) (rankZ b) := by
  rw [fileZ_yes h, fileZ_yes g, rankZ_yes h, rankZ_yes g] at *
  rw [distZ_yes (by rw [h, g]; rfl), if_neg (of_decide_eq_false x)]
set_option maxHeartbeats 1000000 in
theorem rdist_any (a b : Int) (w : World) : Calls Try.prog 21 #[.int .i64 a, .int .i64 b] w (I64 (distZ a b) w) := by
  have fa := file_neg a
  have fb := file_neg b
  have ra := rankZ_rng a
  have rb := rankZ_rng b
  have la := fileZ_rng a
  have lb := fileZ_rng b
  cases ha : sqB a
  · have HS := Lib.hid (distZ_no (a := a) (b := b) (by rw [ha]; rfl))
    rw [ha] at fa
    go_enter Try.func21, Try.ntmps21
    go_wp2_with (go_at_call 13; refine (rfile_any _ _).mono ?_; rintro e w' ⟨rfl, rfl⟩)
    go_ret
    exact ⟨sq_int HS.out.symm, rfl⟩
  · cases hb : sqB b
    · have HS := Lib.hid (distZ_no (a := a) (b := b) (by rw [hb]; simp))
      rw [ha] at fa
      rw [hb] at fb
      go_enter Try.func21, Try.ntmps21
      go_wp2_with (go_at_call 13; refine (rfile_any _ _).mono ?_; rintro e w' ⟨rfl, rfl⟩)
      go_ret
      exact ⟨sq_int HS.out.symm, rfl⟩
    · cases hx : decide (gapZ (rankZ a) (rankZ b) < gapZ (fileZ a) (fileZ b))
      · have HS := Lib.hid (dist_near ha hb hx)
        rw [ha] at fa
        rw [hb] at fb
        go_enter Try.func21, Try.ntmps21
        go_wp2_with (first | (go_at_call 13; refine (rfile_any _ _).mono ?_; rintro e w' ⟨rfl, rfl⟩) | (go_at_call 15; refine (rrank_any _ _).mono ?_; rintro e w' ⟨rfl, rfl⟩) | (go_at_call 28; refine (rapart_any _ _ _ (by assumption) (by assumption)).mono ?_; rintro e w' ⟨rfl, rfl⟩))
        go_ret
        exact ⟨sq_int HS.out.symm, rfl⟩
      · have HS := Lib.hid (dist_far ha hb hx)
        rw [ha] at fa
        rw [hb] at fb
        go_enter Try.func21, Try.ntmps21
        go_wp2_with (first | (go_at_call 13; refine (rfile_any _ _).mono ?_; rintro e w' ⟨rfl, rfl⟩) | (go_at_call 15; refine (rrank_any _ _).mono ?_; rintro e w' ⟨rfl, rfl⟩) | (go_at_call 28; refine (rapart_any _ _ _ (by assumption) (by assumption)).mono ?_; rintro e w' ⟨rfl, rfl⟩))
        go_ret
        exact ⟨sq_int HS.out.symm, rfl⟩
theorem flip_of {s : Int} (h : sqB s = true) : ofOk (fileZ s) (7 - rankZ s) = true ∧ flipZ s = ofZ (fileZ s) (7 - rankZ s) := by
  have e := fileZ_yes h
  have e' := rankZ_yes h
  have h1 := sqB_true.1 h
  have ho : ofOk (fileZ s) (7 - rankZ s) = true := by rw [ofOk_true, e, e']; omega
  exact ⟨ho, by rw [flipZ_yes h, ofZ_yes ho, e, e']⟩
theorem flip_off {s : Int} (h : sqB s = false) : ofOk (fileZ s) (7 - rankZ s) = false := by
  rw [fileZ_no h]; rfl
theorem rsflip_any (s : Int) (w : World) : Calls Try.prog 23 #[.int .i64 s] w (I64 (flipZ s) w) := by
  obtain ⟨r1, r2⟩ := rankZ_rng s
  cases h : sqB s
  · have HS := Lib.hid (flipZ_no h)
    have ho := flip_off h
    go_enter Try.func23, Try.ntmps23
    go_wp2_with (first | (go_at_call 13; refine (rfile_any _ _).mono ?_; rintro e w' ⟨rfl, rfl⟩) | (go_at_call 15; refine (rrank_any _ _).mono ?_; rintro e w' ⟨rfl, rfl⟩) | (go_at_call 11; refine (rof_any _ _ _).mono ?_; rintro e w' ⟨rfl, rfl⟩))
    go_ret
    exact ⟨sq_int HS.out.symm, rfl⟩
  · have HS := Lib.hid (flip_of h).2
    have ho := (flip_of h).1
    go_enter Try.func23, Try.ntmps23
    go_wp2_with (first | (go_at_call 13; refine (rfile_any _ _).mono ?_; rintro e w' ⟨rfl, rfl⟩) | (go_at_call 15; refine (rrank_any _ _).mono ?_; rintro e w' ⟨rfl, rfl⟩) | (go_at_call 11; refine (rof_any _ _ _).mono ?_; rintro e w' ⟨rfl, rfl⟩))
    go_ret
    exact ⟨sq_int HS.out.symm, rfl⟩
end Go.Proofs.Ytjlbnopgofimoaa
