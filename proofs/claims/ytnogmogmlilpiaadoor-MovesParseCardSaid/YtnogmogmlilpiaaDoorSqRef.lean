/-
  Contracts of the document's own File, Rank, Of, apart, Distance, Flip (layer 2): each answers the plain function of XSqMath.
-/
import Derived.Test.YtnogmogmlilpiaaDoorSq
namespace Go.Proofs.YtnogmogmlilpiaaDoor
open Go.RowKit

theorem rfile_any (s : Int) (w : World) : Calls Tryd.prog 21 #[.int .i64 s] w (I64 (fileZ s) w) := by
  by_cases h0 : s < 0
  · have HS := Lib.hid (fileZ_no (sqB_false.2 (.inl h0)))
    have g0 : decide (s < 0) = true := decide_eq_true h0
    go_enter Tryd.func21, Tryd.ntmps21
    go_wp2
    go_ret
    exact ⟨sq_int HS.out.symm, rfl⟩
  · by_cases h1 : 63 < s
    · have HS := Lib.hid (fileZ_no (sqB_false.2 (.inr (show 64 ≤ s by omega))))
      have g0 : decide (s < 0) = false := decide_eq_false h0
      have g1 : decide (63 < s) = true := decide_eq_true h1
      go_enter Tryd.func21, Tryd.ntmps21
      go_wp2
      go_ret
      exact ⟨sq_int HS.out.symm, rfl⟩
    · have HS := Lib.hid (fileZ_yes ((sqB_true (s := s)).2 ⟨by omega, by omega⟩))
      obtain ⟨n, rfl⟩ := Int.eq_ofNat_of_zero_le (a := s) (by omega)
      have g0 : decide ((n : Int) < 0) = false := decide_eq_false h0
      have g1 : decide (63 < (n : Int)) = false := decide_eq_false h1
      have h2 : n ≤ 63 := by omega
      clear h0 h1
      go_enter Tryd.func21, Tryd.ntmps21
      go_wp2
      go_loop [0] (fun x => ∃ k : Nat, k ≤ 63 ∧ k % 8 = n % 8 ∧ x = .int .i64 (k : Int)) (fun x => (intOf x).toNat)
      case atStart => exact ⟨n, h2, rfl, rfl⟩
      case round =>
        obtain ⟨k, hk, hm, rfl⟩ := hrel
        have HM := Lib.hid hm
        clear hm
        by_cases hlt : 8 ≤ k
        · obtain ⟨m, rfl⟩ : ∃ m, k = m + 8 := ⟨k - 8, by omega⟩
          go_wp2
          go_round
          case rel => exact ⟨m, by omega, by have := HM.out; omega, by go_num⟩
          case measure => simp [intOf]; omega
        · go_wp2
          go_ret
          exact ⟨sq_int (by rw [HS.out]; have := HM.out; omega), rfl⟩

theorem rrank_any (s : Int) (w : World) : Calls Tryd.prog 22 #[.int .i64 s] w (I64 (rankZ s) w) := by
  by_cases h0 : s < 0
  · have HS := Lib.hid (rankZ_no (sqB_false.2 (.inl h0)))
    have g0 : decide (s < 0) = true := decide_eq_true h0
    go_enter Tryd.func22, Tryd.ntmps22
    go_wp2
    go_ret
    exact ⟨sq_int HS.out.symm, rfl⟩
  · by_cases h1 : 63 < s
    · have HS := Lib.hid (rankZ_no (sqB_false.2 (.inr (show 64 ≤ s by omega))))
      have g0 : decide (s < 0) = false := decide_eq_false h0
      have g1 : decide (63 < s) = true := decide_eq_true h1
      go_enter Tryd.func22, Tryd.ntmps22
      go_wp2
      go_ret
      exact ⟨sq_int HS.out.symm, rfl⟩
    · have HS := Lib.hid (rankZ_yes ((sqB_true (s := s)).2 ⟨by omega, by omega⟩))
      obtain ⟨n, rfl⟩ := Int.eq_ofNat_of_zero_le (a := s) (by omega)
      have g0 : decide ((n : Int) < 0) = false := decide_eq_false h0
      have g1 : decide (63 < (n : Int)) = false := decide_eq_false h1
      have h2 : n ≤ 63 := by omega
      clear h0 h1
      go_enter Tryd.func22, Tryd.ntmps22
      go_wp2
      go_loop [0, 3] (fun x y => ∃ k j : Nat, k ≤ 63 ∧ k + 8 * j = n ∧ x = .int .i64 (k : Int) ∧ y = .int .i64 (j : Int)) (fun x _ => (intOf x).toNat)
      case atStart => exact ⟨n, 0, h2, by omega, rfl, rfl⟩
      case round =>
        obtain ⟨k, j, hk, hm, rfl, rfl⟩ := hrel
        have HM := Lib.hid hm
        have hj : j ≤ 7 := by omega
        clear hm
        by_cases hlt : 8 ≤ k
        · obtain ⟨m, rfl⟩ : ∃ m, k = m + 8 := ⟨k - 8, by omega⟩
          go_wp2
          go_round
          case rel => exact ⟨m, j + 1, by omega, by have := HM.out; omega, by go_num, by go_num⟩
          case measure => simp [intOf]; omega
        · go_wp2
          go_ret
          exact ⟨sq_int (by rw [HS.out]; have := HM.out; omega), rfl⟩



end Go.Proofs.YtnogmogmlilpiaaDoor
