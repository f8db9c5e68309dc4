/-
  Contracts of the document's own Has, One, Put, Clear (the package that holds the chapter's answers): each answers the plain function of XMath.
-/
import Derived.Test.YtboopdmgphhemaaDoorSquare
namespace Go.Proofs.YtboopdmgphhemaaDoor
open Go.RowKit

def halves (b k : Nat) : Nat := b / 2 ^ k
theorem halves_zero (b : Nat) : halves b 0 = b := by simp [halves]
theorem halves_succ (b k : Nat) : halves b k / 2 = halves b (k + 1) := by
  unfold halves; rw [Nat.div_div_eq_div_mul, Nat.pow_succ]
theorem halves_le (b k : Nat) : halves b k ≤ b := Nat.div_le_self _ _
theorem halves_bit (b k : Nat) : ((halves b k : Int) % 2 == 1) = b.testBit k := by
  rw [Nat.testBit_eq_decide_div_mod_eq]
  show ((halves b k : Int) % 2 == 1) = decide (halves b k % 2 = 1)
  rw [Bool.eq_iff_iff, beq_iff_eq, decide_eq_true_iff]; omega
def powN (k : Nat) : Nat := 2 ^ k
theorem powN_succ (k : Nat) : powN k * 2 = powN (k + 1) := by unfold powN; rw [Nat.pow_succ]
theorem powN_lt {k : Nat} (h : k < 64) : powN k < W64 := by unfold powN; rw [W64_eq]; exact Nat.pow_lt_pow_right (by decide) h
theorem hasN_yes {b : Nat} {s : Int} (h : 0 ≤ s ∧ s < 64) : hasN b s = b.testBit s.toNat := by simp [hasN, sq_true.2 h]

theorem rhas_any (b : Nat) (s : Int) (w : World) (hb : b < W64) :
    Calls Tryd.prog 39 #[.int .u64 (b : Int), .int .i64 s] w fun e w' => e = .returned (.bool (hasN b s)) ∧ w = w' := by
  by_cases h0 : s < 0
  · have HS := Lib.hid (hasN_no (b := b) (sq_false.2 (.inl h0)))
    go_enter Tryd.func39, Tryd.ntmps39
    go_wp2
    go_ret
    exact ⟨ret_bool HS.out.symm, rfl⟩
  · by_cases h1 : 64 ≤ s
    · have HS := Lib.hid (hasN_no (b := b) (sq_false.2 (.inr h1)))
      have h2 : 63 < s := by omega
      clear h1
      go_enter Tryd.func39, Tryd.ntmps39
      go_wp2
      go_ret
      exact ⟨ret_bool HS.out.symm, rfl⟩
    · have HS := Lib.hid (hasN_yes (b := b) (s := s) ⟨by omega, by omega⟩)
      have HB := Lib.hid hb
      obtain ⟨n, rfl⟩ := Int.eq_ofNat_of_zero_le (a := s) (by omega)
      have h2 : n ≤ 63 := by omega
      clear h0 h1 hb
      go_enter Tryd.func39, Tryd.ntmps39
      go_wp2
      go_loop [0, 5] (fun x i => ∃ k : Nat, k ≤ n ∧ i = .int .i64 k ∧ x = .int .u64 (halves b k : Nat)) (fun _ i => n - (intOf i).toNat)
      case atStart => exact ⟨0, Nat.zero_le _, rfl, by rw [halves_zero]⟩
      case round =>
        obtain ⟨k, hk, rfl, rfl⟩ := hrel
        have hle : halves b k ≤ 18446744073709551615 := by have := halves_le b k; have := HB.out; unfold W64 at this; omega
        by_cases hlt : k < n
        · go_wp2
          go_round
          case rel => exact ⟨k + 1, by omega, by go_num, by rw [← halves_succ]; go_num⟩
          case measure => simp [intOf]; omega
        · go_wp2
          go_ret
          obtain rfl : k = n := by omega
          exact ⟨ret_bool (by rw [HS.out, Int.toNat_natCast]; exact halves_bit b k), rfl⟩

end Go.Proofs.YtboopdmgphhemaaDoor
