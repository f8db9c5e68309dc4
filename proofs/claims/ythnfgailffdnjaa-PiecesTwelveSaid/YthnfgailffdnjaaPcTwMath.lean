/-
  Plain mathematics of PiecesTwelve: what the count over all 256 numbers comes to.
-/
import Derived.Test.YthnfgailffdnjaaPcMath
namespace Go.Proofs.Ythnfgailffdnjaa
open Go.RowKit

/-- The number that is looked at i steps behind f. -/
def stP (f i : Nat) : Nat := (f + i) % 256
def cntN (f : Nat) : Nat → Nat
  | 0 => 0
  | i + 1 => bif pcB (stP f i : Int) then cntN f i + 1 else cntN f i
def whtN (f : Nat) : Nat → Nat
  | 0 => 0
  | i + 1 => bif pcB (stP f i : Int) && (colZ (stP f i : Int) == 0) then whtN f i + 1 else whtN f i
def ltsN (f : Nat) : Nat → ByteArray
  | 0 => ⟨#[]⟩
  | i + 1 => bif pcB (stP f i : Int) then ltsN f i ++ letZ (stP f i : Int) else ltsN f i
theorem stP_lt (f i : Nat) : stP f i < 256 := Nat.mod_lt _ (by decide)
def isN (n : Nat) : Bool := (Nat.ble 1 n && Nat.ble n 6) || (Nat.ble 9 n && Nat.ble n 14)
theorem isN_eq (n : Nat) : pcB (n : Int) = isN n := by
  rw [Bool.eq_iff_iff, pcB_true]
  simp [isN]
  omega
theorem wh_eq (n : Nat) (h : n < 256) : (pcB (n : Int) && (colZ (n : Int) == 0)) = (Nat.ble 1 n && Nat.ble n 6) := by
  have key : ∀ n : Fin 256, (pcB (n.val : Int) && (colZ (n.val : Int) == 0)) = (Nat.ble 1 n.val && Nat.ble n.val 6) := by decide +kernel
  exact key ⟨n, h⟩
def cntQ (f : Nat) : Nat → Nat
  | 0 => 0
  | i + 1 => bif isN ((f + i) % 256) then cntQ f i + 1 else cntQ f i
def whtQ (f : Nat) : Nat → Nat
  | 0 => 0
  | i + 1 => bif Nat.ble 1 ((f + i) % 256) && Nat.ble ((f + i) % 256) 6 then whtQ f i + 1 else whtQ f i
theorem cntQ_eq (f : Nat) : ∀ i, cntN f i = cntQ f i ∧ whtN f i = whtQ f i
  | 0 => ⟨rfl, rfl⟩
  | i + 1 => by
    have := cntQ_eq f i
    unfold cntN cntQ whtN whtQ
    rw [this.1, this.2, isN_eq, ← isN_eq, wh_eq _ (stP_lt f i), isN_eq]
    exact ⟨rfl, rfl⟩
set_option maxRecDepth 100000 in
theorem cnt_end (f : Nat) (h : f < 256) : cntN f 256 = 12 ∧ whtN f 256 = 6 := by
  have key : ∀ f : Fin 256, cntQ f.val 256 = 12 ∧ whtQ f.val 256 = 6 := by decide +kernel
  rw [(cntQ_eq f 256).1, (cntQ_eq f 256).2]
  exact key ⟨f, h⟩
theorem cnt_le (f : Nat) : ∀ i, cntN f i ≤ i ∧ whtN f i ≤ i
  | 0 => by simp [cntN, whtN]
  | i + 1 => by
    have := cnt_le f i
    unfold cntN whtN
    constructor
    · cases pcB (stP f i : Int) <;> simp <;> omega
    · cases (pcB (stP f i : Int) && (colZ (stP f i : Int) == 0)) <;> simp <;> omega
theorem lts_size (f : Nat) : ∀ i, (ltsN f i).size = cntN f i
  | 0 => rfl
  | i + 1 => by
    have ih := lts_size f i
    unfold ltsN cntN
    cases h : pcB (stP f i : Int)
    · exact ih
    · simp only [cond_true, ByteArray.size_append]; rw [ih, (prs_letter h).2]
theorem cut_left (a b : ByteArray) (k : Nat) (h : k < a.size) : (a ++ b).extract k (k + 1) = a.extract k (k + 1) := by
  apply ByteArray.ext
  obtain ⟨⟨x⟩⟩ := a
  obtain ⟨⟨y⟩⟩ := b
  have h' : k < x.length := h
  simp only [ByteArray.data_extract, ByteArray.data_append, List.append_toArray, List.extract_toArray, List.extract_eq_take_drop]
  rw [List.drop_append_of_le_length (by omega), List.take_append_of_le_length (by simp; omega)]
theorem cut_right (a b : ByteArray) (hb : b.size = 1) : (a ++ b).extract a.size (a.size + 1) = b := by
  apply ByteArray.ext
  obtain ⟨⟨x⟩⟩ := a
  obtain ⟨⟨y⟩⟩ := b
  simp [ByteArray.size] at hb ⊢
  exact List.take_of_length_le (by omega)
theorem lts_at (f : Nat) : ∀ i k, k < (ltsN f i).size → ∃ j, j < i ∧ pcB (stP f j : Int) = true ∧ (ltsN f i).extract k (k + 1) = letZ (stP f j : Int)
  | 0, k, h => by exact absurd h (by simp [ltsN, ByteArray.size])
  | i + 1, k, h => by
    unfold ltsN at h ⊢
    cases hp : pcB (stP f i : Int)
    · rw [hp] at h
      obtain ⟨j, hj, h1, h2⟩ := lts_at f i k h
      exact ⟨j, by omega, h1, h2⟩
    · rw [hp] at h
      simp only [cond_true, ByteArray.size_append] at h ⊢
      rw [(prs_letter hp).2] at h
      by_cases hk : k < (ltsN f i).size
      · obtain ⟨j, hj, h1, h2⟩ := lts_at f i k hk
        exact ⟨j, by omega, h1, by rw [cut_left _ _ _ hk]; exact h2⟩
      · obtain rfl : k = (ltsN f i).size := by omega
        exact ⟨i, by omega, hp, cut_right _ _ (prs_letter hp).2⟩
theorem lts_new (f i k : Nat) (hi : i < 256) (hp : pcB (stP f i : Int) = true) (hk : k < (ltsN f i).size) : (((ltsN f i).extract k (k + 1)).toList == (letZ (stP f i : Int)).toList) = false := by
  obtain ⟨j, hj, h1, h2⟩ := lts_at f i k hk
  rw [str_ne, h2]
  intro e
  have a := (prs_letter h1).1
  have b := (prs_letter hp).1
  rw [e, b] at a
  have : stP f i = stP f j := by omega
  unfold stP at this
  omega
theorem u8_sum (f i : Nat) : IntKind.u8.wrap ((f : Int) + (i : Int)) = ((stP f i : Nat) : Int) := by
  unfold stP
  have : IntKind.u8.wrap ((f : Int) + (i : Int)) = ((f : Int) + (i : Int)) % 256 := by rfl
  rw [this]; omega
end Go.Proofs.Ythnfgailffdnjaa
