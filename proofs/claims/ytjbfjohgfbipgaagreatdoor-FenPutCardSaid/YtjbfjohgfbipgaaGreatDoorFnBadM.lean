/-
  Plain facts for FenBad (layer 10): what is read is written as the same text; a text that is written ends with a digit.
-/
import Derived.Test.YtjbfjohgfbipgaaGreatDoorRdPars
namespace Go.Proofs.YtjbfjohgfbipgaaGreatDoor
open Go.RowKit
set_option linter.unusedVariables false
set_option linter.unusedSimpArgs false

theorem rdAll_text {v : Int} {t : List UInt8} {q : Nat → Int} (h : rdAll v t = some q) : fenL q = t := by
  unfold rdAll at h
  cases hu : rdUp 7 (nakP v) t with
  | none => rw [hu] at h; cases h
  | some st =>
    rw [hu] at h
    have h : (bif fenL st.1 == t then some st.1 else none) = some q := h
    cases hq : (fenL st.1 == t)
    · rw [hq] at h; cases h
    · rw [hq] at h
      have h : some st.1 = some q := h
      obtain rfl : st.1 = q := Option.some.inj h
      exact beq_iff_eq.1 hq
theorem rdAll_inv {v : Int} (hv : 0 ≤ v ∧ v ≤ 255) {t : List UInt8} (ht : t.length ≤ 10000) {q : Nat → Int} (h : rdAll v t = some q) : FitF q ∧ q 0 = v := by
  unfold rdAll at h
  cases hu : rdUp 7 (nakP v) t with
  | none => rw [hu] at h; cases h
  | some st =>
    obtain ⟨q', r⟩ := st
    rw [hu] at h
    have h : (bif fenL q' == t then some q' else none) = some q := h
    cases hq : (fenL q' == t)
    · rw [hq] at h; cases h
    · rw [hq] at h
      have h : some q' = some q := h
      obtain rfl : q' = q := Option.some.inj h
      have := rdUp_ok (nakP_ok v hv t ht) hu
      exact ⟨this.1, this.2.2.1⟩
theorem parO_some {v : Int} {t : List UInt8} {q : Nat → Int} (h : parO v t = some q) : v < 9 ∧ t.length ≤ 200 ∧ rdAll v t = some q := by
  unfold parO at h
  by_cases h9 : 9 ≤ v
  · rw [decide_eq_true h9] at h; cases h
  · rw [decide_eq_false h9] at h
    by_cases hl : 200 < t.length
    · rw [decide_eq_true hl] at h; cases h
    · rw [decide_eq_false hl] at h
      exact ⟨by omega, by omega, h⟩
theorem digF_last : ∀ (f n : Nat), ∃ l, digF (f + 1) n = l ++ [dgZ n]
  | 0, n => by
    by_cases h : n < 10
    · exact ⟨[], digF_small h⟩
    · exact ⟨_, digF_great (by omega)⟩
  | f + 1, n => by
    by_cases h : n < 10
    · exact ⟨[], digF_small h⟩
    · exact ⟨_, digF_great (by omega)⟩
theorem dgZ_digit (n : Nat) : 48 ≤ (dgZ n).toNat ∧ (dgZ n).toNat ≤ 57 := by
  have key : ∀ k : Nat, k < 10 → 48 ≤ (byZ (48 + (k : Int))).toNat ∧ (byZ (48 + (k : Int))).toNat ≤ 57 := by decide +kernel
  have := key (n % 10) (Nat.mod_lt _ (by decide))
  unfold dgZ
  rw [show ((n : Int) % 10) = ((n % 10 : Nat) : Int) by omega]
  exact this
/-- A text that is written ends with a digit. -/
theorem fenL_last {p : Nat → Int} {t : List UInt8} {b : UInt8} (h : fenL p = t ++ [b]) : 48 ≤ b.toNat ∧ b.toNat ≤ 57 := by
  unfold fenL at h
  cases hc : (wrB p && decide ((fenT6 p).length ≤ 200))
  · rw [hc] at h
    have h : [] = t ++ [b] := h
    simp at h
  · rw [hc] at h
    have h : fenT6 p = t ++ [b] := h
    obtain ⟨l, hl⟩ := digF_last 19 (p 87).toNat
    unfold fenT6 digL at h
    rw [hl, ← List.append_assoc] at h
    have := List.append_inj_right' h rfl
    have e : b = dgZ (p 87).toNat := by simpa using this.symm
    rw [e]; exact dgZ_digit _
end Go.Proofs.YtjbfjohgfbipgaaGreatDoor
