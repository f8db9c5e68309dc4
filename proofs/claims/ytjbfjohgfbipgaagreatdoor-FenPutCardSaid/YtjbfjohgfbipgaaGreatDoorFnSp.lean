/-
  Where the first blank of a text stands (space, layer 10's statements). Plain facts.
-/
import Derived.Test.YtjbfjohgfbipgaaGreatDoorRdBackA
namespace Go.Proofs.YtjbfjohgfbipgaaGreatDoor
open Go.RowKit
set_option linter.unusedVariables false
set_option linter.unusedSimpArgs false

/-! Where the first blank stands. -/
def spF : List UInt8 → Nat
  | [] => 0
  | b :: l => bif b == 32 then 0 else spF l + 1
theorem spF_le : ∀ l : List UInt8, spF l ≤ l.length
  | [] => Nat.le_refl _
  | b :: l => by
    have := spF_le l
    rw [spF, List.length_cons]
    cases (b == 32)
    · exact Nat.succ_le_succ this
    · exact Nat.zero_le _
/-- The first byte that is a blank, and none ahead of it, is where it stands. -/
theorem spF_is : ∀ {l : List UInt8} {i : Nat}, (∀ j, j < i → l[j]? ≠ some 32) → (l[i]? = some 32 ∨ i = l.length) → spF l = i
  | [], i, _, h => by
    rcases h with h | h
    · simp at h
    · exact h.symm
  | b :: l, 0, _, h => by
    rcases h with h | h
    · simp at h; subst h; rfl
    · simp at h
  | b :: l, i + 1, hj, h => by
    have hb : (b == 32) = false := by
      have := hj 0 (by omega)
      simp at this
      exact beq_eq_false_iff_ne.2 this
    rw [spF, hb]
    refine congrArg (· + 1) (spF_is (l := l) (i := i) (fun j g => ?_) ?_)
    · have := hj (j + 1) (by omega); simpa using this
    · rcases h with h | h
      · left; simpa using h
      · right; simpa using h
theorem spF_at {T : List UInt8} : ∀ {A : List UInt8}, noB 32 A → spF (A ++ 32 :: T) = A.length
  | [], _ => rfl
  | b :: A, h => by
    have hb : (b == 32) = false := by
      have := h b (List.mem_cons_self ..)
      rw [beq_eq_false_iff_ne] at this ⊢; exact fun e => this e.symm
    rw [List.cons_append, spF, hb, cond_false, spF_at (fun y hy => h y (List.mem_cons_of_mem _ hy))]; rfl
theorem sp_cut {A T : List UInt8} (h : noB 32 A) : (A ++ 32 :: T).take (spF (A ++ 32 :: T)) = A ∧ (A ++ 32 :: T).drop (spF (A ++ 32 :: T)) = 32 :: T := by
  rw [spF_at h]; exact ⟨List.take_left, List.drop_left⟩
end Go.Proofs.YtjbfjohgfbipgaaGreatDoor
