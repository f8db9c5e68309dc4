/-
  Layer 15: how many drops there are, and their order.
-/
import Derived.Test.YtdjnniohoicppaaDoorDrE
namespace Go.Proofs.YtdjnniohoicppaaDoor
open Go.RowKit Go.Shelf
set_option linter.unusedVariables false
set_option linter.unusedSimpArgs false

/-- On how many of the first n squares the kind may be dropped. -/
def cK (p : Nat → Int) (k : Nat) : Nat → Int
  | 0 => 0
  | n + 1 => cK p k n + (bif skB p k n then 0 else 1)
theorem cK_rng (p : Nat → Int) (k : Nat) : ∀ n : Nat, 0 ≤ cK p k n ∧ cK p k n ≤ (n : Int)
  | 0 => ⟨by simp [cK], by simp [cK]⟩
  | n + 1 => by
    have h1 := cK_rng p k n
    unfold cK
    cases skB p k n <;> simp <;> omega
theorem skB_far {p : Nat → Int} {k : Nat} (h : (k == 1) = false) (s : Nat) : skB p k s = skB p 2 s := by unfold skB; rw [h]; rfl
theorem cK_far {p : Nat → Int} {k : Nat} (h : (k == 1) = false) : ∀ n, cK p k n = cK p 2 n
  | 0 => rfl
  | n + 1 => by unfold cK; rw [cK_far h n, skB_far h]
theorem rs_count (p : Nat → Int) (k : Nat) : ∀ n : Nat, (((rsT p k n).length : Nat) : Int) = cK p k n
  | 0 => rfl
  | n + 1 => by
    rw [rsT_next, List.length_append]
    have := rs_count p k n
    unfold cK
    cases skB p k n <;> simp <;> omega
def wantT (p : Nat → Int) : Nat → Int
  | 0 => 0
  | k + 1 => wantT p k + (bif helC p (p 78) (k : Int) == 0 then 0 else bif k == 1 then cK p 1 64 else cK p 2 64)
theorem wantT_len (p : Nat → Int) : ∀ n : Nat, (((drT p n).length : Nat) : Int) = wantT p n
  | 0 => rfl
  | n + 1 => by
    rw [drT_next, List.length_append]
    have := wantT_len p n
    unfold wantT
    cases h : helC p (p 78) (n : Int) == 0
    · rw [drK_yes h]
      have h2 := rs_count p n 64
      cases g : (n == 1)
      · rw [cK_far g] at h2
        simp only [cond_false]; omega
      · obtain rfl : n = 1 := beq_iff_eq.1 g
        simp only [cond_false, cond_true]; omega
    · rw [drK_no h]
      simp only [cond_true, List.length_nil]; omega
theorem wantT_1 (p : Nat → Int) : wantT p 1 = 0 := by
  have := wantT_len p 1
  rw [drT_1] at this; rw [← this]; rfl
theorem wantT_rng (p : Nat → Int) (n : Nat) : 0 ≤ wantT p n ∧ wantT p n ≤ 64 * (n : Int) := by
  have := wantT_len p n
  have h := drT_len p n
  omega
def Lex (a b : Mv) : Prop := a.dr < b.dr ∨ (a.dr = b.dr ∧ a.t < b.t)
theorem drK_sorted (p : Nat → Int) (k : Nat) : (drK p k).Pairwise Lex := by
  unfold drK
  cases helC p (p 78) (k : Int) == 0
  · rw [cond_false, List.pairwise_map]
    refine List.Pairwise.imp ?_ (show (listN (opN (emN p) k)).Pairwise (· < ·) from List.Pairwise.filter _ List.pairwise_lt_range)
    intro a b h
    exact Or.inr ⟨rfl, by show ((a : Nat) : Int) < (b : Int); omega⟩
  · exact List.Pairwise.nil
theorem drL_sorted (p : Nat → Int) : (drL p).Pairwise Lex := by
  unfold drL
  cases p 0 == 2
  · exact List.Pairwise.nil
  · rw [cond_true]
    unfold drT
    rw [List.pairwise_flatMap]
    refine ⟨fun k _ => drK_sorted p k, List.Pairwise.imp ?_ List.pairwise_lt_range⟩
    intro a b hab x hx y hy
    obtain ⟨s, _, rfl, _⟩ := drK_mem hx
    obtain ⟨t, _, rfl, _⟩ := drK_mem hy
    exact Or.inl (by show ((a : Nat) : Int) < (b : Int); omega)
theorem drL_next {p : Nat → Int} {i : Nat} {a b : Mv} (ha : (drL p)[i]? = some a) (hb : (drL p)[i + 1]? = some b) : Lex a b := by
  have h := List.pairwise_iff_getElem.1 (drL_sorted p)
  obtain ⟨h1, rfl⟩ := List.getElem?_eq_some_iff.1 ha
  obtain ⟨h2, rfl⟩ := List.getElem?_eq_some_iff.1 hb
  exact h i (i + 1) h1 h2 (Nat.lt_succ_self i)
/-- What a list of drops holds at a place. -/
theorem drL_at {p : Nat → Int} {i : Nat} {m : Mv} (h : (drL p)[i]? = some m) : ∃ k s, 1 ≤ k ∧ k < 6 ∧ s < 64 ∧ m = dmv k s ∧ helC p (p 78) (k : Int) ≠ 0 ∧ pcB (p (1 + s)) = false := by
  obtain ⟨k, s, h1, h2, h3, h4, h5, _⟩ := drL_mem (List.mem_of_getElem? h)
  have hk : helC p (p 78) (k : Int) ≠ 0 := by simpa using h4
  refine ⟨k, s, ?_, h1, h2, h3, hk, ?_⟩
  · rcases Nat.eq_zero_or_pos k with rfl | h
    · exact absurd (helC_0 _ _) hk
    · exact h
  · unfold skB at h5
    rw [Bool.or_eq_false_iff] at h5
    exact h5.1
end Go.Proofs.YtdjnniohoicppaaDoor
