/-
  Layer 13: what each move of the list is, and that they come in their order, each once.
-/
import Derived.Test.YtfdheeogpndklaaDoorPsL
namespace Go.Proofs.YtfdheeogpndklaaDoor
open Go.RowKit
set_option linter.unusedVariables false
set_option linter.unusedSimpArgs false

theorem all_mem {p : Nat → Int} {m : Pm} (h : m ∈ allL p) : ∃ a b k : Nat, a < 64 ∧ (ownN p).testBit a = true ∧ b < 64 ∧ (golN p (ownN p) (theN p) (a : Int)).testBit b = true ∧ k ∈ becL p (a : Int) b ∧ m = ⟨(a : Int), b, k⟩ := by
  unfold allL at h
  obtain ⟨a, ha, h⟩ := List.mem_flatMap.1 h
  unfold mvsL at h
  obtain ⟨b, hb, h⟩ := List.mem_flatMap.1 h
  unfold mvO at h
  obtain ⟨k, hk, rfl⟩ := List.mem_map.1 h
  exact ⟨a, b, k, (mem_listN.1 ha).1, (mem_listN.1 ha).2, (mem_listN.1 hb).1, (mem_listN.1 hb).2, hk, rfl⟩
theorem all_of {p : Nat → Int} {a b k : Nat} (ha : a < 64) (h1 : (ownN p).testBit a = true) (hb : b < 64) (h2 : (golN p (ownN p) (theN p) (a : Int)).testBit b = true) (hk : k ∈ becL p (a : Int) b) : (⟨(a : Int), b, k⟩ : Pm) ∈ allL p := by
  unfold allL mvsL mvO
  exact List.mem_flatMap.2 ⟨a, mem_listN.2 ⟨ha, h1⟩, List.mem_flatMap.2 ⟨b, mem_listN.2 ⟨hb, h2⟩, List.mem_map.2 ⟨k, hk, rfl⟩⟩⟩
/-- The order of moves: by From, then by To, then by Promote. -/
def LtM (x y : Pm) : Prop := x.f < y.f ∨ x.f = y.f ∧ (x.t < y.t ∨ x.t = y.t ∧ x.k < y.k)
theorem prL_sorted (v : Nat) : (prL v).Pairwise (· < ·) := by
  unfold prL upN
  rw [List.pairwise_map]
  exact List.pairwise_lt_range.imp fun h => by omega
theorem bec_sorted (p : Nat → Int) (s : Int) (b : Nat) : (becL p s b).Pairwise (· < ·) := by
  unfold becL
  cases (knP p s == 1) && (((b / 8 : Nat) : Int) == homZ (oth (p 78)))
  · exact List.pairwise_singleton _ _
  · exact prL_sorted _
theorem all_sorted (p : Nat → Int) : (allL p).Pairwise LtM := by
  unfold allL mvsL
  refine List.pairwise_flatMap.2 ⟨fun a _ => List.pairwise_flatMap.2 ⟨fun b _ => ?_, ?_⟩, ?_⟩
  · unfold mvO
    rw [List.pairwise_map]
    exact (bec_sorted p _ b).imp fun h => .inr ⟨rfl, .inr ⟨rfl, h⟩⟩
  · refine (listN_sorted _).imp fun {b c} h x hx y hy => ?_
    unfold mvO at hx hy
    obtain ⟨k, _, rfl⟩ := List.mem_map.1 hx
    obtain ⟨l, _, rfl⟩ := List.mem_map.1 hy
    exact .inr ⟨rfl, .inl h⟩
  · refine (listN_sorted _).imp fun {a c} h x hx y hy => ?_
    obtain ⟨b, _, hx⟩ := List.mem_flatMap.1 hx
    obtain ⟨d, _, hy⟩ := List.mem_flatMap.1 hy
    unfold mvO at hx hy
    obtain ⟨k, _, rfl⟩ := List.mem_map.1 hx
    obtain ⟨l, _, rfl⟩ := List.mem_map.1 hy
    exact .inl (by show (a : Int) < (c : Int); omega)
theorem all_next {p : Nat → Int} {i : Nat} {m n : Pm} (h1 : (allL p)[i]? = some n) (h2 : (allL p)[i + 1]? = some m) : LtM n m := by
  obtain ⟨hi, rfl⟩ := List.getElem?_eq_some_iff.1 h1
  obtain ⟨hj, rfl⟩ := List.getElem?_eq_some_iff.1 h2
  exact List.pairwise_iff_getElem.1 (all_sorted p) i (i + 1) hi hj (by omega)
theorem ownN_testBit {p : Nat → Int} (hv : p 0 < 9) {i : Nat} (hi : i < 64) : (ownN p).testBit i = (pcB (p (1 + i)) && (colZ (p (1 + i)) == p 78)) := by
  have e : vrB p = true := decide_eq_true hv
  unfold ownN
  rw [e, cond_true, ofN_testBit _ _ _ _ hi]
  unfold ofB
  simp
theorem theN_testBit {p : Nat → Int} (hv : p 0 < 9) {i : Nat} (hi : i < 64) : (theN p).testBit i = (pcB (p (1 + i)) && (colZ (p (1 + i)) == oth (p 78))) := by
  have e : vrB p = true := decide_eq_true hv
  unfold theN
  rw [e, cond_true, ofN_testBit _ _ _ _ hi]
  unfold ofB
  simp
theorem gol_own {p : Nat → Int} {o t a b : Nat} (ha : a < 64) (h : (golN p o t (a : Int)).testBit b = true) : o.testBit a = true ∧ o.testBit b = false ∧ (rchN p o t a).testBit b = true := by
  unfold golN at h
  rw [hasN_nat o a ha] at h
  cases g : o.testBit a
  · rw [g, cond_false, Nat.zero_testBit] at h; exact absurd h (by decide)
  · rw [g, cond_true, Int.toNat_natCast, offN_testBit, Bool.and_eq_true, Bool.not_eq_true'] at h
    exact ⟨rfl, h.2, h.1⟩
/-- On its last rank, for who is to move. -/
def lastB (p : Nat → Int) (t : Nat) : Bool := (((t / 8 : Nat) : Int) == 7 && p 78 == 0) || (((t / 8 : Nat) : Int) == 0 && p 78 == 1)
structure OwnM (p : Nat → Int) (m : Pm) : Prop where
  at_ : ∃ a : Nat, a < 64 ∧ m.f = (a : Int) ∧ p (1 + a) ≠ 0 ∧ p (1 + a) / 8 = p 78 ∧ ((m.k != 0) = ((p (1 + a) % 8 == 1) && lastB p m.t))
  to_ : m.t < 64 ∧ (p (1 + m.t) = 0 ∨ p (1 + m.t) / 8 ≠ p 78)
theorem prL_pos {v k : Nat} (h : k ∈ prL v) : k ≠ 0 := by
  unfold prL upN at h
  obtain ⟨i, _, rfl⟩ := List.mem_map.1 h
  omega
theorem all_own {p : Nat → Int} (hp : PsR p) (hl : lawQ p = true) {m : Pm} (h : m ∈ allL p) : OwnM p m := by
  obtain ⟨hb, ht, hv, _, _⟩ := lawQ_iff hl
  have ht0 := hp.turn.1
  obtain ⟨a, b, k, ha, h1, hb64, h2, hk, rfl⟩ := all_mem h
  rw [ownN_testBit hv ha, Bool.and_eq_true, beq_iff_eq] at h1
  obtain ⟨hpc, hcol⟩ := h1
  have hg := gol_own ha h2
  have hx : p (1 + a) / 8 = p 78 := by unfold colZ at hcol; rw [hpc, cond_true] at hcol; exact hcol
  have hkn : knP p (a : Int) = p (1 + a) % 8 := by
    unfold knP atZ
    have e : sq (a : Int) = true := by unfold sq; simp; omega
    rw [if_pos e, Int.toNat_natCast, if_pos hpc]; unfold kndZ; rw [hpc, cond_true]
  refine ⟨⟨a, ha, rfl, by have := pcB_true.1 hpc; omega, hx, ?_⟩, hb64, ?_⟩
  · show (k != 0) = ((p (1 + a) % 8 == 1) && lastB p b)
    have e : (((b / 8 : Nat) : Int) == homZ (oth (p 78))) = lastB p b := by
      unfold lastB homZ oth
      obtain h | h : p 78 = 0 ∨ p 78 = 1 := by omega
      · rw [h]; simp
      · rw [h]; simp
    unfold becL at hk
    rw [hkn, e] at hk
    cases g : (p (1 + a) % 8 == 1) && lastB p b
    · rw [g, cond_false, List.mem_singleton] at hk; subst hk; rfl
    · rw [g, cond_true] at hk
      exact bne_iff_ne.2 (prL_pos hk)
  · show p (1 + b) = 0 ∨ p (1 + b) / 8 ≠ p 78
    rcases lawB_at hb b hb64 with h0 | h0
    · exact .inl h0
    · refine .inr fun he => ?_
      have := hg.2.1
      rw [ownN_testBit hv hb64, h0, Bool.true_and, beq_eq_false_iff_ne] at this
      unfold colZ at this; rw [h0, cond_true] at this
      exact this he
end Go.Proofs.YtfdheeogpndklaaDoor
