/-
  Sets of squares by what stands on them: plain facts of layer 6.
-/
import Derived.Test.YtgodoipmnenohaaDoorBoAwake
namespace Go.Proofs.YtgodoipmnenohaaDoor
open Go.RowKit
set_option linter.unusedVariables false

theorem setN_congr {f g : Int → Bool} {p q : Nat → Int} (h : ∀ i, i < 64 → f (p (1 + i)) = g (q (1 + i))) : setN f p = setN g q :=
  eq_of_bits (setN_lt _ _) (setN_lt _ _) fun i hi => by rw [setN_testBit _ _ i hi, setN_testBit _ _ i hi, h i hi]
theorem setN_or (f g : Int → Bool) (p : Nat → Int) : (setN f p ||| setN g p) = setN (fun x => f x || g x) p :=
  eq_of_bits (Nat.or_lt_two_pow (n := 64) (setN_lt _ _) (setN_lt _ _)) (setN_lt _ _) fun i hi => by rw [Nat.testBit_or, setN_testBit _ _ i hi, setN_testBit _ _ i hi, setN_testBit _ _ i hi]
theorem setN_and (f g : Int → Bool) (p : Nat → Int) (h : ∀ x, (f x && g x) = false) : (setN f p &&& setN g p) = 0 :=
  eq_of_bits (Nat.and_lt_two_pow (n := 64) _ (setN_lt _ _)) (by decide) fun i hi => by rw [Nat.testBit_and, setN_testBit _ _ i hi, setN_testBit _ _ i hi, h, Nat.zero_testBit]
theorem listTo_or (a b : Nat) (h : a &&& b = 0) : ∀ k, (listTo (a ||| b) k).length = (listTo a k).length + (listTo b k).length
  | 0 => rfl
  | k + 1 => by
    have ih := listTo_or a b h k
    have hb : (a.testBit k && b.testBit k) = false := by rw [← Nat.testBit_and, h, Nat.zero_testBit]
    cases ha : a.testBit k <;> cases hc : b.testBit k
    · rw [listTo_no (by rw [Nat.testBit_or, ha, hc]; rfl), listTo_no ha, listTo_no hc, ih]
    · rw [listTo_yes (by rw [Nat.testBit_or, ha, hc]; rfl), listTo_no ha, listTo_yes hc, List.length_append, List.length_append, ih]; simp; omega
    · rw [listTo_yes (by rw [Nat.testBit_or, ha, hc]; rfl), listTo_yes ha, listTo_no hc, List.length_append, List.length_append, ih]; simp; omega
    · rw [ha, hc] at hb; cases hb
theorem cnt_or {a b : Nat} (h : a &&& b = 0) : cntN (a ||| b) = cntN a + cntN b := by
  unfold cntN listN; rw [listTo_or a b h 64]; omega
theorem cnt_rng (a : Nat) : 0 ≤ cntN a ∧ cntN a ≤ 64 := by unfold cntN; have := listN_len a; omega

/-- The pieces whose numbers are below m; those between. -/
def ltB (m x : Int) : Bool := pcB x && decide (x < m)
def inB (l m x : Int) : Bool := pcB x && (decide (l < x) && decide (x < m))
def ltN (p : Nat → Int) (m : Int) : Nat := setN (ltB m) p
def inN (p : Nat → Int) (l m : Int) : Nat := setN (inB l m) p
theorem ltN_lt (p : Nat → Int) (m : Int) : ltN p m < W64 := setN_lt _ _
theorem inN_lt (p : Nat → Int) (l m : Int) : inN p l m < W64 := setN_lt _ _
theorem of_key {c k x : Int} (hc : 0 ≤ c ∧ c ≤ 1) (hk : 1 ≤ k ∧ k ≤ 6) : ofB c k x = (pcB x && decide (x = 8 * c + k)) := by
  unfold ofB
  cases h : pcB x
  · rfl
  · rw [colZ_yes h, kndZ_yes h, Bool.eq_iff_iff]
    rw [pcB_true] at h
    simp
    omega
theorem of_zero {c x : Int} (hc : 0 ≤ c ∧ c ≤ 1) : ofB c 0 x = inB (8 * c) (8 * c + 7) x := by
  unfold ofB inB
  cases h : pcB x
  · rfl
  · rw [colZ_yes h, Bool.eq_iff_iff]
    rw [pcB_true] at h
    simp
    omega
theorem part_apart (p : Nat → Int) {c k : Int} (hc : 0 ≤ c ∧ c ≤ 1) (hk : 1 ≤ k ∧ k ≤ 6) : (ltN p (8 * c + k) &&& ofN p c k) = 0 :=
  setN_and _ _ p fun x => by
    rw [of_key hc hk]; unfold ltB
    cases h : pcB x
    · rfl
    · rw [Bool.eq_false_iff]; simp; omega
theorem part_all (p : Nat → Int) {c k : Int} (hc : 0 ≤ c ∧ c ≤ 1) (hk : 1 ≤ k ∧ k ≤ 6) : (ltN p (8 * c + k) ||| ofN p c k) = ltN p (8 * c + (k + 1)) := by
  unfold ltN ofN
  rw [setN_or]
  refine setN_congr fun i _ => ?_
  rw [of_key hc hk]; unfold ltB
  cases h : pcB (p (1 + i))
  · rfl
  · rw [Bool.eq_iff_iff]; simp; omega
theorem part_own (p : Nat → Int) {c k : Int} (hc : 0 ≤ c ∧ c ≤ 1) (hk : 1 ≤ k ∧ k ≤ 6) : (inN p (8 * c) (8 * c + k) ||| ofN p c k) = inN p (8 * c) (8 * c + (k + 1)) := by
  unfold inN ofN
  rw [setN_or]
  refine setN_congr fun i _ => ?_
  rw [of_key hc hk]; unfold inB
  cases h : pcB (p (1 + i))
  · rfl
  · rw [Bool.eq_iff_iff]; simp; omega
theorem part_none (p : Nat → Int) {c : Int} (hc : 0 ≤ c ∧ c ≤ 1) : inN p (8 * c) (8 * c + 1) = 0 :=
  eq_of_bits (inN_lt _ _ _) (by decide) fun i hi => by
    unfold inN; rw [setN_testBit _ _ i hi, Nat.zero_testBit]; unfold inB
    cases h : pcB (p (1 + i))
    · rfl
    · rw [Bool.eq_false_iff]; simp; omega
theorem part_color (p : Nat → Int) {c : Int} (hc : 0 ≤ c ∧ c ≤ 1) : inN p (8 * c) (8 * c + 7) = ofN p c 0 := setN_congr fun i _ => (of_zero hc).symm
theorem part_next (p : Nat → Int) {c : Int} (hc : 0 ≤ c ∧ c ≤ 1) : ltN p (8 * c + 7) = ltN p (8 * (c + 1) + 1) := setN_congr fun i _ => by
  unfold ltB
  cases h : pcB (p (1 + i))
  · rfl
  · rw [pcB_true] at h; rw [Bool.eq_iff_iff]; simp; omega
theorem part_first (p : Nat → Int) : ltN p (8 * 0 + 1) = 0 :=
  eq_of_bits (ltN_lt _ _) (by decide) fun i hi => by
    unfold ltN; rw [setN_testBit _ _ i hi, Nat.zero_testBit]; unfold ltB
    cases h : pcB (p (1 + i))
    · rfl
    · rw [pcB_true] at h; rw [Bool.eq_false_iff]; simp; omega
theorem part_last (p : Nat → Int) : ltN p (8 * 2 + 1) = allN p := setN_congr fun i _ => by
  unfold ltB
  cases h : pcB (p (1 + i))
  · rfl
  · rw [pcB_true] at h; rw [Bool.eq_iff_iff]; simp; omega
/-- What a set has at a square. -/
theorem has_of (p : Nat → Int) (c k s : Int) : hasN (ofN p c k) s = (atZ p s != 0 && ((colZ (atZ p s) == c) && ((k == 0) || (kndZ (atZ p s) == k)))) := by
  cases h : sq s
  · rw [hasN_no h, atZ_no h]; rfl
  · obtain ⟨n, rfl⟩ := Int.eq_ofNat_of_zero_le (sq_true.1 h).1
    have hn : n < 64 := by have := (sq_true.1 h).2; omega
    rw [hasN_nat _ n hn, ofN_testBit _ _ _ n hn]
    unfold ofB
    cases g : pcB (p (1 + n))
    · rw [atZ_off h g]; rfl
    · rw [atZ_yes h g, pcB_ne g]
theorem has_all (p : Nat → Int) (s : Int) : hasN (allN p) s = (atZ p s != 0) := by
  cases h : sq s
  · rw [hasN_no h, atZ_no h]; rfl
  · obtain ⟨n, rfl⟩ := Int.eq_ofNat_of_zero_le (sq_true.1 h).1
    have hn : n < 64 := by have := (sq_true.1 h).2; omega
    rw [hasN_nat _ n hn, allN_testBit _ n hn]
    cases g : pcB (p (1 + n))
    · rw [atZ_off h g]; rfl
    · rw [atZ_yes h g, pcB_ne g]
theorem at_rng {p : Nat → Int} (hp : BdR p) (s : Int) : 0 ≤ atZ p s ∧ atZ p s ≤ 255 := by
  cases h : sq s
  · rw [atZ_no h]; omega
  · obtain ⟨n, rfl⟩ := Int.eq_ofNat_of_zero_le (sq_true.1 h).1
    have hn : n < 64 := by have := (sq_true.1 h).2; omega
    cases g : pcB (p (1 + n))
    · rw [atZ_off h g]; omega
    · rw [atZ_yes h g]; exact hp n hn
theorem at_pc (p : Nat → Int) (s : Int) : atZ p s = 0 ∨ pcB (atZ p s) = true := by
  cases h : sq s
  · exact .inl (atZ_no h)
  · obtain ⟨n, rfl⟩ := Int.eq_ofNat_of_zero_le (sq_true.1 h).1
    cases g : pcB (p (1 + n))
    · exact .inl (atZ_off h g)
    · rw [atZ_yes h g]; exact .inr g
end Go.Proofs.YtgodoipmnenohaaDoor
