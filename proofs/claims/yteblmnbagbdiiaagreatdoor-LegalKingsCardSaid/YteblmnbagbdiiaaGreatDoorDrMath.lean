/-
 Layer 15: what pockets hold, how many men there are, what may be dropped where: sums and lists.
-/
import Derived.Test.YteblmnbagbdiiaaGreatDoorAfBaseK
import Derived.Test.YteblmnbagbdiiaaGreatDoorVaBaseA
namespace Go.Proofs.YteblmnbagbdiiaaGreatDoor
open Go.RowKit
set_option linter.unusedVariables false
set_option linter.unusedSimpArgs false

def hasP (c k : Int) : Bool := decide (c ≤ 1) && (decide (1 ≤ k) && decide (k < 6))
def pkJ (c k : Int) : Nat := 66 + c.toNat * 6 + k.toNat
def helC (p : Nat → Int) (c k : Int) : Int := bif hasP c k then p (pkJ c k) else 0
def addP (p : Nat → Int) (c k : Int) : Nat → Int := bif hasP c k && decide (p (pkJ c k) < 255) then upd p (pkJ c k) (p (pkJ c k) + 1) else p
def takP (p : Nat → Int) (c k : Int) : Nat → Int := bif helC p c k == 0 then p else upd p (pkJ c k) (p (pkJ c k) - 1)
structure DrR (p : Nat → Int) : Prop where
 bd : BdR p
 var : 0 ≤ p 0 ∧ p 0 ≤ 255
 turn : 0 ≤ p 78 ∧ p 78 ≤ 255
 pk : ∀ i, 66 ≤ i → i < 78 → 0 ≤ p i ∧ p i ≤ 255
theorem hasP_true {c k : Int} : hasP c k = true ↔ c ≤ 1 ∧ 1 ≤ k ∧ k < 6 := by simp [hasP]
theorem hasP_false {c k : Int} : hasP c k = false ↔ 1 < c ∨ k < 1 ∨ 6 ≤ k := by
 rw [← Bool.not_eq_true, hasP_true]; omega
theorem pkJ_lt {c k : Int} (h : hasP c k = true) (hc : 0 ≤ c) : 67 ≤ pkJ c k ∧ pkJ c k < 78 := by
 have := hasP_true.1 h
 unfold pkJ; omega
theorem pkJ_at (c k : Nat) : pkJ (c : Int) (k : Int) = 66 + c * 6 + k := by unfold pkJ; simp
theorem helC_0 (p : Nat → Int) (c : Int) : helC p c 0 = 0 := by
 unfold helC; rw [hasP_false.2 (by omega)]; rfl
theorem helC_no {p : Nat → Int} {c k : Int} (h : 1 < c) : helC p c k = 0 := by
 unfold helC; rw [hasP_false.2 (Or.inl h)]; rfl
theorem helC_yes {p : Nat → Int} {c k : Int} (h : hasP c k = true) : helC p c k = p (pkJ c k) := by unfold helC; rw [h]; rfl
theorem helC_out {p : Nat → Int} {c k : Int} (h : hasP c k = false) : helC p c k = 0 := by unfold helC; rw [h]; rfl
def dmv (k s : Nat) : Mv := ⟨(s : Int), (s : Int), 0, (k : Int), false⟩
def emN (p : Nat → Int) : Nat := 18446744073709551615 ^^^ occN p
def outN : Nat := 18374686479671623935
def opN (e k : Nat) : Nat := bif k == 1 then e ^^^ (e &&& outN) else e
theorem emN_lt (p : Nat → Int) : emN p < W64 := Nat.xor_lt_two_pow (n := 64) (by decide) (occN_lt p)
theorem opN_lt {e : Nat} (h : e < W64) (k : Nat) : opN e k < W64 := by
 unfold opN
 cases k == 1
 ·exact h
 ·exact Nat.xor_lt_two_pow (n := 64) h (Nat.and_lt_two_pow (n := 64) _ (by decide))
theorem all_bit : ∀ i : Fin 64, (18446744073709551615 : Nat).testBit i.val = true := by decide +kernel
theorem out_bit : ∀ i : Fin 64, outN.testBit i.val = (decide (i.val < 8) || decide (55 < i.val)) := by decide +kernel
theorem emN_testBit (p : Nat → Int) {i : Nat} (hi : i < 64) : (emN p).testBit i = !pcB (p (1 + i)) := by
 unfold emN
 rw [Nat.testBit_xor, all_bit ⟨i, hi⟩, occN_testBit p i hi, Bool.true_xor]
def skB (p : Nat → Int) (k s : Nat) : Bool := pcB (p (1 + s)) || ((k == 1) && (decide (s < 8) || decide (55 < s)))
theorem opN_testBit (p : Nat → Int) (k : Nat) {i : Nat} (hi : i < 64) : (opN (emN p) k).testBit i = !skB p k i := by
 unfold opN skB
 cases h : (k == 1)
 ·rw [cond_false, emN_testBit p hi, Bool.false_and, Bool.or_false]
 ·rw [cond_true, Nat.testBit_xor, Nat.testBit_and, out_bit ⟨i, hi⟩, emN_testBit p hi]
  cases pcB (p (1 + i)) <;> cases decide (i < 8) <;> cases decide (55 < i) <;> rfl
def drK (p : Nat → Int) (k : Nat) : List Mv := bif helC p (p 78) (k : Int) == 0 then [] else (listN (opN (emN p) k)).map (dmv k)
def dropT (p : Nat → Int) (n : Nat) : List Mv := (List.range n).flatMap (drK p)
def drL (p : Nat → Int) : List Mv := bif p 0 == 2 then dropT p 6 else []
theorem drT_next (p : Nat → Int) (n : Nat) : dropT p (n + 1) = dropT p n ++ drK p n := by
 unfold dropT; rw [List.range_succ, List.flatMap_append]; simp
theorem drK_no {p : Nat → Int} {k : Nat} (h : (helC p (p 78) (k : Int) == 0) = true) : drK p k = [] := by unfold drK; rw [h]; rfl
theorem drK_len (p : Nat → Int) (k : Nat) : (drK p k).length ≤ 64 := by
 unfold drK
 cases helC p (p 78) (k : Int) == 0
 ·rw [cond_false, List.length_map]; exact listN_len _
 ·exact Nat.zero_le _
theorem drT_len (p : Nat → Int) : ∀ n, (dropT p n).length ≤ 64 * n
 | 0 => Nat.zero_le _
 | n + 1 => by
  rw [drT_next, List.length_append]
  have := drT_len p n; have := drK_len p n; omega
theorem drL_len (p : Nat → Int) : (drL p).length ≤ 384 := by
 unfold drL
 cases p 0 == 2
 ·exact Nat.zero_le _
 ·exact drT_len p 6
theorem drT_none {p : Nat → Int} (h : 1 < p 78) : ∀ n, dropT p n = []
 | 0 => rfl
 | n + 1 => by rw [drT_next, drT_none h n, drK_no (by rw [helC_no h]; rfl)]; rfl
theorem drL_none {p : Nat → Int} (h : 1 < p 78 ∨ (p 0 == 2) = false) : drL p = [] := by
 unfold drL
 rcases h with h | h
 ·cases p 0 == 2
  ·rfl
  ·exact drT_none h 6
 ·rw [h]; rfl
theorem dmv_fit {k s : Nat} (hk : k ≤ 255) (hs : s < 64) : FitV (dmv k s) := ⟨by unfold dmv; simp only; omega, by unfold dmv; simp only; omega, by unfold dmv; simp only; omega, by unfold dmv; simp only; omega⟩
theorem drK_mem {p : Nat → Int} {k : Nat} {m : Mv} (h : m ∈ drK p k) : ∃ s, s < 64 ∧ m = dmv k s ∧ (helC p (p 78) (k : Int) == 0) = false ∧ skB p k s = false := by
 unfold drK at h
 cases g : helC p (p 78) (k : Int) == 0
 ·rw [g, cond_false] at h
  obtain ⟨s, hs, rfl⟩ := List.mem_map.1 h
  have hs' : s ∈ (List.range 64).filter (fun i => (opN (emN p) k).testBit i) := hs
  rw [List.mem_filter, List.mem_range] at hs'
  refine ⟨s, hs'.1, rfl, rfl, ?_⟩
  have := hs'.2
  rw [opN_testBit p k hs'.1] at this
  simpa using this
 ·rw [g] at h; cases h
theorem drL_mem {p : Nat → Int} {m : Mv} (h : m ∈ drL p) : ∃ k s, k < 6 ∧ s < 64 ∧ m = dmv k s ∧ (helC p (p 78) (k : Int) == 0) = false ∧ skB p k s = false ∧ (p 0 == 2) = true := by
 unfold drL at h
 cases g : p 0 == 2
 ·rw [g] at h; cases h
 ·rw [g, cond_true] at h
  obtain ⟨k, hk, hm⟩ := List.mem_flatMap.1 h
  obtain ⟨s, h1, h2, h3, h4⟩ := drK_mem hm
  exact ⟨k, s, List.mem_range.1 hk, h1, h2, h3, h4, rfl⟩
theorem drL_fit {p : Nat → Int} {m : Mv} (h : m ∈ drL p) : FitV m := by
 obtain ⟨k, s, hk, hs, rfl, _⟩ := drL_mem h
 exact dmv_fit (by omega) hs
theorem setN_same {f : Int → Bool} {p q : Nat → Int} (h : ∀ i, i < 64 → p (1 + i) = q (1 + i)) : setN f p = setN f q := by
 apply eq_of_bits (setN_lt f p) (setN_lt f q)
 intro i hi
 rw [setN_testBit f p i hi, setN_testBit f q i hi, h i hi]
theorem drL_same {p q : Nat → Int} (h : ∀ i, i < 65 → p i = q i) (ht : p 78 = q 78) (hk : ∀ k : Nat, k < 6 → helC p (p 78) (k : Int) = helC q (p 78) (k : Int)) : drL p = drL q := by
 have ho : emN p = emN q := by
  unfold emN occN
  rw [setN_same (f := pcB) fun i hi => h (1 + i) (by omega)]
 unfold drL dropT
 rw [h 0 (by decide)]
 cases q 0 == 2
 ·rfl
 ·rw [cond_true, cond_true]
  have e : ∀ l : List Nat, (∀ k ∈ l, k < 6) → l.flatMap (drK p) = l.flatMap (drK q) := by
   intro l
   induction l with
   | nil => intro _; rfl
   | cons k l ih =>
    intro hl
    rw [List.flatMap_cons, List.flatMap_cons, ih fun x hx => hl x (by simp [hx])]
    congr 1
    unfold drK
    rw [hk k (hl k (by simp)), ho, ht]
  exact e _ fun k hk => List.mem_range.1 hk
end Go.Proofs.YteblmnbagbdiiaaGreatDoor
