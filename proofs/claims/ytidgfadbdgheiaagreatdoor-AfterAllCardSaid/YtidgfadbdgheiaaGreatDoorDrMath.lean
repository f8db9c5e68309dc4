/-
 Layer 15: what pockets hold, how many men there are, what may be dropped where: sums and lists.
-/
import Derived.Test.YtidgfadbdgheiaaGreatDoorAfBaseK
import Derived.Test.YtidgfadbdgheiaaGreatDoorVaBaseA
namespace Go.Proofs.YtidgfadbdgheiaaGreatDoor
open Go.RowKit
set_option linter.unusedVariables false
set_option linter.unusedSimpArgs false

def hasP (c k : Int) : Bool := decide (c ≤ 1) && (decide (1 ≤ k) && decide (k < 6))
def pkJ (c k : Int) : Nat := 66 + c.toNat * 6 + k.toNat
def helC (p : Nat → Int) (c k : Int) : Int := bif hasP c k then p (pkJ c k) else 0
def addP (p : Nat → Int) (c k : Int) : Nat → Int := bif hasP c k && decide (p (pkJ c k) < 255) then upd p (pkJ c k) (p (pkJ c k) + 1) else p
def takP (p : Nat → Int) (c k : Int) : Nat → Int := bif helC p c k == 0 then p else upd p (pkJ c k) (p (pkJ c k) - 1)
structure DrR (p : Nat → Int) : Prop where
 bd : BdR p
 var : 0 ≤ p 0 ∧ p 0 ≤ 255
 turn : 0 ≤ p 78 ∧ p 78 ≤ 255
 pk : ∀ i, 66 ≤ i → i < 78 → 0 ≤ p i ∧ p i ≤ 255
theorem hasP_true {c k : Int} : hasP c k = true ↔ c ≤ 1 ∧ 1 ≤ k ∧ k < 6 := by simp [hasP]
theorem hasP_false {c k : Int} : hasP c k = false ↔ 1 < c ∨ k < 1 ∨ 6 ≤ k := by
 rw [← Bool.not_eq_true, hasP_true]; omega
theorem pkJ_lt {c k : Int} (h : hasP c k = true) (hc : 0 ≤ c) : 67 ≤ pkJ c k ∧ pkJ c k < 78 := by
 have := hasP_true.1 h
 unfold pkJ; omega
theorem pkJ_at (c k : Nat) : pkJ (c : Int) (k : Int) = 66 + c * 6 + k := by unfold pkJ; simp
theorem helC_0 (p : Nat → Int) (c : Int) : helC p c 0 = 0 := by
 unfold helC; rw [hasP_false.2 (by omega)]; rfl
theorem helC_no {p : Nat → Int} {c k : Int} (h : 1 < c) : helC p c k = 0 := by
 unfold helC; rw [hasP_false.2 (Or.inl h)]; rfl
theorem helC_yes {p : Nat → Int} {c k : Int} (h : hasP c k = true) : helC p c k = p (pkJ c k) := by unfold helC; rw [h]; rfl
theorem helC_out {p : Nat → Int} {c k : Int} (h : hasP c k = false) : helC p c k = 0 := by unfold helC; rw [h]; rfl
theorem knd_ne (x : Int) : (kndZ x != 0) = pcB x := by
 cases h : pcB x
 ·rw [kndZ_no h]; rfl
 ·rw [kndZ_yes h]
  have := pcB_true.1 h
  rw [bne_iff_ne]; omega
def dmv (k s : Nat) : Mv := ⟨(s : Int), (s : Int), 0, (k : Int), false⟩
def emN (p : Nat → Int) : Nat := 18446744073709551615 ^^^ occN p
def outN : Nat := 18374686479671623935
def opN (e k : Nat) : Nat := bif k == 1 then e ^^^ (e &&& outN) else e
theorem emN_lt (p : Nat → Int) : emN p < W64 := Nat.xor_lt_two_pow (n := 64) (by decide) (occN_lt p)
theorem opN_lt {e : Nat} (h : e < W64) (k : Nat) : opN e k < W64 := by
 unfold opN
 cases k == 1
 ·exact h
 ·exact Nat.xor_lt_two_pow (n := 64) h (Nat.and_lt_two_pow (n := 64) _ (by decide))
theorem all_bit : ∀ i : Fin 64, (18446744073709551615 : Nat).testBit i.val = true := by decide +kernel
theorem out_bit : ∀ i : Fin 64, outN.testBit i.val = (decide (i.val < 8) || decide (55 < i.val)) := by decide +kernel
theorem emN_testBit (p : Nat → Int) {i : Nat} (hi : i < 64) : (emN p).testBit i = !pcB (p (1 + i)) := by
 unfold emN
 rw [Nat.testBit_xor, all_bit ⟨i, hi⟩, occN_testBit p i hi, Bool.true_xor]
def skB (p : Nat → Int) (k s : Nat) : Bool := pcB (p (1 + s)) || ((k == 1) && (decide (s < 8) || decide (55 < s)))
theorem opN_testBit (p : Nat → Int) (k : Nat) {i : Nat} (hi : i < 64) : (opN (emN p) k).testBit i = !skB p k i := by
 unfold opN skB
 cases h : (k == 1)
 ·rw [cond_false, emN_testBit p hi, Bool.false_and, Bool.or_false]
 ·rw [cond_true, Nat.testBit_xor, Nat.testBit_and, out_bit ⟨i, hi⟩, emN_testBit p hi]
  cases pcB (p (1 + i)) <;> cases decide (i < 8) <;> cases decide (55 < i) <;> rfl
def drK (p : Nat → Int) (k : Nat) : List Mv := bif helC p (p 78) (k : Int) == 0 then [] else (listN (opN (emN p) k)).map (dmv k)
def dropT (p : Nat → Int) (n : Nat) : List Mv := (List.range n).flatMap (drK p)
def drL (p : Nat → Int) : List Mv := bif p 0 == 2 then dropT p 6 else []
theorem drT_next (p : Nat → Int) (n : Nat) : dropT p (n + 1) = dropT p n ++ drK p n := by
 unfold dropT; rw [List.range_succ, List.flatMap_append]; simp
def rsT (p : Nat → Int) (k n : Nat) : List Mv := (List.range n).flatMap fun s => bif skB p k s then [] else [dmv k s]
theorem rsT_next (p : Nat → Int) (k n : Nat) : rsT p k (n + 1) = rsT p k n ++ (bif skB p k n then [] else [dmv k n]) := by
 unfold rsT; rw [List.range_succ, List.flatMap_append]; simp
theorem rs_filter (p : Nat → Int) (k : Nat) : ∀ l : List Nat, (l.flatMap fun s => bif skB p k s then [] else [dmv k s]) = (l.filter fun s => !skB p k s).map (dmv k)
 | [] => rfl
 | s :: l => by
  rw [List.flatMap_cons, rs_filter p k l]
  cases h : skB p k s
  ·rw [List.filter_cons_of_pos (by simp [h]), List.map_cons]; rfl
  ·rw [List.filter_cons_of_neg (by simp [h])]; rfl
theorem drK_yes {p : Nat → Int} {k : Nat} (h : (helC p (p 78) (k : Int) == 0) = false) : drK p k = rsT p k 64 := by
 unfold drK rsT
 rw [h, cond_false, rs_filter]
 congr 1
 show (List.range 64).filter (fun i => (opN (emN p) k).testBit i) = _
 exact List.filter_congr fun i hi => opN_testBit p k (List.mem_range.1 hi)
theorem drK_no {p : Nat → Int} {k : Nat} (h : (helC p (p 78) (k : Int) == 0) = true) : drK p k = [] := by unfold drK; rw [h]; rfl
theorem drT_1 (p : Nat → Int) : dropT p 1 = [] := by
 rw [drT_next]
 show [] ++ drK p 0 = []
 rw [drK_no (by show (helC p (p 78) 0 == 0) = true; rw [helC_0]; rfl)]; rfl
theorem drK_len (p : Nat → Int) (k : Nat) : (drK p k).length ≤ 64 := by
 unfold drK
 cases helC p (p 78) (k : Int) == 0
 ·rw [cond_false, List.length_map]; exact listN_len _
 ·exact Nat.zero_le _
theorem drT_len (p : Nat → Int) : ∀ n, (dropT p n).length ≤ 64 * n
 | 0 => Nat.zero_le _
 | n + 1 => by
  rw [drT_next, List.length_append]
  have := drT_len p n; have := drK_len p n; omega
theorem rsT_len (p : Nat → Int) (k : Nat) : ∀ n, (rsT p k n).length ≤ n
 | 0 => Nat.zero_le _
 | n + 1 => by
  rw [rsT_next, List.length_append]
  have := rsT_len p k n
  cases skB p k n <;> simp <;> omega
theorem drL_len (p : Nat → Int) : (drL p).length ≤ 384 := by
 unfold drL
 cases p 0 == 2
 ·exact Nat.zero_le _
 ·exact drT_len p 6
theorem drT_none {p : Nat → Int} (h : 1 < p 78) : ∀ n, dropT p n = []
 | 0 => rfl
 | n + 1 => by rw [drT_next, drT_none h n, drK_no (by rw [helC_no h]; rfl)]; rfl
theorem drL_none {p : Nat → Int} (h : 1 < p 78 ∨ (p 0 == 2) = false) : drL p = [] := by
 unfold drL
 rcases h with h | h
 ·cases p 0 == 2
  ·rfl
  ·exact drT_none h 6
 ·rw [h]; rfl
theorem dmv_fit {k s : Nat} (hk : k ≤ 255) (hs : s < 64) : FitV (dmv k s) := ⟨by unfold dmv; simp only; omega, by unfold dmv; simp only; omega, by unfold dmv; simp only; omega, by unfold dmv; simp only; omega⟩
theorem drK_mem {p : Nat → Int} {k : Nat} {m : Mv} (h : m ∈ drK p k) : ∃ s, s < 64 ∧ m = dmv k s ∧ (helC p (p 78) (k : Int) == 0) = false ∧ skB p k s = false := by
 unfold drK at h
 cases g : helC p (p 78) (k : Int) == 0
 ·rw [g, cond_false] at h
  obtain ⟨s, hs, rfl⟩ := List.mem_map.1 h
  have hs' : s ∈ (List.range 64).filter (fun i => (opN (emN p) k).testBit i) := hs
  rw [List.mem_filter, List.mem_range] at hs'
  refine ⟨s, hs'.1, rfl, rfl, ?_⟩
  have := hs'.2
  rw [opN_testBit p k hs'.1] at this
  simpa using this
 ·rw [g] at h; cases h
theorem drL_mem {p : Nat → Int} {m : Mv} (h : m ∈ drL p) : ∃ k s, k < 6 ∧ s < 64 ∧ m = dmv k s ∧ (helC p (p 78) (k : Int) == 0) = false ∧ skB p k s = false ∧ (p 0 == 2) = true := by
 unfold drL at h
 cases g : p 0 == 2
 ·rw [g] at h; cases h
 ·rw [g, cond_true] at h
  obtain ⟨k, hk, hm⟩ := List.mem_flatMap.1 h
  obtain ⟨s, h1, h2, h3, h4⟩ := drK_mem hm
  exact ⟨k, s, List.mem_range.1 hk, h1, h2, h3, h4, rfl⟩
theorem drL_fit {p : Nat → Int} {m : Mv} (h : m ∈ drL p) : FitV m := by
 obtain ⟨k, s, hk, hs, rfl, _⟩ := drL_mem h
 exact dmv_fit (by omega) hs
end Go.Proofs.YtidgfadbdgheiaaGreatDoor
