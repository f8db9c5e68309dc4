/-
  What follows of positions turned about, and of pieces that are moved.
-/
import Derived.Test.YtgodoipmnenohaaDoorBoMath
namespace Go.Proofs.YtgodoipmnenohaaDoor
open Go.RowKit
set_option linter.unusedVariables false

theorem oth_facts {x : Int} (h : pcB x = true) : pcB (othZ x) = true ∧ colZ (othZ x) = 1 - colZ x ∧ kndZ (othZ x) = kndZ x ∧ othZ (othZ x) = x := by
  obtain ⟨k, hk, rfl⟩ := pc_at h
  have key : ∀ k : Fin 12, pcB (othZ (atP k.val)) = true ∧ colZ (othZ (atP k.val)) = 1 - colZ (atP k.val) ∧ kndZ (othZ (atP k.val)) = kndZ (atP k.val) ∧ othZ (othZ (atP k.val)) = atP k.val := by decide +kernel
  exact key ⟨k, hk⟩
theorem oth_pcB (x : Int) : pcB (othZ x) = pcB x := by
  cases h : pcB x
  · rw [othZ_no h]; rfl
  · exact (oth_facts h).1
theorem oth_of (c k x : Int) : ofB c k (othZ x) = ofB (1 - c) k x := by
  unfold ofB
  cases h : pcB x
  · rw [oth_pcB, h]; rfl
  · obtain ⟨h1, h2, h3, _⟩ := oth_facts h
    rw [h1, h2, h3]
    have e : (1 - colZ x == c) = (colZ x == 1 - c) := by rw [Bool.eq_iff_iff]; simp; omega
    rw [e]
theorem mir_set {f g : Int → Bool} {p : Nat → Int} (h : ∀ x, f (othZ x) = g x) : setN f (mirP p) = flipN (setN g p) :=
  eq_of_bits (setN_lt _ _) (flipN_lt _) fun i hi => by rw [setN_testBit _ _ i hi, flipN_bit _ i hi, setN_testBit _ _ _ (flN_lt hi), mirP_bd p i hi, h]
theorem mir_of0 (p : Nat → Int) (k : Int) : ofN (mirP p) 0 k = flipN (ofN p 1 k) := mir_set fun x => oth_of 0 k x
theorem mir_of1 (p : Nat → Int) (k : Int) : ofN (mirP p) 1 k = flipN (ofN p 0 k) := mir_set fun x => oth_of 1 k x
theorem mir_all (p : Nat → Int) : allN (mirP p) = flipN (allN p) := mir_set oth_pcB
theorem flip2 {m : Nat} (h : m < W64) : flipN (flipN m) = m := eq_of_bits (flipN_lt _) h fun i hi => by rw [flipN_bit _ i hi, flipN_bit _ _ (flN_lt hi), flN_flN hi]
/-- Are all numbers up to k pieces' or 0? -/
def cleanTo (p : Nat → Int) : Nat → Bool
  | 0 => true
  | k + 1 => cleanTo p k && mayB (p (1 + k))
theorem cleanTo_all {p : Nat → Int} : ∀ k, cleanTo p k = true → ∀ i, i < k → mayB (p (1 + i)) = true
  | 0, _, i, hi => by omega
  | k + 1, h, i, hi => by
    rw [cleanTo, Bool.and_eq_true] at h
    by_cases e : i = k
    · subst e; exact h.2
    · exact cleanTo_all k h.1 i (by omega)
theorem oth2 {x : Int} (h : mayB x = true) : othZ (othZ x) = x := by
  unfold mayB at h
  cases g : pcB x
  · rw [g, Bool.or_false, beq_iff_eq] at h; subst h; rfl
  · exact (oth_facts g).2.2.2
theorem exP_out {p : Nat → Int} {j : Nat} (h : j < 66 ∨ j = 78 ∨ j = 83 ∨ 86 ≤ j) : exP p j = p j := by
  unfold exP; rw [if_neg (by omega), if_neg (by omega), if_neg (by omega), if_neg (by omega), if_neg (by omega), if_neg (by omega)]
theorem ex2 {p r : Nat → Int} (h : ∀ j, 66 ≤ j → j < 88 → j ≠ 78 → j ≠ 83 → r j = exP p j) (j : Nat) (h1 : 66 ≤ j) (h2 : j < 88) (h3 : j ≠ 78) (h4 : j ≠ 83) : exP r j = p j := by
  by_cases a : j < 72
  · rw [exP, if_pos (by omega), h _ (by omega) (by omega) (by omega) (by omega), exP, if_neg (by omega), if_pos (by omega), show j + 6 - 6 = j by omega]
  by_cases b : j < 78
  · rw [exP, if_neg (by omega), if_pos (by omega), h _ (by omega) (by omega) (by omega) (by omega), exP, if_pos (by omega), show j - 6 + 6 = j by omega]
  by_cases c : j < 81
  · rw [exP, if_neg (by omega), if_neg (by omega), if_pos (by omega), h _ (by omega) (by omega) (by omega) (by omega), exP, if_neg (by omega), if_neg (by omega), if_neg (by omega), if_pos (by omega), show j + 2 - 2 = j by omega]
  by_cases d : j < 83
  · rw [exP, if_neg (by omega), if_neg (by omega), if_neg (by omega), if_pos (by omega), h _ (by omega) (by omega) (by omega) (by omega), exP, if_neg (by omega), if_neg (by omega), if_pos (by omega), show j - 2 + 2 = j by omega]
  by_cases e : j = 84
  · subst e
    rw [exP, if_neg (by omega), if_neg (by omega), if_neg (by omega), if_neg (by omega), if_pos rfl, h _ (by omega) (by omega) (by omega) (by omega), exP, if_neg (by omega), if_neg (by omega), if_neg (by omega), if_neg (by omega), if_neg (by omega), if_pos rfl]
  by_cases f : j = 85
  · subst f
    rw [exP, if_neg (by omega), if_neg (by omega), if_neg (by omega), if_neg (by omega), if_neg (by omega), if_pos rfl, h _ (by omega) (by omega) (by omega) (by omega), exP, if_neg (by omega), if_neg (by omega), if_neg (by omega), if_neg (by omega), if_pos rfl]
  · rw [exP_out (by omega), h _ (by omega) (by omega) (by omega) (by omega), exP_out (by omega)]
theorem mir_mir {p : Nat → Int} (hp : PosR p) (hc : cleanTo p 64 = true) : posA (mirP (mirP p)) = posA p := posA_ext fun j hj => by
  by_cases a : 1 ≤ j ∧ j ≤ 64
  · obtain ⟨i, rfl⟩ : ∃ i, j = 1 + i := ⟨j - 1, by omega⟩
    have hi : i < 64 := by omega
    rw [mirP_bd _ i hi, mirP_bd _ _ (flN_lt hi), flN_flN hi]
    exact oth2 (cleanTo_all 64 hc i hi)
  · by_cases b : j = 65
    · subst b
      obtain ⟨m, hm⟩ := Int.eq_ofNat_of_zero_le hp.prom.1
      have hl := hp.prom.2
      rw [mirP_65, mirP_65, hm] at *
      have e : ((flipN (m : Int).toNat : Nat) : Int).toNat = flipN m := rfl
      rw [e, flip2 (show m < W64 from hl)]
    · by_cases c : j = 78
      · subst c
        have := hp.turn
        rw [mirP_78, mirP_78]; unfold turnZ
        by_cases t : p 78 ≤ 1
        · rw [if_pos t, if_pos (by omega)]; omega
        · rw [if_neg t, if_neg t]
      · by_cases d : j = 83
        · subst d
          rw [mirP_83, mirP_83]; unfold passZ
          by_cases e : sq (p 83) = true
          · have e' := e
            rw [sq_true] at e'
            have e2 : sq (flipS (p 83)) = true := by rw [sq_true]; unfold flipS; omega
            rw [if_pos e, if_pos e2]; unfold flipS; omega
          · rw [if_neg e, if_neg e]
        · by_cases e : j = 0
          · subst e; rw [mirP_ex _ 0 (by omega) (by omega) (by omega), exP_out (by omega), mirP_ex _ 0 (by omega) (by omega) (by omega), exP_out (by omega)]
          · rw [mirP_ex _ j (by omega) c d]
            exact ex2 (fun i h1 h2 h3 h4 => mirP_ex p i (by omega) h3 h4) j (by omega) hj c d
/-- A piece moved. -/
theorem cnt_only : ∀ n : Fin 64, cntN (onlyN (n.val : Int)) = 1 := by decide +kernel
theorem clear_bits (b n i : Nat) (hn : n < 64) : (clearN b (n : Int)).testBit i = (b.testBit i && !decide (n = i)) := by
  rw [clearN_testBit, sq_true.2 ⟨by omega, by omega⟩, Bool.true_and]
  congr 2
  exact decide_eq_decide.2 (by omega)
theorem put_bits (b n i : Nat) (hn : n < 64) : (putN b (n : Int)).testBit i = (b.testBit i || decide (n = i)) := by
  rw [putN_testBit, sq_true.2 ⟨by omega, by omega⟩, Bool.true_and]
  congr 1
  exact decide_eq_decide.2 (by omega)
theorem only_bits (n i : Nat) (hn : n < 64) : (onlyN (n : Int)).testBit i = decide (n = i) := by
  rw [onlyN_testBit, sq_true.2 ⟨by omega, by omega⟩, Bool.true_and]
  exact decide_eq_decide.2 (by omega)
theorem cnt_put {b n : Nat} (hb : b < W64) (hn : n < 64) (h : b.testBit n = false) : cntN (putN b (n : Int)) = cntN b + 1 := by
  have e : b &&& onlyN (n : Int) = 0 := eq_of_bits (Nat.and_lt_two_pow (n := 64) _ (onlyN_lt _)) (by decide) fun i hi => by
    rw [Nat.testBit_and, only_bits n i hn, Nat.zero_testBit]
    by_cases k : n = i
    · subst k; rw [h]; rfl
    · rw [decide_eq_false k, Bool.and_false]
  unfold putN
  rw [cnt_or e, cnt_only ⟨n, hn⟩]
theorem cnt_clear {b n : Nat} (hb : b < W64) (hn : n < 64) (h : b.testBit n = true) : cntN b = cntN (clearN b (n : Int)) + 1 := by
  have e : putN (clearN b (n : Int)) (n : Int) = b := put_clear (by rw [hasN_nat _ n hn]; exact h)
  have := cnt_put (clearN_lt hb (n : Int)) hn (by rw [clear_bits b n n hn, decide_eq_true rfl]; simp)
  rw [e] at this
  exact this
def movP (p : Nat → Int) (n m : Nat) (x : Int) : Nat → Int := upd (upd p (1 + n) 0) (1 + m) x
theorem mov_set {f : Int → Bool} {p : Nat → Int} {n m : Nat} {x : Int} (hn : n < 64) (hm : m < 64) (hne : n ≠ m) (h0 : f 0 = false) (hx : p (1 + n) = x) (hy : f (p (1 + m)) = false) :
    setN f (movP p n m x) = bif f x then putN (clearN (setN f p) (n : Int)) (m : Int) else setN f p := by
  have hlt : (bif f x then putN (clearN (setN f p) (n : Int)) (m : Int) else setN f p) < W64 := by
    cases f x
    · exact setN_lt _ _
    · exact putN_lt (clearN_lt (setN_lt _ _) _) _
  refine eq_of_bits (setN_lt _ _) hlt fun i hi => ?_
  rw [setN_testBit _ _ i hi]
  unfold movP
  by_cases a : i = m
  · subst a
    rw [upd_same]
    cases g : f x
    · show _ = (setN f p).testBit i; rw [setN_testBit _ _ i hi, hy]
    · show _ = (putN (clearN (setN f p) (n : Int)) (i : Int)).testBit i; rw [put_bits _ i i hi, decide_eq_true rfl]; simp
  · rw [upd_other _ _ _ _ (by omega)]
    by_cases b : i = n
    · subst b
      rw [upd_same, h0]
      cases g : f x
      · show _ = (setN f p).testBit i; rw [setN_testBit _ _ i hi, hx, g]
      · show _ = (putN (clearN (setN f p) (i : Int)) (m : Int)).testBit i; rw [put_bits _ m i hm, clear_bits _ i i hi, decide_eq_true rfl, decide_eq_false (Ne.symm hne)]; simp
    · rw [upd_other _ _ _ _ (by omega)]
      cases g : f x
      · show _ = (setN f p).testBit i; rw [setN_testBit _ _ i hi]
      · show _ = (putN (clearN (setN f p) (n : Int)) (m : Int)).testBit i
        rw [put_bits _ m i hm, clear_bits _ n i hn, setN_testBit _ _ i hi, decide_eq_false (Ne.symm a), decide_eq_false (Ne.symm b)]; simp
theorem mov_cnt {f : Int → Bool} {p : Nat → Int} {n m : Nat} {x : Int} (hn : n < 64) (hm : m < 64) (hne : n ≠ m) (h0 : f 0 = false) (hx : p (1 + n) = x) (hy : f (p (1 + m)) = false) :
    cntN (setN f (movP p n m x)) = cntN (setN f p) := by
  rw [mov_set hn hm hne h0 hx hy]
  cases g : f x
  · rfl
  · show cntN (putN (clearN (setN f p) (n : Int)) (m : Int)) = _
    rw [cnt_clear (setN_lt f p) hn (by rw [setN_testBit _ _ n hn, hx, g]), cnt_put (clearN_lt (setN_lt _ _) _) hm]
    rw [clear_bits _ n m hn, setN_testBit _ _ m hm, hy]; rfl
theorem ofB_zero (c k : Int) : ofB c k 0 = false := rfl
theorem ofB_none {c k x : Int} (h : pcB x = false) : ofB c k x = false := by unfold ofB; rw [h]; rfl
theorem ofB_own {x : Int} (h : pcB x = true) : ofB (colZ x) (kndZ x) x = true := by unfold ofB; simp [h]
theorem ofB_other {x : Int} (h : pcB x = true) : ofB (1 - colZ x) 0 x = false := by
  unfold ofB
  rw [h, colZ_yes h]
  rw [pcB_true] at h
  rw [Bool.eq_false_iff]; simp; omega
theorem put_mov {p : Nat → Int} {n m : Nat} {x : Int} (hn : n < 64) (hm : m < 64) (hx : pcB x = true) : putP (putP p (n : Int) 0) (m : Int) x = movP p n m x := by
  have a : putB (n : Int) 0 = true := by unfold putB; rw [sq_true.2 ⟨by omega, by omega⟩]; rfl
  have b : putB (m : Int) x = true := by unfold putB mayB; rw [sq_true.2 ⟨by omega, by omega⟩, hx]; simp
  rw [putP_yes b, putP_yes a]; rfl
end Go.Proofs.YtgodoipmnenohaaDoor
