/-
  The positions of CastleChess: any pieces about king and rooks at home; who may castle there.
-/
import Derived.Test.YtmlmilmfnioheaaDoorCsG
import Derived.Test.YtmlmilmfnioheaaDoorCsJ
import Derived.Test.YtmlmilmfnioheaaDoorCsS
import Derived.Test.YtmlmilmfnioheaaDoorAtRefC

namespace Go.Proofs.YtmlmilmfnioheaaDoor
open Go.RowKit
set_option linter.unusedVariables false
set_option linter.unusedSimpArgs false

def xC (bd : Nat → Int) (s : Nat) : Int := bd s % 16
def okB (bd : Nat → Int) (s : Nat) : Bool := !decide (xC bd s % 8 < 1) && (!decide (5 < xC bd s % 8) && (fpC (1 + s) == 0))
def vC (bd : Nat → Int) (s : Nat) : Int := bif okB bd s then (bif decide (s < 8) && decide (8 < xC bd s) then xC bd s - 8 else xC bd s) else fpC (1 + s)
def PkC (bd : Nat → Int) (k : Nat) : Nat → Int := fun i => if 1 ≤ i ∧ i < 1 + k then vC bd (i - 1) else fpC i
theorem pk_zero (bd : Nat → Int) : PkC bd 0 = fpC := by funext i; unfold PkC; rw [if_neg (by omega)]
theorem pk_here (bd : Nat → Int) (k : Nat) : PkC bd k (1 + k) = fpC (1 + k) := by unfold PkC; rw [if_neg (by omega)]
theorem pk_next (bd : Nat → Int) (k : Nat) : PkC bd (k + 1) = upd (PkC bd k) (1 + k) (vC bd k) := by
  funext i
  unfold upd
  by_cases e : i = 1 + k
  · subst e; rw [if_pos rfl]; unfold PkC; rw [if_pos (by omega)]; congr 1; omega
  · rw [if_neg e]; unfold PkC
    by_cases h : 1 ≤ i ∧ i < 1 + k
    · rw [if_pos (by omega), if_pos h]
    · rw [if_neg (by omega), if_neg h]
theorem pk_same {bd : Nat → Int} {k : Nat} (h : okB bd k = false) : PkC bd (k + 1) = PkC bd k := by
  rw [pk_next]
  have e : vC bd k = PkC bd k (1 + k) := by rw [pk_here]; unfold vC; rw [h]; rfl
  rw [e]; funext i; unfold upd; split
  · rename_i h; rw [h]
  · rfl
def fpB (s : Nat) : Bool := (fpC (1 + s) == 0) || (((s == 0) || (s == 7)) && (fpC (1 + s) == 4)) || ((s == 4) && (fpC (1 + s) == 6)) || ((s == 60) && (fpC (1 + s) == 14))
theorem fpB_all : ∀ s, s < 64 → fpB s = true := by decide +kernel
theorem fp_cases {s : Nat} (hs : s < 64) : fpC (1 + s) = 0 ∨ ((s = 0 ∨ s = 7) ∧ fpC (1 + s) = 4) ∨ (s = 4 ∧ fpC (1 + s) = 6) ∨ (s = 60 ∧ fpC (1 + s) = 14) := by
  have := fpB_all s hs
  unfold fpB at this
  simp only [Bool.or_eq_true, Bool.and_eq_true, beq_iff_eq] at this
  rcases this with ((h | h) | h) | h
  · exact .inl h
  · exact .inr (.inl h)
  · exact .inr (.inr (.inl h))
  · exact .inr (.inr (.inr h))
structure VC (s : Nat) (v : Int) : Prop where
  rng : 0 ≤ v ∧ v ≤ 15
  pc : v = 0 ∨ pcB v = true
  king : v = 6 → s = 4
  low : s < 8 → v / 8 = 0
theorem vC_is {bd : Nat → Int} {s : Nat} (hs : s < 64) : VC s (vC bd s) := by
  have hx : 0 ≤ xC bd s ∧ xC bd s ≤ 15 := by unfold xC; omega
  unfold vC
  cases g : okB bd s
  · rw [cond_false]
    rcases fp_cases hs with h | ⟨h1, h⟩ | ⟨h1, h⟩ | ⟨h1, h⟩ <;> rw [h]
    · exact ⟨by omega, .inl rfl, by omega, by omega⟩
    · exact ⟨by omega, .inr (by decide), by omega, by omega⟩
    · exact ⟨by omega, .inr (by decide), by omega, by omega⟩
    · exact ⟨by omega, .inr (by decide), by omega, by omega⟩
  · rw [cond_true]
    unfold okB at g
    simp only [Bool.and_eq_true, Bool.not_eq_true', decide_eq_false_iff_not, beq_iff_eq] at g
    cases g2 : decide (s < 8) && decide (8 < xC bd s)
    · rw [cond_false]
      simp only [Bool.and_eq_false_iff, decide_eq_false_iff_not] at g2
      exact ⟨hx, .inr (pcB_true.2 (by omega)), by omega, by omega⟩
    · rw [cond_true]
      simp only [Bool.and_eq_true, decide_eq_true_eq] at g2
      exact ⟨by omega, .inr (pcB_true.2 (by omega)), by omega, by omega⟩
/-- What is asked of a position with king and rooks at home. -/
structure HomeC (P : Nat → Int) : Prop where
  var : P 0 = 0
  turn : P 78 = 0
  f0 : P 79 = 7
  f1 : P 80 = 0
  bd : ∀ s, s < 64 → VC s (P (1 + s))
  king : P (1 + 4) = 6
  ra : P (1 + 0) = 4
  rh : P (1 + 7) = 4
theorem pk_home (bd : Nat → Int) : HomeC (PkC bd 64) := by
  have hb : ∀ s, s < 64 → PkC bd 64 (1 + s) = vC bd s := fun s hs => by unfold PkC; rw [if_pos (by omega)]; congr 1; omega
  have ho : ∀ i, (i = 0 ∨ 65 ≤ i) → PkC bd 64 i = fpC i := fun i hi => by unfold PkC; rw [if_neg (by omega)]
  have hv : ∀ s, s < 64 → fpC (1 + s) ≠ 0 → vC bd s = fpC (1 + s) := fun s hs h => by
    unfold vC okB; rw [beq_eq_false_iff_ne.2 h]; simp
  refine ⟨by rw [ho 0 (by omega)]; decide, by rw [ho 78 (by omega)]; decide, by rw [ho 79 (by omega)]; decide, by rw [ho 80 (by omega)]; decide, fun s hs => by rw [hb s hs]; exact vC_is hs, ?_, ?_, ?_⟩
  · rw [hb 4 (by omega), hv 4 (by omega) (by decide)]; decide
  · rw [hb 0 (by omega), hv 0 (by omega) (by decide)]; decide
  · rw [hb 7 (by omega), hv 7 (by omega) (by decide)]; decide
theorem pk_fit (bd : Nat → Int) (k : Nat) (hk : k ≤ 64) : CsR (PkC bd k) := by
  have hf := fpC_fit
  have ho : ∀ i, (i = 0 ∨ 65 ≤ i) → PkC bd k i = fpC i := fun i hi => by unfold PkC; rw [if_neg (by omega)]
  refine ⟨⟨fun i hi => ?_, by rw [ho 0 (by omega)]; exact hf.at_.var, by rw [ho 78 (by omega)]; exact hf.at_.turn⟩, fun i hi => by rw [ho (79 + i) (by omega)]; exact hf.rk i hi⟩
  by_cases h : 1 ≤ 1 + i ∧ 1 + i < 1 + k
  · have e : PkC bd k (1 + i) = vC bd i := by unfold PkC; rw [if_pos h]; congr 1; omega
    rw [e]; have := (vC_is (bd := bd) hi).rng; omega
  · have e : PkC bd k (1 + i) = fpC (1 + i) := by unfold PkC; rw [if_neg h]
    rw [e]; exact hf.at_.bd i hi
theorem low_betw : ∀ s, s < 8 → ∀ i, i < 64 → (!decide (8 ≤ i) || (betweenN ((s : Nat) : Int) ((i : Nat) : Int) &&& 255 == 0)) = true := by decide +kernel
theorem low_bit {s i t : Nat} (hs : s < 8) (hi : i < 64) (h8 : 8 ≤ i) (ht : (betweenN (s : Int) (i : Int)).testBit t = true) : 8 ≤ t := by
  have h0 := low_betw s hs i hi
  rw [decide_eq_true h8] at h0
  have h : betweenN (s : Int) (i : Int) &&& 255 = 0 := beq_iff_eq.1 h0
  by_cases h9 : t < 8
  · have hb : (255 : Nat).testBit t = true := by
      rcases (by omega : t = 0 ∨ t = 1 ∨ t = 2 ∨ t = 3 ∨ t = 4 ∨ t = 5 ∨ t = 6 ∨ t = 7) with rfl | rfl | rfl | rfl | rfl | rfl | rfl | rfl <;> decide
    have : (betweenN (s : Int) (i : Int) &&& 255).testBit t = true := by rw [Nat.testBit_and, ht, hb]; rfl
    rw [h, Nat.zero_testBit] at this; cases this
  · omega
theorem atk_occ {c : Int} {k s i : Nat} {o o' : Nat} (hs : s < 8) (hi : i < 64) (h8 : 8 ≤ i) (ho : ∀ t, 8 ≤ t → o'.testBit t = o.testBit t) : (atkN c k (s : Int) o').testBit i = (atkN c k (s : Int) o).testBit i := by
  have e : ∀ l, (seenAll (s : Int) o' l).testBit i = (seenAll (s : Int) o l).testBit i := fun l => by
    rw [seenAll_testBit, seenAll_testBit, free_congr fun t ht => ho t (low_bit hs hi h8 ht)]
  unfold atkN
  split; · rfl
  split; · rfl
  split; · exact e _
  split; · exact e _
  split; · exact e _
  split; · rfl
  rfl
theorem any_bare {P : Nat → Int} (h : HomeC P) {f t s : Nat} (hf : f < 8) (ht : t < 8) (hs : s < 8) : anyB (bareC P (f : Int) (t : Int)) (s : Int) 1 = anyB P (s : Int) 1 := by
  have hQ : ∀ i, i ≠ f → i ≠ t → bareC P (f : Int) (t : Int) (1 + i) = P (1 + i) := fun i h1 h2 => by
    have hp : ∀ j : Nat, j < 64 → putB (j : Int) 0 = true := fun j hj => by unfold putB; rw [sq_true.2 ⟨by omega, by omega⟩]; rfl
    unfold bareC
    rw [putP_yes (hp f (by omega)), putP_yes (hp t (by omega)), upd_other _ _ _ _ (by omega), upd_other _ _ _ _ (by omega)]
  have hz : ∀ i, (i = f ∨ i = t) → bareC P (f : Int) (t : Int) (1 + i) = 0 := fun i hi => by
    have hp : ∀ j : Nat, j < 64 → putB (j : Int) 0 = true := fun j hj => by unfold putB; rw [sq_true.2 ⟨by omega, by omega⟩]; rfl
    unfold bareC
    rw [putP_yes (hp f (by omega)), putP_yes (hp t (by omega))]
    by_cases e : i = t
    · subst e; exact upd_same _ _ _
    · rw [upd_other _ _ _ _ (by omega)]
      obtain rfl : i = f := by omega
      exact upd_same _ _ _
  unfold anyB
  have e : byN (bareC P (f : Int) (t : Int)) (s : Int) 1 = byN P (s : Int) 1 := by
    apply eq_of_bits (byN_lt _ _ _) (byN_lt _ _ _)
    intro i hi
    rw [byN_testBit _ _ _ _ hi, byN_testBit _ _ _ _ hi]
    by_cases h8 : 8 ≤ i
    · rw [hQ i (by omega) (by omega)]
      have hk : kdN (bareC P (f : Int) (t : Int)) i = kdN P i := by unfold kdN; rw [hQ i (by omega) (by omega)]
      rw [hk, atk_occ hs hi h8 (o := occN P) fun j hj => ?_]
      unfold occN
      by_cases h64 : j < 64
      · rw [setN_testBit _ _ j h64, setN_testBit _ _ j h64, hQ j (by omega) (by omega)]
      · have hbig : ∀ x : Nat, x < W64 → x.testBit j = false := fun x hx => by
          cases g : x.testBit j
          · rfl
          · exact absurd (bit_lt hx g) h64
        rw [hbig _ (setN_lt _ _), hbig _ (setN_lt _ _)]
    · have hl := (h.bd i hi).low (by omega)
      have h1 : ofB 1 0 (P (1 + i)) = false := by
        rw [ofB_all]
        cases g : pcB (P (1 + i))
        · rfl
        · rw [Bool.true_and, beq_eq_false_iff_ne]; unfold colZ; rw [g, cond_true, hl]; decide
      have h2 : ofB 1 0 (bareC P (f : Int) (t : Int) (1 + i)) = false := by
        by_cases e : i = f ∨ i = t
        · rw [hz i e]; decide
        · rw [hQ i (by omega) (by omega)]; exact h1
      rw [h1, h2]; rfl
  rw [e]
theorem home_king {P : Nat → Int} (h : HomeC P) : kingZ P 0 = 4 := by
  show firstN (ofN P 0 6) = ((4 : Nat) : Int)
  refine first_at (j := 4) (ofN_lt _ _ _) ?_ fun j hj => ?_
  · rw [ofN_testBit _ _ _ _ (by decide), h.king]; decide
  · cases g : (ofN P 0 6).testBit j
    · rfl
    · have := (h.bd j (by omega)).king (by have := of_at (p := P) (c := 0) (k := 6) (by decide) (by omega) g; omega)
      omega
theorem home_at {P : Nat → Int} (h : HomeC P) {s : Nat} (hs : s < 64) : atZ P (s : Int) = P (1 + s) := by
  rw [atZ_nat P hs]
  rcases (h.bd s hs).pc with e | e
  · rw [e]; decide
  · rw [if_pos e]
theorem home_shel {P : Nat → Int} (h : P 0 = 0) (s c : Int) : shelB P s c = false := by unfold shelB; rw [h]; rfl
theorem home_chk {P : Nat → Int} (h : HomeC P) : chkB P 0 = anyB P 4 1 := by
  unfold chkB
  rw [home_king h, home_shel h.var, h.var]
  rfl
theorem bare_at {P : Nat → Int} (h : HomeC P) {f t s : Nat} (hf : f < 8) (ht : t < 8) (hs : s < 64) : (atZ (bareC P (f : Int) (t : Int)) (s : Int) == 0) = ((s == f) || ((s == t) || (P (1 + s) == 0))) := by
  have hp : ∀ j : Nat, j < 64 → putB (j : Int) 0 = true := fun j hj => by unfold putB; rw [sq_true.2 ⟨by omega, by omega⟩]; rfl
  have hb : bareC P (f : Int) (t : Int) (1 + s) = if s = f ∨ s = t then 0 else P (1 + s) := by
    unfold bareC
    rw [putP_yes (hp f (by omega)), putP_yes (hp t (by omega))]
    unfold upd
    by_cases e : s = t
    · rw [if_pos (by omega), if_pos (.inr e)]
    · rw [if_neg (by omega)]
      by_cases e2 : s = f
      · rw [if_pos (by omega), if_pos (.inl e2)]
      · rw [if_neg (by omega), if_neg (by omega)]
  rw [atZ_nat _ hs, hb]
  by_cases e : s = f ∨ s = t
  · rw [if_pos e]
    rcases e with e | e
    · rw [beq_iff_eq.2 e]; rfl
    · rw [beq_iff_eq.2 e]; simp
  · rw [if_neg e, beq_eq_false_iff_ne.2 (show s ≠ f by omega), beq_eq_false_iff_ne.2 (show s ≠ t by omega)]
    rcases (h.bd s hs).pc with e2 | e2
    · rw [e2]; decide
    · rw [if_pos e2]; simp
theorem bare_bd {P : Nat → Int} (h : HomeC P) {f t s : Nat} (hf : f < 8) (ht : t < 8) (hs : s < 8) : bdC (bareC P (f : Int) (t : Int)) (s : Int) = anyB P (s : Int) 1 := by
  have h0 : bareC P (f : Int) (t : Int) 0 = 0 := by rw [bare_out P _ _ (.inl rfl)]; exact h.var
  have h78 : bareC P (f : Int) (t : Int) 78 = 0 := by rw [bare_out P _ _ (.inr (by omega))]; exact h.turn
  unfold bdC
  rw [home_shel h0, h78, show oth 0 = 1 from rfl, any_bare h hf ht hs]; simp
/-- To the a file; to the h file. -/
def aC (P : Nat → Int) : Bool := !anyB P 4 1 && ((P 2 == 0) && ((P 3 == 0) && ((P 4 == 0) && (!anyB P 2 1 && !anyB P 3 1))))
def hC (P : Nat → Int) : Bool := !anyB P 4 1 && ((P 6 == 0) && ((P 7 == 0) && (!anyB P 5 1 && !anyB P 6 1)))
theorem home_mv {P : Nat → Int} (h : HomeC P) : mvC P 1 = mvK 0 ∧ mvC P 0 = mvK 7 := by
  have f1 : flC P 1 = 0 := by unfold flC; rw [h.turn]; exact h.f1
  have f0 : flC P 0 = 7 := by unfold flC; rw [h.turn]; exact h.f0
  unfold mvC mvK
  rw [f0, f1, h.turn, home_king h]
  exact ⟨rfl, rfl⟩
theorem home_in {P : Nat → Int} (h : HomeC P) : inC P 1 = aC P ∧ inC P 0 = hC P := by
  have f1 : flC P 1 = 0 := by unfold flC; rw [h.turn]; exact h.f1
  have f0 : flC P 0 = 7 := by unfold flC; rw [h.turn]; exact h.f0
  obtain ⟨m1, m0⟩ := home_mv h
  have b0 : hasN (ofN P 0 4) 0 = true := by
    show hasN (ofN P 0 4) ((0 : Nat) : Int) = true
    rw [hasN_nat _ _ (by decide), ofN_testBit _ _ _ _ (by decide), h.ra]; decide
  have b7 : hasN (ofN P 0 4) 7 = true := by
    show hasN (ofN P 0 4) ((7 : Nat) : Int) = true
    rw [hasN_nat _ _ (by decide), ofN_testBit _ _ _ _ (by decide), h.rh]; decide
  constructor
  · have hn : namC P 1 = true := by
      unfold namC flB
      rw [f1, m1, h.turn, show hmC 0 + 0 = 0 from rfl, b0]; decide
    unfold inC mayC
    rw [hn, m1, h.turn, show sdC 0 (mvK 0) = 1 by decide]
    show (true && (freeC (bareC P ((4 : Nat) : Int) ((0 : Nat) : Int)) 4 2 && (freeC (bareC P ((4 : Nat) : Int) ((0 : Nat) : Int)) 0 3 && safeC (bareC P ((4 : Nat) : Int) ((0 : Nat) : Int)) 4 2))) = aC P
    have s1 : spL 4 2 = [((2 : Nat) : Int), ((3 : Nat) : Int), ((4 : Nat) : Int)] := by decide
    have s2 : spL 0 3 = [((0 : Nat) : Int), ((1 : Nat) : Int), ((2 : Nat) : Int), ((3 : Nat) : Int)] := by decide
    unfold freeC safeC
    rw [s1, s2]
    simp only [List.all_cons, List.all_nil, Bool.and_true]
    rw [bare_at h (by decide) (by decide) (by decide), bare_at h (by decide) (by decide) (by decide), bare_at h (by decide) (by decide) (by decide), bare_at h (by decide) (by decide) (by decide), bare_at h (by decide) (by decide) (by decide), bare_bd h (by decide) (by decide) (by decide), bare_bd h (by decide) (by decide) (by decide), bare_bd h (by decide) (by decide) (by decide)]
    unfold aC
    show (true && (((false || (false || (P 3 == 0))) && ((false || (false || (P 4 == 0))) && (true || _))) && (((false || (true || _)) && ((false || (false || (P 2 == 0))) && ((false || (false || (P 3 == 0))) && (false || (false || (P 4 == 0)))))) && ((!anyB P 2 1) && ((!anyB P 3 1) && (!anyB P 4 1)))))) = _
    cases P 2 == 0 <;> cases P 3 == 0 <;> cases P 4 == 0 <;> cases anyB P 2 1 <;> cases anyB P 3 1 <;> cases anyB P 4 1 <;> rfl
  · have hn : namC P 0 = true := by
      unfold namC flB
      rw [f0, m0, h.turn, show hmC 0 + 7 = 7 from rfl, b7]; decide
    unfold inC mayC
    rw [hn, m0, h.turn, show sdC 0 (mvK 7) = 0 by decide]
    show (true && (freeC (bareC P ((4 : Nat) : Int) ((7 : Nat) : Int)) 4 6 && (freeC (bareC P ((4 : Nat) : Int) ((7 : Nat) : Int)) 7 5 && safeC (bareC P ((4 : Nat) : Int) ((7 : Nat) : Int)) 4 6))) = hC P
    have s1 : spL 4 6 = [((4 : Nat) : Int), ((5 : Nat) : Int), ((6 : Nat) : Int)] := by decide
    have s2 : spL 7 5 = [((5 : Nat) : Int), ((6 : Nat) : Int), ((7 : Nat) : Int)] := by decide
    unfold freeC safeC
    rw [s1, s2]
    simp only [List.all_cons, List.all_nil, Bool.and_true]
    rw [bare_at h (by decide) (by decide) (by decide), bare_at h (by decide) (by decide) (by decide), bare_at h (by decide) (by decide) (by decide), bare_at h (by decide) (by decide) (by decide), bare_bd h (by decide) (by decide) (by decide), bare_bd h (by decide) (by decide) (by decide), bare_bd h (by decide) (by decide) (by decide)]
    unfold hC
    show (true && (((true || _) && ((false || (false || (P 6 == 0))) && (false || (false || (P 7 == 0))))) && (((false || (false || (P 6 == 0))) && ((false || (false || (P 7 == 0))) && (false || (true || _)))) && ((!anyB P 4 1) && ((!anyB P 5 1) && (!anyB P 6 1)))))) = _
    cases P 6 == 0 <;> cases P 7 == 0 <;> cases anyB P 4 1 <;> cases anyB P 5 1 <;> cases anyB P 6 1 <;> rfl
theorem home_both {P : Nat → Int} (h : HomeC P) : bothV (camL P) (aC P) (hC P) = true := by
  have ht : thC P = true := by unfold thC; rw [h.turn, h.var]; rfl
  obtain ⟨i1, i0⟩ := home_in h
  obtain ⟨m1, m0⟩ := home_mv h
  unfold camL oneC
  rw [ht, i1, i0, m1, m0]
  cases aC P <;> cases hC P <;> decide
end Go.Proofs.YtmlmilmfnioheaaDoor
