/-
 Plain mathematics of layer 8: what a piece of a color and a kind attacks; who attacks a square; both ways; whether there is nothing between two squares, step by step. Nothing of the program stands here.
-/
import Derived.Test.YtidgfadbdgheiaaGreatDoorAfSl
import Derived.Test.YtidgfadbdgheiaaGreatDoorVaBaseA
namespace Go.Proofs.YtidgfadbdgheiaaGreatDoor
set_option linter.unusedVariables false

def atkN (c : Int) (k : Nat) (s : Int) (occ : Nat) : Nat :=
 if k = 1 then pawnN c s else if k = 2 then knightN s else if k = 3 then bishN s occ else if k = 4 then rookN s occ else if k = 5 then queenN s occ else if k = 6 then kingN s else 0
theorem atkN_lt (c : Int) (k : Nat) (s : Int) (occ : Nat) : atkN c k s occ < W64 := by
 unfold atkN
 split; · exact pawnN_lt _ _
 split; · exact knightN_lt _
 split; · exact bishN_lt _ _
 split; · exact rookN_lt _ _
 split; · exact queenN_lt _ _
 split; · exact kingN_lt _
 decide
theorem atkN_no (c : Int) (k : Nat) {s : Int} (occ : Nat) (h : sq s = false) : atkN c k s occ = 0 := by
 have e : ∀ l, seenAll s occ l = 0 := fun l => by
  apply eq_of_bits (seenAll_lt _ _ _) (by decide)
  intro i hi
  rw [seenAll_testBit, raysN_no h]; simp
 unfold atkN
 split; · exact pawnN_no h
 split; · exact knightN_no h
 split; · exact e _
 split; · exact e _
 split; · exact e _
 split; · exact kingN_no h
 rfl
def bishB (a b : Nat) : Bool := (raysN (a : Int) bishDs).testBit b == (raysN (b : Int) bishDs).testBit a
theorem bishB_all : ∀ a, a < 64 → ∀ b, b < 64 → bishB a b = true := by decide +kernel
theorem atk_back (c : Int) (hc : 0 ≤ c) (hc1 : c ≤ 1) (k a b : Nat) (ha : a < 64) (hb : b < 64) (occ : Nat) : (atkN (1 - c) k (b : Int) occ).testBit a = (atkN c k (a : Int) occ).testBit b := by
 have t := turned_all (a : Int) (b : Int)
 have t' := turned_all (b : Int) (a : Int)
 simp only [hasN_nat _ _ ha, hasN_nat _ _ hb] at t t'
 unfold atkN
 split
 ·have : c = 0 ∨ c = 1 := by omega
  rcases this with rfl | rfl
  ·exact t.2.2.1.symm
  ·exact t'.2.2.1
 split; · exact t.2.1.symm
 split
 ·have := bishB_all a ha b hb
  rw [bishB, beq_iff_eq] at this
  rw [bishN, bishN, seenAll_testBit, seenAll_testBit, this, free_back]
 split
 ·have := rook_back (a : Int) (b : Int) occ
  simp only [hasN_nat _ _ ha, hasN_nat _ _ hb] at this
  exact this.symm
 split
 ·have := seen_back (a : Int) (b : Int) occ
  simp only [hasN_nat _ _ ha, hasN_nat _ _ hb] at this
  exact this
 split; · exact t.1.symm
 simp

/-! Positions. -/
def oth (c : Int) : Int := (1 - c) % 256
theorem oth_01 {c : Int} (h : c = 0 ∨ c = 1) : oth c = 1 - c := by rcases h with rfl | rfl <;> rfl
def kdN (p : Nat → Int) (i : Nat) : Nat := (kndZ (p (1 + i))).toNat
def fromN (p : Nat → Int) (s : Int) : Nat := atkN (colZ (atZ p s)) (kndZ (atZ p s)).toNat s (occN p)
def tellN (p : Nat → Int) (s c : Int) (k : Nat) : List Nat := (listN (ofN p c 0 &&& atkN (oth c) k s (occN p))).filter fun x => kndZ (atZ p (x : Int)) == (k : Int)
def attL (p : Nat → Int) (s c : Int) : Nat → List Nat
 | 0 => []
 | k + 1 => attL p s c k ++ tellN p s c k
def putL (l : List Nat) : Nat := ofList (l.map fun (x : Nat) => (x : Int))
theorem putL_snoc (l : List Nat) (x : Nat) : putL (l ++ [x]) = putN (putL l) (x : Int) := by unfold putL; rw [List.map_append]; exact ofList_snoc _ _
theorem putL_lt (l : List Nat) : putL l < W64 := ofList_lt _
theorem putL_testBit (l : List Nat) (i : Nat) (hi : i < 64) : (putL l).testBit i = decide (i ∈ l) := by
 unfold putL
 rw [ofList_testBit, decide_eq_decide]
 constructor
 ·rintro ⟨_, h⟩; obtain ⟨x, hx, e⟩ := List.mem_map.1 h; have : x = i := by omega
  exact this ▸ hx
 ·intro h; exact ⟨hi, List.mem_map.2 ⟨i, h, rfl⟩⟩
def byN (p : Nat → Int) (s c : Int) : Nat := putL (attL p s c 7)
theorem byN_lt (p : Nat → Int) (s c : Int) : byN p s c < W64 := putL_lt _
theorem atZ_nat (p : Nat → Int) {i : Nat} (hi : i < 64) : atZ p (i : Int) = if pcB (p (1 + i)) = true then p (1 + i) else 0 := by
 unfold atZ; rw [if_pos (sq_nat hi), Int.toNat_natCast]
theorem kind_at (p : Nat → Int) {i : Nat} (hi : i < 64) : kndZ (atZ p (i : Int)) = kndZ (p (1 + i)) := by
 rw [atZ_nat p hi]
 split
 ·rfl
 ·rename_i h; rw [kndZ_no (p := 0) (by decide), kndZ_no (by simpa using h)]
theorem col_at (p : Nat → Int) {i : Nat} (hi : i < 64) : colZ (atZ p (i : Int)) = colZ (p (1 + i)) := by
 rw [atZ_nat p hi]
 split
 ·rfl
 ·rename_i h; rw [colZ_no (p := 0) (by decide), colZ_no (by simpa using h)]
theorem mem_tell (p : Nat → Int) (s c : Int) (k i : Nat) : i ∈ tellN p s c k ↔ i < 64 ∧ ofB c 0 (p (1 + i)) = true ∧ (atkN (oth c) k s (occN p)).testBit i = true ∧ kndZ (p (1 + i)) = (k : Int) := by
 unfold tellN
 rw [List.mem_filter, mem_listN, Nat.testBit_and, Bool.and_eq_true, beq_iff_eq]
 constructor
 ·rintro ⟨⟨hi, h1, h2⟩, h3⟩; rw [ofN_testBit _ _ _ _ hi] at h1; rw [kind_at p hi] at h3; exact ⟨hi, h1, h2, h3⟩
 ·rintro ⟨hi, h1, h2, h3⟩; rw [ofN_testBit _ _ _ _ hi, kind_at p hi]; exact ⟨⟨hi, h1, h2⟩, h3⟩
theorem mem_att (p : Nat → Int) (s c : Int) (i : Nat) : ∀ n, i ∈ attL p s c n ↔ ∃ k, k < n ∧ i ∈ tellN p s c k
 | 0 => by simp [attL]
 | n + 1 => by
  rw [attL, List.mem_append, mem_att p s c i n]
  constructor
  ·rintro (⟨k, hk, h⟩ | h)
   ·exact ⟨k, by omega, h⟩
   ·exact ⟨n, by omega, h⟩
  ·rintro ⟨k, hk, h⟩
   by_cases e : k = n
   ·subst e; exact .inr h
   ·exact .inl ⟨k, by omega, h⟩
theorem byN_testBit (p : Nat → Int) (s c : Int) (i : Nat) (hi : i < 64) : (byN p s c).testBit i = (ofB c 0 (p (1 + i)) && (atkN (oth c) (kdN p i) s (occN p)).testBit i) := by
 unfold byN
 rw [putL_testBit _ _ hi, Bool.eq_iff_iff, decide_eq_true_eq, mem_att, Bool.and_eq_true]
 have hr := knd_rng (p (1 + i))
 constructor
 ·rintro ⟨k, hk, h⟩
  obtain ⟨_, h1, h2, h3⟩ := (mem_tell p s c k i).1 h
  refine ⟨h1, ?_⟩
  unfold kdN; rw [h3, Int.toNat_natCast]; exact h2
 ·rintro ⟨h1, h2⟩
  have hp : pcB (p (1 + i)) = true := by unfold ofB at h1; rw [Bool.and_eq_true] at h1; exact h1.1
  have hk : kndZ (p (1 + i)) ≤ 6 := by rw [kndZ_yes hp]; rw [pcB_true] at hp; omega
  exact ⟨kdN p i, by unfold kdN; omega, (mem_tell p s c _ i).2 ⟨hi, h1, h2, by unfold kdN; omega⟩⟩
theorem byN_no (p : Nat → Int) {s : Int} (c : Int) (h : sq s = false) : byN p s c = 0 := by
 apply eq_of_bits (byN_lt _ _ _) (by decide)
 intro i hi
 rw [byN_testBit _ _ _ _ hi, atkN_no _ _ _ h]; simp
theorem ofB_col {c k x : Int} (hc : 2 ≤ c) : ofB c k x = false := by
 unfold ofB
 cases h : pcB x
 ·rfl
 ·rw [colZ_yes h]; rw [pcB_true] at h
  have : (x / 8 == c) = false := by rw [beq_eq_false_iff_ne]; omega
  rw [this]; rfl
theorem byN_col (p : Nat → Int) (s : Int) {c : Int} (hc : 2 ≤ c) : byN p s c = 0 := by
 apply eq_of_bits (byN_lt _ _ _) (by decide)
 intro i hi
 rw [byN_testBit _ _ _ _ hi, ofB_col hc]; simp
theorem ofB_all (c x : Int) : ofB c 0 x = (pcB x && (colZ x == c)) := by unfold ofB; simp
theorem by_from (p : Nat → Int) (a b : Nat) (ha : a < 64) (hb : b < 64) (c : Int) (hc : 0 ≤ c) (hc1 : c ≤ 1) : (byN p (b : Int) c).testBit a = (ofB c 0 (p (1 + a)) && (fromN p (a : Int)).testBit b) := by
 rw [byN_testBit _ _ _ _ ha]
 cases h : ofB c 0 (p (1 + a))
 ·rfl
 ·rw [Bool.true_and, Bool.true_and]
  have hcol : colZ (p (1 + a)) = c := by rw [ofB_all, Bool.and_eq_true, beq_iff_eq] at h; exact h.2
  rw [oth_01 (by omega), atk_back c hc hc1 _ a b ha hb]
  unfold fromN kdN
  rw [kind_at p ha, col_at p ha, hcol]

/-! Step by step between two squares of a line. -/
def sgn (n : Int) : Int := if n < 0 then -1 else if 0 < n then 1 else 0
def upZ (a b : Nat) : Int := ((b / 8 : Nat) : Int) - ((a / 8 : Nat) : Int)
def offZ (a b : Nat) : Int := ((b % 8 : Nat) : Int) - ((a % 8 : Nat) : Int)
def absZ (n : Int) : Int := if n < 0 then -n else n
def stpZ (a b : Nat) : Int := 8 * sgn (upZ a b) + sgn (offZ a b)
def farM (a b : Nat) : Nat := max (absZ (upZ a b)).toNat (absZ (offZ a b)).toNat
def strB (a b : Nat) : Bool := (decide (upZ a b = 0)) != (decide (absZ (offZ a b) = 0))
def acrB (a b : Nat) : Bool := decide (absZ (upZ a b) = absZ (offZ a b)) && decide (0 < absZ (offZ a b))
def besB (a b : Nat) : Bool := decide (a ≠ b) && decide (absZ (upZ a b) ≤ 1) && decide (absZ (offZ a b) ≤ 1)
def geoB (a b : Nat) : Bool :=
 ((raysN (a : Int) rookDs).testBit b == strB a b) && ((raysN (a : Int) bishDs).testBit b == acrB a b) && ((raysN (a : Int) queenDs).testBit b == (strB a b || acrB a b)) &&
 ((kingT a).testBit b == besB a b) &&
 ((knightT a).testBit b == (decide (absZ (upZ a b) = 1) && decide (absZ (offZ a b) = 2) || decide (absZ (upZ a b) = 2) && decide (absZ (offZ a b) = 1))) &&
 ((pawnT 0 a).testBit b == (decide (upZ a b = 1) && decide (absZ (offZ a b) = 1))) && ((pawnT 1 a).testBit b == (decide (upZ a b = -1) && decide (absZ (offZ a b) = 1)))
theorem geoB_all : ∀ a, a < 64 → ∀ b, b < 64 → geoB a b = true := by decide +kernel
def midL (a b : Nat) : List Int := (List.range (farM a b - 1)).map fun (j : Nat) => (a : Int) + stpZ a b * ((j + 1 : Nat) : Int)
def lineOk (a b : Nat) : Bool :=
 !(strB a b || acrB a b) || (decide (1 ≤ farM a b) && decide (farM a b ≤ 7) && decide ((a : Int) + stpZ a b * (farM a b : Int) = (b : Int)) && decide (stpZ a b ≠ 0) && (midL a b).all (fun t => decide (0 ≤ t) && decide (t < 64)) && (betweenT a b == ofList (midL a b)))
theorem lineOk_all : ∀ a, a < 64 → ∀ b, b < 64 → lineOk a b = true := by decide +kernel
theorem line_ok {a b : Nat} (ha : a < 64) (hb : b < 64) (h : (strB a b || acrB a b) = true) :
  1 ≤ farM a b ∧ farM a b ≤ 7 ∧ (a : Int) + stpZ a b * (farM a b : Int) = (b : Int) ∧ stpZ a b ≠ 0 ∧ (∀ j : Nat, j + 1 < farM a b → 0 ≤ (a : Int) + stpZ a b * ((j + 1 : Nat) : Int) ∧ (a : Int) + stpZ a b * ((j + 1 : Nat) : Int) < 64) ∧
  ∀ occ, freeB occ (a : Int) (b : Int) = true ↔ ∀ j : Nat, j + 1 < farM a b → occ.testBit ((a : Int) + stpZ a b * ((j + 1 : Nat) : Int)).toNat = false := by
 have := lineOk_all a ha b hb
 simp only [lineOk, h, Bool.not_true, Bool.false_or, Bool.and_eq_true, decide_eq_true_eq, beq_iff_eq, List.all_eq_true] at this
 obtain ⟨⟨⟨⟨⟨h1, h2⟩, h3⟩, h4⟩, h5⟩, h6⟩ := this
 have hm : ∀ j : Nat, j + 1 < farM a b → (a : Int) + stpZ a b * ((j + 1 : Nat) : Int) ∈ midL a b := fun j hj => List.mem_map.2 ⟨j, List.mem_range.2 (by omega), rfl⟩
 refine ⟨h1, h2, h3, h4, fun j hj => h5 _ (hm j hj), fun occ => ?_⟩
 rw [free_iff, betweenN_nat ha hb, h6]
 constructor
 ·intro hf j hj
  have hr := h5 _ (hm j hj)
  refine hf _ ?_
  rw [ofList_testBit, decide_eq_true_eq]
  exact ⟨by omega, by rw [Int.toNat_of_nonneg hr.1]; exact hm j hj⟩
 ·intro hf t ht
  rw [ofList_testBit, decide_eq_true_eq] at ht
  obtain ⟨j, hj, e⟩ := List.mem_map.1 ht.2
  have hj := List.mem_range.1 hj
  have := hf j (by omega)
  rw [e] at this
  simpa using this
theorem from_geo (p : Nat → Int) {a b : Nat} (ha : a < 64) (hb : b < 64) :
  (fromN p (a : Int)).testBit b = (if kndZ (p (1 + a)) = 1 then (if colZ (p (1 + a)) = 0 then decide (upZ a b = 1) && decide (absZ (offZ a b) = 1) else decide (upZ a b = -1) && decide (absZ (offZ a b) = 1))
   else if kndZ (p (1 + a)) = 2 then decide (absZ (upZ a b) = 1) && decide (absZ (offZ a b) = 2) || decide (absZ (upZ a b) = 2) && decide (absZ (offZ a b) = 1)
   else if kndZ (p (1 + a)) = 6 then besB a b
   else if kndZ (p (1 + a)) = 4 then strB a b && freeB (occN p) (a : Int) (b : Int)
   else if kndZ (p (1 + a)) = 3 then acrB a b && freeB (occN p) (a : Int) (b : Int)
   else if kndZ (p (1 + a)) = 5 then (strB a b || acrB a b) && freeB (occN p) (a : Int) (b : Int) else false) := by
 have g := geoB_all a ha b hb
 simp only [geoB, Bool.and_eq_true, beq_iff_eq] at g
 obtain ⟨⟨⟨⟨⟨⟨g1, g2⟩, g3⟩, g4⟩, g5⟩, g6⟩, g7⟩ := g
 have hr := knd_rng (p (1 + a))
 unfold fromN
 rw [kind_at p ha, col_at p ha]
 have e : ∀ k : Nat, ((kndZ (p (1 + a))).toNat = k ↔ kndZ (p (1 + a)) = (k : Int)) := fun k => by omega
 unfold atkN
 simp only [e]
 by_cases h1 : kndZ (p (1 + a)) = 1
 ·have hp : pcB (p (1 + a)) = true := by
   cases hp : pcB (p (1 + a))
   ·rw [kndZ_no hp] at h1; cases h1
   ·rfl
  have hc : colZ (p (1 + a)) = 0 ∨ colZ (p (1 + a)) = 1 := by rw [colZ_yes hp]; rw [pcB_true] at hp; omega
  rw [if_pos (by simpa using h1), if_pos h1]
  have p0 : pawnN 0 (a : Int) = pawnT 0 a := pawnN_nat (c := 0) ha (by decide)
  have p1 : pawnN 1 (a : Int) = pawnT 1 a := pawnN_nat (c := 1) ha (by decide)
  rcases hc with hc | hc
  ·rw [hc, if_pos rfl, p0, g6]
  ·rw [hc, if_neg (by decide), p1, g7]
 rw [if_neg (by simpa using h1), if_neg h1]
 by_cases h2 : kndZ (p (1 + a)) = 2
 ·rw [if_pos (by simpa using h2), if_pos h2, knightN_nat ha, g5]
 rw [if_neg (by simpa using h2), if_neg h2]
 by_cases h3 : kndZ (p (1 + a)) = 3
 ·rw [if_pos (by simpa using h3), if_neg (by omega), if_neg (by omega), if_pos h3, bishN, seenAll_testBit, g2]
 rw [if_neg (by simpa using h3)]
 by_cases h4 : kndZ (p (1 + a)) = 4
 ·rw [if_pos (by simpa using h4), if_neg (by omega), if_pos h4, rookN, seenAll_testBit, g1]
 rw [if_neg (by simpa using h4)]
 by_cases h5 : kndZ (p (1 + a)) = 5
 ·rw [if_pos (by simpa using h5), if_neg (by omega), if_neg (by omega), if_neg (by omega), if_pos h5, queenN, seenAll_testBit, g3]
 rw [if_neg (by simpa using h5)]
 by_cases h6 : kndZ (p (1 + a)) = 6
 ·rw [if_pos (by simpa using h6), if_pos h6, kingN_nat ha, g4]
 rw [if_neg (by simpa using h6), if_neg h6, if_neg h4, if_neg h3, if_neg h5]
 simp
end Go.Proofs.YtidgfadbdgheiaaGreatDoor
