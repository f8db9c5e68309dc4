/-
  Plain mathematics of layer 3: squares reached step by step, rays, what is between two squares, their line; what kings, knights, pawns attack. Nothing of the program stands here.
-/
import Derived.Test.YtlhepfighelijaaDoorRayTab
import Derived.Test.YtlhepfighelijaaDoorMathD
namespace Go.Proofs.YtlhepfighelijaaDoor

/-! The tables' entries. -/
def entry (t i : Nat) : Nat := (t >>> (64 * i)) % W64
def rayT (s d : Nat) : Nat := entry rayTab (8 * s + d)
def kingT (s : Nat) : Nat := entry kingTab s
def knightT (s : Nat) : Nat := entry knightTab s
def pawnT (c s : Nat) : Nat := entry pawnTab (64 * c + s)
theorem entry_lt (t i : Nat) : entry t i < W64 := Nat.mod_lt _ (by decide)

def rayN (s d : Int) : Nat := if sq s && dirB d then rayT s.toNat d.toNat else 0
def kingN (s : Int) : Nat := if sq s then kingT s.toNat else 0
def knightN (s : Int) : Nat := if sq s then knightT s.toNat else 0
def pawnN (c s : Int) : Nat := if sq s && (decide (0 ≤ c) && decide (c ≤ 1)) then pawnT c.toNat s.toNat else 0
/-- The direction in which one square sees another one; 8: in none. -/
def headT (a b : Nat) : Nat :=
  bif (rayT a 0).testBit b then 0 else bif (rayT a 1).testBit b then 1 else bif (rayT a 2).testBit b then 2 else bif (rayT a 3).testBit b then 3 else
  bif (rayT a 4).testBit b then 4 else bif (rayT a 5).testBit b then 5 else bif (rayT a 6).testBit b then 6 else bif (rayT a 7).testBit b then 7 else 8
def betweenT (a b : Nat) : Nat := bif headT a b == 8 then 0 else rayT a (headT a b) &&& rayT b ((headT a b + 4) % 8)
def lineT (a b : Nat) : Nat := bif headT a b == 8 then 0 else 2 ^ a ||| rayT a (headT a b) ||| rayT a ((headT a b + 4) % 8)
def betweenN (a b : Int) : Nat := if sq a && sq b then betweenT a.toNat b.toNat else 0
def lineN (a b : Int) : Nat := if sq a && sq b then lineT a.toNat b.toNat else 0

theorem rayN_lt (s d : Int) : rayN s d < W64 := by unfold rayN; split; exact entry_lt _ _; decide
theorem kingN_lt (s : Int) : kingN s < W64 := by unfold kingN; split; exact entry_lt _ _; decide
theorem knightN_lt (s : Int) : knightN s < W64 := by unfold knightN; split; exact entry_lt _ _; decide
theorem pawnN_lt (c s : Int) : pawnN c s < W64 := by unfold pawnN; split; exact entry_lt _ _; decide
theorem betweenN_lt (a b : Int) : betweenN a b < W64 := by
  unfold betweenN betweenT; split
  · cases headT a.toNat b.toNat == 8
    · exact and_lt (entry_lt _ _)
    · show (0 : Nat) < W64; decide
  · decide
theorem lineN_lt (a b : Int) : lineN a b < W64 := by
  unfold lineN lineT; split
  · rename_i h; rw [Bool.and_eq_true, sq_true, sq_true] at h
    cases headT a.toNat b.toNat == 8
    · exact or_lt (or_lt (by rw [W64_eq]; exact Nat.pow_lt_pow_right (by decide) (by omega)) (entry_lt _ _)) (entry_lt _ _)
    · show (0 : Nat) < W64; decide
  · decide

theorem nat_of_sq {s : Int} (h : sq s = true) : ∃ n : Nat, n < 64 ∧ s = (n : Int) := by
  rw [sq_true] at h; exact ⟨s.toNat, by omega, by omega⟩
theorem nat_of_dir {d : Int} (h : dirB d = true) : ∃ n : Nat, n < 8 ∧ d = (n : Int) := by
  rw [dirB_true] at h; exact ⟨d.toNat, by omega, by omega⟩
theorem sq_nat {n : Nat} (h : n < 64) : sq (n : Int) = true := sq_true.2 (by omega)
theorem dir_nat {n : Nat} (h : n < 8) : dirB (n : Int) = true := dirB_true.2 (by omega)
theorem rayN_nat {s d : Nat} (hs : s < 64) (hd : d < 8) : rayN (s : Int) (d : Int) = rayT s d := by simp [rayN, sq_nat hs, dir_nat hd]
theorem kingN_nat {s : Nat} (hs : s < 64) : kingN (s : Int) = kingT s := by simp [kingN, sq_nat hs]
theorem knightN_nat {s : Nat} (hs : s < 64) : knightN (s : Int) = knightT s := by simp [knightN, sq_nat hs]
theorem pawnN_nat {c s : Nat} (hs : s < 64) (hc : c ≤ 1) : pawnN (c : Int) (s : Int) = pawnT c s := by
  have : ((0 : Int) ≤ (c : Int)) ∧ ((c : Int) ≤ 1) := by omega
  simp [pawnN, sq_nat hs, this.2]
theorem betweenN_nat {a b : Nat} (ha : a < 64) (hb : b < 64) : betweenN (a : Int) (b : Int) = betweenT a b := by simp [betweenN, sq_nat ha, sq_nat hb]
theorem lineN_nat {a b : Nat} (ha : a < 64) (hb : b < 64) : lineN (a : Int) (b : Int) = lineT a b := by simp [lineN, sq_nat ha, sq_nat hb]
theorem rayN_no {s d : Int} (h : (sq s && dirB d) = false) : rayN s d = 0 := by simp [rayN, h]
theorem kingN_no {s : Int} (h : sq s = false) : kingN s = 0 := by simp [kingN, h]
theorem knightN_no {s : Int} (h : sq s = false) : knightN s = 0 := by simp [knightN, h]
theorem pawnN_no {c s : Int} (h : sq s = false) : pawnN c s = 0 := by simp [pawnN, h]
theorem pawnN_col {c s : Int} (h : (decide (0 ≤ c) && decide (c ≤ 1)) = false) : pawnN c s = 0 := by unfold pawnN; rw [h, Bool.and_false]; rfl
theorem betweenN_no {a b : Int} (h : (sq a && sq b) = false) : betweenN a b = 0 := by simp [betweenN, h]
theorem lineN_no {a b : Int} (h : (sq a && sq b) = false) : lineN a b = 0 := by simp [lineN, h]

/-! Step by step. -/
def goN (s d : Int) : Nat → Int
  | 0 => s
  | k + 1 => stepN (goN s d k) d
/-- The squares that k steps come by. -/
def passN (s d : Int) : Nat → Nat
  | 0 => 0
  | k + 1 => putN (passN s d k) (goN s d (k + 1))
theorem passN_lt (s d : Int) : ∀ k, passN s d k < W64
  | 0 => by show (0 : Nat) < W64; decide
  | k + 1 => putN_lt (passN_lt s d k) _
theorem list_one : ∀ n, n < 64 → listN (2 ^ n) = [n] := by decide +kernel
theorem shift_zero (d : Int) : shiftN 0 d = 0 := by
  have : listN 0 = [] := by decide +kernel
  rw [shiftN, this]; rfl
theorem shift_only (s d : Int) : shiftN (onlyN s) d = onlyN (stepN s d) := by
  by_cases h : sq s = true
  · obtain ⟨n, hn, rfl⟩ := nat_of_sq h
    have e : onlyN (n : Int) = 2 ^ n := by simp [onlyN, h]
    rw [shiftN, e, list_one n hn]
    simp [ofList, putN]
  · have h' : sq s = false := by simpa using h
    have e : onlyN s = 0 := by simp [onlyN, h']
    have e1 : stepN s d = -1 := stepN_out (by simp [h'])
    rw [e, e1, shift_zero]
    decide
theorem step_sq_back {s d : Int} (h : sq s = false) : stepN s d = -1 := stepN_out (by simp [h])
theorem go_off {s d : Int} {k : Nat} (h : sq (goN s d k) = false) : goN s d (k + 1) = -1 := step_sq_back h
theorem pass_off {s d : Int} {k : Nat} (h : sq (goN s d (k + 1)) = false) : ∀ j, passN s d (k + j) = passN s d k ∧ sq (goN s d (k + j + 1)) = false
  | 0 => ⟨rfl, h⟩
  | j + 1 => by
    obtain ⟨h1, h2⟩ := pass_off h j
    refine ⟨?_, ?_⟩
    · show putN (passN s d (k + j)) (goN s d (k + j + 1)) = _
      rw [h1, putN, onlyN, h2]; simp
    · show sq (goN s d (k + j + 1 + 1)) = false
      rw [go_off h2]; rfl
def passB (s d : Nat) : Bool := passN (s : Int) (d : Int) 8 == rayT s d && !sq (goN (s : Int) (d : Int) 8)
theorem passB_all : ∀ s, s < 64 → ∀ d, d < 8 → passB s d = true := by decide +kernel
theorem go_out {s d : Int} (h : (sq s && dirB d) = false) : goN s d 1 = -1 := stepN_out h
theorem ray_pass (s d : Int) : passN s d 8 = rayN s d := by
  by_cases h : (sq s && dirB d) = true
  · rw [Bool.and_eq_true] at h
    obtain ⟨n, hn, rfl⟩ := nat_of_sq h.1
    obtain ⟨m, hm, rfl⟩ := nat_of_dir h.2
    have := passB_all n hn m hm
    simp only [passB, Bool.and_eq_true, beq_iff_eq] at this
    rw [this.1, rayN_nat hn hm]
  · have h' : (sq s && dirB d) = false := by simpa using h
    rw [rayN_no h']
    have := (pass_off (s := s) (d := d) (k := 0) (by rw [go_out h']; rfl) 8).1
    exact this
theorem go_8 (s d : Int) : sq (goN s d 8) = false := by
  by_cases h : (sq s && dirB d) = true
  · rw [Bool.and_eq_true] at h
    obtain ⟨n, hn, rfl⟩ := nat_of_sq h.1
    obtain ⟨m, hm, rfl⟩ := nat_of_dir h.2
    have := passB_all n hn m hm
    simp only [passB, Bool.and_eq_true, Bool.not_eq_true'] at this
    exact this.2
  · have h' : (sq s && dirB d) = false := by simpa using h
    exact (pass_off (s := s) (d := d) (k := 0) (by rw [go_out h']; rfl) 7).2
theorem go_lt {s d : Int} {k : Nat} (h : sq (goN s d (k + 1)) = true) : k < 7 := by
  by_cases hk : k < 7
  · exact hk
  · exfalso
    have h8 := go_8 s d
    have := (pass_off (s := s) (d := d) (k := 7) h8 (k - 7)).2
    rw [show 7 + (k - 7) + 1 = k + 1 by omega, h] at this
    cases this
/-- Once the way leads off the board, all has been passed. -/
theorem ray_end {s d : Int} {k : Nat} (hk : k ≤ 8) (h : sq (goN s d (k + 1)) = false) : passN s d k = rayN s d := by
  rw [← ray_pass]
  have := (pass_off h (8 - k)).1
  rw [show k + (8 - k) = 8 by omega] at this
  exact this.symm
theorem onlyN_zero {s : Int} : onlyN s = 0 ↔ sq s = false := by
  unfold onlyN
  by_cases h : sq s = true
  · rw [if_pos h]; simp [h]
  · simp [h]
theorem pass_testBit (s d : Int) : ∀ k i, (passN s d k).testBit i = decide (∃ j, j < k ∧ sq (goN s d (j + 1)) = true ∧ goN s d (j + 1) = (i : Int))
  | 0, i => by simp [passN]
  | k + 1, i => by
    show (putN (passN s d k) (goN s d (k + 1))).testBit i = _
    rw [putN_testBit, pass_testBit s d k i, Bool.eq_iff_iff]
    simp only [Bool.or_eq_true, Bool.and_eq_true, decide_eq_true_eq]
    constructor
    · rintro (⟨j, hj, h⟩ | h)
      · exact ⟨j, by omega, h⟩
      · exact ⟨k, by omega, h⟩
    · rintro ⟨j, hj, h⟩
      by_cases e : j = k
      · subst e; exact .inr h
      · exact .inl ⟨j, by omega, h⟩
theorem has_ray (s d b : Int) : hasN (rayN s d) b = true ↔ ∃ j, j < 8 ∧ sq (goN s d (j + 1)) = true ∧ goN s d (j + 1) = b := by
  rw [← ray_pass]
  unfold hasN
  rw [Bool.and_eq_true, pass_testBit, decide_eq_true_eq]
  constructor
  · rintro ⟨h, j, hj, h1, h2⟩
    rw [sq_true] at h
    exact ⟨j, hj, h1, by omega⟩
  · rintro ⟨j, hj, h1, rfl⟩
    refine ⟨h1, j, hj, h1, ?_⟩
    rw [sq_true] at h1; omega

/-! Steps together. -/
def stepsN (b : Nat) (l : List Int) : Nat := l.foldl (fun a d => a ||| shiftN b d) 0
theorem foldl_or_lt (b : Nat) : ∀ (l : List Int) (a : Nat), a < W64 → l.foldl (fun a d => a ||| shiftN b d) a < W64
  | [], _, h => h
  | d :: l, _, h => foldl_or_lt b l _ (or_lt h (shiftN_lt b d))
theorem stepsN_lt (b : Nat) (l : List Int) : stepsN b l < W64 := foldl_or_lt b l 0 (by decide)
theorem stepsN_snoc (b : Nat) (l : List Int) (d : Int) : stepsN b (l ++ [d]) = stepsN b l ||| shiftN b d := by simp [stepsN, List.foldl_append]
theorem steps_zero : ∀ l : List Int, stepsN 0 l = 0 := by
  intro l
  have : ∀ (l : List Int) (a : Nat), l.foldl (fun a d => a ||| shiftN 0 d) a = a := by
    intro l
    induction l with
    | nil => intro a; rfl
    | cons d l ih => intro a; rw [List.foldl_cons, shift_zero, Nat.or_zero, ih]
  exact this l 0
def kingSteps : List Int := [0, 1, 2, 3, 4, 5, 6, 7]
def knightSteps (s : Int) : Nat := ((stepsN (shiftN (onlyN s) 0) [1, 7] ||| stepsN (shiftN (onlyN s) 2) [3, 1]) ||| stepsN (shiftN (onlyN s) 4) [5, 3]) ||| stepsN (shiftN (onlyN s) 6) [7, 5]
def stepsB (n : Nat) : Bool :=
  stepsN (2 ^ n) kingSteps == kingT n && knightSteps (n : Int) == knightT n && stepsN (2 ^ n) [7, 1] == pawnT 0 n && stepsN (2 ^ n) [5, 3] == pawnT 1 n
theorem stepsB_all : ∀ n, n < 64 → stepsB n = true := by decide +kernel
theorem only_nat {n : Nat} (h : n < 64) : onlyN (n : Int) = 2 ^ n := by simp [onlyN, sq_nat h]
theorem only_no {s : Int} (h : sq s = false) : onlyN s = 0 := by simp [onlyN, h]
theorem king_steps (s : Int) : stepsN (onlyN s) kingSteps = kingN s := by
  by_cases h : sq s = true
  · obtain ⟨n, hn, rfl⟩ := nat_of_sq h
    have := stepsB_all n hn
    simp only [stepsB, Bool.and_eq_true, beq_iff_eq] at this
    rw [only_nat hn, this.1.1.1, kingN_nat hn]
  · have h' : sq s = false := by simpa using h
    rw [only_no h', kingN_no h', steps_zero]
theorem knight_steps (s : Int) : knightSteps s = knightN s := by
  by_cases h : sq s = true
  · obtain ⟨n, hn, rfl⟩ := nat_of_sq h
    have := stepsB_all n hn
    simp only [stepsB, Bool.and_eq_true, beq_iff_eq] at this
    rw [this.1.1.2, knightN_nat hn]
  · have h' : sq s = false := by simpa using h
    rw [knightSteps, only_no h', shift_zero, shift_zero, shift_zero, shift_zero, knightN_no h', steps_zero, steps_zero, steps_zero, steps_zero]; rfl
theorem pawn_white (s : Int) : stepsN (onlyN s) [7, 1] = pawnN 0 s := by
  by_cases h : sq s = true
  · obtain ⟨n, hn, rfl⟩ := nat_of_sq h
    have := stepsB_all n hn
    simp only [stepsB, Bool.and_eq_true, beq_iff_eq] at this
    rw [only_nat hn, this.1.2]; exact (pawnN_nat (c := 0) hn (by decide)).symm
  · have h' : sq s = false := by simpa using h
    rw [only_no h', pawnN_no h', steps_zero]
theorem pawn_black (s : Int) : stepsN (onlyN s) [5, 3] = pawnN 1 s := by
  by_cases h : sq s = true
  · obtain ⟨n, hn, rfl⟩ := nat_of_sq h
    have := stepsB_all n hn
    simp only [stepsB, Bool.and_eq_true, beq_iff_eq] at this
    rw [only_nat hn, this.2]; exact (pawnN_nat (c := 1) hn (by decide)).symm
  · have h' : sq s = false := by simpa using h
    rw [only_no h', pawnN_no h', steps_zero]

/-! The direction. -/
theorem has_rayT {a b d : Nat} (ha : a < 64) (hb : b < 64) (hd : d < 8) : hasN (rayN (a : Int) (d : Int)) (b : Int) = (rayT a d).testBit b := by
  rw [rayN_nat ha hd, hasN_nat _ _ hb]
theorem head_hit {a b d : Nat} (hd : d < 8) (h : (rayT a d).testBit b = true) (hno : ∀ j, j < d → (rayT a j).testBit b = false) : headT a b = d := by
  have n0 := hno 0; have n1 := hno 1; have n2 := hno 2; have n3 := hno 3; have n4 := hno 4; have n5 := hno 5; have n6 := hno 6
  have : d = 0 ∨ d = 1 ∨ d = 2 ∨ d = 3 ∨ d = 4 ∨ d = 5 ∨ d = 6 ∨ d = 7 := by omega
  unfold headT
  rcases this with rfl | rfl | rfl | rfl | rfl | rfl | rfl | rfl <;> simp_all
theorem head_miss {a b : Nat} (hno : ∀ j, j < 8 → (rayT a j).testBit b = false) : headT a b = 8 := by
  unfold headT
  simp [hno 0, hno 1, hno 2, hno 3, hno 4, hno 5, hno 6, hno 7]
theorem between_hit {a b : Int} {d : Nat} (hd : d < 8) (h : hasN (rayN a (d : Int)) b = true) (hno : ∀ j : Nat, j < d → hasN (rayN a (j : Int)) b = false) :
    betweenN a b = rayN a (d : Int) &&& rayN b (((d + 4) % 8 : Nat) : Int) ∧ lineN a b = (onlyN a ||| rayN a (d : Int)) ||| rayN a (((d + 4) % 8 : Nat) : Int) := by
  have hb : sq b = true := by
    cases e : sq b
    · rw [hasN_no e] at h; cases h
    · rfl
  have ha : sq a = true := by
    cases e : sq a
    · rw [rayN_no (by simp [e]), hasN, Nat.zero_testBit, Bool.and_false] at h; cases h
    · rfl
  obtain ⟨m, hm, rfl⟩ := nat_of_sq ha
  obtain ⟨n, hn, rfl⟩ := nat_of_sq hb
  have hd4 : (d + 4) % 8 < 8 := Nat.mod_lt _ (by decide)
  have e : headT m n = d := head_hit hd (by rw [← has_rayT hm hn hd]; exact h) (fun j hj => by rw [← has_rayT hm hn (by omega)]; exact hno j hj)
  have e8 : (d == 8) = false := by simp; omega
  rw [betweenN_nat hm hn, lineN_nat hm hn, betweenT, lineT, e, e8, rayN_nat hm hd, rayN_nat hn hd4, rayN_nat hm hd4, only_nat hm]
  exact ⟨rfl, rfl⟩
theorem between_miss {a b : Int} (hno : ∀ j : Nat, j < 8 → hasN (rayN a (j : Int)) b = false) : betweenN a b = 0 ∧ lineN a b = 0 := by
  by_cases h : (sq a && sq b) = true
  · rw [Bool.and_eq_true] at h
    obtain ⟨m, hm, rfl⟩ := nat_of_sq h.1
    obtain ⟨n, hn, rfl⟩ := nat_of_sq h.2
    have e : headT m n = 8 := head_miss (fun j hj => by rw [← has_rayT hm hn hj]; exact hno j hj)
    rw [betweenN_nat hm hn, lineN_nat hm hn, betweenT, lineT, e]
    exact ⟨rfl, rfl⟩
  · have h' : (sq a && sq b) = false := by simpa using h
    exact ⟨betweenN_no h', lineN_no h'⟩
end Go.Proofs.YtlhepfighelijaaDoor
