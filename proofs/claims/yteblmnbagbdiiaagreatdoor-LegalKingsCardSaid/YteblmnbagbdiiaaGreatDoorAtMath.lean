/-
 Plain mathematics of layer 8: what a piece of a color and a kind attacks; who attacks a square; both ways; whether there is nothing between two squares, step by step. Nothing of the program stands here.
-/
import Derived.Test.YteblmnbagbdiiaaGreatDoorAfSl
import Derived.Test.YteblmnbagbdiiaaGreatDoorVaBaseA
namespace Go.Proofs.YteblmnbagbdiiaaGreatDoor
set_option linter.unusedVariables false

def atkN (c : Int) (k : Nat) (s : Int) (occ : Nat) : Nat :=
 if k = 1 then pawnN c s else if k = 2 then knightN s else if k = 3 then bishN s occ else if k = 4 then rookN s occ else if k = 5 then queenN s occ else if k = 6 then kingN s else 0
theorem atkN_lt (c : Int) (k : Nat) (s : Int) (occ : Nat) : atkN c k s occ < W64 := by
 unfold atkN
 split; · exact pawnN_lt _ _
 split; · exact knightN_lt _
 split; · exact bishN_lt _ _
 split; · exact rookN_lt _ _
 split; · exact queenN_lt _ _
 split; · exact kingN_lt _
 decide
/-! Positions. -/
def oth (c : Int) : Int := (1 - c) % 256
def kdN (p : Nat → Int) (i : Nat) : Nat := (kndZ (p (1 + i))).toNat
def tellN (p : Nat → Int) (s c : Int) (k : Nat) : List Nat := (listN (ofN p c 0 &&& atkN (oth c) k s (occN p))).filter fun x => kndZ (atZ p (x : Int)) == (k : Int)
def attL (p : Nat → Int) (s c : Int) : Nat → List Nat
 | 0 => []
 | k + 1 => attL p s c k ++ tellN p s c k
def putL (l : List Nat) : Nat := ofList (l.map fun (x : Nat) => (x : Int))
theorem putL_snoc (l : List Nat) (x : Nat) : putL (l ++ [x]) = putN (putL l) (x : Int) := by unfold putL; rw [List.map_append]; exact ofList_snoc _ _
theorem putL_lt (l : List Nat) : putL l < W64 := ofList_lt _
theorem putL_testBit (l : List Nat) (i : Nat) (hi : i < 64) : (putL l).testBit i = decide (i ∈ l) := by
 unfold putL
 rw [ofList_testBit, decide_eq_decide]
 constructor
 ·rintro ⟨_, h⟩; obtain ⟨x, hx, e⟩ := List.mem_map.1 h; have : x = i := by omega
  exact this ▸ hx
 ·intro h; exact ⟨hi, List.mem_map.2 ⟨i, h, rfl⟩⟩
def byN (p : Nat → Int) (s c : Int) : Nat := putL (attL p s c 7)
theorem byN_lt (p : Nat → Int) (s c : Int) : byN p s c < W64 := putL_lt _
theorem atZ_nat (p : Nat → Int) {i : Nat} (hi : i < 64) : atZ p (i : Int) = if pcB (p (1 + i)) = true then p (1 + i) else 0 := by
 unfold atZ; rw [if_pos (sq_nat hi), Int.toNat_natCast]
theorem kind_at (p : Nat → Int) {i : Nat} (hi : i < 64) : kndZ (atZ p (i : Int)) = kndZ (p (1 + i)) := by
 rw [atZ_nat p hi]
 split
 ·rfl
 ·rename_i h; rw [kndZ_no (p := 0) (by decide), kndZ_no (by simpa using h)]
theorem mem_tell (p : Nat → Int) (s c : Int) (k i : Nat) : i ∈ tellN p s c k ↔ i < 64 ∧ ofB c 0 (p (1 + i)) = true ∧ (atkN (oth c) k s (occN p)).testBit i = true ∧ kndZ (p (1 + i)) = (k : Int) := by
 unfold tellN
 rw [List.mem_filter, mem_listN, Nat.testBit_and, Bool.and_eq_true, beq_iff_eq]
 constructor
 ·rintro ⟨⟨hi, h1, h2⟩, h3⟩; rw [ofN_testBit _ _ _ _ hi] at h1; rw [kind_at p hi] at h3; exact ⟨hi, h1, h2, h3⟩
 ·rintro ⟨hi, h1, h2, h3⟩; rw [ofN_testBit _ _ _ _ hi, kind_at p hi]; exact ⟨⟨hi, h1, h2⟩, h3⟩
theorem mem_att (p : Nat → Int) (s c : Int) (i : Nat) : ∀ n, i ∈ attL p s c n ↔ ∃ k, k < n ∧ i ∈ tellN p s c k
 | 0 => by simp [attL]
 | n + 1 => by
  rw [attL, List.mem_append, mem_att p s c i n]
  constructor
  ·rintro (⟨k, hk, h⟩ | h)
   ·exact ⟨k, by omega, h⟩
   ·exact ⟨n, by omega, h⟩
  ·rintro ⟨k, hk, h⟩
   by_cases e : k = n
   ·subst e; exact .inr h
   ·exact .inl ⟨k, by omega, h⟩
theorem byN_testBit (p : Nat → Int) (s c : Int) (i : Nat) (hi : i < 64) : (byN p s c).testBit i = (ofB c 0 (p (1 + i)) && (atkN (oth c) (kdN p i) s (occN p)).testBit i) := by
 unfold byN
 rw [putL_testBit _ _ hi, Bool.eq_iff_iff, decide_eq_true_eq, mem_att, Bool.and_eq_true]
 have hr := knd_rng (p (1 + i))
 constructor
 ·rintro ⟨k, hk, h⟩
  obtain ⟨_, h1, h2, h3⟩ := (mem_tell p s c k i).1 h
  refine ⟨h1, ?_⟩
  unfold kdN; rw [h3, Int.toNat_natCast]; exact h2
 ·rintro ⟨h1, h2⟩
  have hp : pcB (p (1 + i)) = true := by unfold ofB at h1; rw [Bool.and_eq_true] at h1; exact h1.1
  have hk : kndZ (p (1 + i)) ≤ 6 := by rw [kndZ_yes hp]; rw [pcB_true] at hp; omega
  exact ⟨kdN p i, by unfold kdN; omega, (mem_tell p s c _ i).2 ⟨hi, h1, h2, by unfold kdN; omega⟩⟩
/-! Step by step between two squares of a line. -/
end Go.Proofs.YteblmnbagbdiiaaGreatDoor
