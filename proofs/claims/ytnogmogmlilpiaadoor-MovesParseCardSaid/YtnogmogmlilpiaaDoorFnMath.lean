/-
  Plain functions of layer 10: texts as lists of bytes; a number in decimal digits.
-/
import Derived.Test.YtnogmogmlilpiaaDoorSqText
import Derived.Test.YtnogmogmlilpiaaDoorPcMath
import Derived.Test.YtnogmogmlilpiaaDoorBase
import Derived.Test.YtnogmogmlilpiaaDoorPos
import Derived.Test.YtnogmogmlilpiaaDoorMath
namespace Go.Proofs.YtnogmogmlilpiaaDoor
open Go.RowKit
set_option linter.unusedVariables false

/-- A text of these bytes. -/
def bz (l : List UInt8) : ByteArray := ⟨l.toArray⟩
theorem bz_size (l : List UInt8) : (bz l).size = l.length := by simp [bz, ByteArray.size]
theorem bz_app (a b : List UInt8) : bz a ++ bz b = bz (a ++ b) := by
  apply ByteArray.ext
  simp [bz, ByteArray.data_append]
theorem bz_inj {a b : List UInt8} (h : bz a = bz b) : a = b := by
  have := congrArg (fun t : ByteArray => t.data.toList) h
  simpa [bz] using this
theorem bz_of (t : ByteArray) : bz t.data.toList = t := by
  apply ByteArray.ext; simp [bz]
theorem bz_toList (l : List UInt8) : (bz l).toList = l := by rw [Lib.toList_data]; simp [bz]
theorem bz_none (t : ByteArray) : t ++ bz [] = t := by
  have h : bz t.data.toList = t := bz_of t
  rw [← h, bz_app, List.append_nil]
theorem bz_assoc (a b c : ByteArray) : a ++ b ++ c = a ++ (b ++ c) := by
  have h1 := bz_of a
  have h2 := bz_of b
  have h3 := bz_of c
  rw [← h1, ← h2, ← h3, bz_app, bz_app, bz_app, bz_app, List.append_assoc]
theorem bz_nil : bz [] = ⟨#[]⟩ := rfl

/-- The byte of a number. -/
def byZ (x : Int) : UInt8 := UInt8.ofNat x.toNat
/-- The last digit. -/
def dgZ (n : Nat) : UInt8 := byZ (48 + (n : Int) % 10)
/-- The digits of a number, in so many rounds at most. -/
def digF : Nat → Nat → List UInt8
  | 0, _ => []
  | f + 1, n => bif decide (n < 10) then [dgZ n] else digF f (n / 10) ++ [dgZ n]
def digL (n : Nat) : List UInt8 := digF 20 n
theorem digF_small {f n : Nat} (h : n < 10) : digF (f + 1) n = [dgZ n] := by
  unfold digF; rw [decide_eq_true h]; rfl
theorem digF_great {f n : Nat} (h : 10 ≤ n) : digF (f + 1) n = digF f (n / 10) ++ [dgZ n] := by
  rw [digF.eq_2, decide_eq_false (show ¬ n < 10 by omega)]; rfl
theorem digF_more : ∀ (f n : Nat), n < 10 ^ (f + 1) → digF (f + 2) n = digF (f + 1) n
  | 0, n, h => by rw [digF_small (by omega), digF_small (by omega)]
  | f + 1, n, h => by
    by_cases hn : n < 10
    · rw [digF_small hn, digF_small hn]
    · rw [digF_great (f := f + 2) (n := n) (by omega), digF_great (f := f + 1) (n := n) (by omega), digF_more f (n / 10) (by rw [Nat.pow_succ] at h; omega)]
theorem digF_len : ∀ (f n : Nat), (digF f n).length ≤ f
  | 0, n => Nat.le_refl _
  | f + 1, n => by
    by_cases hn : n < 10
    · rw [digF_small hn]; simp
    · rw [digF_great (by omega)]; have := digF_len f (n / 10); simp; omega
theorem digL_small {n : Nat} (h : n < 10) : digL n = [dgZ n] := digF_small h
theorem digL_great {n : Nat} (h : 10 ≤ n) (hn : n < 10 ^ 19) : digL n = digL (n / 10) ++ [dgZ n] := by
  unfold digL
  rw [digF_great (f := 19) h, digF_more 18 (n / 10) (Nat.lt_of_le_of_lt (Nat.div_le_self _ _) hn)]
theorem digL_len (n : Nat) : (digL n).length ≤ 20 := digF_len 20 n
theorem digL_ne (n : Nat) : digL n ≠ [] := by
  unfold digL
  by_cases h : n < 10
  · rw [digF_small h]; simp
  · rw [digF_great (by omega)]; simp
/-- What comes out, when s is there already, and m is still to come. -/
def finL (m : Nat) (s : List UInt8) : List UInt8 := bif s.isEmpty || decide (0 < m) then digL m ++ s else s
theorem finL_nil (m : Nat) : finL m [] = digL m := by unfold finL; simp
theorem finL_step {m : Nat} {s : List UInt8} (hm : m < 10 ^ 19) (h : (s.isEmpty || decide (0 < m)) = true) : finL (m / 10) (dgZ m :: s) = finL m s := by
  unfold finL
  rw [h]
  by_cases h10 : m < 10
  · rw [show m / 10 = 0 by omega, digL_small h10]; rfl
  · rw [show ((dgZ m :: s).isEmpty || decide (0 < m / 10)) = true by
      rw [List.isEmpty_cons, Bool.false_or, decide_eq_true (show 0 < m / 10 by omega)]]
    show digL (m / 10) ++ (dgZ m :: s) = digL m ++ s
    rw [digL_great (by omega) hm, List.append_assoc]; rfl
theorem finL_len (m : Nat) (s : List UInt8) : s.length ≤ (finL m s).length := by
  unfold finL; cases (s.isEmpty || decide (0 < m))
  · exact Nat.le_refl _
  · simp
theorem finL_done {m : Nat} {s : List UInt8} (h : (s.isEmpty || decide (0 < m)) = false) : finL m s = s := by unfold finL; rw [h]; rfl

/-! A rank. -/
/-- A piece's letter. -/
def leF (x : Int) : List UInt8 := (letZ x).data.toList
theorem leF_bz (x : Int) : letZ x = bz (leF x) := (bz_of _).symm
/-- What stands on a square: its letter, and a mark behind it if it is promoted. -/
def clL (p : Nat → Int) (s : Nat) : List UInt8 := leF (p (1 + s)) ++ (bif hasN (p 65).toNat (s : Int) then [126] else [])
/-- So many empty squares. -/
def emL2 (e : Nat) : List UInt8 := bif decide (0 < e) then digL e else []
/-- The text of the first f squares of a rank, but for the empty ones at its end; how many these are. -/
def rkS (p : Nat → Int) (r : Nat) : Nat → List UInt8 × Nat
  | 0 => ([], 0)
  | f + 1 => bif p (1 + (8 * r + f)) == 0 then ((rkS p r f).1, (rkS p r f).2 + 1) else ((rkS p r f).1 ++ emL2 (rkS p r f).2 ++ clL p (8 * r + f), 0)
def rkL (p : Nat → Int) (r : Nat) : List UInt8 := (rkS p r 8).1 ++ emL2 (rkS p r 8).2
theorem rkS_empty {p : Nat → Int} {r f : Nat} (h : (p (1 + (8 * r + f)) == 0) = true) : rkS p r (f + 1) = ((rkS p r f).1, (rkS p r f).2 + 1) := by
  rw [rkS, h]; rfl
theorem rkS_piece {p : Nat → Int} {r f : Nat} (h : (p (1 + (8 * r + f)) == 0) = false) : rkS p r (f + 1) = ((rkS p r f).1 ++ emL2 (rkS p r f).2 ++ clL p (8 * r + f), 0) := by
  rw [rkS, h]; rfl
theorem leF_len (x : Int) : (leF x).length ≤ 1 := by
  cases h : pcB x
  · unfold leF; rw [letZ_no h]; decide
  · have : x = 1 ∨ x = 2 ∨ x = 3 ∨ x = 4 ∨ x = 5 ∨ x = 6 ∨ x = 9 ∨ x = 10 ∨ x = 11 ∨ x = 12 ∨ x = 13 ∨ x = 14 := by rw [pcB_true] at h; omega
    rcases this with rfl | rfl | rfl | rfl | rfl | rfl | rfl | rfl | rfl | rfl | rfl | rfl <;> decide +kernel
theorem clL_len (p : Nat → Int) (s : Nat) : (clL p s).length ≤ 2 := by
  unfold clL; have := leF_len (p (1 + s)); cases hasN (p 65).toNat (s : Int) <;> simp <;> omega
theorem emL2_len (e : Nat) : (emL2 e).length ≤ 20 := by
  unfold emL2; cases decide (0 < e)
  · simp
  · exact digL_len e
theorem rkS_len (p : Nat → Int) (r : Nat) : ∀ f, (rkS p r f).1.length ≤ 22 * f ∧ (rkS p r f).2 ≤ f
  | 0 => ⟨Nat.le_refl _, Nat.le_refl _⟩
  | f + 1 => by
    obtain ⟨h1, h2⟩ := rkS_len p r f
    cases h : (p (1 + (8 * r + f)) == 0)
    · rw [rkS_piece h]
      have a := emL2_len (rkS p r f).2
      have b := clL_len p (8 * r + f)
      simp; omega
    · rw [rkS_empty h]; exact ⟨Nat.le_trans h1 (by omega), Nat.succ_le_succ h2⟩
theorem rkL_len (p : Nat → Int) (r : Nat) : (rkL p r).length ≤ 200 := by
  have h1 := rkS_len p r 8
  have h2 := emL2_len (rkS p r 8).2
  unfold rkL; simp; omega

/-! The rooks that may castle. -/
def rkF (c d : Nat) (f : Int) : Int := (bif (d == 0) && (f == 7) then 75 else bif (d == 1) && (f == 0) then 81 else 65 + f) + (bif c == 1 then 32 else 0)
def rfL (c d : Nat) (f : Int) : List UInt8 := bif decide (f < 0) then [] else [byZ (rkF c d f)]
def rdL (p : Nat → Int) (c : Nat) : Nat → List UInt8
  | 0 => []
  | d + 1 => rdL p c d ++ rfL c d (p (79 + c * 2 + d))
def rcL (p : Nat → Int) : Nat → List UInt8
  | 0 => []
  | c + 1 => rcL p c ++ rdL p c 2
def roT (p : Nat → Int) : List UInt8 := bif (rcL p 2).isEmpty then [45] else rcL p 2
theorem rfL_len (c d : Nat) (f : Int) : (rfL c d f).length ≤ 1 := by unfold rfL; cases decide (f < 0) <;> simp
theorem rdL_len (p : Nat → Int) (c : Nat) : ∀ d, (rdL p c d).length ≤ d
  | 0 => Nat.le_refl _
  | d + 1 => by have h := rdL_len p c d; have g := rfL_len c d (p (79 + c * 2 + d)); rw [rdL, List.length_append]; omega
theorem rcL_len (p : Nat → Int) : ∀ c, (rcL p c).length ≤ 2 * c
  | 0 => Nat.le_refl _
  | c + 1 => by have h := rcL_len p c; have g := rdL_len p c 2; rw [rcL, List.length_append]; omega

/-! The pockets. -/
def pkN (c k : Nat) : Nat → List UInt8
  | 0 => []
  | n + 1 => pkN c k n ++ leF (mkZ (c : Int) (k : Int))
def pkK (p : Nat → Int) (c : Nat) : Nat → List UInt8
  | 0 => []
  | k + 1 => pkK p c k ++ pkN c k (p (66 + c * 6 + k)).toNat
def pkC (p : Nat → Int) : Nat → List UInt8
  | 0 => []
  | c + 1 => pkC p c ++ pkK p c 6
def ptC (p : Nat → Int) (c : Nat) : List UInt8 := 91 :: pkC p c
def ptK (p : Nat → Int) (c k : Nat) : List UInt8 := ptC p c ++ pkK p c k
def ptS (p : Nat → Int) (c k n : Nat) : List UInt8 := ptK p c k ++ pkN c k n
def poT (p : Nat → Int) : List UInt8 := ptC p 2 ++ [93]
theorem ptC_zero (p : Nat → Int) (c : Nat) : ptC p c = ptK p c 0 := (List.append_nil _).symm
theorem ptK_zero (p : Nat → Int) (c k : Nat) : ptK p c k = ptS p c k 0 := (List.append_nil _).symm
theorem ptS_succ (p : Nat → Int) (c k n : Nat) : ptS p c k (n + 1) = ptS p c k n ++ leF (mkZ (c : Int) (k : Int)) := by unfold ptS; rw [pkN, List.append_assoc]
theorem ptK_succ (p : Nat → Int) (c k n : Nat) (h : n = (p (66 + c * 6 + k)).toNat) : ptK p c (k + 1) = ptS p c k n := by unfold ptK ptS ptK; rw [pkK, List.append_assoc, h]
theorem ptC_succ (p : Nat → Int) (c : Nat) : ptC p (c + 1) = ptK p c 6 := rfl
theorem pkN_len (c k : Nat) : ∀ n, (pkN c k n).length ≤ n
  | 0 => Nat.le_refl _
  | n + 1 => by have h := pkN_len c k n; have g := leF_len (mkZ (c : Int) (k : Int)); rw [pkN, List.length_append]; omega
theorem pkK_len {p : Nat → Int} (hp : ∀ i, 66 ≤ i → i < 78 → 0 ≤ p i ∧ p i ≤ 255) {c : Nat} (hc : c < 2) : ∀ k, k ≤ 6 → (pkK p c k).length ≤ 255 * k
  | 0, _ => Nat.le_refl _
  | k + 1, hk => by
    have h := pkK_len hp hc k (by omega)
    have g := pkN_len c k (p (66 + c * 6 + k)).toNat
    have b := hp (66 + c * 6 + k) (by omega) (by omega)
    rw [pkK, List.length_append]; omega
theorem pkC_len {p : Nat → Int} (hp : ∀ i, 66 ≤ i → i < 78 → 0 ≤ p i ∧ p i ≤ 255) : ∀ c, c ≤ 2 → (pkC p c).length ≤ 1530 * c
  | 0, _ => Nat.le_refl _
  | c + 1, hc => by
    have h := pkC_len hp c (by omega)
    have g := pkK_len hp (show c < 2 by omega) 6 (by omega)
    rw [pkC, List.length_append]; omega
theorem ptS_len {p : Nat → Int} (hp : ∀ i, 66 ≤ i → i < 78 → 0 ≤ p i ∧ p i ≤ 255) {c k n : Nat} (hc : c < 2) (hk : k < 6) (hn : n ≤ 255) : (ptS p c k n).length ≤ 5000 := by
  have h1 := pkC_len hp c (by omega)
  have h2 := pkK_len hp hc k (by omega)
  have h3 := pkN_len c k n
  unfold ptS ptK ptC
  simp only [List.length_append, List.length_cons]
  omega
theorem ptC_len {p : Nat → Int} (hp : ∀ i, 66 ≤ i → i < 78 → 0 ≤ p i ∧ p i ≤ 255) : (ptC p 2).length ≤ 5000 := by
  have h1 := pkC_len hp 2 (by omega)
  unfold ptC; rw [List.length_cons]; omega
theorem fn_u8 {k : Nat} (h : k < 6) : IntKind.u8.wrap (k : Int) = (k : Int) := by
  have : k = 0 ∨ k = 1 ∨ k = 2 ∨ k = 3 ∨ k = 4 ∨ k = 5 := by omega
  rcases this with rfl | rfl | rfl | rfl | rfl | rfl <;> rfl
end Go.Proofs.YtnogmogmlilpiaaDoor
