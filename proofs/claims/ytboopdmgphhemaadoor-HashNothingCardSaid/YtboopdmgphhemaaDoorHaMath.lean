/-
  Plain functions of layer 9: the number of a part, of what stands, turns, passed, may castle, is held, was given, is promoted; the xor of a list; the number of a position.
-/
import Derived.Test.YtboopdmgphhemaaDoorSquare
import Derived.Test.YtboopdmgphhemaaDoorMathB
import Derived.Test.YtboopdmgphhemaaDoorPcMath
import Derived.Test.YtboopdmgphhemaaDoorPos
namespace Go.Proofs.YtboopdmgphhemaaDoor
open Go.RowKit
set_option linter.unusedVariables false

/-- What is mixed, below 2^64. -/
def rawN (t n : Int) : Nat := ((4096 * t + n + 11400714819323198485) % 18446744073709551616).toNat
def shN (k : Nat) : Nat := bif Nat.beq k 0 then 30 else bif Nat.beq k 1 then 27 else 31
def fcN (k : Nat) : Nat := bif Nat.beq k 0 then 13787848793156543929 else bif Nat.beq k 1 then 10723151780598845931 else 1
/-- One step of the mixing. -/
def stN (k x : Nat) : Nat := ((x ^^^ (x / 2 ^ shN k)) * fcN k) % W64
/-- After so many steps. -/
def mixN (x : Nat) : Nat → Nat
  | 0 => x
  | k + 1 => stN k (mixN x k)
/-- The number of a part. -/
def ptN (t n : Int) : Nat := mixN (rawN t n) 3
theorem rawN_lt (t n : Int) : rawN t n < W64 := by unfold rawN W64; omega
theorem stN_lt (k x : Nat) : stN k x < W64 := Nat.mod_lt _ (by decide)
theorem mixN_lt {x : Nat} (hx : x < W64) (k : Nat) : mixN x k < W64 := by
  cases k with
  | zero => exact hx
  | succ k => exact stN_lt _ _
theorem ptN_lt (t n : Int) : ptN t n < W64 := stN_lt _ _
theorem rawN_eq (t n : Int) : ((rawN t n : Nat) : Int) = (4096 * t + n + 11400714819323198485) % 18446744073709551616 := by unfold rawN; omega
theorem halfW_lt {x : Nat} (hx : x < W64) (k : Nat) : x / 2 ^ k < W64 := Nat.lt_of_le_of_lt (Nat.div_le_self _ _) hx
theorem xor_lt64 {a b : Nat} (ha : a < W64) (hb : b < W64) : a ^^^ b < W64 := Nat.xor_lt_two_pow (n := 64) ha hb
theorem xor_nat {a b : Nat} (ha : a < W64) (hb : b < W64) : bits .xor .u64 (a : Int) (b : Int) = ((a ^^^ b : Nat) : Int) := bits_xor_u64_nat a b ha hb

/-! The parts of the table. -/
def fileB (f : Int) : Bool := decide (0 ≤ f) && decide (f < 8)
def sideB (d : Int) : Bool := decide (0 ≤ d) && decide (d < 2)
def manB (k : Int) : Bool := decide (1 ≤ k) && decide (k ≤ 5)
def pieceN (x s : Int) : Nat := bif pcB x && sq s then ptN 1 (64 * x + s) else 0
def turnN (c : Int) : Nat := bif decide (c = 1) then ptN 2 0 else 0
def psgN (s : Int) : Nat := bif sq s then ptN 3 s else 0
def rookHN (c d f : Int) : Nat := bif decide (c ≤ 1) && sideB d && fileB f then ptN 4 (16 * (2 * c + d) + f) else 0
def pockN (c k n : Int) : Nat := bif decide (c ≤ 1) && manB k && !decide (n = 0) then ptN 5 (256 * (6 * c + k) + n) else 0
def chkHN (c n : Int) : Nat := bif decide (c ≤ 1) && !decide (n = 0) then ptN 6 (256 * c + n) else 0
theorem bif_lt {b : Bool} {x : Nat} (h : x < W64) : (bif b then x else 0) < W64 := by cases b; exact (by decide : 0 < W64); exact h
theorem pieceN_lt (x s : Int) : pieceN x s < W64 := bif_lt (ptN_lt _ _)
theorem turnN_lt (c : Int) : turnN c < W64 := bif_lt (ptN_lt _ _)
theorem psgN_lt (s : Int) : psgN s < W64 := bif_lt (ptN_lt _ _)
theorem rookHN_lt (c d f : Int) : rookHN c d f < W64 := bif_lt (ptN_lt _ _)
theorem pockN_lt (c k n : Int) : pockN c k n < W64 := bif_lt (ptN_lt _ _)
theorem chkHN_lt (c n : Int) : chkHN c n < W64 := bif_lt (ptN_lt _ _)

/-! The xor of a list. -/
def xorL (l : List Nat) : Nat := l.foldl (· ^^^ ·) 0
theorem xorL_snoc (l : List Nat) (x : Nat) : xorL (l ++ [x]) = xorL l ^^^ x := by simp [xorL]
theorem foldl_xor (l : List Nat) (a : Nat) : l.foldl (· ^^^ ·) a = a ^^^ xorL l := by
  induction l generalizing a with
  | nil => simp [xorL]
  | cons x l ih => unfold xorL at *; rw [List.foldl_cons, List.foldl_cons, ih, ih (0 ^^^ x), Nat.zero_xor, Nat.xor_assoc]
theorem xorL_nil : xorL [] = 0 := rfl
theorem xorL_cons (x : Nat) (l : List Nat) : xorL (x :: l) = x ^^^ xorL l := by
  have := foldl_xor l (0 ^^^ x); rw [Nat.zero_xor] at this
  unfold xorL at *; rw [List.foldl_cons, Nat.zero_xor]; exact this
theorem xorL_append (l m : List Nat) : xorL (l ++ m) = xorL l ^^^ xorL m := by
  induction l with
  | nil => simp [xorL_nil]
  | cons x l ih => rw [List.cons_append, xorL_cons, xorL_cons, ih, Nat.xor_assoc]
theorem xorL_lt {l : List Nat} (h : ∀ x, x ∈ l → x < W64) : xorL l < W64 := by
  induction l with
  | nil => exact (by decide : 0 < W64)
  | cons x l ih => rw [xorL_cons]; exact xor_lt64 (h x List.mem_cons_self) (ih fun y hy => h y (List.mem_cons_of_mem _ hy))
def promN (b : Nat) : Nat := xorL ((listN b).map fun s : Nat => ptN 7 (s : Int))
theorem promN_lt (b : Nat) : promN b < W64 := xorL_lt fun x hx => by
  obtain ⟨s, _, rfl⟩ := List.mem_map.1 hx; exact ptN_lt _ _

/-! The parts of a position, in the order in which they are told. -/
def boL (p : Nat → Int) : Nat → List Nat
  | 0 => []
  | s + 1 => boL p s ++ [pieceN (p (1 + s)) (s : Int)]
def roL (p : Nat → Int) (c : Nat) : Nat → List Nat
  | 0 => []
  | d + 1 => roL p c d ++ [rookHN (c : Int) (d : Int) (p (79 + c * 2 + d))]
def poL (p : Nat → Int) (c : Nat) : Nat → List Nat
  | 0 => []
  | k + 1 => poL p c k ++ [pockN (c : Int) (k : Int) (p (66 + c * 6 + k))]
/-- Those of one color. -/
def coL (p : Nat → Int) (c : Nat) : List Nat := roL p c 2 ++ poL p c 6 ++ [chkHN (c : Int) (p (84 + c))]
def vec4 (a b c d : Nat) : Nat → Nat
  | 0 => a
  | 1 => b
  | 2 => c
  | _ => d
def lastV (p : Nat → Int) (k : Nat) : Nat := vec4 (turnN (p 78)) (psgN (p 83)) (promN (p 65).toNat) (ptN 8 (p 0)) k
def laL (p : Nat → Int) : Nat → List Nat
  | 0 => []
  | k + 1 => laL p k ++ [lastV p k]
def coTo (p : Nat → Int) : Nat → List Nat
  | 0 => []
  | c + 1 => coTo p c ++ coL p c
def paL (p : Nat → Int) : List Nat := boL p 64 ++ coTo p 2 ++ laL p 4
def keyN (p : Nat → Int) : Nat := xorL (paL p)
theorem lastV_lt (p : Nat → Int) (k : Nat) : lastV p k < W64 := by
  unfold lastV vec4; split
  · exact turnN_lt _
  · exact psgN_lt _
  · exact promN_lt _
  · exact ptN_lt _ _
theorem mem_snoc {α : Type} {l : List α} {x y : α} (h : x ∈ l ++ [y]) : x ∈ l ∨ x = y := by simpa using h
theorem boL_lt (p : Nat → Int) : ∀ n, ∀ x, x ∈ boL p n → x < W64
  | 0, x, h => by cases h
  | n + 1, x, h => (mem_snoc h).elim (boL_lt p n x) (fun e => e ▸ pieceN_lt _ _)
theorem roL_lt (p : Nat → Int) (c : Nat) : ∀ n, ∀ x, x ∈ roL p c n → x < W64
  | 0, x, h => by cases h
  | n + 1, x, h => (mem_snoc h).elim (roL_lt p c n x) (fun e => e ▸ rookHN_lt _ _ _)
theorem poL_lt (p : Nat → Int) (c : Nat) : ∀ n, ∀ x, x ∈ poL p c n → x < W64
  | 0, x, h => by cases h
  | n + 1, x, h => (mem_snoc h).elim (poL_lt p c n x) (fun e => e ▸ pockN_lt _ _ _)
theorem laL_lt (p : Nat → Int) : ∀ n, ∀ x, x ∈ laL p n → x < W64
  | 0, x, h => by cases h
  | n + 1, x, h => (mem_snoc h).elim (laL_lt p n x) (fun e => e ▸ lastV_lt p n)
theorem coL_lt (p : Nat → Int) (c : Nat) (x : Nat) (h : x ∈ coL p c) : x < W64 := by
  unfold coL at h
  rcases mem_snoc h with h | rfl
  · rcases List.mem_append.1 h with h | h
    · exact roL_lt p c 2 x h
    · exact poL_lt p c 6 x h
  · exact chkHN_lt _ _
theorem coTo_lt (p : Nat → Int) : ∀ n, ∀ x, x ∈ coTo p n → x < W64
  | 0, x, h => by cases h
  | n + 1, x, h => (List.mem_append.1 h).elim (coTo_lt p n x) (coL_lt p n x)
theorem coTo_pre (p : Nat → Int) {k m : Nat} (h : k ≤ m) : coTo p k <+: coTo p m := by
  induction m with
  | zero => obtain rfl : k = 0 := by omega
            exact List.prefix_rfl
  | succ m ih =>
    by_cases e : k = m + 1
    · subst e; exact List.prefix_rfl
    · exact (ih (by omega)).trans (List.prefix_append _ _)
theorem paL_lt (p : Nat → Int) (x : Nat) (h : x ∈ paL p) : x < W64 := by
  unfold paL at h
  rcases List.mem_append.1 h with h | h
  · rcases List.mem_append.1 h with h | h
    · exact boL_lt p 64 x h
    · exact coTo_lt p 2 x h
  · exact laL_lt p 4 x h
theorem keyN_lt (p : Nat → Int) : keyN p < W64 := xorL_lt (paL_lt p)
theorem boL_pre (p : Nat → Int) {k m : Nat} (h : k ≤ m) : boL p k <+: boL p m := by
  induction m with
  | zero => obtain rfl : k = 0 := by omega
            exact List.prefix_rfl
  | succ m ih =>
    by_cases e : k = m + 1
    · subst e; exact List.prefix_rfl
    · exact (ih (by omega)).trans (List.prefix_append _ _)
theorem roL_pre (p : Nat → Int) (c : Nat) {k m : Nat} (h : k ≤ m) : roL p c k <+: roL p c m := by
  induction m with
  | zero => obtain rfl : k = 0 := by omega
            exact List.prefix_rfl
  | succ m ih =>
    by_cases e : k = m + 1
    · subst e; exact List.prefix_rfl
    · exact (ih (by omega)).trans (List.prefix_append _ _)
theorem poL_pre (p : Nat → Int) (c : Nat) {k m : Nat} (h : k ≤ m) : poL p c k <+: poL p c m := by
  induction m with
  | zero => obtain rfl : k = 0 := by omega
            exact List.prefix_rfl
  | succ m ih =>
    by_cases e : k = m + 1
    · subst e; exact List.prefix_rfl
    · exact (ih (by omega)).trans (List.prefix_append _ _)
theorem laL_pre (p : Nat → Int) {k m : Nat} (h : k ≤ m) : laL p k <+: laL p m := by
  induction m with
  | zero => obtain rfl : k = 0 := by omega
            exact List.prefix_rfl
  | succ m ih =>
    by_cases e : k = m + 1
    · subst e; exact List.prefix_rfl
    · exact (ih (by omega)).trans (List.prefix_append _ _)
end Go.Proofs.YtboopdmgphhemaaDoor
