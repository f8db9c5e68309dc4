/-
  Plain functions of layer 2: which numbers are squares, files, ranks; a square's file, rank, text; the square of a text; how far two are apart; flipped.
-/
import Derived.Test.YtnogmogmlilpiaaDoorChecked
import Derived.WalkKit
import Derived.Lib.Hide
import Derived.Deep.QuietTactic
import Derived.BigQuiet
namespace Go.Proofs.YtnogmogmlilpiaaDoor
open Go.RowKit

def sqB (s : Int) : Bool := decide (0 ≤ s) && decide (s < 64)
def lnB (n : Int) : Bool := decide (0 ≤ n) && decide (n < 8)
def fileZ (s : Int) : Int := bif sqB s then s % 8 else -1
def rankZ (s : Int) : Int := bif sqB s then s / 8 else -1
def ofOk (f r : Int) : Bool := lnB f && lnB r
def ofZ (f r : Int) : Int := bif ofOk f r then 8 * r + f else 0
def byteAt (t : ByteArray) (i : Nat) : Int := match t.data[i]? with | some b => (b.toNat : Int) | none => -1
def two (x y : Nat) : ByteArray := ⟨#[UInt8.ofNat x, UInt8.ofNat y]⟩
def textZ (s : Int) : ByteArray := bif sqB s then two (97 + (s % 8).toNat) (49 + (s / 8).toNat) else ⟨#[]⟩
def parseOk (t : ByteArray) : Bool := decide (t.size = 2) && ofOk (byteAt t 0 - 97) (byteAt t 1 - 49)
def parseZ (t : ByteArray) : Int := bif decide (t.size = 2) then ofZ (byteAt t 0 - 97) (byteAt t 1 - 49) else 0
def gapZ (a b : Int) : Int := if a < b then b - a else a - b
def distZ (a b : Int) : Int := bif sqB a && sqB b then (if gapZ (a / 8) (b / 8) < gapZ (a % 8) (b % 8) then gapZ (a % 8) (b % 8) else gapZ (a / 8) (b / 8)) else -1
def flipZ (s : Int) : Int := bif sqB s then 8 * (7 - s / 8) + s % 8 else -1

theorem sqB_true {s : Int} : sqB s = true ↔ 0 ≤ s ∧ s < 64 := by simp [sqB]
theorem sqB_false {s : Int} : sqB s = false ↔ s < 0 ∨ 64 ≤ s := by
  have := @sqB_true s
  cases h : sqB s
  · rw [h] at this; simp at this; constructor
    · intro _; omega
    · intro _; rfl
  · have := this.1 h; constructor
    · intro x; cases x
    · intro _; omega
theorem lnB_true {s : Int} : lnB s = true ↔ 0 ≤ s ∧ s < 8 := by simp [lnB]
theorem lnB_false {s : Int} : lnB s = false ↔ s < 0 ∨ 8 ≤ s := by
  have := @lnB_true s
  cases h : lnB s
  · rw [h] at this; simp at this; constructor
    · intro _; omega
    · intro _; rfl
  · have := this.1 h; constructor
    · intro x; cases x
    · intro _; omega
theorem fileZ_yes {s : Int} (h : sqB s = true) : fileZ s = s % 8 := by simp [fileZ, h]
theorem fileZ_no {s : Int} (h : sqB s = false) : fileZ s = -1 := by simp [fileZ, h]
theorem rankZ_yes {s : Int} (h : sqB s = true) : rankZ s = s / 8 := by simp [rankZ, h]
theorem rankZ_no {s : Int} (h : sqB s = false) : rankZ s = -1 := by simp [rankZ, h]
theorem textZ_yes {s : Int} (h : sqB s = true) : textZ s = two (97 + (s % 8).toNat) (49 + (s / 8).toNat) := by simp [textZ, h]
theorem textZ_no {s : Int} (h : sqB s = false) : textZ s = ⟨#[]⟩ := by simp [textZ, h]
theorem ofZ_yes {f r : Int} (h : ofOk f r = true) : ofZ f r = 8 * r + f := by simp [ofZ, h]
theorem ofZ_no {f r : Int} (h : ofOk f r = false) : ofZ f r = 0 := by simp [ofZ, h]
theorem ofOk_true {f r : Int} : ofOk f r = true ↔ (0 ≤ f ∧ f < 8) ∧ 0 ≤ r ∧ r < 8 := by simp [ofOk, lnB]
theorem flipZ_yes {s : Int} (h : sqB s = true) : flipZ s = 8 * (7 - s / 8) + s % 8 := by simp [flipZ, h]
theorem flipZ_no {s : Int} (h : sqB s = false) : flipZ s = -1 := by simp [flipZ, h]
theorem distZ_no {a b : Int} (h : (sqB a && sqB b) = false) : distZ a b = -1 := by simp [distZ, h]
theorem distZ_yes {a b : Int} (h : (sqB a && sqB b) = true) : distZ a b = (if gapZ (a / 8) (b / 8) < gapZ (a % 8) (b % 8) then gapZ (a % 8) (b % 8) else gapZ (a / 8) (b / 8)) := by simp [distZ, h]
theorem fileZ_rng (s : Int) : -1 ≤ fileZ s ∧ fileZ s ≤ 7 := by
  cases h : sqB s
  · rw [fileZ_no h]; omega
  · rw [fileZ_yes h]; omega
theorem rankZ_rng (s : Int) : -1 ≤ rankZ s ∧ rankZ s ≤ 7 := by
  cases h : sqB s
  · rw [rankZ_no h]; omega
  · rw [rankZ_yes h]; rw [sqB_true] at h; omega
theorem ofOk_back {s : Int} (h : sqB s = true) : ofOk (s % 8) (s / 8) = true := by rw [sqB_true] at h; rw [ofOk_true]; omega
theorem ofZ_back {s : Int} (h : sqB s = true) : ofZ (s % 8) (s / 8) = s := by rw [ofZ_yes (ofOk_back h)]; omega
theorem of_sq {f r : Int} (h : ofOk f r = true) : sqB (ofZ f r) = true := by rw [ofZ_yes h]; rw [ofOk_true] at h; rw [sqB_true]; omega
theorem of_file {f r : Int} (h : ofOk f r = true) : fileZ (ofZ f r) = f := by
  rw [fileZ_yes (of_sq h), ofZ_yes h]; rw [ofOk_true] at h; omega
theorem of_rank {f r : Int} (h : ofOk f r = true) : rankZ (ofZ f r) = r := by
  rw [rankZ_yes (of_sq h), ofZ_yes h]; rw [ofOk_true] at h; omega
theorem parse_text (s : Int) (h : sqB s = true) : parseOk (textZ s) = true ∧ parseZ (textZ s) = s ∧ (textZ s).size = 2 := by
  have key : ∀ n : Fin 64, parseOk (textZ (n.val : Int)) = true ∧ parseZ (textZ (n.val : Int)) = (n.val : Int) ∧ (textZ (n.val : Int)).size = 2 := by decide +kernel
  rw [sqB_true] at h
  obtain ⟨n, rfl⟩ := Int.eq_ofNat_of_zero_le h.1
  exact key ⟨n, by omega⟩
theorem two_of {t : ByteArray} (h : t.size = 2) : ∃ x y : UInt8, t = ⟨#[x, y]⟩ := by
  obtain ⟨⟨l⟩⟩ := t
  match l, h with
  | [x, y], _ => exact ⟨x, y, rfl⟩
theorem text_parse {t : ByteArray} (h : parseOk t = true) : textZ (parseZ t) = t ∧ sqB (parseZ t) = true := by
  have h0 := h
  simp only [parseOk, Bool.and_eq_true, decide_eq_true_eq] at h
  obtain ⟨h1, h2⟩ := h
  obtain ⟨x, y, rfl⟩ := two_of h1
  have ez : parseZ ⟨#[x, y]⟩ = ofZ (byteAt ⟨#[x, y]⟩ 0 - 97) (byteAt ⟨#[x, y]⟩ 1 - 49) := by simp [parseZ, h1]
  have hs := of_sq h2
  rw [ez]
  refine ⟨?_, hs⟩
  have hz := ofZ_yes h2
  rw [textZ_yes hs, hz]
  rw [ofOk_true] at h2
  have bx : byteAt ⟨#[x, y]⟩ 0 = (x.toNat : Int) := rfl
  have by' : byteAt ⟨#[x, y]⟩ 1 = (y.toNat : Int) := rfl
  rw [bx, by'] at h2 ⊢
  have e1 : 97 + ((8 * ((y.toNat : Int) - 49) + ((x.toNat : Int) - 97)) % 8).toNat = x.toNat := by omega
  have e2 : 49 + ((8 * ((y.toNat : Int) - 49) + ((x.toNat : Int) - 97)) / 8).toNat = y.toNat := by omega
  rw [e1, e2]
  simp [two]
theorem parse_none {t : ByteArray} (h : parseOk t = false) : parseZ t = 0 := by
  unfold parseZ
  unfold parseOk at h
  cases e : decide (t.size = 2)
  · rfl
  · rw [e] at h
    exact ofZ_no (by simpa using h)
theorem parse_empty : parseOk ⟨#[]⟩ = false := by decide
end Go.Proofs.YtnogmogmlilpiaaDoor
