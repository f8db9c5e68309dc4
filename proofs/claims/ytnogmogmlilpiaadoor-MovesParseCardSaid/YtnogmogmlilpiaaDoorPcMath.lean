/-
  Plain functions of layer 5: which numbers are pieces; the piece of a color and a kind; a piece's color, kind, letter; the piece of a text; the other color's piece.
-/
import Derived.Test.YtnogmogmlilpiaaDoorChecked
import Derived.WalkKit
import Derived.Lib.Hide
import Derived.Lib.Strings
namespace Go.Proofs.YtnogmogmlilpiaaDoor
open Go.RowKit

def pcB (p : Int) : Bool := (decide (1 ≤ p) && decide (p ≤ 6)) || (decide (9 ≤ p) && decide (p ≤ 14))
def mkB (c k : Int) : Bool := decide (c ≤ 1) && (decide (1 ≤ k) && decide (k ≤ 6))
def mkZ (c k : Int) : Int := bif mkB c k then 8 * c + k else 0
def colZ (p : Int) : Int := bif pcB p then p / 8 else 2
def kndZ (p : Int) : Int := bif pcB p then p % 8 else 0
def othZ (p : Int) : Int := bif pcB p then mkZ (1 - p / 8) (p % 8) else 0
/-- The letters of all numbers up to 14. -/
def letT : ByteArray := ⟨#[46, 80, 78, 66, 82, 81, 75, 46, 46, 112, 110, 98, 114, 113, 107]⟩
def letZ (p : Int) : ByteArray := bif pcB p then letT.extract p.toNat (p.toNat + 1) else ⟨#[]⟩
/-- The twelve pieces, in order. -/
def atP (k : Nat) : Int := bif decide (k < 6) then (k : Int) + 1 else (k : Int) + 3
def byteP (b : Nat) : Int := (List.range 12).foldl (fun n k => bif letT.data.toList[(atP k).toNat]? == some (UInt8.ofNat b) then atP k else n) 0
def prsZ (t : ByteArray) : Int := match t.data.toList with | [b] => byteP b.toNat | _ => 0
def prsB (t : ByteArray) : Bool := prsZ t != 0

theorem pcB_true {p : Int} : pcB p = true ↔ (1 ≤ p ∧ p ≤ 6) ∨ (9 ≤ p ∧ p ≤ 14) := by simp [pcB]
theorem pcB_false {p : Int} : pcB p = false ↔ p ≤ 0 ∨ p = 7 ∨ p = 8 ∨ 15 ≤ p := by
  have := @pcB_true p
  cases h : pcB p
  · rw [h] at this; simp at this; constructor
    · intro _; omega
    · intro _; rfl
  · have := this.1 h; constructor
    · intro x; cases x
    · intro _; omega
theorem mkB_true {c k : Int} : mkB c k = true ↔ c ≤ 1 ∧ 1 ≤ k ∧ k ≤ 6 := by simp [mkB]
theorem mkB_false {c k : Int} : mkB c k = false ↔ 1 < c ∨ k < 1 ∨ 6 < k := by
  have := @mkB_true c k
  cases h : mkB c k
  · rw [h] at this; simp at this; constructor
    · intro _; omega
    · intro _; rfl
  · have := this.1 h; constructor
    · intro x; cases x
    · intro _; omega
theorem mkZ_yes {c k : Int} (h : mkB c k = true) : mkZ c k = 8 * c + k := by simp [mkZ, h]
theorem mkZ_no {c k : Int} (h : mkB c k = false) : mkZ c k = 0 := by simp [mkZ, h]
theorem colZ_yes {p : Int} (h : pcB p = true) : colZ p = p / 8 := by simp [colZ, h]
theorem colZ_no {p : Int} (h : pcB p = false) : colZ p = 2 := by simp [colZ, h]
theorem kndZ_yes {p : Int} (h : pcB p = true) : kndZ p = p % 8 := by simp [kndZ, h]
theorem kndZ_no {p : Int} (h : pcB p = false) : kndZ p = 0 := by simp [kndZ, h]
theorem othZ_yes {p : Int} (h : pcB p = true) : othZ p = mkZ (1 - p / 8) (p % 8) := by simp [othZ, h]
theorem othZ_no {p : Int} (h : pcB p = false) : othZ p = 0 := by simp [othZ, h]
theorem letZ_yes {p : Int} (h : pcB p = true) : letZ p = letT.extract p.toNat (p.toNat + 1) := by simp [letZ, h]
theorem letZ_no {p : Int} (h : pcB p = false) : letZ p = ⟨#[]⟩ := by simp [letZ, h]
theorem is_mk {p : Int} (h0 : 0 ≤ p) : (mkZ (p / 8) (p % 8) != 0) = pcB p := by
  cases h : pcB p
  · rw [pcB_false] at h
    have : mkZ (p / 8) (p % 8) = 0 := mkZ_no (mkB_false.2 (by omega))
    rw [this]; rfl
  · rw [pcB_true] at h
    have : mkZ (p / 8) (p % 8) = 8 * (p / 8) + p % 8 := mkZ_yes (mkB_true.2 (by omega))
    rw [this]; simp; omega
theorem mk_rng (c k : Int) (h : 0 ≤ c) : 0 ≤ mkZ c k ∧ mkZ c k ≤ 14 := by
  cases e : mkB c k
  · rw [mkZ_no e]; omega
  · rw [mkZ_yes e]; rw [mkB_true] at e; omega
theorem mk_pc (c k : Int) (h : 0 ≤ c) (e : mkB c k = true) : pcB (mkZ c k) = true := by
  rw [mkZ_yes e]; rw [mkB_true] at e; rw [pcB_true]; omega
theorem col_rng (p : Int) : 0 ≤ colZ p ∧ colZ p ≤ 2 := by
  cases e : pcB p
  · rw [colZ_no e]; omega
  · rw [colZ_yes e]; rw [pcB_true] at e; omega
theorem knd_rng (p : Int) : 0 ≤ kndZ p ∧ kndZ p ≤ 7 := by
  cases e : pcB p
  · rw [kndZ_no e]; omega
  · rw [kndZ_yes e]; rw [pcB_true] at e; omega
theorem oth_rng (p : Int) : 0 ≤ othZ p ∧ othZ p ≤ 14 := by
  cases e : pcB p
  · rw [othZ_no e]; omega
  · rw [othZ_yes e]; rw [pcB_true] at e; exact mk_rng _ _ (by omega)
theorem u8_rng {a : Int} (h : (Lit.int .u8 a).wf = true) : 0 ≤ a ∧ a ≤ 255 := by
  simp [Lit.wf] at h
  have m : IntKind.u8.min = 0 := by decide
  have n : IntKind.u8.max = 255 := by decide
  omega
/-- A number of kind uint8, as one below 256. -/
theorem u8_of {p : Int} (h : (Lit.int .u8 p).wf = true) : ∃ n : Nat, n < 256 ∧ p = (n : Int) := by
  have := u8_rng h
  exact ⟨p.toNat, by omega, by omega⟩
theorem atP_pc {k : Nat} (h : k < 12) : pcB (atP k) = true := by
  have key : ∀ k : Fin 12, pcB (atP k.val) = true := by decide +kernel
  exact key ⟨k, h⟩
theorem pc_at {p : Int} (h : pcB p = true) : ∃ k : Nat, k < 12 ∧ p = atP k := by
  have key : ∀ n : Fin 15, pcB (n.val : Int) = true → ∃ k : Fin 12, (n.val : Int) = atP k.val := by decide +kernel
  rw [pcB_true] at h
  obtain ⟨n, rfl⟩ := Int.eq_ofNat_of_zero_le (show 0 ≤ p by omega)
  obtain ⟨k, hk⟩ := key ⟨n, by omega⟩ (pcB_true.2 h)
  exact ⟨k.val, k.isLt, hk⟩
theorem prs_letter {p : Int} (h : pcB p = true) : prsZ (letZ p) = p ∧ (letZ p).size = 1 := by
  have key : ∀ k : Fin 12, prsZ (letZ (atP k.val)) = atP k.val ∧ (letZ (atP k.val)).size = 1 := by decide +kernel
  obtain ⟨k, hk, rfl⟩ := pc_at h
  exact key ⟨k, hk⟩
theorem byteP_ok (b : Nat) (hb : b < 256) : byteP b = 0 ∨ (pcB (byteP b) = true ∧ letZ (byteP b) = ⟨#[UInt8.ofNat b]⟩) := by
  have key : ∀ b : Fin 256, byteP b.val = 0 ∨ (pcB (byteP b.val) = true ∧ letZ (byteP b.val) = ⟨#[UInt8.ofNat b.val]⟩) := by decide +kernel
  exact key ⟨b, hb⟩
theorem prs_cases (t : ByteArray) : prsZ t = 0 ∨ (pcB (prsZ t) = true ∧ letZ (prsZ t) = t) := by
  obtain ⟨⟨l⟩⟩ := t
  match l with
  | [] => exact .inl rfl
  | [b] =>
    have := byteP_ok b.toNat (UInt8.toNat_lt b)
    rw [show UInt8.ofNat b.toNat = b by simp] at this
    exact this
  | _ :: _ :: _ => exact .inl rfl
theorem prs_none (t : ByteArray) (h : ∀ k : Nat, k < 12 → letZ (atP k) ≠ t) : prsZ t = 0 := by
  rcases prs_cases t with e | ⟨e1, e2⟩
  · exact e
  · obtain ⟨k, hk, e⟩ := pc_at e1
    exact absurd (e ▸ e2) (h k hk)
theorem prs_hit (t : ByteArray) (k : Nat) (hk : k < 12) (h : letZ (atP k) = t) : prsZ t = atP k := by
  subst h; exact (prs_letter (atP_pc hk)).1
theorem prs_rng (t : ByteArray) : 0 ≤ prsZ t ∧ prsZ t ≤ 14 := by
  rcases prs_cases t with e | ⟨e1, _⟩
  · rw [e]; omega
  · rw [pcB_true] at e1; omega
theorem str_eq {a b : ByteArray} : (a.toList == b.toList) = true ↔ a = b := by
  rw [Lib.toList_data, Lib.toList_data, beq_iff_eq]
  constructor
  · intro h
    obtain ⟨⟨x⟩⟩ := a
    obtain ⟨⟨y⟩⟩ := b
    simp at h
    rw [h]
  · intro h; rw [h]
theorem str_ne {a b : ByteArray} : (a.toList == b.toList) = false ↔ a ≠ b := by
  have := @str_eq a b
  cases h : (a.toList == b.toList)
  · rw [h] at this; simp at this; exact ⟨fun _ => this, fun _ => rfl⟩
  · rw [h] at this; simp at this; exact ⟨(fun x => by cases x), (fun x => absurd this x)⟩
end Go.Proofs.YtnogmogmlilpiaaDoor
