/-
  Names of variants: the number of a name, told as the program does and as the law does; contracts of ByName and of the document's Name.
-/
import Derived.Test.YtigkbccpkepdmaaGreatDoorVaBaseB
namespace Go.Proofs.YtigkbccpkepdmaaGreatDoor
open Go.RowKit
set_option linter.unusedVariables false

/-- The first of the first k variants that has this name. -/
def byK (s : ByteArray) : Nat → Option Nat
  | 0 => none
  | k + 1 => match byK s k with
    | some j => some j
    | none => if nmZ k = s then some k else none
/-- The last one. -/
def lastK (s : ByteArray) : Nat → Option Nat
  | 0 => none
  | k + 1 => if nmZ k = s then some k else lastK s k
theorem last_no {s : ByteArray} {k : Nat} (h : nmZ k ≠ s) : lastK s (k + 1) = lastK s k := if_neg h
theorem last_yes {s : ByteArray} {k : Nat} (h : nmZ k = s) : lastK s (k + 1) = some k := if_pos h
def oN (o : Option Nat) : Int := (o.getD 0 : Nat)
def oB (o : Option Nat) : Bool := o.isSome
theorem byK_miss {s : ByteArray} : ∀ {k : Nat}, (∀ j, j < k → nmZ j ≠ s) → byK s k = none
  | 0, _ => rfl
  | k + 1, h => by
    unfold byK
    rw [byK_miss fun j hj => h j (by omega)]
    simp only
    rw [if_neg (h k (by omega))]
theorem byK_more {s : ByteArray} {k j : Nat} (h : byK s k = some j) : ∀ d, byK s (k + d) = some j
  | 0 => h
  | d + 1 => by
    show byK s (k + d + 1) = _
    unfold byK
    rw [byK_more h d]
theorem byK_hit {s : ByteArray} {k : Nat} (hk : k < 9) (hm : ∀ j, j < k → nmZ j ≠ s) (h : nmZ k = s) : byK s 9 = some k := by
  have h1 : byK s (k + 1) = some k := by
    unfold byK
    rw [byK_miss hm]
    simp only
    rw [if_pos h]
  have := byK_more h1 (9 - (k + 1))
  rwa [show k + 1 + (9 - (k + 1)) = 9 by omega] at this
theorem byK_is {s : ByteArray} : ∀ {k j : Nat}, byK s k = some j → j < k ∧ nmZ j = s
  | 0, j, h => by cases h
  | k + 1, j, h => by
    unfold byK at h
    cases hb : byK s k with
    | some i =>
      rw [hb] at h
      simp only [Option.some.injEq] at h
      subst h
      have := byK_is hb
      exact ⟨by omega, this.2⟩
    | none =>
      rw [hb] at h
      simp only at h
      by_cases e : nmZ k = s
      · rw [if_pos e] at h
        simp only [Option.some.injEq] at h
        subst h
        exact ⟨by omega, e⟩
      · rw [if_neg e] at h; cases h
theorem nm_inj {i j : Nat} (hi : i < 9) (hj : j < 9) (h : nmZ i = nmZ j) : i = j := by
  have key : ∀ i j : Fin 9, nmL i.val = nmL j.val → i.val = j.val := by decide +kernel
  refine key ⟨i, hi⟩ ⟨j, hj⟩ ?_
  have := congrArg (fun s : ByteArray => s.data.toList) h
  simpa [nmZ] using this
theorem nm_none {v : Nat} (h : 9 ≤ v) : nmZ v = ⟨#[]⟩ := by
  match v, h with
  | n + 9, _ => rfl
theorem nm_some {v : Nat} (h : v < 9) : nmZ v ≠ ⟨#[]⟩ := by
  have key : ∀ i : Fin 9, nmL i.val ≠ [] := by decide +kernel
  intro e
  have := congrArg (fun s : ByteArray => s.data.toList) e
  exact key ⟨v, h⟩ (by simpa [nmZ] using this)
theorem last_eq {s : ByteArray} : ∀ k, k ≤ 9 → lastK s k = byK s k
  | 0, _ => rfl
  | k + 1, hk => by
    unfold lastK byK
    rw [last_eq k (by omega)]
    cases hb : byK s k with
    | some j =>
      have := byK_is hb
      by_cases e : nmZ k = s
      · exact absurd (nm_inj (by omega) (by omega) (this.2.trans e.symm)) (by omega)
      · rw [if_neg e]
    | none => rfl
theorem by_name {v : Nat} (h : v < 9) : byK (nmZ v) 9 = some v := byK_hit h (fun j hj e => absurd (nm_inj (by omega) h e) (by omega)) rfl
theorem by_none : byK ⟨#[]⟩ 9 = none := byK_miss fun j hj => nm_some hj
def PairR (n : Int) (b : Bool) (w : World) (e : Ending) (w' : World) : Prop := e = .returned (.tuple #[.int .u8 n, .bool b]) ∧ Below w.heap.size w w'
theorem nm_cell (v : Nat) (h : v < 9) : #[Value.string (nmZ 0), .string (nmZ 1), .string (nmZ 2), .string (nmZ 3), .string (nmZ 4), .string (nmZ 5), .string (nmZ 6), .string (nmZ 7), .string (nmZ 8)][v]? = some (.string (nmZ v)) := by
  match v, h with
  | 0, _ => rfl
  | 1, _ => rfl
  | 2, _ => rfl
  | 3, _ => rfl
  | 4, _ => rfl
  | 5, _ => rfl
  | 6, _ => rfl
  | 7, _ => rfl
  | 8, _ => rfl
end Go.Proofs.YtigkbccpkepdmaaGreatDoor
