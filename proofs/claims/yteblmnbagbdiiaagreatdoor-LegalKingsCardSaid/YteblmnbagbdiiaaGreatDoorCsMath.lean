/-
 Plain functions of layer 14: homes, goals, what stands in the way of a castling, who may castle.
-/
import Derived.Test.YteblmnbagbdiiaaGreatDoorAtCheck
import Derived.Test.YteblmnbagbdiiaaGreatDoorAfAtR
import Derived.Test.YteblmnbagbdiiaaGreatDoorBoPut
import Derived.Test.YteblmnbagbdiiaaGreatDoorAfBaseK
import Derived.Test.YteblmnbagbdiiaaGreatDoorVaBaseB
import Derived.IntWalk
namespace Go.Proofs.YteblmnbagbdiiaaGreatDoor
open Go.RowKit
set_option linter.unusedVariables false
set_option linter.unusedSimpArgs false

def hmC (c : Int) : Int := bif c == 0 then 0 else 56
theorem hmC_rng (c : Int) : 0 ≤ hmC c ∧ hmC c ≤ 56 := by unfold hmC; cases c == 0 <;> simp
def atC (c s : Int) : Bool := decide (c ≤ 1) && (decide (hmC c ≤ s) && decide (s < hmC c + 8))
def sdC (c : Int) (m : Mv) : Int := bif m.ca && (!(m.f == m.t) && (atC c m.f && atC c m.t)) then (bif decide (m.f < m.t) then 0 else 1) else -1
def gkC (n : Int) : Int := bif n == 0 then 6 else 2
def grC (n : Int) : Int := bif n == 0 then 5 else 3
theorem sdC_at {c : Int} {m : Mv} (h : sdC c m ≠ -1) : m.ca = true ∧ m.f ≠ m.t ∧ c ≤ 1 ∧ hmC c ≤ m.f ∧ m.f < hmC c + 8 ∧ hmC c ≤ m.t ∧ m.t < hmC c + 8 := by
 unfold sdC at h
 cases g : (m.ca && (!(m.f == m.t) && (atC c m.f && atC c m.t)))
 ·rw [g] at h; exact absurd rfl h
 ·simp only [Bool.and_eq_true, Bool.not_eq_true', beq_eq_false_iff_ne] at g
  obtain ⟨g1, g2, g3, g4⟩ := g
  unfold atC at g3 g4
  simp only [Bool.and_eq_true, decide_eq_true_eq] at g3 g4
  exact ⟨g1, g2, g3.1, g3.2.1, g3.2.2, g4.2.1, g4.2.2⟩
def bdC (p : Nat → Int) (s : Int) : Bool := anyB p s (oth (p 78)) && !shelB p s (p 78)
def spL (a b : Int) : List Int := (List.range (max a b - min a b + 1).toNat).map fun (i : Nat) => min a b + (i : Int)
theorem spL_len (a b : Int) : ((spL a b).length : Int) = max a b - min a b + 1 := by unfold spL; rw [List.length_map, List.length_range]; omega
theorem spL_get {a b : Int} {i : Nat} (h : (i : Int) < max a b - min a b + 1) : (spL a b)[i]? = some (min a b + (i : Int)) := by
 unfold spL
 rw [List.getElem?_map, List.getElem?_range (by omega)]; rfl
def freeC (q : Nat → Int) (a b : Int) : Bool := (spL a b).all fun s => atZ q s == 0
def safeC (q : Nat → Int) (a b : Int) : Bool := (spL a b).all fun s => !bdC q s
def bareC (p : Nat → Int) (a b : Int) : Nat → Int := putP (putP p a 0) b 0
def mayC (p : Nat → Int) (m : Mv) : Bool :=
 freeC (bareC p m.f m.t) m.f (hmC (p 78) + gkC (sdC (p 78) m)) && (freeC (bareC p m.f m.t) m.t (hmC (p 78) + grC (sdC (p 78) m)) && safeC (bareC p m.f m.t) m.f (hmC (p 78) + gkC (sdC (p 78) m)))
def flC (p : Nat → Int) (n : Nat) : Int := p (79 + (p 78).toNat * 2 + n)
def mvC (p : Nat → Int) (n : Nat) : Mv := ⟨kingZ p (p 78), hmC (p 78) + flC p n, 0, 0, true⟩
def flB (p : Nat → Int) (n : Nat) : Bool := decide (0 ≤ flC p n) && decide (flC p n < 8)
def namC (p : Nat → Int) (n : Nat) : Bool := flB p n && (hasN (ofN p (p 78) 4) (hmC (p 78) + flC p n) && (sdC (p 78) (mvC p n) == (n : Int)))
def inC (p : Nat → Int) (n : Nat) : Bool := namC p n && mayC p (mvC p n)
def oneC (p : Nat → Int) (n : Nat) : List Mv := bif inC p n then [mvC p n] else []
def thC (p : Nat → Int) : Bool := decide (p 78 ≤ 1) && casB (p 0).toNat
def camL (p : Nat → Int) : List Mv := bif thC p then oneC p 1 ++ oneC p 0 else []
theorem first_rng (b : Nat) (hb : b < W64) : -1 ≤ firstN b ∧ firstN b ≤ 63 := by
 by_cases h : b = 0
 ·subst h; rw [firstN_zero]; omega
 ·obtain ⟨e, he, e2, _⟩ := first_spec h hb
  rw [e2]; omega
theorem king_rng (p : Nat → Int) (c : Int) : -1 ≤ kingZ p c ∧ kingZ p c ≤ 63 := first_rng _ (ofN_lt _ _ _)
theorem AtR.putP {p : Nat → Int} (h : AtR p) (s x : Int) (hx : 0 ≤ x ∧ x ≤ 255) : AtR (putP p s x) := by
 unfold Go.Proofs.YteblmnbagbdiiaaGreatDoor.putP
 cases putB s x
 ·exact h
 ·exact h.put _ _ hx
theorem putP_out {p : Nat → Int} {s x : Int} {i : Nat} (h : i = 0 ∨ 65 ≤ i) : putP p s x i = p i := by
 unfold putP putB
 cases g : sq s
 ·rfl
 ·obtain ⟨n, hn, rfl⟩ := nat_of_sq g
  cases mayPut x
  ·rfl
  ·exact upd_other _ _ _ _ (by rw [Int.toNat_natCast]; omega)
theorem AtR.bare {p : Nat → Int} (h : AtR p) (a b : Int) : AtR (bareC p a b) := (h.putP a 0 ⟨by decide, by decide⟩).putP b 0 ⟨by decide, by decide⟩
def glL : List Value := [.int .i64 6, .int .i64 5, .int .i64 2, .int .i64 3]
def TabGl (w : World) : Prop := w.rangeAt 3 0 glL
theorem TabGl.on {w w' : World} (h : TabGl w) (hb : Below w.heap.size w w') : TabGl w' := range_on h hb
theorem TabGl.king {w : World} (h : TabGl w) {n : Nat} (hn : n < 2) : w.cell? ⟨3, n * 2, none⟩ = some (.int .i64 (gkC (n : Int))) := by
 have := h (n * 2) (.int .i64 (gkC (n : Int))) (by
  rcases (by omega : n = 0 ∨ n = 1) with rfl | rfl
  ·rfl
  ·rfl)
 simpa using this
theorem TabGl.rook {w : World} (h : TabGl w) {n : Nat} (hn : n < 2) : w.cell? ⟨3, n * 2 + 1, none⟩ = some (.int .i64 (grC (n : Int))) := by
 have := h (n * 2 + 1) (.int .i64 (grC (n : Int))) (by
  rcases (by omega : n = 0 ∨ n = 1) with rfl | rfl
  ·rfl
  ·rfl)
 simpa using this
structure CsT (w : World) : Prop where
 db : TabDb w
 lead : TabLead w
 var : TabVar w
 gl : TabGl w
theorem CsT.on {w w' : World} (h : CsT w) (hb : Below w.heap.size w w') : CsT w' := ⟨h.db.next hb, h.lead.next hb, h.var.on hb, h.gl.on hb⟩
end Go.Proofs.YteblmnbagbdiiaaGreatDoor
