/-
  Contracts of the document's own Shift, Flip, Same.
-/
import Derived.Test.YtboopdmgphhemaaDoorStepRef
namespace Go.Proofs.YtboopdmgphhemaaDoor
open Go.RowKit

def U64Post (n : Nat) (w : World) (e : Ending) (w' : World) : Prop := e = .returned (.int .u64 (n : Int)) ∧ Below w.heap.size w w'

/-- The list lies in a block: its cells hold its numbers. -/
def Cells (B : Nat) (l : List Nat) (p : Option Addr) (w : World) : Prop :=
  0 < l.length → ∃ g, p = some ⟨g, 0, none⟩ ∧ B ≤ g ∧ g < w.heap.size ∧ ∀ k s, l[k]? = some s → w.cell? ⟨g, k, none⟩ = some (.int .i64 ((s : Nat) : Int)) ∧ w.frozen? ⟨g, k, none⟩ = false
theorem listed_open {B : Nat} {l : List Nat} {v : Value} {w : World} (h : Listed B l v w) : ∃ p cap, v = .slice p l.length cap ∧ Cells B l p w := by
  rcases h.2 with ⟨rfl, hn⟩ | ⟨g, cap, cur, rfl, hB, hg, h1, h2, h3, h4⟩
  · exact ⟨none, 0, by rw [hn], fun h0 => by omega⟩
  · refine ⟨_, cap, rfl, fun _ => ⟨g, rfl, hB, (Array.getElem?_eq_some_iff.1 hg).1, fun k s hk => ⟨?_, ?_⟩⟩⟩
    · have hc := h.cells (g := g) rfl k (.int .i64 ((s : Nat) : Int)) (by simp [rowOf, hk])
      have hadd : (⟨g, 0, none⟩ : Addr).add k = ⟨g, k, none⟩ := by unfold Addr.add; split <;> simp_all
      rwa [hadd] at hc
    · simp [World.frozen?, hg]
theorem Cells.later {B : Nat} {l : List Nat} {p : Option Addr} {w w' : World} (h : Cells B l p w) (hb : Below w.heap.size w w') : Cells B l p w' := by
  intro h0
  obtain ⟨g, h1, h2, h3, h4⟩ := h h0
  exact ⟨g, h1, h2, Nat.lt_of_lt_of_le h3 hb.size, fun k s hk => ⟨(hb.cell (p := ⟨g, k, none⟩) h3).trans (h4 k s hk).1, (hb.frozen (p := ⟨g, k, none⟩) h3).trans (h4 k s hk).2⟩⟩
theorem take_snoc {α : Type} (l : List α) (k : Nat) (s : α) (h : l[k]? = some s) : l.take (k + 1) = l.take k ++ [s] := by
  rw [List.take_add_one, h]; rfl
/-- The set after k rounds. -/
def accN (f : Int → Int) (l : List Nat) (k : Nat) : Nat := ofList ((l.take k).map fun i : Nat => f (i : Int))
theorem accN_lt (f : Int → Int) (l : List Nat) (k : Nat) : accN f l k < W64 := ofList_lt _
theorem accN_succ (f : Int → Int) (l : List Nat) (k s : Nat) (h : l[k]? = some s) : putN (accN f l k) (f (s : Int)) = accN f l (k + 1) := by
  unfold accN; rw [take_snoc l k s h, List.map_append, List.map_cons, List.map_nil, ofList_snoc]
theorem accN_all (f : Int → Int) (l : List Nat) : accN f l l.length = ofList (l.map fun i : Nat => f (i : Int)) := by
  unfold accN; rw [List.take_length]

theorem quiet_c {P : Program} {f : FuncId} {args : Array Value} {w : World} {n : Nat} {v : Value}
    (h : Calls P f args (w.drewN n) fun e w' => e = .returned v ∧ w.drewN n = w') : Calls P f args (w.drewN n) fun e w'' => e = .returned v ∧ ∃ m, w'' = w.drewN m :=
  h.mono fun _ _ ⟨he, hm⟩ => ⟨he, n, hm.symm⟩
end Go.Proofs.YtboopdmgphhemaaDoor
