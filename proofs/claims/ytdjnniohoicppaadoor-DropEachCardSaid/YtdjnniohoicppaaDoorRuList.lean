/-
  Lists of numbers of one kind that a call makes by append.
-/
import Derived.Test.YtdjnniohoicppaaDoorArr
import Derived.OwnWalk
import Derived.Maps.AppendAt
import Derived.Deep.Onto
namespace Go.Proofs.YtdjnniohoicppaaDoor
open Go.RowKit
set_option linter.unusedVariables false
theorem infoI64 : (Tryd.prog.info? 3).map (fun i => (i.zero, i.size, i.bytes)) = some (some (.int .i64 0), 1, 8) := by kernel_rfl
theorem infoU8 : (Tryd.prog.info? 5).map (fun i => (i.zero, i.size, i.bytes)) = some (some (.int .u8 0), 1, 1) := by kernel_rfl
/-- A list of numbers as the cells of a row. -/
def rowK (K : IntKind) (l : List Nat) : List Value := l.map fun i : Nat => Value.int K (i : Int)
theorem rowK_snoc (K : IntKind) (l : List Nat) (k : Nat) : rowK K (l ++ [k]) = rowK K l ++ [.int K (k : Int)] := by simp [rowK]
/-- The value is a list of the call's own, made at or beyond block B. -/
def ListedK (K : IntKind) (e : TypeId) (B : Nat) (l : List Nat) (v : Value) (w : World) : Prop := w.ownsRow B e 1 v l.length (rowK K l)
theorem listedK_nil (K : IntKind) (e : TypeId) (B : Nat) (w : World) : ListedK K e B [] (.slice none 0 0) w := World.ownsRow_nil _ _ _ _
theorem listedK_grow {K : IntKind} {e : TypeId} {B : Nat} {l : List Nat} {v v' : Value} {k : Nat} {w wr w1 : World} {o : Obj} (h : ListedK K e B l v wr) (hb : Below B w wr) (hB : B ≤ wr.heap.size)
    (hown' : w1.ownsRow B e 1 v' (l.length + 1) (rowK K l ++ [.int K (k : Int)])) (hgrow : (wr.alloc o).grownBy w1 v.ownBlock) :
    ListedK K e B (l ++ [k]) v' w1 ∧ Below B w w1 := by
  refine ⟨?_, (hb.alloc hB o).grown hgrow (by simp; omega) (fun j hj => (h.lt j hj).1)⟩
  unfold ListedK
  rw [rowK_snoc]; simpa using hown'
theorem listedK_below {K : IntKind} {e : TypeId} {B : Nat} {l : List Nat} {v : Value} {w w' : World} (h : ListedK K e B l v w) (hb : Below w.heap.size w w') : ListedK K e B l v w' := by
  refine ⟨h.1, ?_⟩
  rcases h.2 with hn | ⟨g, cap, cur, hv, hB, hg, rest⟩
  · exact .inl hn
  · exact .inr ⟨g, cap, cur, hv, hB, (hb.block g (Array.getElem?_eq_some_iff.1 hg).1).trans hg, rest⟩
/-- A list that lies in a block of its own, cell by cell. -/
structure Lies (K : IntKind) (e : TypeId) (B : Nat) (l : List Nat) (v : Value) (g cap : Nat) (cur : Array Value) (w : World) : Prop where
  val : v = .slice (some ⟨g, 0, none⟩) l.length cap
  base : B ≤ g
  blk : Blk w g e cur
  room : l.length ≤ cap
  lim : cap ≤ maxLen
  size : cur.size = cap
  at_ : ∀ i (h : i < l.length), cur[i]? = some (.int K (l[i] : Nat))
theorem listedK_open {K : IntKind} {e : TypeId} {B : Nat} {l : List Nat} {v : Value} {w : World} (h : ListedK K e B l v w) (hl : 0 < l.length) : ∃ g cap cur, Lies K e B l v g cap cur w := by
  rcases h.2 with ⟨_, hn⟩ | ⟨g, cap, cur, hv, hB, hg, h1, h2, h3, h4⟩
  · omega
  · refine ⟨g, cap, cur, hv, hB, hg, h1, h2, by omega, fun i hi => ?_⟩
    have := congrArg (·[i]?) h4
    simp only [Nat.mul_one, List.getElem?_take_of_lt hi] at this
    have e : cur[i]? = cur.toList[i]? := by simp
    rw [e, this]
    simp [rowK, hi]
theorem listedK_none {K : IntKind} {e : TypeId} {B : Nat} {v : Value} {w : World} (h : ListedK K e B [] v w) : ∃ p cap, v = .slice p 0 cap := by
  rcases h.2 with ⟨hv, _⟩ | ⟨g, cap, cur, hv, _⟩
  · exact ⟨_, _, hv⟩
  · exact ⟨_, _, hv⟩
theorem Lies.cell {K : IntKind} {e : TypeId} {B g cap : Nat} {cur : Array Value} {l : List Nat} {v : Value} {w : World} (h : Lies K e B l v g cap cur w) (i : Nat) (hi : i < l.length) : w.cell? ⟨g, i, none⟩ = some (.int K (l[i] : Nat)) := by
  rw [h.blk.cell, h.at_ i hi]
theorem Lies.later {K : IntKind} {e : TypeId} {B g cap : Nat} {cur : Array Value} {l : List Nat} {v : Value} {w w' : World} (h : Lies K e B l v g cap cur w) (hb : Below w.heap.size w w') : Lies K e B l v g cap cur w' := { h with blk := h.blk.later hb }
theorem Lies.apart {K : IntKind} {e : TypeId} {B g cap c : Nat} {cur : Array Value} {l : List Nat} {v : Value} {w w' : World} (h : Lies K e B l v g cap cur w) (hu : Upd c w w') (hc : g ≠ c) : Lies K e B l v g cap cur w' := { h with blk := h.blk.apart hu hc }
/-- What a call that makes a list hands back. -/
def ListK (K : IntKind) (e : TypeId) (l : List Nat) (w : World) (en : Ending) (w' : World) : Prop := ∃ v, en = .returned v ∧ ListedK K e w.heap.size l v w' ∧ Below w.heap.size w w'
end Go.Proofs.YtdjnniohoicppaaDoor
