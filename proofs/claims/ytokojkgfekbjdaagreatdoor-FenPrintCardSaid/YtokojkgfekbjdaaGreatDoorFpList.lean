/-
  Lists of texts that a call makes by append.
-/
import Derived.Test.YtokojkgfekbjdaaGreatDoorRuList
import Derived.Test.YtokojkgfekbjdaaGreatDoorFpShelf
namespace Go.Proofs.YtokojkgfekbjdaaGreatDoor
open Go.RowKit
set_option linter.unusedVariables false
theorem infoStr : (Tryz.prog.info? 9).map (fun i => (i.zero, i.size, i.bytes)) = some (some (.string ⟨#[]⟩), 1, 16) := by kernel_rfl
def rowS (ls : List (List UInt8)) : List Value := ls.map fun l => Value.string (bz l)
theorem rowS_snoc (ls : List (List UInt8)) (l : List UInt8) : rowS (ls ++ [l]) = rowS ls ++ [.string (bz l)] := by simp [rowS]
/-- The value is a list of texts of the call's own, made at or beyond block B. -/
def ListedS (e : TypeId) (B : Nat) (ls : List (List UInt8)) (v : Value) (w : World) : Prop := w.ownsRow B e 1 v ls.length (rowS ls)
theorem listedS_nil (e : TypeId) (B : Nat) (w : World) : ListedS e B [] (.slice none 0 0) w := World.ownsRow_nil _ _ _ _
theorem listedS_grow {e : TypeId} {B : Nat} {ls : List (List UInt8)} {v v' : Value} {l : List UInt8} {w wr w1 : World} {o : Obj} (h : ListedS e B ls v wr) (hb : Below B w wr) (hB : B ≤ wr.heap.size)
    (hown' : w1.ownsRow B e 1 v' (ls.length + 1) (rowS ls ++ [.string (bz l)])) (hgrow : (wr.alloc o).grownBy w1 v.ownBlock) :
    ListedS e B (ls ++ [l]) v' w1 ∧ Below B w w1 := by
  refine ⟨?_, (hb.alloc hB o).grown hgrow (by simp; omega) (fun j hj => (h.lt j hj).1)⟩
  unfold ListedS
  rw [rowS_snoc]; simpa using hown'
theorem listedS_below {e : TypeId} {B : Nat} {ls : List (List UInt8)} {v : Value} {w w' : World} (h : ListedS e B ls v w) (hb : Below w.heap.size w w') : ListedS e B ls v w' := by
  refine ⟨h.1, ?_⟩
  rcases h.2 with hn | ⟨g, cap, cur, hv, hB, hg, rest⟩
  · exact .inl hn
  · exact .inr ⟨g, cap, cur, hv, hB, (hb.block g (Array.getElem?_eq_some_iff.1 hg).1).trans hg, rest⟩
theorem listedS_open {e : TypeId} {B : Nat} {ls : List (List UInt8)} {v : Value} {w : World} (h : ListedS e B ls v w) (hl : 0 < ls.length) : ∃ g cap, v = .slice (some ⟨g, 0, none⟩) ls.length cap ∧ g < w.heap.size ∧ ls.length ≤ cap ∧ StrsAt w g ls := by
  rcases h.2 with ⟨_, hn⟩ | ⟨g, cap, cur, hv, hB, hg, h1, h2, h3, h4⟩
  · omega
  · refine ⟨g, cap, hv, (Array.getElem?_eq_some_iff.1 hg).1, h1, fun i l hi => ?_⟩
    have hlt : i < ls.length := (List.getElem?_eq_some_iff.1 hi).1
    have := congrArg (·[i]?) h4
    simp only [Nat.mul_one, List.getElem?_take_of_lt hlt] at this
    rw [cell_of_row w g i _ _ _ hg, show cur[i]? = cur.toList[i]? by simp, this]
    simp [rowS, hi]
end Go.Proofs.YtokojkgfekbjdaaGreatDoor
