/-
  Contracts of the document's own List, Step, Shift, Flip, Same.
-/
import Derived.Test.YtboopdmgphhemaaDoorSquareRef
import Derived.Test.YtboopdmgphhemaaDoorMathB
import Derived.OwnWalk
import Derived.Maps.AppendAt
namespace Go.Proofs.YtboopdmgphhemaaDoor
open Go.RowKit

theorem infoInt : (Tryd.prog.info? 3).map (fun i => (i.zero, i.size, i.bytes)) = some (some (.int .i64 0), 1, 8) := by kernel_rfl

/-- A list of numbers as the cells of a row. -/
def rowOf (l : List Nat) : List Value := l.map fun i : Nat => Value.int .i64 (i : Int)
theorem rowOf_snoc (l : List Nat) (k : Nat) : rowOf (l ++ [k]) = rowOf l ++ [.int .i64 (k : Int)] := by simp [rowOf]
/-- The value is a list of the call's own, made at or beyond block B. -/
def Listed (B : Nat) (l : List Nat) (v : Value) (w : World) : Prop := w.ownsRow B 3 1 v l.length (rowOf l)
theorem listed_grow {B : Nat} {l : List Nat} {v v' : Value} {k : Nat} {w wr w1 : World} {o : Obj} (h : Listed B l v wr) (hb : Below B w wr) (hB : B ≤ wr.heap.size)
    (hown' : w1.ownsRow B 3 1 v' (l.length + 1) (rowOf l ++ [.int .i64 (k : Int)])) (hgrow : (wr.alloc o).grownBy w1 v.ownBlock) :
    Listed B (l ++ [k]) v' w1 ∧ Below B w w1 := by
  refine ⟨?_, (hb.alloc hB o).grown hgrow (by simp; omega) (fun j hj => (h.lt j hj).1)⟩
  unfold Listed
  rw [rowOf_snoc]; simpa using hown'
def ListPost (b : Nat) (w : World) (e : Ending) (w' : World) : Prop := ∃ v, e = .returned v ∧ Listed w.heap.size (listN b) v w' ∧ Below w.heap.size w w'

theorem rlist_any (b : Nat) (w : World) (hb : b < W64) :
    Calls Tryd.prog 34 #[.int .u64 (b : Int)] w (ListPost b w) := by
  have HB := Lib.hid hb
  clear hb
  obtain ⟨i0, hi, hz0, hz1, hz2⟩ := info_parts infoInt
  go_enter Tryd.func34, Tryd.ntmps34
  go_wp2
  go_loopw [3, 4] (fun v i wr => ∃ k : Nat, k ≤ 64 ∧ i = .int .i64 k ∧ Listed w.heap.size (listTo b k) v wr ∧ Below w.heap.size w wr) (fun _ i _ => 64 - (intOf i).toNat)
  case atStart => exact ⟨0, Nat.zero_le _, rfl, World.ownsRow_nil _ _ _ _, Below.refl _ _⟩
  case round =>
    obtain ⟨k, hk, rfl, hL, hbel⟩ := hrel
    have hlen := listTo_len b k
    have hsz := hbel.size
    by_cases hlt : k < 64
    · have HN := Lib.hid (hasN_nat b k hlt)
      by_cases hbit : b.testBit k = true
      · have H1 := Lib.hid (listTo_yes hbit)
        have hh : hasN b (k : Int) = true := by rw [HN.out]; exact hbit
        have HH := Lib.hid hL
        have HBl := Lib.hid hbel
        clear hbit HN hL hbel
        go_wp2_with (first | (go_at_call 39; refine (rhas_any _ _ _ HB.out).mono ?_; rintro e w' ⟨rfl, rfl⟩) | (at_builtin; refine wpList_append_own _ rfl _ _ 58 rfl w.heap.size 3 i0 (.int .i64 0) 1 8 Tryd.underlying58 hi hz0 hz1 hz2 rfl (by decide) _ _ _ rfl (HH.out.alloc _) ⟨_, 0, none⟩ 1 1 [.int .i64 (k : Int)] rfl rfl ?c1 ?c2 ?c3 ?c4 ?c5 ?_))
        case c1 => exact cell_one_new _ _ _
        case c2 => simp [Value.oneCell']
        case c3 => unfold maxLen; omega
        case c4 => omega
        case c5 => simp; omega
        intro v' w1 hown' hgrow _
        have HG := Lib.hid (listed_grow HH.out HBl.out hsz hown' hgrow)
        clear hown' hgrow
        go_wp2
        go_roundw
        case rel => exact ⟨k + 1, by omega, by go_num, by rw [H1.out]; exact HG.out.1, HG.out.2⟩
        case measure => simp [intOf]; omega
      · have H1 := Lib.hid (listTo_no (b := b) (k := k) (by simpa using hbit))
        have hh : hasN b (k : Int) = false := by rw [HN.out]; simpa using hbit
        have HH := Lib.hid hL
        have HBl := Lib.hid hbel
        clear hbit HN hL hbel
        go_wp2_with (go_at_call 39; refine (rhas_any _ _ _ HB.out).mono ?_; rintro e w' ⟨rfl, rfl⟩)
        go_roundw
        case rel => exact ⟨k + 1, by omega, by go_num, by rw [H1.out]; exact HH.out, HBl.out⟩
        case measure => simp [intOf]; omega
    · obtain rfl : k = 64 := by omega
      go_wp2
      go_ret
      exact ⟨_, rfl, hL, hbel⟩
end Go.Proofs.YtboopdmgphhemaaDoor
