/-
 Contracts of the program's ways (the array) and attacking (the iterator's value); steps of a walk inside the widest fence.
-/
import Derived.Test.YteblmnbagbdiiaaGreatDoorAtWays
import Derived.Test.YteblmnbagbdiiaaGreatDoorVaBaseB
set_option maxRecDepth 100000
namespace Go.Proofs.YteblmnbagbdiiaaGreatDoor
open Go.RowKit Go.Shelf
set_option linter.unusedVariables false

theorem ways_any (w : World) : Calls Tryz.prog 151 #[] w (AggL waysA w) := by
 go_enter Tryz.func151, Tryz.ntmps151
 go_wp2_with (first
   | (refine blk_alloc rfl 142 rfl nilWays zero53 ?_; intro b1 w1 N R; have HG := H_ (Nat.le_of_eq N.at_.symm); have HR := H_ R; have HB := H_ N.below; clear N R)
   | (refine blk_store rfl 142 _ _ rfl b1 rfl _ waysA rfl HR.out rfl waysA_one size53 ?_; intro w2 U R; have HR := H_ R; have HB := H_ (HB.out.trans (U.below HG.out)); clear U R))
 refine bodyPost_ret (v := .agg waysA) (results_blk rfl _ _ _ _ rfl HR.out Tryz.underlying142 rfl size53 rfl) rfl ⟨rfl, HB.out⟩
def AttPost (p : Nat → Int) (s c : Int) (w : World) (e : Ending) (w' : World) : Prop :=
 ∃ b, w.heap.size ≤ b ∧ e = .returned (.func (.func 150) #[] #[.pointer (some ⟨b, 0, none⟩), .pointer (some ⟨b + 2, 0, none⟩), .pointer (some ⟨b + 1, 0, none⟩)]) ∧ Below w.heap.size w w' ∧
  Row w' b p ∧ w'.cell? ⟨b + 1, 0, none⟩ = some (.int .i64 s) ∧ w'.cell? ⟨b + 2, 0, none⟩ = some (.int .u8 c)
theorem attacking_any (p : Nat → Int) (s c : Int) (w : World) : Calls Tryz.prog 74 #[.agg (posA p), .int .i64 s, .int .u8 c] w (AttPost p s c w) := by
 go_enter Tryz.func74, Tryz.ntmps74
 go_wp2_with (refine step_box rfl _ rfl p rfl ?_; intro b1 w1 N R; have HN := H_ N; have HR := H_ R; clear N R)
 go_ret
 have e2 := HN.out.size
 have hb : Below w.heap.size w ((w1.alloc (.cells #[.int .i64 s] 3)).alloc (.cells #[.int .u8 c] 5)) := (HN.out.below.alloc HN.out.below.size _).alloc (by rw [size_new]; have := HN.out.below.size; omega) _
 refine ⟨b1, by rw [HN.out.at_]; exact Nat.le_refl _, by rw [show b1 + 2 = w1.heap.size + 1 by omega, ← e2]; rfl, hb, row_old (row_old HR.out _) _, ?_, ?_⟩
 ·rw [← e2]; exact ((box_below _ _).cell (by rw [size_new]; simp)).trans (cell_new _ _ _)
 ·rw [show b1 + 2 = (w1.alloc (.cells #[.int .i64 s] 3)).heap.size by rw [size_new, e2]]; exact cell_new _ _ _
theorem stepIn {n : Nat} {P : Program} {ops : Array Oper} {Q : Exit → Act → World → Prop} {rest : List Oper} {o : Oper} {a : Act} {w : World} {v : Value} (hg : o.guard = none) (hr : (execOp a.eval o).run P w = .ok (.value v) w)
  (h : wpListIn Fence.wide n P ops Q rest (a.put o.dst v) w) : wpListIn Fence.wide n P ops Q (o :: rest) a w :=
 wpListIn_plain hg fun K hK => ⟨fun _ _ => trivial, by
  show o.uponIn Fence.wide n P a K Q ((execOp a.eval o).run P w)
  rw [hr]; exact hK _ _ h⟩
theorem way_index (k : Nat) (hk : k < 7) {o : Oper} {a : Act} {w : World} (x y : Operand) (ho : o.op = .index 142 x y) (hx : a.eval x = .agg waysA) (hy : a.eval y = .int .i64 (k : Int)) :
  (execOp a.eval o).run Tryz.prog w = .ok (.value (.agg #[.func (.func (wayF k)) #[] #[]])) w := by
 unfold execOp
 simp only [ho, hx, hy]
 have : k = 0 ∨ k = 1 ∨ k = 2 ∨ k = 3 ∨ k = 4 ∨ k = 5 ∨ k = 6 := by omega
 rcases this with rfl | rfl | rfl | rfl | rfl | rfl | rfl <;> · go_simp; rfl
end Go.Proofs.YteblmnbagbdiiaaGreatDoor
