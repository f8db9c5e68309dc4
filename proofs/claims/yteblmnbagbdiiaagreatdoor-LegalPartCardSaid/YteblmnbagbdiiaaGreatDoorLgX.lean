/-
 Layer 17: the law's has.
-/
import Derived.Test.YteblmnbagbdiiaaGreatDoorLgGrE
import Derived.Test.YteblmnbagbdiiaaGreatDoorLgGrF
set_option maxRecDepth 100000
set_option maxHeartbeats 16000000
namespace Go.Proofs.YteblmnbagbdiiaaGreatDoor
open Go.RowKit Go.Shelf
set_option linter.unusedVariables false
set_option linter.unusedSimpArgs false
attribute [local go_sem] Oper.semAt_some

theorem lg_has (p : Nat → Int) (w : World) : Calls Tryz.prog 20 #[.agg (posA p)] w (AnyL w) := by
 obtain ⟨x, hx⟩ : ∃ x, IntKind.u8.wrap (IntKind.u8.wrap (8 * p 78) + 6) = x := ⟨_, rfl⟩
 have HX := H_ hx
 clear hx
 have HB := H_ (Below.refl w.heap.size w)
 go_enter Tryz.func20, Tryz.ntmps20
 go_wp2_with (first
   | (guard_target = gB 1; refine step_box rfl _ rfl p rfl ?_; intro b1 w1 N R; have HG1 := H_ (nA HB.out N); have HB := H_ (below_on HB.out N.below); have HR1 := H_ R; clear N R))
 go_loopw [3] (fun i wr => ∃ j : Nat, j ≤ 64 ∧ i = .int .i64 (j : Int) ∧ Row wr b1 p ∧ Below w.heap.size w wr) (fun i _ => 64 - (intOf i).toNat)
 case atStart => exact ⟨0, by omega, rfl, HR1.out, HB.out⟩
 case round =>
  clear HR1 HB
  obtain ⟨j, hj, rfl, hr1, hb⟩ := hrel
  have HR1 := H_ hr1
  have HB := H_ hb
  clear hr1 hb
  by_cases hj64 : j < 64
  ·have hji : (j : Int) < 64 := by omega
   have HJ := H_ (show 1 + j < 88 by omega)
   have HJ6 := H_ hj64
   clear hj64
   go_wp2_with fail
   refine late_begin 9 (by kernel_rfl) ?_
   refine lw 0 rfl ?_
   simp only [Act.put, pa, pb, pc]
   refine lw 1 rfl ?_
   simp only [Act.put, pa, pb, pc]
   refine lw 2 rfl ?_
   simp only [Act.put, pa, pb, pc]
   refine lv 3 rfl ⟨.int .u8 (p (1 + j)), fun w' hl => (run_get 5 _ rfl b1 (1 + j) rfl Tryz.underlying5 rfl (.int .u8 (p (1 + j))) (((HR1.out.later hl).cell (1 + j) HJ.out).trans (by rw [kAt_board (Nat.zero_le _) (by have := HJ.out; omega)]))), ?_⟩
   simp only [Act.put, pa, pb, pc]
   refine lw 4 rfl ?_
   simp only [Act.put, pa, pb, pc]
   refine lv 5 rfl ⟨.int .u8 (p 78), fun w' hl => (run_get 5 _ rfl b1 78 rfl Tryz.underlying5 rfl (.int .u8 (p 78)) ((HR1.out.later hl).cell 78 (by decide))), ?_⟩
   simp only [Act.put, pa, pb, pc]
   refine lw 6 rfl ?_
   simp only [Act.put, pa, pb, pc]
   refine lw 7 rfl ?_
   simp only [Act.put, pa, pb, pc]
   refine lv 8 rfl ⟨.bool (p (1 + j) == x), fun w' hl => ?_, ?_⟩
   ·(go_simp; try rw [HX.out])
   simp only [Act.put, pa, pb, pc]
   refine late_end (by kernel_rfl) (fun wn hl => ?_)
   have HR1 := H_ (HR1.out.later hl); have HB := H_ (below_on HB.out hl); clear hl
   cases gx : p (1 + j) == x
   ·go_wp2_with fail
    go_roundw
    case rel => exact ⟨j + 1, by have := HJ6.out; omega, by go_num, HR1.out, HB.out⟩
    case measure => simp [intOf]; have := HJ6.out; omega
   ·go_wp2_with fail
    go_ret
    exact ⟨_, rfl, HB.out⟩
  ·obtain rfl : j = 64 := by omega
   go_wp2_with fail
   go_ret
   exact ⟨_, rfl, HB.out⟩
end Go.Proofs.YteblmnbagbdiiaaGreatDoor
