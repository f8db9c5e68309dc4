/-
 Several texts in one: LgO, LgQ.
-/
import Derived.Test.YteblmnbagbdiiaaGreatDoorLgG
import Derived.Test.YteblmnbagbdiiaaGreatDoorAfGrE
import Derived.Test.YteblmnbagbdiiaaGreatDoorVaBaseA
/-
 Layer 17: the laws' lawful, awake.
-/
set_option maxRecDepth 100000
set_option maxHeartbeats 8000000
namespace Go.Proofs.YteblmnbagbdiiaaGreatDoor
open Go.RowKit Go.Shelf
set_option linter.unusedVariables false
set_option linter.unusedSimpArgs false
attribute [local go_sem] Oper.semAt_some

theorem zeroKs : (Tryz.prog.info? 50).map (fun i => (i.zero, i.size)) = some (some (.agg #[.int .i64 0, .int .i64 0]), 2) := by kernel_rfl
theorem sizeI : (Tryz.prog.info? 3).map (·.size) = some 1 := by kernel_rfl
def AnyL (w : World) (e : Ending) (w' : World) : Prop := ∃ b, e = .returned (.bool b) ∧ Below w.heap.size w w'
theorem lg_lawful (p : Nat → Int) (w : World) (hp : WfP p) : Calls Tryz.prog 12 #[.agg (posA p)] w (AnyL w) := by
 have HP := H_ (AtR.of hp).bd
 clear hp
 have HB := H_ (Below.refl w.heap.size w)
 go_enter Tryz.func12, Tryz.ntmps12
 go_wp2_with (first
   | (guard_target = gB 1; refine step_box rfl _ rfl p rfl ?_; intro b1 w1 N R; have HG1 := H_ (nA HB.out N); have HB := H_ (below_on HB.out N.below); have HR1 := H_ R; clear N R)
   | (guard_target = gA 3; refine blk_alloc (op := ⟨some 3, _, _, _, _, _⟩) rfl 50 rfl #[.int .i64 0, .int .i64 0] zeroKs ?_; intro b3 wn N R; have HG3 := H_ (nA HB.out N); have HD13 := H_ (show b1 ≠ b3 by have := HR1.out.lt; have := N.at_; omega); have HR1 := H_ (HR1.out.later N.below); have HR3 := H_ R; have HB := H_ (below_on HB.out N.below); clear N R))
 go_loopw [4, 5] (fun i _ wr => ∃ k : Nat, k ≤ 64 ∧ i = .int .i64 (k : Int) ∧ (∃ a b, Blk wr b3 50 #[.int .i64 a, .int .i64 b]) ∧ Row wr b1 p ∧ Below w.heap.size w wr) (fun i _ _ => 64 - (intOf i).toNat)
 case atStart => exact ⟨0, by omega, rfl, ⟨0, 0, HR3.out⟩, HR1.out, HB.out⟩
 case round =>
  clear HR1 HR3 HB
  obtain ⟨k, hk, rfl, ⟨a, b, hr3⟩, hr1, hb⟩ := hrel
  have HR1 := H_ hr1
  have HR3 := H_ hr3
  have HB := H_ hb
  clear hr1 hr3 hb
  by_cases hlt : k < 64
  ·have gk : decide ((k : Int) < 64) = true := decide_eq_true (by omega)
   have l0 : (k : Int) ≤ 63 := by omega
   have hx := HP.out k hlt
   obtain ⟨x, HX⟩ : ∃ x, Hid (p (1 + k) = x) := ⟨_, H_ rfl⟩
   have hcell := HR1.out.cell (1 + k) (by omega)
   rw [HX.out, kAt_board (by omega) hlt] at hcell
   rw [HX.out] at hx
   obtain ⟨x0, x1⟩ := hx
   have Hlt := H_ hlt
   clear hlt
   by_cases e0 : x = 0
   ·have g0 : (x != 0) = false := by rw [e0]; rfl
    have gm : (x % 8 == 6) = false := by rw [e0]; rfl
    clear e0
    go_wp2_with (first
      | (guard_target = gL 12; refine step_get rfl 5 _ rfl b1 (1 + k) rfl Tryz.underlying5 rfl (.int .u8 x) ?_ ?_; exact hcell)
      | (guard_target = gL 35; refine step_get rfl 3 _ rfl b3 0 rfl Tryz.underlying3 rfl (.int .i64 a) ?_ ?_; exact Blk.cell HR3.out 0)
      | (guard_target = gL 35; refine step_get rfl 3 _ rfl b3 1 rfl Tryz.underlying3 rfl (.int .i64 b) ?_ ?_; exact Blk.cell HR3.out 1))
    go_roundw
    case rel => exact ⟨k + 1, by have := Hlt.out; omega, by go_num, ⟨_, _, HR3.out⟩, HR1.out, HB.out⟩
    case measure => simp [intOf]; have := Hlt.out; omega
   ·have g0 : (x != 0) = true := bne_iff_ne.2 e0
    by_cases e1 : 15 < x
    ·have g1 : decide (15 < x) = true := decide_eq_true e1
     clear e0 e1
     go_wp2_with (first
       | (guard_target = gL 12; refine step_get rfl 5 _ rfl b1 (1 + k) rfl Tryz.underlying5 rfl (.int .u8 x) ?_ ?_; exact hcell)
       | (guard_target = gL 35; refine step_get rfl 3 _ rfl b3 0 rfl Tryz.underlying3 rfl (.int .i64 a) ?_ ?_; exact Blk.cell HR3.out 0)
       | (guard_target = gL 35; refine step_get rfl 3 _ rfl b3 1 rfl Tryz.underlying3 rfl (.int .i64 b) ?_ ?_; exact Blk.cell HR3.out 1))
     go_ret
     exact ⟨_, rfl, HB.out⟩
    ·have g1 : decide (15 < x) = false := decide_eq_false e1
     by_cases e2 : x % 8 < 1
     ·have g2 : decide (x % 8 < 1) = true := decide_eq_true e2
      clear e0 e1 e2
      go_wp2_with (first
        | (guard_target = gL 12; refine step_get rfl 5 _ rfl b1 (1 + k) rfl Tryz.underlying5 rfl (.int .u8 x) ?_ ?_; exact hcell)
        | (guard_target = gL 35; refine step_get rfl 3 _ rfl b3 0 rfl Tryz.underlying3 rfl (.int .i64 a) ?_ ?_; exact Blk.cell HR3.out 0)
        | (guard_target = gL 35; refine step_get rfl 3 _ rfl b3 1 rfl Tryz.underlying3 rfl (.int .i64 b) ?_ ?_; exact Blk.cell HR3.out 1))
      go_ret
      exact ⟨_, rfl, HB.out⟩
     ·have g2 : decide (x % 8 < 1) = false := decide_eq_false e2
      by_cases e3 : 6 < x % 8
      ·have g3 : decide (6 < x % 8) = true := decide_eq_true e3
       clear e0 e1 e2 e3
       go_wp2_with (first
         | (guard_target = gL 12; refine step_get rfl 5 _ rfl b1 (1 + k) rfl Tryz.underlying5 rfl (.int .u8 x) ?_ ?_; exact hcell)
         | (guard_target = gL 35; refine step_get rfl 3 _ rfl b3 0 rfl Tryz.underlying3 rfl (.int .i64 a) ?_ ?_; exact Blk.cell HR3.out 0)
         | (guard_target = gL 35; refine step_get rfl 3 _ rfl b3 1 rfl Tryz.underlying3 rfl (.int .i64 b) ?_ ?_; exact Blk.cell HR3.out 1))
       go_ret
       exact ⟨_, rfl, HB.out⟩
      ·have g3 : decide (6 < x % 8) = false := decide_eq_false e3
       by_cases e4 : x % 8 = 6
       ·have e5 : x = 6 ∨ x = 14 := by omega
        clear e0 e1 e2 e3 e4 g0 g1 g2 g3 x0 x1
        clear HX
        rcases e5 with rfl | rfl
        ·skip
         go_wp2_with (first
           | (guard_target = gL 12; refine step_get rfl 5 _ rfl b1 (1 + k) rfl Tryz.underlying5 rfl (.int .u8 x) ?_ ?_; exact hcell)
           | (guard_target = gL 35; refine step_get rfl 3 _ rfl b3 0 rfl Tryz.underlying3 rfl (.int .i64 a) ?_ ?_; exact Blk.cell HR3.out 0)
           | (guard_target = gL 35; refine step_get rfl 3 _ rfl b3 1 rfl Tryz.underlying3 rfl (.int .i64 b) ?_ ?_; exact Blk.cell HR3.out 1)
           | (guard_target = gS 38; refine blk_cell (op := ⟨none, .store _ (.tmp 38) _, _, _, _, _⟩) rfl 3 _ _ rfl b3 0 rfl .i64 _ rfl 50 _ HR3.out (by show 0 < 2; decide) sizeI ?_; intro wn U R; have HR1 := H_ (HR1.out.apart U HD13.out); have HR3 := H_ R; have HB := H_ (HB.out.trans (U.below HG3.out)); clear U R))
         go_roundw
         case rel => exact ⟨k + 1, by have := Hlt.out; omega, by go_num, ⟨_, _, HR3.out⟩, HR1.out, HB.out⟩
         case measure => simp [intOf]; have := Hlt.out; omega
        ·skip
         go_wp2_with (first
           | (guard_target = gL 12; refine step_get rfl 5 _ rfl b1 (1 + k) rfl Tryz.underlying5 rfl (.int .u8 x) ?_ ?_; exact hcell)
           | (guard_target = gL 35; refine step_get rfl 3 _ rfl b3 0 rfl Tryz.underlying3 rfl (.int .i64 a) ?_ ?_; exact Blk.cell HR3.out 0)
           | (guard_target = gL 35; refine step_get rfl 3 _ rfl b3 1 rfl Tryz.underlying3 rfl (.int .i64 b) ?_ ?_; exact Blk.cell HR3.out 1)
           | (guard_target = gS 38; refine blk_cell (op := ⟨none, .store _ (.tmp 38) _, _, _, _, _⟩) rfl 3 _ _ rfl b3 1 rfl .i64 _ rfl 50 _ HR3.out (by show 1 < 2; decide) sizeI ?_; intro wn U R; have HR1 := H_ (HR1.out.apart U HD13.out); have HR3 := H_ R; have HB := H_ (HB.out.trans (U.below HG3.out)); clear U R))
         go_roundw
         case rel => exact ⟨k + 1, by have := Hlt.out; omega, by go_num, ⟨_, _, HR3.out⟩, HR1.out, HB.out⟩
         case measure => simp [intOf]; have := Hlt.out; omega
       ·have gm : (x % 8 == 6) = false := beq_eq_false_iff_ne.2 e4
        clear e0 e1 e2 e3 e4
        go_wp2_with (first
          | (guard_target = gL 12; refine step_get rfl 5 _ rfl b1 (1 + k) rfl Tryz.underlying5 rfl (.int .u8 x) ?_ ?_; exact hcell)
          | (guard_target = gL 35; refine step_get rfl 3 _ rfl b3 0 rfl Tryz.underlying3 rfl (.int .i64 a) ?_ ?_; exact Blk.cell HR3.out 0)
          | (guard_target = gL 35; refine step_get rfl 3 _ rfl b3 1 rfl Tryz.underlying3 rfl (.int .i64 b) ?_ ?_; exact Blk.cell HR3.out 1))
        go_roundw
        case rel => exact ⟨k + 1, by have := Hlt.out; omega, by go_num, ⟨_, _, HR3.out⟩, HR1.out, HB.out⟩
        case measure => simp [intOf]; have := Hlt.out; omega
  ·obtain rfl : k = 64 := by omega
   cases g0 : decide (p 78 < 2)
   ·go_wp2_with (first
      | (guard_target = gL 39; refine gU rfl 5 _ rfl Tryz.underlying5 HR1.out 78 (by decide) rfl rfl ?_)
      | (guard_target = gL 43; refine gU rfl 5 _ rfl Tryz.underlying5 HR1.out 0 (by decide) rfl rfl ?_)
      | (guard_target = gL 48; refine step_get rfl 26 _ rfl b1 83 rfl Tryz.underlying26 rfl (.int .i8 (p 83)) ?_ ?_; exact HR1.out.cell 83 (by decide))
      | (guard_target = gL 53; refine step_get rfl 26 _ rfl b1 83 rfl Tryz.underlying26 rfl (.int .i8 (p 83)) ?_ ?_; exact HR1.out.cell 83 (by decide))
      | (guard_target = gL 58; refine gU rfl 5 _ rfl Tryz.underlying5 HR1.out 0 (by decide) rfl rfl ?_)
      | (guard_target = gL 62; refine step_get rfl 3 _ rfl b3 0 rfl Tryz.underlying3 rfl (.int .i64 a) ?_ ?_; exact Blk.cell HR3.out 0)
      | (guard_target = gL 66; refine step_get rfl 3 _ rfl b3 1 rfl Tryz.underlying3 rfl (.int .i64 b) ?_ ?_; exact Blk.cell HR3.out 1))
    go_ret
    exact ⟨_, rfl, HB.out⟩
   ·skip
    cases g1 : decide (p 0 < 9)
    ·go_wp2_with (first
       | (guard_target = gL 39; refine gU rfl 5 _ rfl Tryz.underlying5 HR1.out 78 (by decide) rfl rfl ?_)
       | (guard_target = gL 43; refine gU rfl 5 _ rfl Tryz.underlying5 HR1.out 0 (by decide) rfl rfl ?_)
       | (guard_target = gL 48; refine step_get rfl 26 _ rfl b1 83 rfl Tryz.underlying26 rfl (.int .i8 (p 83)) ?_ ?_; exact HR1.out.cell 83 (by decide))
       | (guard_target = gL 53; refine step_get rfl 26 _ rfl b1 83 rfl Tryz.underlying26 rfl (.int .i8 (p 83)) ?_ ?_; exact HR1.out.cell 83 (by decide))
       | (guard_target = gL 58; refine gU rfl 5 _ rfl Tryz.underlying5 HR1.out 0 (by decide) rfl rfl ?_)
       | (guard_target = gL 62; refine step_get rfl 3 _ rfl b3 0 rfl Tryz.underlying3 rfl (.int .i64 a) ?_ ?_; exact Blk.cell HR3.out 0)
       | (guard_target = gL 66; refine step_get rfl 3 _ rfl b3 1 rfl Tryz.underlying3 rfl (.int .i64 b) ?_ ?_; exact Blk.cell HR3.out 1))
     go_ret
     exact ⟨_, rfl, HB.out⟩
    ·skip
     cases g2 : decide (-1 ≤ p 83)
     ·go_wp2_with (first
        | (guard_target = gL 39; refine gU rfl 5 _ rfl Tryz.underlying5 HR1.out 78 (by decide) rfl rfl ?_)
        | (guard_target = gL 43; refine gU rfl 5 _ rfl Tryz.underlying5 HR1.out 0 (by decide) rfl rfl ?_)
        | (guard_target = gL 48; refine step_get rfl 26 _ rfl b1 83 rfl Tryz.underlying26 rfl (.int .i8 (p 83)) ?_ ?_; exact HR1.out.cell 83 (by decide))
        | (guard_target = gL 53; refine step_get rfl 26 _ rfl b1 83 rfl Tryz.underlying26 rfl (.int .i8 (p 83)) ?_ ?_; exact HR1.out.cell 83 (by decide))
        | (guard_target = gL 58; refine gU rfl 5 _ rfl Tryz.underlying5 HR1.out 0 (by decide) rfl rfl ?_)
        | (guard_target = gL 62; refine step_get rfl 3 _ rfl b3 0 rfl Tryz.underlying3 rfl (.int .i64 a) ?_ ?_; exact Blk.cell HR3.out 0)
        | (guard_target = gL 66; refine step_get rfl 3 _ rfl b3 1 rfl Tryz.underlying3 rfl (.int .i64 b) ?_ ?_; exact Blk.cell HR3.out 1))
      go_ret
      exact ⟨_, rfl, HB.out⟩
     ·skip
      cases g3 : decide (p 83 < 64)
      ·go_wp2_with (first
         | (guard_target = gL 39; refine gU rfl 5 _ rfl Tryz.underlying5 HR1.out 78 (by decide) rfl rfl ?_)
         | (guard_target = gL 43; refine gU rfl 5 _ rfl Tryz.underlying5 HR1.out 0 (by decide) rfl rfl ?_)
         | (guard_target = gL 48; refine step_get rfl 26 _ rfl b1 83 rfl Tryz.underlying26 rfl (.int .i8 (p 83)) ?_ ?_; exact HR1.out.cell 83 (by decide))
         | (guard_target = gL 53; refine step_get rfl 26 _ rfl b1 83 rfl Tryz.underlying26 rfl (.int .i8 (p 83)) ?_ ?_; exact HR1.out.cell 83 (by decide))
         | (guard_target = gL 58; refine gU rfl 5 _ rfl Tryz.underlying5 HR1.out 0 (by decide) rfl rfl ?_)
         | (guard_target = gL 62; refine step_get rfl 3 _ rfl b3 0 rfl Tryz.underlying3 rfl (.int .i64 a) ?_ ?_; exact Blk.cell HR3.out 0)
         | (guard_target = gL 66; refine step_get rfl 3 _ rfl b3 1 rfl Tryz.underlying3 rfl (.int .i64 b) ?_ ?_; exact Blk.cell HR3.out 1))
       go_ret
       exact ⟨_, rfl, HB.out⟩
      ·skip
       cases g4 : p 0 == 4
       ·skip
        cases g5 : decide (a < 2)
        ·go_wp2_with (first
           | (guard_target = gL 39; refine gU rfl 5 _ rfl Tryz.underlying5 HR1.out 78 (by decide) rfl rfl ?_)
           | (guard_target = gL 43; refine gU rfl 5 _ rfl Tryz.underlying5 HR1.out 0 (by decide) rfl rfl ?_)
           | (guard_target = gL 48; refine step_get rfl 26 _ rfl b1 83 rfl Tryz.underlying26 rfl (.int .i8 (p 83)) ?_ ?_; exact HR1.out.cell 83 (by decide))
           | (guard_target = gL 53; refine step_get rfl 26 _ rfl b1 83 rfl Tryz.underlying26 rfl (.int .i8 (p 83)) ?_ ?_; exact HR1.out.cell 83 (by decide))
           | (guard_target = gL 58; refine gU rfl 5 _ rfl Tryz.underlying5 HR1.out 0 (by decide) rfl rfl ?_)
           | (guard_target = gL 62; refine step_get rfl 3 _ rfl b3 0 rfl Tryz.underlying3 rfl (.int .i64 a) ?_ ?_; exact Blk.cell HR3.out 0)
           | (guard_target = gL 66; refine step_get rfl 3 _ rfl b3 1 rfl Tryz.underlying3 rfl (.int .i64 b) ?_ ?_; exact Blk.cell HR3.out 1))
         go_ret
         exact ⟨_, rfl, HB.out⟩
        ·skip
         cases g6 : decide (b < 2)
         ·go_wp2_with (first
            | (guard_target = gL 39; refine gU rfl 5 _ rfl Tryz.underlying5 HR1.out 78 (by decide) rfl rfl ?_)
            | (guard_target = gL 43; refine gU rfl 5 _ rfl Tryz.underlying5 HR1.out 0 (by decide) rfl rfl ?_)
            | (guard_target = gL 48; refine step_get rfl 26 _ rfl b1 83 rfl Tryz.underlying26 rfl (.int .i8 (p 83)) ?_ ?_; exact HR1.out.cell 83 (by decide))
            | (guard_target = gL 53; refine step_get rfl 26 _ rfl b1 83 rfl Tryz.underlying26 rfl (.int .i8 (p 83)) ?_ ?_; exact HR1.out.cell 83 (by decide))
            | (guard_target = gL 58; refine gU rfl 5 _ rfl Tryz.underlying5 HR1.out 0 (by decide) rfl rfl ?_)
            | (guard_target = gL 62; refine step_get rfl 3 _ rfl b3 0 rfl Tryz.underlying3 rfl (.int .i64 a) ?_ ?_; exact Blk.cell HR3.out 0)
            | (guard_target = gL 66; refine step_get rfl 3 _ rfl b3 1 rfl Tryz.underlying3 rfl (.int .i64 b) ?_ ?_; exact Blk.cell HR3.out 1))
          go_ret
          exact ⟨_, rfl, HB.out⟩
         ·skip
          go_wp2_with (first
            | (guard_target = gL 39; refine gU rfl 5 _ rfl Tryz.underlying5 HR1.out 78 (by decide) rfl rfl ?_)
            | (guard_target = gL 43; refine gU rfl 5 _ rfl Tryz.underlying5 HR1.out 0 (by decide) rfl rfl ?_)
            | (guard_target = gL 48; refine step_get rfl 26 _ rfl b1 83 rfl Tryz.underlying26 rfl (.int .i8 (p 83)) ?_ ?_; exact HR1.out.cell 83 (by decide))
            | (guard_target = gL 53; refine step_get rfl 26 _ rfl b1 83 rfl Tryz.underlying26 rfl (.int .i8 (p 83)) ?_ ?_; exact HR1.out.cell 83 (by decide))
            | (guard_target = gL 58; refine gU rfl 5 _ rfl Tryz.underlying5 HR1.out 0 (by decide) rfl rfl ?_)
            | (guard_target = gL 62; refine step_get rfl 3 _ rfl b3 0 rfl Tryz.underlying3 rfl (.int .i64 a) ?_ ?_; exact Blk.cell HR3.out 0)
            | (guard_target = gL 66; refine step_get rfl 3 _ rfl b3 1 rfl Tryz.underlying3 rfl (.int .i64 b) ?_ ?_; exact Blk.cell HR3.out 1))
          go_ret
          exact ⟨_, rfl, HB.out⟩
       ·go_wp2_with (first
          | (guard_target = gL 39; refine gU rfl 5 _ rfl Tryz.underlying5 HR1.out 78 (by decide) rfl rfl ?_)
          | (guard_target = gL 43; refine gU rfl 5 _ rfl Tryz.underlying5 HR1.out 0 (by decide) rfl rfl ?_)
          | (guard_target = gL 48; refine step_get rfl 26 _ rfl b1 83 rfl Tryz.underlying26 rfl (.int .i8 (p 83)) ?_ ?_; exact HR1.out.cell 83 (by decide))
          | (guard_target = gL 53; refine step_get rfl 26 _ rfl b1 83 rfl Tryz.underlying26 rfl (.int .i8 (p 83)) ?_ ?_; exact HR1.out.cell 83 (by decide))
          | (guard_target = gL 58; refine gU rfl 5 _ rfl Tryz.underlying5 HR1.out 0 (by decide) rfl rfl ?_)
          | (guard_target = gL 62; refine step_get rfl 3 _ rfl b3 0 rfl Tryz.underlying3 rfl (.int .i64 a) ?_ ?_; exact Blk.cell HR3.out 0)
          | (guard_target = gL 66; refine step_get rfl 3 _ rfl b3 1 rfl Tryz.underlying3 rfl (.int .i64 b) ?_ ?_; exact Blk.cell HR3.out 1))
        go_ret
        exact ⟨_, rfl, HB.out⟩
end Go.Proofs.YteblmnbagbdiiaaGreatDoor
/-
 Layer 17: the laws' awake.
-/
namespace Go.Proofs.YteblmnbagbdiiaaGreatDoor
open Go.RowKit Go.Shelf
set_option linter.unusedVariables false
set_option linter.unusedSimpArgs false
attribute [local go_sem] Oper.semAt_some

theorem lgstart (w : World) (hT : TabVar w) (hK : TabKn w) : Calls Tryz.prog 25 #[.int .u8 0] w (PosB lgP_ true w) := start_of w 0 (by decide) (by decide) (by decide) (by decide) hT
theorem wfLP : WfP lgP_ := wf_ofN (by decide +kernel)
theorem wfLQ : WfP lgQ_ := wf_ofN (by decide +kernel)
theorem wfLR : WfP lgR_ := wf_ofN (by decide +kernel)
theorem wfLS : WfP lgS_ := wf_ofN (by decide +kernel)
theorem lgR_n : (lsL lgR_).length = 2 := by have := congrArg List.length lgR_l; rwa [List.length_map] at this
theorem lgS_n : (lsL lgS_).length = 0 := by rw [lgS_l]; rfl
theorem lgR_at : ∃ m0 m1, (lsL lgR_)[0]? = some m0 ∧ (lsL lgR_)[1]? = some m1 ∧ m0.t = 35 ∧ m1.t = 37 := by
 have h := lgR_l
 obtain ⟨L, hL⟩ : ∃ L, lsL lgR_ = L := ⟨_, rfl⟩
 rw [hL] at h ⊢
 rcases L with _ | ⟨m0, _ | ⟨m1, l⟩⟩
 ·cases h
 ·simp at h
 ·simp only [List.map_cons, List.cons.injEq] at h
  exact ⟨m0, m1, rfl, rfl, h.1, h.2.1⟩
theorem lg_awake (w : World) (hT : CsT w) (hK : TabKn w) : Calls Tryz.prog 11 #[] w (BoL true w) := by
 have HT := H_ hT
 have HK := H_ hK
 clear hT hK
 have HB := H_ (Below.refl w.heap.size w)
 go_enter Tryz.func11, Tryz.ntmps11
 go_wp2_with (first
  | (go_at_call 25; refine (lgstart _ (HT.out.on HB.out).var (HK.out.on HB.out)).mono ?_; rintro e w3 ⟨rfl, hb⟩; have HB := H_ (below_on HB.out hb); clear hb)
  | (guard_target = gA 1; refine step_alloc (op := ⟨some 1, _, _, _, _, _⟩) rfl rfl ?_; intro b1 wn N R; have HG1 := H_ (nA HB.out N); have HR1 := H_ R; have HB := H_ (below_on HB.out N.below); clear N R)
  | (guard_target = gS 1; refine step_store (op := ⟨none, .store _ (.tmp 1) _, _, _, _, _⟩) rfl _ _ rfl b1 rfl zeroP (lgP_) rfl HR1.out ?_; intro wn U R; have HR1 := H_ R; have HB := H_ (HB.out.trans (U.below HG1.out)); clear U R)
  | (guard_target = gD 11; refine step_build (op := ⟨some 11, .build _ _, _, _, _, _⟩) rfl 31 _ rfl (posA (upd (upd zeroP 83 (-1)) 87 1)) (by kernel_rfl) ?_)
  | (guard_target = gA 3; refine step_alloc (op := ⟨some 3, _, _, _, _, _⟩) rfl rfl ?_; intro b3 wn N R; have HG3 := H_ (nA HB.out N); have HD1_3 := H_ (show b1 ≠ b3 by have := HR1.out.lt; have := N.at_; omega); have HR1 := H_ (HR1.out.later N.below); have HR3 := H_ R; have HB := H_ (below_on HB.out N.below); clear N R)
  | (guard_target = gS 3; refine step_store (op := ⟨none, .store _ (.tmp 3) _, _, _, _, _⟩) rfl _ _ rfl b3 rfl zeroP (upd (upd zeroP 83 (-1)) 87 1) rfl HR3.out ?_; intro wn U R; have HR1 := H_ (HR1.out.apart U HD1_3.out); have HR3 := H_ R; have HB := H_ (HB.out.trans (U.below HG3.out)); clear U R)
  | (guard_target = gS 13; refine step_cell (op := ⟨none, .store _ (.tmp 13) _, _, _, _, _⟩) rfl 5 _ _ rfl b3 5 rfl .u8 6 rfl _ HR3.out (by decide) rfl size5 ?_; intro wn U R; have HR1 := H_ (HR1.out.apart U HD1_3.out); have HR3 := H_ R; have HB := H_ (HB.out.trans (U.below HG3.out)); clear U R)
  | (guard_target = gS 15; refine step_cell (op := ⟨none, .store _ (.tmp 15) _, _, _, _, _⟩) rfl 5 _ _ rfl b3 13 rfl .u8 4 rfl _ HR3.out (by decide) rfl size5 ?_; intro wn U R; have HR1 := H_ (HR1.out.apart U HD1_3.out); have HR3 := H_ R; have HB := H_ (HB.out.trans (U.below HG3.out)); clear U R)
  | (guard_target = gS 17; refine step_cell (op := ⟨none, .store _ (.tmp 17) _, _, _, _, _⟩) rfl 5 _ _ rfl b3 61 rfl .u8 12 rfl _ HR3.out (by decide) rfl size5 ?_; intro wn U R; have HR1 := H_ (HR1.out.apart U HD1_3.out); have HR3 := H_ R; have HB := H_ (HB.out.trans (U.below HG3.out)); clear U R)
  | (guard_target = gS 19; refine step_cell (op := ⟨none, .store _ (.tmp 19) _, _, _, _, _⟩) rfl 5 _ _ rfl b3 57 rfl .u8 14 rfl _ HR3.out (by decide) rfl size5 ?_; intro wn U R; have HR1 := H_ (HR1.out.apart U HD1_3.out); have HR3 := H_ R; have HB := H_ (HB.out.trans (U.below HG3.out)); clear U R)
  | (guard_target = gD 20; refine step_build (op := ⟨some 20, .build _ _, _, _, _, _⟩) rfl 31 _ rfl (posA (upd (upd (upd zeroP 0 4) 83 (-1)) 87 1)) (by kernel_rfl) ?_)
  | (guard_target = gA 4; refine step_alloc (op := ⟨some 4, _, _, _, _, _⟩) rfl rfl ?_; intro b4 wn N R; have HG4 := H_ (nA HB.out N); have HD1_4 := H_ (show b1 ≠ b4 by have := HR1.out.lt; have := N.at_; omega); have HR1 := H_ (HR1.out.later N.below); have HD3_4 := H_ (show b3 ≠ b4 by have := HR3.out.lt; have := N.at_; omega); have HR3 := H_ (HR3.out.later N.below); have HR4 := H_ R; have HB := H_ (below_on HB.out N.below); clear N R)
  | (guard_target = gS 4; refine step_store (op := ⟨none, .store _ (.tmp 4) _, _, _, _, _⟩) rfl _ _ rfl b4 rfl zeroP (upd (upd (upd zeroP 0 4) 83 (-1)) 87 1) rfl HR4.out ?_; intro wn U R; have HR1 := H_ (HR1.out.apart U HD1_4.out); have HR3 := H_ (HR3.out.apart U HD3_4.out); have HR4 := H_ R; have HB := H_ (HB.out.trans (U.below HG4.out)); clear U R)
  | (guard_target = gS 22; refine step_cell (op := ⟨none, .store _ (.tmp 22) _, _, _, _, _⟩) rfl 5 _ _ rfl b4 29 rfl .u8 1 rfl _ HR4.out (by decide) rfl size5 ?_; intro wn U R; have HR1 := H_ (HR1.out.apart U HD1_4.out); have HR3 := H_ (HR3.out.apart U HD3_4.out); have HR4 := H_ R; have HB := H_ (HB.out.trans (U.below HG4.out)); clear U R)
  | (guard_target = gS 24; refine step_cell (op := ⟨none, .store _ (.tmp 24) _, _, _, _, _⟩) rfl 5 _ _ rfl b4 36 rfl .u8 9 rfl _ HR4.out (by decide) rfl size5 ?_; intro wn U R; have HR1 := H_ (HR1.out.apart U HD1_4.out); have HR3 := H_ (HR3.out.apart U HD3_4.out); have HR4 := H_ R; have HB := H_ (HB.out.trans (U.below HG4.out)); clear U R)
  | (guard_target = gS 26; refine step_cell (op := ⟨none, .store _ (.tmp 26) _, _, _, _, _⟩) rfl 5 _ _ rfl b4 38 rfl .u8 9 rfl _ HR4.out (by decide) rfl size5 ?_; intro wn U R; have HR1 := H_ (HR1.out.apart U HD1_4.out); have HR3 := H_ (HR3.out.apart U HD3_4.out); have HR4 := H_ R; have HB := H_ (HB.out.trans (U.below HG4.out)); clear U R)
  | (guard_target = gS 28; refine step_cell (op := ⟨none, .store _ (.tmp 28) _, _, _, _, _⟩) rfl 5 _ _ rfl b4 55 rfl .u8 9 rfl _ HR4.out (by decide) rfl size5 ?_; intro wn U R; have HR1 := H_ (HR1.out.apart U HD1_4.out); have HR3 := H_ (HR3.out.apart U HD3_4.out); have HR4 := H_ R; have HB := H_ (HB.out.trans (U.below HG4.out)); clear U R)
  | (guard_target = gD 29; refine step_build (op := ⟨some 29, .build _ _, _, _, _, _⟩) rfl 31 _ rfl (posA (upd (upd (upd zeroP 0 6) 83 (-1)) 87 1)) (by kernel_rfl) ?_)
  | (guard_target = gA 5; refine step_alloc (op := ⟨some 5, _, _, _, _, _⟩) rfl rfl ?_; intro b5 wn N R; have HG5 := H_ (nA HB.out N); have HD1_5 := H_ (show b1 ≠ b5 by have := HR1.out.lt; have := N.at_; omega); have HR1 := H_ (HR1.out.later N.below); have HD3_5 := H_ (show b3 ≠ b5 by have := HR3.out.lt; have := N.at_; omega); have HR3 := H_ (HR3.out.later N.below); have HD4_5 := H_ (show b4 ≠ b5 by have := HR4.out.lt; have := N.at_; omega); have HR4 := H_ (HR4.out.later N.below); have HR5 := H_ R; have HB := H_ (below_on HB.out N.below); clear N R)
  | (guard_target = gS 5; refine step_store (op := ⟨none, .store _ (.tmp 5) _, _, _, _, _⟩) rfl _ _ rfl b5 rfl zeroP (upd (upd (upd zeroP 0 6) 83 (-1)) 87 1) rfl HR5.out ?_; intro wn U R; have HR1 := H_ (HR1.out.apart U HD1_5.out); have HR3 := H_ (HR3.out.apart U HD3_5.out); have HR4 := H_ (HR4.out.apart U HD4_5.out); have HR5 := H_ R; have HB := H_ (HB.out.trans (U.below HG5.out)); clear U R)
  | (guard_target = gS 31; refine step_cell (op := ⟨none, .store _ (.tmp 31) _, _, _, _, _⟩) rfl 5 _ _ rfl b5 5 rfl .u8 6 rfl _ HR5.out (by decide) rfl size5 ?_; intro wn U R; have HR1 := H_ (HR1.out.apart U HD1_5.out); have HR3 := H_ (HR3.out.apart U HD3_5.out); have HR4 := H_ (HR4.out.apart U HD4_5.out); have HR5 := H_ R; have HB := H_ (HB.out.trans (U.below HG5.out)); clear U R)
  | (guard_target = gS 33; refine step_cell (op := ⟨none, .store _ (.tmp 33) _, _, _, _, _⟩) rfl 5 _ _ rfl b5 37 rfl .u8 14 rfl _ HR5.out (by decide) rfl size5 ?_; intro wn U R; have HR1 := H_ (HR1.out.apart U HD1_5.out); have HR3 := H_ (HR3.out.apart U HD3_5.out); have HR4 := H_ (HR4.out.apart U HD4_5.out); have HR5 := H_ R; have HB := H_ (HB.out.trans (U.below HG5.out)); clear U R)
  | (guard_target = gL2 34 4; refine step_load (op := ⟨some 34, .load _ (.tmp 4), _, _, _, _⟩) rfl _ rfl b4 rfl (lgR_) HR4.out ?_)
  | (guard_target = gL2 36 1; refine step_load (op := ⟨some 36, .load _ (.tmp 1), _, _, _, _⟩) rfl _ rfl b1 rfl (lgP_) HR1.out ?_)
  | (guard_target = gL2 41 3; refine step_load (op := ⟨some 41, .load _ (.tmp 3), _, _, _, _⟩) rfl _ rfl b3 rfl (lgQ_) HR3.out ?_)
  | (guard_target = gL2 66 5; refine step_load (op := ⟨some 66, .load _ (.tmp 5), _, _, _, _⟩) rfl _ rfl b5 rfl (lgS_) HR5.out ?_)
  | (guard_target = gL2 72 5; refine step_load (op := ⟨some 72, .load _ (.tmp 5), _, _, _, _⟩) rfl _ rfl b5 rfl (lgS_) HR5.out ?_)
  | (go_at_call 9; guard_target = Go.Calls _ _ #[Go.Value.agg (posA lgR_)] _ _; refine (lg_list lgR_ _ wfLR (HT.out.on HB.out)).mono ?_; rintro e w3 ⟨v, rfl, hv, hb⟩; obtain ⟨a4, c4, rfl, hm⟩ := mvs_of hv; rw [lgR_n]; obtain ⟨m0, m1, h0, h1, ht0, ht1⟩ := lgR_at; obtain ⟨g4, rfl, _⟩ := hm.at h0; have H0 := H_ h0; have H1 := H_ h1; have HT0 := H_ ht0; have HT1 := H_ ht1; clear h0 h1 ht0 ht1; have HR1 := H_ (HR1.out.later hb); have HR3 := H_ (HR3.out.later hb); have HR4 := H_ (HR4.out.later hb); have HR5 := H_ (HR5.out.later hb); have HM := H_ hm; have HB := H_ (below_on HB.out hb); clear hb hv hm)
  | (go_at_call 9; guard_target = Go.Calls _ _ #[Go.Value.agg (posA lgP_)] _ _; refine (lg_list lgP_ _ wfLP (HT.out.on HB.out)).mono ?_; rintro e w3 ⟨v, rfl, hv, hb⟩; obtain ⟨a6, c6, rfl, hm⟩ := mvs_of hv; rw [lgP_l]; have HR1 := H_ (HR1.out.later hb); have HR3 := H_ (HR3.out.later hb); have HR4 := H_ (HR4.out.later hb); have HR5 := H_ (HR5.out.later hb); have HM := H_ (HM.out.later hb); have HB := H_ (below_on HB.out hb); clear hb hv hm)
  | (go_at_call 9; guard_target = Go.Calls _ _ #[Go.Value.agg (posA lgQ_)] _ _; refine (lg_list lgQ_ _ wfLQ (HT.out.on HB.out)).mono ?_; rintro e w3 ⟨v, rfl, hv, hb⟩; obtain ⟨a7, c7, rfl, hm⟩ := mvs_of hv; rw [lgQ_l]; have HR1 := H_ (HR1.out.later hb); have HR3 := H_ (HR3.out.later hb); have HR4 := H_ (HR4.out.later hb); have HR5 := H_ (HR5.out.later hb); have HM := H_ (HM.out.later hb); have HB := H_ (below_on HB.out hb); clear hb hv hm)
  | (go_at_call 9; guard_target = Go.Calls _ _ #[Go.Value.agg (posA lgS_)] _ _; refine (lg_list lgS_ _ wfLS (HT.out.on HB.out)).mono ?_; rintro e w3 ⟨v, rfl, hv, hb⟩; obtain ⟨a8, c8, rfl, hm⟩ := mvs_of hv; rw [lgS_n]; have HR1 := H_ (HR1.out.later hb); have HR3 := H_ (HR3.out.later hb); have HR4 := H_ (HR4.out.later hb); have HR5 := H_ (HR5.out.later hb); have HM := H_ (HM.out.later hb); have HB := H_ (below_on HB.out hb); clear hb hv hm)
  | (guard_target = gL2 55 54; refine step_get (op := ⟨some 55, .load _ (.tmp 54), _, _, _, _⟩) rfl 26 _ rfl g4 1 rfl Tryz.underlying26 rfl (.int .i8 35) ((HM.out.cell H0.out 1 1 (by decide) rfl).trans (by show some (Value.int .i8 _) = _; rw [HT0.out])) ?_)
  | (guard_target = gL2 62 61; refine step_get (op := ⟨some 62, .load _ (.tmp 61), _, _, _, _⟩) rfl 26 _ rfl g4 6 rfl Tryz.underlying26 rfl (.int .i8 37) ((HM.out.cell H1.out 1 6 (by decide) rfl).trans (by show some (Value.int .i8 _) = _; rw [HT1.out])) ?_)
  | (go_at_call 17; refine (lg_Won lgS_ _ wfLS (HT.out.on HB.out)).mono ?_; rw [lgS_w]; rintro e w3 ⟨rfl, hb⟩; have HB := H_ (below_on HB.out hb); clear hb)
  | (guard_target = gD 74; refine step_build (op := ⟨some 74, .build _ _, _, _, _, _⟩) rfl 44 _ rfl (rsA (2, 6)) (by kernel_rfl) ?_)
  | (guard_target = Go.wpList _ _ _ ((⟨some 75, .binOp _ _ _ _ _, _, _, _, _⟩ : Go.Oper) :: _) _ _; refine step_rs (op := ⟨some 75, .binOp _ _ _ _ _, _, _, _, _⟩) rfl _ _ rfl (2, 6) (2, 6) rfl rfl ⟨by decide, by decide⟩ ⟨by decide, by decide⟩ true rfl ?_))
 go_ret
 exact ⟨rfl, HB.out⟩
end Go.Proofs.YteblmnbagbdiiaaGreatDoor
