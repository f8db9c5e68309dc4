/-
 Contract of the document's own Find, of kings.
-/
import Derived.Test.YtigkbccpkepdmaaGreatDoorAtRef
import Derived.Test.YtigkbccpkepdmaaGreatDoorAtCheck
namespace Go.Proofs.YtigkbccpkepdmaaGreatDoor
open Go.RowKit
set_option linter.unusedVariables false
set_option linter.unusedSimpArgs false

theorem is_of (c x : Int) : (kndZ x == 6 && x / 8 == c) = ofB c 6 x := by
 unfold ofB
 cases h : pcB x
 ·rw [kndZ_no h]; rfl
 ·rw [colZ_yes h]
  simp only [Bool.true_and, show ((6 : Int) == 0) = false from rfl, Bool.false_or]
  exact Bool.and_comm _ _
theorem first_at {n j : Nat} (hn : n < W64) (hj : n.testBit j = true) (h : ∀ i, i < j → n.testBit i = false) : firstN n = (j : Int) := by
 have h0 : n ≠ 0 := by rintro rfl; rw [Nat.zero_testBit] at hj; cases hj
 obtain ⟨e, _, he, h1, h2⟩ := first_spec h0 hn
 have := h2 j hj
 have : ¬ e < j := fun g => by have := h e g; rw [h1] at this; cases this
 rw [he]; omega
theorem first_none {n : Nat} (hn : n < W64) (h : ∀ i, i < 64 → n.testBit i = false) : firstN n = -1 := by
 have : n = 0 := eq_of_bits hn (by decide) fun i hi => by rw [h i hi, Nat.zero_testBit]
 rw [this]; exact firstN_zero
set_option maxRecDepth 100000 in
set_option maxHeartbeats 1000000 in
theorem rfind_any (p : Nat → Int) (c : Int) (w : World) (hp : BdR p) : Calls Tryz.prog 33 #[.agg (posA p), .int .u8 c, .int .u8 6] w (IntL (kingZ p c) w) := by
 have HP := Lib.hid hp
 clear hp
 go_enter Tryz.func33, Tryz.ntmps33
 go_wp2_with (refine step_box rfl _ rfl p rfl ?_; intro b1 w1 N R; have HB := Lib.hid N.below; have HR1 := Lib.hid R; clear N R)
 go_loopw [7] (fun i wr => ∃ k : Nat, k ≤ 64 ∧ i = .int .i64 (k : Int) ∧ Hid (∀ j, j < k → (ofN p c 6).testBit j = false) ∧ Below w.heap.size w wr ∧ Row wr b1 p) (fun i _ => 64 - (intOf i).toNat)
 case atStart => exact ⟨0, by omega, rfl, Lib.hid (fun j h => by omega), HB.out, HR1.out⟩
 case round =>
  obtain ⟨k, hk, rfl, Hi, hb, hr⟩ := hrel
  have HB := Lib.hid hb
  have HR := Lib.hid hr
  clear hb hr
  by_cases hlt : k < 64
  ·have Hlt := Lib.hid hlt
   have gk : decide ((k : Int) < 64) = true := decide_eq_true (by omega)
   obtain ⟨r, HRb⟩ : ∃ r, Hid ((kndZ (p (1 + k)) == 6 && p (1 + k) / 8 == c) = r) := ⟨_, Lib.hid rfl⟩
   have HT := Lib.hid (show (ofN p c 6).testBit k = r by rw [ofN_testBit _ _ _ _ hlt, ← is_of]; exact HRb.out)
   clear hlt
   cases r
   ·go_wp2_with (refine step_load (by rfl) _ rfl _ rfl p HR.out ?_)
    refine (ris_any p k c 6 _ HP.out Hlt.out).mono ?_; rintro e wn ⟨rfl, hb9⟩; rw [HRb.out]; have HR := Lib.hid (HR.out.later hb9); have HB := Lib.hid (below_on HB.out hb9); clear hb9
    go_wp2_with fail
    go_roundw
    case rel => exact ⟨k + 1, by have := Hlt.out; omega, by go_num, Lib.hid (fun j h => by
     by_cases e : j = k
     ·rw [e]; exact HT.out
     ·exact Hi.out j (by omega)), HB.out, HR.out⟩
    case measure => simp [intOf]; have := Hlt.out; omega
   ·have HZ := Lib.hid (show kingZ p c = (k : Int) from first_at (ofN_lt _ _ _) HT.out Hi.out)
    go_wp2_with (refine step_load (by rfl) _ rfl _ rfl p HR.out ?_)
    refine (ris_any p k c 6 _ HP.out Hlt.out).mono ?_; rintro e wn ⟨rfl, hb9⟩; rw [HRb.out]; have HB := Lib.hid (below_on HB.out hb9); clear hb9
    go_wp2_with fail
    go_ret
    exact ⟨by rw [HZ.out]; rfl, HB.out⟩
  ·obtain rfl : k = 64 := by omega
   have HZ := Lib.hid (show kingZ p c = -1 from first_none (ofN_lt _ _ _) Hi.out)
   go_wp2_with fail
   go_ret
   exact ⟨by rw [HZ.out]; rfl, HB.out⟩

end Go.Proofs.YtigkbccpkepdmaaGreatDoor
