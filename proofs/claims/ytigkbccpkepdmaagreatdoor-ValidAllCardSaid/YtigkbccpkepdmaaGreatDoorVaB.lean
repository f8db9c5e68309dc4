/-
 Contracts of layer 12's kingsMayBe, kings, pawnMayBe, pawns, men, promotedMayBe, pocketsMayBe, pockets.
-/
import Derived.Test.YtigkbccpkepdmaaGreatDoorVaA
import Derived.DeepKeys2
namespace Go.Proofs.YtigkbccpkepdmaaGreatDoor
open Go.RowKit
set_option linter.unusedVariables false
set_option linter.unusedSimpArgs false

set_option maxRecDepth 100000 in
set_option maxHeartbeats 1000000 in
theorem km_a (p : Nat → Int) (c : Int) (w : World) (hp : FitP p) (q4 : (p 0 == 4) = true) : Calls Tryz.prog 81 #[.agg (posA p), .int .u8 c] w (BoL (kmB p c) w) := by
 have HP := Lib.hid hp
 obtain ⟨n, hn⟩ : ∃ n, kgsZ p c = n := ⟨_, rfl⟩
 have HN := Lib.hid hn
 have HS := Lib.hid (show kmB p c = true by unfold kmB; rw [HN.out, q4]; rfl)
 clear hp hn
 have HB := Lib.hid (Below.refl w.heap.size w)
 have HQu1 := Lib.hid trivial
 have HQu2 := Lib.hid trivial
 have HQu3 := Lib.hid trivial
 have HQu4 := Lib.hid trivial
 go_enter Tryz.func81, Tryz.ntmps81
 go_wp2_with (first
   | (clear HQu1; refine va_box rfl _ rfl p rfl ?_; intro b1 w1 N R; have HB := Lib.hid (HB.out.trans (N.below.mono HB.out.size)); have HR := Lib.hid R; clear N R)
   | (clear HQu2; refine va_load rfl _ rfl b1 rfl p HR.out ?_)
   | (clear HQu3; go_at_call 97; refine (kgs_any p c _ HP.out).mono ?_; rintro e w3 ⟨rfl, hb⟩; rw [HN.out]; have HR := Lib.hid (HR.out.later hb); have HB := Lib.hid (below_on HB.out hb); clear hb)
   | (clear HQu4; refine step_get rfl 5 _ rfl b1 (0) rfl Tryz.underlying5 rfl (.int .u8 (p 0)) ?_ ?_; exact HR.out.cell (0) (by decide)))
 go_ret
 exact ⟨by (rw [HS.out]; try rfl), HB.out⟩
set_option maxRecDepth 100000 in
set_option maxHeartbeats 1000000 in
theorem km_b (p : Nat → Int) (c : Int) (w : World) (hp : FitP p) (q4 : (p 0 == 4) = false) (q7 : (p 0 == 7) = true) (qc : (c == 0) = true) : Calls Tryz.prog 81 #[.agg (posA p), .int .u8 c] w (BoL (kmB p c) w) := by
 have HP := Lib.hid hp
 obtain ⟨n, hn⟩ : ∃ n, kgsZ p c = n := ⟨_, rfl⟩
 have HN := Lib.hid hn
 have HS := Lib.hid (show kmB p c = (n == 0) by unfold kmB; rw [HN.out, q4, q7, qc]; rfl)
 clear hp hn
 have HB := Lib.hid (Below.refl w.heap.size w)
 have HQu1 := Lib.hid trivial
 have HQu2 := Lib.hid trivial
 have HQu3 := Lib.hid trivial
 have HQu4 := Lib.hid trivial
 have HQu5 := Lib.hid trivial
 go_enter Tryz.func81, Tryz.ntmps81
 go_wp2_with (first
   | (clear HQu1; refine va_box rfl _ rfl p rfl ?_; intro b1 w1 N R; have HB := Lib.hid (HB.out.trans (N.below.mono HB.out.size)); have HR := Lib.hid R; clear N R)
   | (clear HQu2; refine va_load rfl _ rfl b1 rfl p HR.out ?_)
   | (clear HQu3; go_at_call 97; refine (kgs_any p c _ HP.out).mono ?_; rintro e w3 ⟨rfl, hb⟩; rw [HN.out]; have HR := Lib.hid (HR.out.later hb); have HB := Lib.hid (below_on HB.out hb); clear hb)
   | (clear HQu4; refine step_get rfl 5 _ rfl b1 (0) rfl Tryz.underlying5 rfl (.int .u8 (p 0)) ?_ ?_; exact HR.out.cell (0) (by decide))
   | (clear HQu5; refine step_get rfl 5 _ rfl b1 (0) rfl Tryz.underlying5 rfl (.int .u8 (p 0)) ?_ ?_; exact HR.out.cell (0) (by decide)))
 go_ret
 exact ⟨by (rw [HS.out]; try rfl), HB.out⟩
set_option maxRecDepth 100000 in
set_option maxHeartbeats 1000000 in
theorem km_c0 (p : Nat → Int) (c : Int) (w : World) (hp : FitP p) (q4 : (p 0 == 4) = false) (q7 : (p 0 == 7) = true) (qc : (c == 0) = false) (q3 : (p 0 == 3) = false) : Calls Tryz.prog 81 #[.agg (posA p), .int .u8 c] w (BoL (kmB p c) w) := by
 have HP := Lib.hid hp
 obtain ⟨n, hn⟩ : ∃ n, kgsZ p c = n := ⟨_, rfl⟩
 have HN := Lib.hid hn
 have HS := Lib.hid (show kmB p c = (n == 1) by unfold kmB; rw [HN.out, q4, q7, qc, q3]; rfl)
 clear hp hn
 have HB := Lib.hid (Below.refl w.heap.size w)
 have HQu1 := Lib.hid trivial
 have HQu2 := Lib.hid trivial
 have HQu3 := Lib.hid trivial
 have HQu4 := Lib.hid trivial
 have HQu5 := Lib.hid trivial
 have HQu6 := Lib.hid trivial
 go_enter Tryz.func81, Tryz.ntmps81
 go_wp2_with (first
   | (clear HQu1; refine va_box rfl _ rfl p rfl ?_; intro b1 w1 N R; have HB := Lib.hid (HB.out.trans (N.below.mono HB.out.size)); have HR := Lib.hid R; clear N R)
   | (clear HQu2; refine va_load rfl _ rfl b1 rfl p HR.out ?_)
   | (clear HQu3; go_at_call 97; refine (kgs_any p c _ HP.out).mono ?_; rintro e w3 ⟨rfl, hb⟩; rw [HN.out]; have HR := Lib.hid (HR.out.later hb); have HB := Lib.hid (below_on HB.out hb); clear hb)
   | (clear HQu4; refine step_get rfl 5 _ rfl b1 (0) rfl Tryz.underlying5 rfl (.int .u8 (p 0)) ?_ ?_; exact HR.out.cell (0) (by decide))
   | (clear HQu5; refine step_get rfl 5 _ rfl b1 (0) rfl Tryz.underlying5 rfl (.int .u8 (p 0)) ?_ ?_; exact HR.out.cell (0) (by decide))
   | (clear HQu6; refine step_get rfl 5 _ rfl b1 (0) rfl Tryz.underlying5 rfl (.int .u8 (p 0)) ?_ ?_; exact HR.out.cell (0) (by decide)))
 go_ret
 exact ⟨by (rw [HS.out]; try rfl), HB.out⟩
set_option maxRecDepth 100000 in
set_option maxHeartbeats 1000000 in
theorem km_c1 (p : Nat → Int) (c : Int) (w : World) (hp : FitP p) (q4 : (p 0 == 4) = false) (q7 : (p 0 == 7) = true) (qc : (c == 0) = false) (q3 : (p 0 == 3) = true) (qt : (c == p 78) = false) : Calls Tryz.prog 81 #[.agg (posA p), .int .u8 c] w (BoL (kmB p c) w) := by
 have HP := Lib.hid hp
 obtain ⟨n, hn⟩ : ∃ n, kgsZ p c = n := ⟨_, rfl⟩
 have HN := Lib.hid hn
 have HS := Lib.hid (show kmB p c = (n == 1) by unfold kmB; rw [HN.out, q4, q7, qc, q3, qt]; rfl)
 clear hp hn
 have HB := Lib.hid (Below.refl w.heap.size w)
 have HQu1 := Lib.hid trivial
 have HQu2 := Lib.hid trivial
 have HQu3 := Lib.hid trivial
 have HQu4 := Lib.hid trivial
 have HQu5 := Lib.hid trivial
 have HQu6 := Lib.hid trivial
 have HQu7 := Lib.hid trivial
 go_enter Tryz.func81, Tryz.ntmps81
 go_wp2_with (first
   | (clear HQu1; refine va_box rfl _ rfl p rfl ?_; intro b1 w1 N R; have HB := Lib.hid (HB.out.trans (N.below.mono HB.out.size)); have HR := Lib.hid R; clear N R)
   | (clear HQu2; refine va_load rfl _ rfl b1 rfl p HR.out ?_)
   | (clear HQu3; go_at_call 97; refine (kgs_any p c _ HP.out).mono ?_; rintro e w3 ⟨rfl, hb⟩; rw [HN.out]; have HR := Lib.hid (HR.out.later hb); have HB := Lib.hid (below_on HB.out hb); clear hb)
   | (clear HQu4; refine step_get rfl 5 _ rfl b1 (0) rfl Tryz.underlying5 rfl (.int .u8 (p 0)) ?_ ?_; exact HR.out.cell (0) (by decide))
   | (clear HQu5; refine step_get rfl 5 _ rfl b1 (0) rfl Tryz.underlying5 rfl (.int .u8 (p 0)) ?_ ?_; exact HR.out.cell (0) (by decide))
   | (clear HQu6; refine step_get rfl 5 _ rfl b1 (0) rfl Tryz.underlying5 rfl (.int .u8 (p 0)) ?_ ?_; exact HR.out.cell (0) (by decide))
   | (clear HQu7; refine step_get rfl 5 _ rfl b1 (78) rfl Tryz.underlying5 rfl (.int .u8 (p 78)) ?_ ?_; exact HR.out.cell (78) (by decide)))
 go_ret
 exact ⟨by (rw [HS.out]; try rfl), HB.out⟩
set_option maxRecDepth 100000 in
set_option maxHeartbeats 1000000 in
theorem km_c2 (p : Nat → Int) (c : Int) (w : World) (hp : FitP p) (q4 : (p 0 == 4) = false) (q7 : (p 0 == 7) = true) (qc : (c == 0) = false) (q3 : (p 0 == 3) = true) (qt : (c == p 78) = true) : Calls Tryz.prog 81 #[.agg (posA p), .int .u8 c] w (BoL (kmB p c) w) := by
 have HP := Lib.hid hp
 obtain ⟨n, hn⟩ : ∃ n, kgsZ p c = n := ⟨_, rfl⟩
 have HN := Lib.hid hn
 have HS := Lib.hid (show kmB p c = decide (n ≤ 1) by unfold kmB; rw [HN.out, q4, q7, qc, q3, qt]; rfl)
 clear hp hn
 have HB := Lib.hid (Below.refl w.heap.size w)
 have HQu1 := Lib.hid trivial
 have HQu2 := Lib.hid trivial
 have HQu3 := Lib.hid trivial
 have HQu4 := Lib.hid trivial
 have HQu5 := Lib.hid trivial
 have HQu6 := Lib.hid trivial
 have HQu7 := Lib.hid trivial
 go_enter Tryz.func81, Tryz.ntmps81
 go_wp2_with (first
   | (clear HQu1; refine va_box rfl _ rfl p rfl ?_; intro b1 w1 N R; have HB := Lib.hid (HB.out.trans (N.below.mono HB.out.size)); have HR := Lib.hid R; clear N R)
   | (clear HQu2; refine va_load rfl _ rfl b1 rfl p HR.out ?_)
   | (clear HQu3; go_at_call 97; refine (kgs_any p c _ HP.out).mono ?_; rintro e w3 ⟨rfl, hb⟩; rw [HN.out]; have HR := Lib.hid (HR.out.later hb); have HB := Lib.hid (below_on HB.out hb); clear hb)
   | (clear HQu4; refine step_get rfl 5 _ rfl b1 (0) rfl Tryz.underlying5 rfl (.int .u8 (p 0)) ?_ ?_; exact HR.out.cell (0) (by decide))
   | (clear HQu5; refine step_get rfl 5 _ rfl b1 (0) rfl Tryz.underlying5 rfl (.int .u8 (p 0)) ?_ ?_; exact HR.out.cell (0) (by decide))
   | (clear HQu6; refine step_get rfl 5 _ rfl b1 (0) rfl Tryz.underlying5 rfl (.int .u8 (p 0)) ?_ ?_; exact HR.out.cell (0) (by decide))
   | (clear HQu7; refine step_get rfl 5 _ rfl b1 (78) rfl Tryz.underlying5 rfl (.int .u8 (p 78)) ?_ ?_; exact HR.out.cell (78) (by decide)))
 go_ret
 exact ⟨by (rw [HS.out]; try rfl), HB.out⟩
set_option maxRecDepth 100000 in
set_option maxHeartbeats 1000000 in
theorem km_d0 (p : Nat → Int) (c : Int) (w : World) (hp : FitP p) (q4 : (p 0 == 4) = false) (q7 : (p 0 == 7) = false) (q3 : (p 0 == 3) = false) : Calls Tryz.prog 81 #[.agg (posA p), .int .u8 c] w (BoL (kmB p c) w) := by
 have HP := Lib.hid hp
 obtain ⟨n, hn⟩ : ∃ n, kgsZ p c = n := ⟨_, rfl⟩
 have HN := Lib.hid hn
 have HS := Lib.hid (show kmB p c = (n == 1) by unfold kmB; rw [HN.out, q4, q7, q3]; rfl)
 clear hp hn
 have HB := Lib.hid (Below.refl w.heap.size w)
 have HQu1 := Lib.hid trivial
 have HQu2 := Lib.hid trivial
 have HQu3 := Lib.hid trivial
 have HQu4 := Lib.hid trivial
 have HQu5 := Lib.hid trivial
 have HQu6 := Lib.hid trivial
 go_enter Tryz.func81, Tryz.ntmps81
 go_wp2_with (first
   | (clear HQu1; refine va_box rfl _ rfl p rfl ?_; intro b1 w1 N R; have HB := Lib.hid (HB.out.trans (N.below.mono HB.out.size)); have HR := Lib.hid R; clear N R)
   | (clear HQu2; refine va_load rfl _ rfl b1 rfl p HR.out ?_)
   | (clear HQu3; go_at_call 97; refine (kgs_any p c _ HP.out).mono ?_; rintro e w3 ⟨rfl, hb⟩; rw [HN.out]; have HR := Lib.hid (HR.out.later hb); have HB := Lib.hid (below_on HB.out hb); clear hb)
   | (clear HQu4; refine step_get rfl 5 _ rfl b1 (0) rfl Tryz.underlying5 rfl (.int .u8 (p 0)) ?_ ?_; exact HR.out.cell (0) (by decide))
   | (clear HQu5; refine step_get rfl 5 _ rfl b1 (0) rfl Tryz.underlying5 rfl (.int .u8 (p 0)) ?_ ?_; exact HR.out.cell (0) (by decide))
   | (clear HQu6; refine step_get rfl 5 _ rfl b1 (0) rfl Tryz.underlying5 rfl (.int .u8 (p 0)) ?_ ?_; exact HR.out.cell (0) (by decide)))
 go_ret
 exact ⟨by (rw [HS.out]; try rfl), HB.out⟩
set_option maxRecDepth 100000 in
set_option maxHeartbeats 1000000 in
theorem km_d1 (p : Nat → Int) (c : Int) (w : World) (hp : FitP p) (q4 : (p 0 == 4) = false) (q7 : (p 0 == 7) = false) (q3 : (p 0 == 3) = true) (qt : (c == p 78) = false) : Calls Tryz.prog 81 #[.agg (posA p), .int .u8 c] w (BoL (kmB p c) w) := by
 have HP := Lib.hid hp
 obtain ⟨n, hn⟩ : ∃ n, kgsZ p c = n := ⟨_, rfl⟩
 have HN := Lib.hid hn
 have HS := Lib.hid (show kmB p c = (n == 1) by unfold kmB; rw [HN.out, q4, q7, q3, qt]; rfl)
 clear hp hn
 have HB := Lib.hid (Below.refl w.heap.size w)
 have HQu1 := Lib.hid trivial
 have HQu2 := Lib.hid trivial
 have HQu3 := Lib.hid trivial
 have HQu4 := Lib.hid trivial
 have HQu5 := Lib.hid trivial
 have HQu6 := Lib.hid trivial
 have HQu7 := Lib.hid trivial
 go_enter Tryz.func81, Tryz.ntmps81
 go_wp2_with (first
   | (clear HQu1; refine va_box rfl _ rfl p rfl ?_; intro b1 w1 N R; have HB := Lib.hid (HB.out.trans (N.below.mono HB.out.size)); have HR := Lib.hid R; clear N R)
   | (clear HQu2; refine va_load rfl _ rfl b1 rfl p HR.out ?_)
   | (clear HQu3; go_at_call 97; refine (kgs_any p c _ HP.out).mono ?_; rintro e w3 ⟨rfl, hb⟩; rw [HN.out]; have HR := Lib.hid (HR.out.later hb); have HB := Lib.hid (below_on HB.out hb); clear hb)
   | (clear HQu4; refine step_get rfl 5 _ rfl b1 (0) rfl Tryz.underlying5 rfl (.int .u8 (p 0)) ?_ ?_; exact HR.out.cell (0) (by decide))
   | (clear HQu5; refine step_get rfl 5 _ rfl b1 (0) rfl Tryz.underlying5 rfl (.int .u8 (p 0)) ?_ ?_; exact HR.out.cell (0) (by decide))
   | (clear HQu6; refine step_get rfl 5 _ rfl b1 (0) rfl Tryz.underlying5 rfl (.int .u8 (p 0)) ?_ ?_; exact HR.out.cell (0) (by decide))
   | (clear HQu7; refine step_get rfl 5 _ rfl b1 (78) rfl Tryz.underlying5 rfl (.int .u8 (p 78)) ?_ ?_; exact HR.out.cell (78) (by decide)))
 go_ret
 exact ⟨by (rw [HS.out]; try rfl), HB.out⟩
set_option maxRecDepth 100000 in
set_option maxHeartbeats 1000000 in
theorem km_d2 (p : Nat → Int) (c : Int) (w : World) (hp : FitP p) (q4 : (p 0 == 4) = false) (q7 : (p 0 == 7) = false) (q3 : (p 0 == 3) = true) (qt : (c == p 78) = true) : Calls Tryz.prog 81 #[.agg (posA p), .int .u8 c] w (BoL (kmB p c) w) := by
 have HP := Lib.hid hp
 obtain ⟨n, hn⟩ : ∃ n, kgsZ p c = n := ⟨_, rfl⟩
 have HN := Lib.hid hn
 have HS := Lib.hid (show kmB p c = decide (n ≤ 1) by unfold kmB; rw [HN.out, q4, q7, q3, qt]; rfl)
 clear hp hn
 have HB := Lib.hid (Below.refl w.heap.size w)
 have HQu1 := Lib.hid trivial
 have HQu2 := Lib.hid trivial
 have HQu3 := Lib.hid trivial
 have HQu4 := Lib.hid trivial
 have HQu5 := Lib.hid trivial
 have HQu6 := Lib.hid trivial
 have HQu7 := Lib.hid trivial
 go_enter Tryz.func81, Tryz.ntmps81
 go_wp2_with (first
   | (clear HQu1; refine va_box rfl _ rfl p rfl ?_; intro b1 w1 N R; have HB := Lib.hid (HB.out.trans (N.below.mono HB.out.size)); have HR := Lib.hid R; clear N R)
   | (clear HQu2; refine va_load rfl _ rfl b1 rfl p HR.out ?_)
   | (clear HQu3; go_at_call 97; refine (kgs_any p c _ HP.out).mono ?_; rintro e w3 ⟨rfl, hb⟩; rw [HN.out]; have HR := Lib.hid (HR.out.later hb); have HB := Lib.hid (below_on HB.out hb); clear hb)
   | (clear HQu4; refine step_get rfl 5 _ rfl b1 (0) rfl Tryz.underlying5 rfl (.int .u8 (p 0)) ?_ ?_; exact HR.out.cell (0) (by decide))
   | (clear HQu5; refine step_get rfl 5 _ rfl b1 (0) rfl Tryz.underlying5 rfl (.int .u8 (p 0)) ?_ ?_; exact HR.out.cell (0) (by decide))
   | (clear HQu6; refine step_get rfl 5 _ rfl b1 (0) rfl Tryz.underlying5 rfl (.int .u8 (p 0)) ?_ ?_; exact HR.out.cell (0) (by decide))
   | (clear HQu7; refine step_get rfl 5 _ rfl b1 (78) rfl Tryz.underlying5 rfl (.int .u8 (p 78)) ?_ ?_; exact HR.out.cell (78) (by decide)))
 go_ret
 exact ⟨by (rw [HS.out]; try rfl), HB.out⟩
theorem km_any (p : Nat → Int) (c : Int) (w : World) (hp : FitP p) : Calls Tryz.prog 81 #[.agg (posA p), .int .u8 c] w (BoL (kmB p c) w) := by
 cases q4 : (p 0 == 4)
 ·cases q7 : (p 0 == 7)
  ·cases q3 : (p 0 == 3)
   ·exact km_d0 p c w hp q4 q7 q3
   ·cases qt : (c == p 78)
    ·exact km_d1 p c w hp q4 q7 q3 qt
    ·exact km_d2 p c w hp q4 q7 q3 qt
  ·cases qc : (c == 0)
   ·cases q3 : (p 0 == 3)
    ·exact km_c0 p c w hp q4 q7 qc q3
    ·cases qt : (c == p 78)
     ·exact km_c1 p c w hp q4 q7 qc q3 qt
     ·exact km_c2 p c w hp q4 q7 qc q3 qt
   ·exact km_b p c w hp q4 q7 qc
 ·exact km_a p c w hp q4
set_option maxRecDepth 100000 in
set_option maxHeartbeats 1000000 in
theorem kg_0 (p : Nat → Int) (w : World) (hp : FitP p) (q0 : kmB p 0 = false) : Calls Tryz.prog 54 #[.agg (posA p)] w (IntL (anZ p 2) w) := by
 have HP := Lib.hid hp
 have HS := Lib.hid (show anZ p 2 = 120 by unfold anZ okN kgB; rw [q0]; rfl)
 have HQ0 := Lib.hid q0
 clear hp q0
 have HB := Lib.hid (Below.refl w.heap.size w)
 have HQu1 := Lib.hid trivial
 have HQu2 := Lib.hid trivial
 have HQu3 := Lib.hid trivial
 have HQu4 := Lib.hid trivial
 go_enter Tryz.func54, Tryz.ntmps54
 go_wp2_with (first
   | (clear HQu1; refine va_box rfl _ rfl p rfl ?_; intro b1 w1 N R; have HB := Lib.hid (HB.out.trans (N.below.mono HB.out.size)); have HR := Lib.hid R; clear N R)
   | (clear HQu2; refine va_load rfl _ rfl b1 rfl p HR.out ?_)
   | (clear HQu3; go_at_call 81; refine (km_any p 0 _ HP.out).mono ?_; rintro e w3 ⟨rfl, hb⟩; rw [HQ0.out]; have HR := Lib.hid (HR.out.later hb); have HB := Lib.hid (below_on HB.out hb); clear hb)
   | (clear HQu4; go_at_call 42; refine (unl_any _ _ _).mono ?_; rintro e w9 ⟨rfl, rfl⟩))
 go_ret
 exact ⟨by (rw [HS.out]; try rfl), HB.out⟩
set_option maxRecDepth 100000 in
set_option maxHeartbeats 1000000 in
theorem kg_1 (p : Nat → Int) (w : World) (hp : FitP p) (q0 : kmB p 0 = true) (q1 : kmB p 1 = false) : Calls Tryz.prog 54 #[.agg (posA p)] w (IntL (anZ p 2) w) := by
 have HP := Lib.hid hp
 have HS := Lib.hid (show anZ p 2 = 120 by unfold anZ okN kgB; rw [q0, q1]; rfl)
 have HQ0 := Lib.hid q0
 have HQ1 := Lib.hid q1
 clear hp q0 q1
 have HB := Lib.hid (Below.refl w.heap.size w)
 have HQu1 := Lib.hid trivial
 have HQu2 := Lib.hid trivial
 have HQu3 := Lib.hid trivial
 have HQu4 := Lib.hid trivial
 have HQu5 := Lib.hid trivial
 have HQu6 := Lib.hid trivial
 go_enter Tryz.func54, Tryz.ntmps54
 go_wp2_with (first
   | (clear HQu1; refine va_box rfl _ rfl p rfl ?_; intro b1 w1 N R; have HB := Lib.hid (HB.out.trans (N.below.mono HB.out.size)); have HR := Lib.hid R; clear N R)
   | (clear HQu2; refine va_load rfl _ rfl b1 rfl p HR.out ?_)
   | (clear HQu3; go_at_call 81; refine (km_any p 0 _ HP.out).mono ?_; rintro e w3 ⟨rfl, hb⟩; rw [HQ0.out]; have HR := Lib.hid (HR.out.later hb); have HB := Lib.hid (below_on HB.out hb); clear hb)
   | (clear HQu4; refine va_load rfl _ rfl b1 rfl p HR.out ?_)
   | (clear HQu5; go_at_call 81; refine (km_any p 1 _ HP.out).mono ?_; rintro e w3 ⟨rfl, hb⟩; rw [HQ1.out]; have HR := Lib.hid (HR.out.later hb); have HB := Lib.hid (below_on HB.out hb); clear hb)
   | (clear HQu6; go_at_call 42; refine (unl_any _ _ _).mono ?_; rintro e w9 ⟨rfl, rfl⟩))
 go_ret
 exact ⟨by (rw [HS.out]; try rfl), HB.out⟩
set_option maxRecDepth 100000 in
set_option maxHeartbeats 1000000 in
theorem kg_2 (p : Nat → Int) (w : World) (hp : FitP p) (q0 : kmB p 0 = true) (q1 : kmB p 1 = true) : Calls Tryz.prog 54 #[.agg (posA p)] w (IntL (anZ p 2) w) := by
 have HP := Lib.hid hp
 have HS := Lib.hid (show anZ p 2 = 0 by unfold anZ okN kgB; rw [q0, q1]; rfl)
 have HQ0 := Lib.hid q0
 have HQ1 := Lib.hid q1
 clear hp q0 q1
 have HB := Lib.hid (Below.refl w.heap.size w)
 have HQu1 := Lib.hid trivial
 have HQu2 := Lib.hid trivial
 have HQu3 := Lib.hid trivial
 have HQu4 := Lib.hid trivial
 have HQu5 := Lib.hid trivial
 have HQu6 := Lib.hid trivial
 go_enter Tryz.func54, Tryz.ntmps54
 go_wp2_with (first
   | (clear HQu1; refine va_box rfl _ rfl p rfl ?_; intro b1 w1 N R; have HB := Lib.hid (HB.out.trans (N.below.mono HB.out.size)); have HR := Lib.hid R; clear N R)
   | (clear HQu2; refine va_load rfl _ rfl b1 rfl p HR.out ?_)
   | (clear HQu3; go_at_call 81; refine (km_any p 0 _ HP.out).mono ?_; rintro e w3 ⟨rfl, hb⟩; rw [HQ0.out]; have HR := Lib.hid (HR.out.later hb); have HB := Lib.hid (below_on HB.out hb); clear hb)
   | (clear HQu4; refine va_load rfl _ rfl b1 rfl p HR.out ?_)
   | (clear HQu5; go_at_call 81; refine (km_any p 1 _ HP.out).mono ?_; rintro e w3 ⟨rfl, hb⟩; rw [HQ1.out]; have HR := Lib.hid (HR.out.later hb); have HB := Lib.hid (below_on HB.out hb); clear hb)
   | (clear HQu6; go_at_call 42; refine (unl_any _ _ _).mono ?_; rintro e w9 ⟨rfl, rfl⟩))
 go_ret
 exact ⟨by (rw [HS.out]; try rfl), HB.out⟩
theorem kg_any (p : Nat → Int) (w : World) (hp : FitP p) : Calls Tryz.prog 54 #[.agg (posA p)] w (IntL (anZ p 2) w) := by
 cases q0 : kmB p 0
 ·exact kg_0 p w hp q0
 ·cases q1 : kmB p 1
  ·exact kg_1 p w hp q0 q1
  ·exact kg_2 p w hp q0 q1
set_option maxRecDepth 100000 in
set_option maxHeartbeats 1000000 in
theorem pm_a (p : Nat → Int) (c r : Int) (w : World) (hp : FitP p) (hT : TabVar w) (q0 : (r == 0) = true) (q7 : (p 0 == 7) = false) : Calls Tryz.prog 82 #[.agg (posA p), .int .u8 c, .int .i64 r] w (BoL (pmB p c r) w) := by
 have HT := Lib.hid hT
 obtain ⟨v, hvv⟩ : ∃ v : Nat, p 0 = (v : Int) := ⟨(p 0).toNat, (Int.toNat_of_nonneg hp.var.1).symm⟩
 have hv2 : (p 0).toNat = v := by omega
 have HV := Lib.hid (show v ≤ 255 by have := hp.var.2; omega)
 have HCs := Lib.hid (fun (W : World) (b : Nat) (h : VR W b p) => show W.cell? ⟨b, 0, none⟩ = some (.int .u8 (v : Int)) by rw [h.cell 0 (by decide), hvv]; rfl)
 have HS := Lib.hid (show pmB p c r = false by unfold pmB; rw [q0, q7]; rfl)
 rw [hvv] at q7
 clear hp hT hvv hv2
 have HB := Lib.hid (Below.refl w.heap.size w)
 have HQu1 := Lib.hid trivial
 have HQu2 := Lib.hid trivial
 go_enter Tryz.func82, Tryz.ntmps82
 go_wp2_with (first
   | (clear HQu1; refine va_box rfl _ rfl p rfl ?_; intro b1 w1 N R; have HB := Lib.hid (HB.out.trans (N.below.mono HB.out.size)); have HR := Lib.hid R; clear N R)
   | (clear HQu2; refine step_get rfl 5 _ rfl b1 0 rfl Tryz.underlying5 rfl (.int .u8 (v : Int)) ?_ ?_; exact HCs.out _ _ HR.out))
 go_ret
 exact ⟨by (rw [HS.out]; try rfl), HB.out⟩
set_option maxRecDepth 100000 in
set_option maxHeartbeats 1000000 in
theorem pm_b (p : Nat → Int) (c r : Int) (w : World) (hp : FitP p) (hT : TabVar w) (q0 : (r == 0) = true) (q7 : (p 0 == 7) = true) : Calls Tryz.prog 82 #[.agg (posA p), .int .u8 c, .int .i64 r] w (BoL (pmB p c r) w) := by
 have HT := Lib.hid hT
 obtain ⟨v, hvv⟩ : ∃ v : Nat, p 0 = (v : Int) := ⟨(p 0).toNat, (Int.toNat_of_nonneg hp.var.1).symm⟩
 have hv2 : (p 0).toNat = v := by omega
 have HV := Lib.hid (show v ≤ 255 by have := hp.var.2; omega)
 have HCs := Lib.hid (fun (W : World) (b : Nat) (h : VR W b p) => show W.cell? ⟨b, 0, none⟩ = some (.int .u8 (v : Int)) by rw [h.cell 0 (by decide), hvv]; rfl)
 have HS := Lib.hid (show pmB p c r = (c == 0) by unfold pmB; rw [q0, q7]; rfl)
 rw [hvv] at q7
 clear hp hT hvv hv2
 have HB := Lib.hid (Below.refl w.heap.size w)
 have HQu1 := Lib.hid trivial
 have HQu2 := Lib.hid trivial
 go_enter Tryz.func82, Tryz.ntmps82
 go_wp2_with (first
   | (clear HQu1; refine va_box rfl _ rfl p rfl ?_; intro b1 w1 N R; have HB := Lib.hid (HB.out.trans (N.below.mono HB.out.size)); have HR := Lib.hid R; clear N R)
   | (clear HQu2; refine step_get rfl 5 _ rfl b1 0 rfl Tryz.underlying5 rfl (.int .u8 (v : Int)) ?_ ?_; exact HCs.out _ _ HR.out))
 go_ret
 exact ⟨by (rw [HS.out]; try rfl), HB.out⟩
set_option maxRecDepth 100000 in
set_option maxHeartbeats 1000000 in
theorem pm_c (p : Nat → Int) (c r : Int) (w : World) (hp : FitP p) (hT : TabVar w) (q0 : (r == 0) = false) (q1 : (r == 7) = true) : Calls Tryz.prog 82 #[.agg (posA p), .int .u8 c, .int .i64 r] w (BoL (pmB p c r) w) := by
 have HT := Lib.hid hT
 obtain ⟨v, hvv⟩ : ∃ v : Nat, p 0 = (v : Int) := ⟨(p 0).toNat, (Int.toNat_of_nonneg hp.var.1).symm⟩
 have hv2 : (p 0).toNat = v := by omega
 have HV := Lib.hid (show v ≤ 255 by have := hp.var.2; omega)
 have HCs := Lib.hid (fun (W : World) (b : Nat) (h : VR W b p) => show W.cell? ⟨b, 0, none⟩ = some (.int .u8 (v : Int)) by rw [h.cell 0 (by decide), hvv]; rfl)
 have HS := Lib.hid (show pmB p c r = false by unfold pmB; rw [q0, q1]; rfl)
 clear hp hT hvv hv2
 have HB := Lib.hid (Below.refl w.heap.size w)
 have HQu1 := Lib.hid trivial
 go_enter Tryz.func82, Tryz.ntmps82
 go_wp2_with (first
   | (clear HQu1; refine va_box rfl _ rfl p rfl ?_; intro b1 w1 N R; have HB := Lib.hid (HB.out.trans (N.below.mono HB.out.size)); have HR := Lib.hid R; clear N R))
 go_ret
 exact ⟨by (rw [HS.out]; try rfl), HB.out⟩
set_option maxRecDepth 100000 in
set_option maxHeartbeats 1000000 in
theorem pm_d (p : Nat → Int) (c r : Int) (w : World) (hp : FitP p) (hT : TabVar w) (q0 : (r == 0) = false) (q1 : (r == 7) = false) : Calls Tryz.prog 82 #[.agg (posA p), .int .u8 c, .int .i64 r] w (BoL (pmB p c r) w) := by
 have HT := Lib.hid hT
 obtain ⟨v, hvv⟩ : ∃ v : Nat, p 0 = (v : Int) := ⟨(p 0).toNat, (Int.toNat_of_nonneg hp.var.1).symm⟩
 have hv2 : (p 0).toNat = v := by omega
 have HV := Lib.hid (show v ≤ 255 by have := hp.var.2; omega)
 have HCs := Lib.hid (fun (W : World) (b : Nat) (h : VR W b p) => show W.cell? ⟨b, 0, none⟩ = some (.int .u8 (v : Int)) by rw [h.cell 0 (by decide), hvv]; rfl)
 have HS := Lib.hid (show pmB p c r = pawB v by unfold pmB; rw [q0, q1, hv2]; rfl)
 obtain ⟨pw, hpw⟩ : ∃ b, pawB v = b := ⟨_, rfl⟩
 have HPw := Lib.hid hpw
 clear hp hT hvv hv2 hpw
 have HB := Lib.hid (Below.refl w.heap.size w)
 have HQu1 := Lib.hid trivial
 have HQu2 := Lib.hid trivial
 have HQu3 := Lib.hid trivial
 go_enter Tryz.func82, Tryz.ntmps82
 go_wp2_with (first
   | (clear HQu1; refine va_box rfl _ rfl p rfl ?_; intro b1 w1 N R; have HB := Lib.hid (HB.out.trans (N.below.mono HB.out.size)); have HR := Lib.hid R; clear N R)
   | (clear HQu2; refine step_get rfl 5 _ rfl b1 0 rfl Tryz.underlying5 rfl (.int .u8 (v : Int)) ?_ ?_; exact HCs.out _ _ HR.out)
   | (clear HQu3; go_at_call 98; refine (paw_any v _ HV.out (HT.out.on HB.out)).mono ?_; rintro e w3 ⟨rfl, hb⟩; rw [HPw.out]; have HR := Lib.hid (HR.out.later hb); have HB := Lib.hid (below_on HB.out hb); clear hb))
 go_ret
 exact ⟨by (rw [HS.out, HPw.out]; try rfl), HB.out⟩
theorem pm_any (p : Nat → Int) (c r : Int) (w : World) (hp : FitP p) (hT : TabVar w) : Calls Tryz.prog 82 #[.agg (posA p), .int .u8 c, .int .i64 r] w (BoL (pmB p c r) w) := by
 cases q0 : (r == 0)
 ·cases q1 : (r == 7)
  ·exact pm_d p c r w hp hT q0 q1
  ·exact pm_c p c r w hp hT q0 q1
 ·cases q7 : (p 0 == 7)
  ·exact pm_a p c r w hp hT q0 q7
  ·exact pm_b p c r w hp hT q0 q7
set_option maxRecDepth 100000 in
set_option maxHeartbeats 1000000 in
theorem pwn_any (p : Nat → Int) (w : World) (hp : FitP p) (hT : TabVar w) : Calls Tryz.prog 55 #[.agg (posA p)] w (IntL (anZ p 3) w) := by
 have HP := Lib.hid hp
 have HT := Lib.hid hT
 have HAn := Lib.hid (show anZ p 3 = bif pwnB p 64 then 0 else 121 from rfl)
 clear hp hT
 have HB := Lib.hid (Below.refl w.heap.size w)
 go_enter Tryz.func55, Tryz.ntmps55
 go_wp2_with (first
   | (refine va_box rfl _ rfl p rfl ?_; intro b1 w1 N R; have HB := Lib.hid (HB.out.trans (N.below.mono HB.out.size)); have HR := Lib.hid R; clear N R)
   | (refine va_arr rfl 22 _ rfl b1 1 64 rfl .u8 p HR.out (by decide) (fun j hj => kAt_board (by omega) hj) _ Tryz.underlying22 rfl size22b ?_))
 go_loopw [8] (fun i wr => ∃ k : Nat, k ≤ 64 ∧ i = .int .i64 (k : Int) ∧ Hid (pwnB p k = true) ∧ VR wr b1 p ∧ Below w.heap.size w wr) (fun i _ => 64 - (intOf i).toNat)
 case atStart => exact ⟨0, by omega, rfl, Lib.hid rfl, HR.out, HB.out⟩
 case round =>
  obtain ⟨k, hk, rfl, Hi, hr, hbw⟩ := hrel
  have HR := Lib.hid hr
  have HB := Lib.hid hbw
  clear hr hbw
  by_cases hlt : k < 64
  ·have gk0 : decide ((k : Int) < 64) = true := decide_eq_true (by omega)
   have k0 : (0 : Int) ≤ (k : Int) := by omega
   have wq : IntKind.i64.wrap ((k : Int) / 8) = (k : Int) / 8 := IntWalk.i64_in _ (by omega)
   have hx := HP.out.bd k hlt
   obtain ⟨x, HX⟩ : ∃ x, Hid (p (1 + k) = x) := ⟨_, Lib.hid rfl⟩
   rw [HX.out] at hx
   obtain ⟨x0, x1⟩ := hx
   have HX0 := Lib.hid x0
   have HX1 := Lib.hid x1
   obtain ⟨kx, HKx⟩ : ∃ a, Hid (kndZ x = a) := ⟨_, Lib.hid rfl⟩
   obtain ⟨cx, HCx⟩ : ∃ a, Hid (colZ x = a) := ⟨_, Lib.hid rfl⟩
   have HS := Lib.hid (show pwnB p (k + 1) = (!(kx == 1) || pmB p cx ((k : Int) / 8)) by rw [pwnB_succ, Hi.out, HX.out, HKx.out, HCx.out]; rfl)
   have HF := Lib.hid (fun h : pwnB p (k + 1) = false => pwnB_no h 64 (by omega))
   have Hlt := Lib.hid hlt
   clear x0 x1
   cases gk : (kx == 1)
   ·have HE := Lib.hid (show pwnB p (k + 1) = true by rw [HS.out, gk]; rfl)
    go_wp2_with (first
     | (refine va_pick rfl 22 5 _ _ rfl 64 .u8 (fun j => p (1 + j)) rfl k rfl hlt Tryz.underlying22 Tryz.underlying5 sizeU8a _ HX.out ?_))
    refine late_begin 12 (by kernel_rfl) ?_
    refine lv 0 rfl ?_; apply Exists.intro; refine ⟨fun w' hl => ?_, ?_⟩
    ·(go_simp; try with_reducible rfl)
    simp only [Act.put, pa, pb, pc]
    refine late_one 1 (by kernel_rfl) (by kernel_rfl) (fun o ho => ?_)
    simp only [qa, qb, qc, qd] at ho; subst ho
    refine ⟨by kernel_rfl, fun wn hl K hK => ?_⟩
    have HR := Lib.hid (HR.out.later hl); have HB := Lib.hid (below_on HB.out hl); clear hl
    refine wp_enter _ _ (by go_simp; exact ⟨rfl, rfl⟩) ?_
    refine (knd_any x _ HX0.out HX1.out).mono ?_; rintro e wm ⟨rfl, rfl⟩; refine ⟨_, rfl, ?_⟩
    rw [HKx.out]
    refine hK.out _ _ (Later.refl _) ?_
    clear hK K
    simp only [Act.put, pa, pb, pc]
    refine lv 2 rfl ⟨.bool false, fun w' hl => ?_, ?_⟩
    ·(go_simp; try simp [gk])
    simp only [Act.put, pa, pb, pc]
    refine lv 3 rfl ?_; apply Exists.intro; refine ⟨fun w' hl => ?_, ?_⟩
    ·(go_simp; try with_reducible rfl)
    simp only [Act.put, pa, pb, pc]
    refine lo 4 rfl ?_
    simp only [Act.put, pa, pb, pc]
    refine lo 5 rfl ?_
    simp only [Act.put, pa, pb, pc]
    refine lo 6 rfl ?_
    simp only [Act.put, pa, pb, pc]
    refine lo 7 rfl ?_
    simp only [Act.put, pa, pb, pc]
    refine lo 8 rfl ?_
    simp only [Act.put, pa, pb, pc]
    refine lo 9 rfl ?_
    simp only [Act.put, pa, pb, pc]
    refine lo 10 rfl ?_
    simp only [Act.put, pa, pb, pc]
    refine lv 11 rfl ?_; apply Exists.intro; refine ⟨fun w' hl => ?_, ?_⟩
    ·(go_simp; try with_reducible rfl)
    simp only [Act.put, pa, pb, pc]
    refine late_end (by kernel_rfl) (fun wn hl => ?_)
    have HR := Lib.hid (HR.out.later hl); have HB := Lib.hid (below_on HB.out hl); clear hl
    go_wp2_with fail
    go_roundw
    case rel => exact ⟨k + 1, by have := Hlt.out; omega, by go_num, HE, HR.out, HB.out⟩
    case measure => simp [intOf]; have := Hlt.out; omega
   ·cases hpm : pmB p cx ((k : Int) / 8)
    ·have HPm := Lib.hid hpm
     have HQ := Lib.hid (HF.out (by rw [HS.out, gk, hpm]; rfl))
     clear hpm
     go_wp2_with (first
      | (refine va_pick rfl 22 5 _ _ rfl 64 .u8 (fun j => p (1 + j)) rfl k rfl hlt Tryz.underlying22 Tryz.underlying5 sizeU8a _ HX.out ?_))
     refine late_begin 12 (by kernel_rfl) ?_
     refine lv 0 rfl ?_; apply Exists.intro; refine ⟨fun w' hl => ?_, ?_⟩
     ·(go_simp; try with_reducible rfl)
     simp only [Act.put, pa, pb, pc]
     refine late_one 1 (by kernel_rfl) (by kernel_rfl) (fun o ho => ?_)
     simp only [qa, qb, qc, qd] at ho; subst ho
     refine ⟨by kernel_rfl, fun wn hl K hK => ?_⟩
     have HR := Lib.hid (HR.out.later hl); have HB := Lib.hid (below_on HB.out hl); clear hl
     refine wp_enter _ _ (by go_simp; exact ⟨rfl, rfl⟩) ?_
     refine (knd_any x _ HX0.out HX1.out).mono ?_; rintro e wm ⟨rfl, rfl⟩; refine ⟨_, rfl, ?_⟩
     rw [HKx.out]
     refine hK.out _ _ (Later.refl _) ?_
     clear hK K
     simp only [Act.put, pa, pb, pc]
     refine lv 2 rfl ⟨.bool true, fun w' hl => ?_, ?_⟩
     ·(go_simp; try simp [gk])
     simp only [Act.put, pa, pb, pc]
     refine lv 3 rfl ?_; apply Exists.intro; refine ⟨fun w' hl => ?_, ?_⟩
     ·(go_simp; try with_reducible rfl)
     simp only [Act.put, pa, pb, pc]
     refine lv 4 rfl ⟨_, fun w' hl => (run_va _ rfl b1 rfl p (HR.out.later hl)), ?_⟩
     simp only [Act.put, pa, pb, pc]
     refine lv 5 rfl ?_; apply Exists.intro; refine ⟨fun w' hl => ?_, ?_⟩
     ·(go_simp; try with_reducible rfl)
     simp only [Act.put, pa, pb, pc]
     refine lv 7 rfl ?_; apply Exists.intro; refine ⟨fun w' hl => ?_, ?_⟩
     ·(go_simp; try with_reducible rfl)
     simp only [Act.put, pa, pb, pc]
     refine lv 8 rfl ⟨.int .i64 ((k : Int) / 8), fun w' hl => ?_, ?_⟩
     ·(go_simp; try simp [wq])
     simp only [Act.put, pa, pb, pc]
     refine late_one 6 (by kernel_rfl) (by kernel_rfl) (fun o ho => ?_)
     simp only [qa, qb, qc, qd] at ho; subst ho
     refine ⟨by kernel_rfl, fun wn hl K hK => ?_⟩
     have HR := Lib.hid (HR.out.later hl); have HB := Lib.hid (below_on HB.out hl); clear hl
     refine wp_enter _ _ (by go_simp; exact ⟨rfl, rfl⟩) ?_
     refine (col_any x _ HX0.out HX1.out).mono ?_; rintro e wm ⟨rfl, rfl⟩; refine ⟨_, rfl, ?_⟩
     rw [HCx.out]
     refine hK.out _ _ (Later.refl _) ?_
     clear hK K
     simp only [Act.put, pa, pb, pc]
     refine late_one 9 (by kernel_rfl) (by kernel_rfl) (fun o ho => ?_)
     simp only [qa, qb, qc, qd] at ho; subst ho
     refine ⟨by kernel_rfl, fun wn hl K hK => ?_⟩
     have HR := Lib.hid (HR.out.later hl); have HB := Lib.hid (below_on HB.out hl); clear hl
     refine wp_enter _ _ (by go_simp; exact ⟨rfl, rfl⟩) ?_
     refine (pm_any p cx ((k : Int) / 8) _ HP.out (HT.out.on HB.out)).mono ?_; rintro e wm ⟨rfl, hb⟩; refine ⟨_, rfl, ?_⟩
     rw [HPm.out]
     refine hK.out _ _ hb ?_
     have HR := Lib.hid (HR.out.later hb); have HB := Lib.hid (below_on HB.out hb); clear hb
     clear hK K
     simp only [Act.put, pa, pb, pc]
     refine lv 10 rfl ?_; apply Exists.intro; refine ⟨fun w' hl => ?_, ?_⟩
     ·(go_simp; try with_reducible rfl)
     simp only [Act.put, pa, pb, pc]
     refine lv 11 rfl ?_; apply Exists.intro; refine ⟨fun w' hl => ?_, ?_⟩
     ·(go_simp; try with_reducible rfl)
     simp only [Act.put, pa, pb, pc]
     refine late_end (by kernel_rfl) (fun wn hl => ?_)
     have HR := Lib.hid (HR.out.later hl); have HB := Lib.hid (below_on HB.out hl); clear hl
     go_wp2_with fail
     go_ret
     exact ⟨by rw [HAn.out, HQ.out]; rfl, HB.out⟩
    ·have HPm := Lib.hid hpm
     have HE := Lib.hid (show pwnB p (k + 1) = true by rw [HS.out, gk, hpm]; rfl)
     clear hpm
     go_wp2_with (first
      | (refine va_pick rfl 22 5 _ _ rfl 64 .u8 (fun j => p (1 + j)) rfl k rfl hlt Tryz.underlying22 Tryz.underlying5 sizeU8a _ HX.out ?_))
     refine late_begin 12 (by kernel_rfl) ?_
     refine lv 0 rfl ?_; apply Exists.intro; refine ⟨fun w' hl => ?_, ?_⟩
     ·(go_simp; try with_reducible rfl)
     simp only [Act.put, pa, pb, pc]
     refine late_one 1 (by kernel_rfl) (by kernel_rfl) (fun o ho => ?_)
     simp only [qa, qb, qc, qd] at ho; subst ho
     refine ⟨by kernel_rfl, fun wn hl K hK => ?_⟩
     have HR := Lib.hid (HR.out.later hl); have HB := Lib.hid (below_on HB.out hl); clear hl
     refine wp_enter _ _ (by go_simp; exact ⟨rfl, rfl⟩) ?_
     refine (knd_any x _ HX0.out HX1.out).mono ?_; rintro e wm ⟨rfl, rfl⟩; refine ⟨_, rfl, ?_⟩
     rw [HKx.out]
     refine hK.out _ _ (Later.refl _) ?_
     clear hK K
     simp only [Act.put, pa, pb, pc]
     refine lv 2 rfl ⟨.bool true, fun w' hl => ?_, ?_⟩
     ·(go_simp; try simp [gk])
     simp only [Act.put, pa, pb, pc]
     refine lv 3 rfl ?_; apply Exists.intro; refine ⟨fun w' hl => ?_, ?_⟩
     ·(go_simp; try with_reducible rfl)
     simp only [Act.put, pa, pb, pc]
     refine lv 4 rfl ⟨_, fun w' hl => (run_va _ rfl b1 rfl p (HR.out.later hl)), ?_⟩
     simp only [Act.put, pa, pb, pc]
     refine lv 5 rfl ?_; apply Exists.intro; refine ⟨fun w' hl => ?_, ?_⟩
     ·(go_simp; try with_reducible rfl)
     simp only [Act.put, pa, pb, pc]
     refine lv 7 rfl ?_; apply Exists.intro; refine ⟨fun w' hl => ?_, ?_⟩
     ·(go_simp; try with_reducible rfl)
     simp only [Act.put, pa, pb, pc]
     refine lv 8 rfl ⟨.int .i64 ((k : Int) / 8), fun w' hl => ?_, ?_⟩
     ·(go_simp; try simp [wq])
     simp only [Act.put, pa, pb, pc]
     refine late_one 6 (by kernel_rfl) (by kernel_rfl) (fun o ho => ?_)
     simp only [qa, qb, qc, qd] at ho; subst ho
     refine ⟨by kernel_rfl, fun wn hl K hK => ?_⟩
     have HR := Lib.hid (HR.out.later hl); have HB := Lib.hid (below_on HB.out hl); clear hl
     refine wp_enter _ _ (by go_simp; exact ⟨rfl, rfl⟩) ?_
     refine (col_any x _ HX0.out HX1.out).mono ?_; rintro e wm ⟨rfl, rfl⟩; refine ⟨_, rfl, ?_⟩
     rw [HCx.out]
     refine hK.out _ _ (Later.refl _) ?_
     clear hK K
     simp only [Act.put, pa, pb, pc]
     refine late_one 9 (by kernel_rfl) (by kernel_rfl) (fun o ho => ?_)
     simp only [qa, qb, qc, qd] at ho; subst ho
     refine ⟨by kernel_rfl, fun wn hl K hK => ?_⟩
     have HR := Lib.hid (HR.out.later hl); have HB := Lib.hid (below_on HB.out hl); clear hl
     refine wp_enter _ _ (by go_simp; exact ⟨rfl, rfl⟩) ?_
     refine (pm_any p cx ((k : Int) / 8) _ HP.out (HT.out.on HB.out)).mono ?_; rintro e wm ⟨rfl, hb⟩; refine ⟨_, rfl, ?_⟩
     rw [HPm.out]
     refine hK.out _ _ hb ?_
     have HR := Lib.hid (HR.out.later hb); have HB := Lib.hid (below_on HB.out hb); clear hb
     clear hK K
     simp only [Act.put, pa, pb, pc]
     refine lv 10 rfl ?_; apply Exists.intro; refine ⟨fun w' hl => ?_, ?_⟩
     ·(go_simp; try with_reducible rfl)
     simp only [Act.put, pa, pb, pc]
     refine lv 11 rfl ?_; apply Exists.intro; refine ⟨fun w' hl => ?_, ?_⟩
     ·(go_simp; try with_reducible rfl)
     simp only [Act.put, pa, pb, pc]
     refine late_end (by kernel_rfl) (fun wn hl => ?_)
     have HR := Lib.hid (HR.out.later hl); have HB := Lib.hid (below_on HB.out hl); clear hl
     go_wp2_with fail
     go_roundw
     case rel => exact ⟨k + 1, by have := Hlt.out; omega, by go_num, HE, HR.out, HB.out⟩
     case measure => simp [intOf]; have := Hlt.out; omega
  ·obtain rfl : k = 64 := by omega
   go_wp2_with fail
   go_ret
   exact ⟨by rw [HAn.out, Hi.out]; rfl, HB.out⟩
end Go.Proofs.YtigkbccpkepdmaaGreatDoor
