/-
 Contracts of the program's From, sheltered, Check, Checkers.
-/
import Derived.Test.YteblmnbagbdiiaaGreatDoorAfAtt
set_option maxRecDepth 100000
set_option maxHeartbeats 1000000
namespace Go.Proofs.YteblmnbagbdiiaaGreatDoor
open Go.RowKit
set_option linter.unusedVariables false
set_option linter.unusedSimpArgs false

structure AtR (p : Nat → Int) : Prop where
 bd : BdR p
 var : 0 ≤ p 0 ∧ p 0 ≤ 255
 turn : 0 ≤ p 78 ∧ p 78 ≤ 255
def kingZ (p : Nat → Int) (c : Int) : Int := firstN (ofN p c 6)
def shelB (p : Nat → Int) (k c : Int) : Bool := (p 0 == 3) && (kingN k &&& ofN p (oth c) 6 != 0)
def chkB (p : Nat → Int) (c : Int) : Bool := ryB (p 0).toNat c.toNat && (!shelB p (kingZ p c) c && anyB p (kingZ p c) (oth c))
theorem oth_u8 (c : Int) : 0 ≤ oth c ∧ oth c ≤ 255 := by unfold oth; omega
theorem bne_nat (n : Nat) : (((n : Nat) : Int) != 0) = (n != 0) := by
 rw [Bool.eq_iff_iff, bne_iff_ne, bne_iff_ne]; omega
theorem royal_c (v m : Nat) (c : Int) (h : (m : Int) = c) (w : World) (hv : v ≤ 255) (hT : TabVar w) : Calls Tryz.prog 14 #[.int .u8 (v : Int), .int .u8 c] w (BoL (ryB v m) w) := h ▸ royal_any v m w hv hT
theorem shel_any (p : Nat → Int) (k c : Int) (w : World) (hp : AtR p) (hL : TabLead w) : Calls Tryz.prog 32 #[.agg (posA p), .int .i64 k, .int .u8 c] w (BoL (shelB p k c) w) := by
 have HP := H_ hp.bd
 have HL := H_ hL
 obtain ⟨v, HV⟩ : ∃ v, Hid (p 0 = v) := ⟨_, H_ rfl⟩
 cases g0 : (v == 3)
 ·have HS := H_ (show shelB p k c = false by unfold shelB; rw [HV.out, g0]; rfl)
  clear hp hL
  go_enter Tryz.func32, Tryz.ntmps32
  go_wp2_with (refine step_box rfl _ rfl p rfl ?_; intro b1 w1 N R; have HB := H_ N.below; have HR1 := H_ R; clear N R)
  refine late_begin 14 (by kernel_rfl) ?_
  refine lw 0 rfl ?_
  simp only [Act.put, pa, pb, pc]
  refine lv 1 rfl ⟨_, fun w' hl => (run_get 5 _ rfl b1 0 rfl Tryz.underlying5 rfl (.int .u8 v) (by rw [(HR1.out.later hl).cell 0 (by omega), HV.out]; rfl)), ?_⟩
  simp only [Act.put, pa, pb, pc]
  refine lw 2 rfl ?_
  simp only [Act.put, pa, pb, pc]
  refine lw 3 rfl ?_
  simp only [Act.put, pa, pb, pc]
  refine lo 4 rfl ?_
  simp only [Act.put, pa, pb, pc]
  refine lo 5 rfl ?_
  simp only [Act.put, pa, pb, pc]
  refine lo 6 rfl ?_
  simp only [Act.put, pa, pb, pc]
  refine lo 7 rfl ?_
  simp only [Act.put, pa, pb, pc]
  refine lo 8 rfl ?_
  simp only [Act.put, pa, pb, pc]
  refine lo 9 rfl ?_
  simp only [Act.put, pa, pb, pc]
  refine lo 10 rfl ?_
  simp only [Act.put, pa, pb, pc]
  refine lo 11 rfl ?_
  simp only [Act.put, pa, pb, pc]
  refine lw 12 rfl ?_
  simp only [Act.put, pa, pb, pc]
  refine lw 13 rfl ?_
  simp only [Act.put, pa, pb, pc]
  refine late_end (by kernel_rfl) (fun wn hl => ?_)
  have HR1 := H_ (HR1.out.later hl); have HB := H_ (below_on HB.out hl); clear hl
  go_wp2_with fail
  go_ret
  exact ⟨by rw [HS.out]; rfl, HB.out⟩
 ·have HAnd := H_ (and_nat (kingN_lt k) (ofN_lt p (oth c) 6))
  have HS := H_ (show shelB p k c = (((kingN k &&& ofN p (oth c) 6 : Nat) : Int) != 0) by unfold shelB; rw [HV.out, g0, bne_nat]; rfl)
  clear hp hL
  go_enter Tryz.func32, Tryz.ntmps32
  go_wp2_with (refine step_box rfl _ rfl p rfl ?_; intro b1 w1 N R; have HB := H_ N.below; have HR1 := H_ R; clear N R)
  refine late_begin 14 (by kernel_rfl) ?_
  refine lw 0 rfl ?_
  simp only [Act.put, pa, pb, pc]
  refine lv 1 rfl ⟨_, fun w' hl => (run_get 5 _ rfl b1 0 rfl Tryz.underlying5 rfl (.int .u8 v) (by rw [(HR1.out.later hl).cell 0 (by omega), HV.out]; rfl)), ?_⟩
  simp only [Act.put, pa, pb, pc]
  refine lw 2 rfl ?_
  simp only [Act.put, pa, pb, pc]
  refine lw 3 rfl ?_
  simp only [Act.put, pa, pb, pc]
  refine lw 4 rfl ?_
  simp only [Act.put, pa, pb, pc]
  refine lv 6 rfl ⟨_, fun w' hl => (run_load _ rfl _ rfl (p) (HR1.out.later hl)), ?_⟩
  simp only [Act.put, pa, pb, pc]
  refine lw 7 rfl ?_
  simp only [Act.put, pa, pb, pc]
  refine l1 5 rfl fun wn hl K hK => ?_
  have HR1 := H_ (HR1.out.later hl); have HB := H_ (below_on HB.out hl); clear hl
  refine we ?_
  refine (king_any k _ (HL.out.next HB.out)).mono ?_; rintro e wm ⟨rfl, hb⟩; refine ⟨_, rfl, ?_⟩
  refine hK.out _ _ hb ?_
  have HR1 := H_ (HR1.out.later hb); have HB := H_ (below_on HB.out hb); clear hb
  clear hK K
  simp only [Act.put, pa, pb, pc]
  refine l1 8 rfl fun wn hl K hK => ?_
  have HR1 := H_ (HR1.out.later hl); have HB := H_ (below_on HB.out hl); clear hl
  refine we ?_
  refine (other_any c _).mono ?_; rintro e wm ⟨rfl, rfl⟩; refine ⟨_, rfl, ?_⟩
  refine hK.out _ _ (Later.refl _) ?_
  clear hK K
  simp only [Act.put, pa, pb, pc]
  refine l1 9 rfl fun wn hl K hK => ?_
  have HR1 := H_ (HR1.out.later hl); have HB := H_ (below_on HB.out hl); clear hl
  refine we ?_
  refine (of_any p _ _ _ HP.out).mono ?_; rintro e wm ⟨rfl, hb⟩; refine ⟨_, rfl, ?_⟩
  refine hK.out _ _ hb ?_
  have HR1 := H_ (HR1.out.later hb); have HB := H_ (below_on HB.out hb); clear hb
  clear hK K
  simp only [Act.put, pa, pb, pc]
  refine lw 10 rfl ?_
  simp only [Act.put, pa, pb, pc]
  refine lw 11 rfl ?_
  simp only [Act.put, pa, pb, pc]
  refine lw 12 rfl ?_
  simp only [Act.put, pa, pb, pc]
  refine lw 13 rfl ?_
  simp only [Act.put, pa, pb, pc]
  refine late_end (by kernel_rfl) (fun wn hl => ?_)
  have HR1 := H_ (HR1.out.later hl); have HB := H_ (below_on HB.out hl); clear hl
  go_wp2_with fail
  go_ret
  exact ⟨by rw [HS.out, ← HAnd.out]; rfl, HB.out⟩
theorem check_any (p : Nat → Int) (c : Int) (w : World) (hp : AtR p) (hc : 0 ≤ c ∧ c ≤ 255) (hD : TabDb w) (hL : TabLead w) (hT : TabVar w) : Calls Tryz.prog 15 #[.agg (posA p), .int .u8 c] w (BoL (chkB p c) w) := by
 have HAt := H_ hp
 have HD := H_ hD
 have HL := H_ hL
 have HTv := H_ hT
 obtain ⟨v, hv⟩ := Int.eq_ofNat_of_zero_le hp.var.1
 have HV := H_ hv
 have HV2 := H_ (show v ≤ 255 by have := hp.var.2; omega)
 obtain ⟨m, rfl⟩ := Int.eq_ofNat_of_zero_le hc.1
 obtain ⟨c, HCm⟩ : ∃ c : Int, Hid ((m : Int) = c) := ⟨_, H_ rfl⟩
 have HZ := H_ (show chkB p c = (ryB v m && (!shelB p (kingZ p c) c && anyB p (kingZ p c) (oth c))) by unfold chkB; rw [hv, ← HCm.out]; rfl)
 rw [HCm.out]
 clear hp hD hL hT hv hc
 cases gr : ryB v m
 ·have HRy := H_ gr
  go_enter Tryz.func15, Tryz.ntmps15
  go_wp2_with (first | (refine step_box rfl _ rfl p rfl ?_; intro b1 w1 N R; have HB := H_ N.below; have HR1 := H_ R; clear N R) | (refine step_load rfl _ rfl _ rfl p HR1.out ?_))
  refine (find_set p c 6 _ HAt.out.bd (HD.out.on HB.out)).mono ?_; rintro e wn ⟨rfl, hb⟩; rw [show firstN (ofN p c 6) = kingZ p c from rfl]; have HR1 := H_ (HR1.out.later hb); have HB := H_ (below_on HB.out hb); clear hb
  go_wp2_with fail
  refine late_begin 19 (by kernel_rfl) ?_
  refine lw 0 rfl ?_
  simp only [Act.put, pa, pb, pc]
  refine lv 1 rfl ⟨_, fun w' hl => (run_get 5 _ rfl b1 0 rfl Tryz.underlying5 rfl (.int .u8 (v : Int)) (by rw [(HR1.out.later hl).cell 0 (by omega), HV.out]; rfl)), ?_⟩
  simp only [Act.put, pa, pb, pc]
  refine lw 2 rfl ?_
  simp only [Act.put, pa, pb, pc]
  refine l1 3 rfl fun wn hl K hK => ?_
  have HR1 := H_ (HR1.out.later hl); have HB := H_ (below_on HB.out hl); clear hl
  refine we ?_
  refine (royal_c v m c HCm.out _ HV2.out (HTv.out.on HB.out)).mono ?_; rintro e wm ⟨rfl, hb⟩; refine ⟨_, rfl, ?_⟩
  rw [HRy.out]
  refine hK.out _ _ hb ?_
  have HR1 := H_ (HR1.out.later hb); have HB := H_ (below_on HB.out hb); clear hb
  clear hK K
  simp only [Act.put, pa, pb, pc]
  refine lw 4 rfl ?_
  simp only [Act.put, pa, pb, pc]
  refine lo 5 rfl ?_
  simp only [Act.put, pa, pb, pc]
  refine lo 6 rfl ?_
  simp only [Act.put, pa, pb, pc]
  refine lo 7 rfl ?_
  simp only [Act.put, pa, pb, pc]
  refine lo 8 rfl ?_
  simp only [Act.put, pa, pb, pc]
  refine lo 9 rfl ?_
  simp only [Act.put, pa, pb, pc]
  refine lw 10 rfl ?_
  simp only [Act.put, pa, pb, pc]
  refine lw 11 rfl ?_
  simp only [Act.put, pa, pb, pc]
  refine lo 12 rfl ?_
  simp only [Act.put, pa, pb, pc]
  refine lo 13 rfl ?_
  simp only [Act.put, pa, pb, pc]
  refine lo 14 rfl ?_
  simp only [Act.put, pa, pb, pc]
  refine lo 15 rfl ?_
  simp only [Act.put, pa, pb, pc]
  refine lo 16 rfl ?_
  simp only [Act.put, pa, pb, pc]
  refine lw 17 rfl ?_
  simp only [Act.put, pa, pb, pc]
  refine lw 18 rfl ?_
  simp only [Act.put, pa, pb, pc]
  refine late_end (by kernel_rfl) (fun wn hl => ?_)
  have HR1 := H_ (HR1.out.later hl); have HB := H_ (below_on HB.out hl); clear hl
  go_wp2_with fail
  go_ret
  exact ⟨by rw [HZ.out, HRy.out]; rfl, HB.out⟩
 ·have HRy := H_ gr
  cases gs : shelB p (kingZ p c) c
  ·have HSh := H_ gs
   go_enter Tryz.func15, Tryz.ntmps15
   go_wp2_with (first | (refine step_box rfl _ rfl p rfl ?_; intro b1 w1 N R; have HB := H_ N.below; have HR1 := H_ R; clear N R) | (refine step_load rfl _ rfl _ rfl p HR1.out ?_))
   refine (find_set p c 6 _ HAt.out.bd (HD.out.on HB.out)).mono ?_; rintro e wn ⟨rfl, hb⟩; rw [show firstN (ofN p c 6) = kingZ p c from rfl]; have HR1 := H_ (HR1.out.later hb); have HB := H_ (below_on HB.out hb); clear hb
   go_wp2_with fail
   refine late_begin 19 (by kernel_rfl) ?_
   refine lw 0 rfl ?_
   simp only [Act.put, pa, pb, pc]
   refine lv 1 rfl ⟨_, fun w' hl => (run_get 5 _ rfl b1 0 rfl Tryz.underlying5 rfl (.int .u8 (v : Int)) (by rw [(HR1.out.later hl).cell 0 (by omega), HV.out]; rfl)), ?_⟩
   simp only [Act.put, pa, pb, pc]
   refine lw 2 rfl ?_
   simp only [Act.put, pa, pb, pc]
   refine l1 3 rfl fun wn hl K hK => ?_
   have HR1 := H_ (HR1.out.later hl); have HB := H_ (below_on HB.out hl); clear hl
   refine we ?_
   refine (royal_c v m c HCm.out _ HV2.out (HTv.out.on HB.out)).mono ?_; rintro e wm ⟨rfl, hb⟩; refine ⟨_, rfl, ?_⟩
   rw [HRy.out]
   refine hK.out _ _ hb ?_
   have HR1 := H_ (HR1.out.later hb); have HB := H_ (below_on HB.out hb); clear hb
   clear hK K
   simp only [Act.put, pa, pb, pc]
   refine lw 4 rfl ?_
   simp only [Act.put, pa, pb, pc]
   refine lv 5 rfl ⟨_, fun w' hl => (run_load _ rfl _ rfl (p) (HR1.out.later hl)), ?_⟩
   simp only [Act.put, pa, pb, pc]
   refine lw 6 rfl ?_
   simp only [Act.put, pa, pb, pc]
   refine lw 7 rfl ?_
   simp only [Act.put, pa, pb, pc]
   refine l1 8 rfl fun wn hl K hK => ?_
   have HR1 := H_ (HR1.out.later hl); have HB := H_ (below_on HB.out hl); clear hl
   refine we ?_
   refine (shel_any p (kingZ p c) c _ HAt.out (HL.out.next HB.out)).mono ?_; rintro e wm ⟨rfl, hb⟩; refine ⟨_, rfl, ?_⟩
   rw [HSh.out]
   refine hK.out _ _ hb ?_
   have HR1 := H_ (HR1.out.later hb); have HB := H_ (below_on HB.out hb); clear hb
   clear hK K
   simp only [Act.put, pa, pb, pc]
   refine lw 9 rfl ?_
   simp only [Act.put, pa, pb, pc]
   refine lw 10 rfl ?_
   simp only [Act.put, pa, pb, pc]
   refine lw 11 rfl ?_
   simp only [Act.put, pa, pb, pc]
   refine lv 12 rfl ⟨_, fun w' hl => (run_load _ rfl _ rfl (p) (HR1.out.later hl)), ?_⟩
   simp only [Act.put, pa, pb, pc]
   refine lw 13 rfl ?_
   simp only [Act.put, pa, pb, pc]
   refine lw 14 rfl ?_
   simp only [Act.put, pa, pb, pc]
   refine l1 15 rfl fun wn hl K hK => ?_
   have HR1 := H_ (HR1.out.later hl); have HB := H_ (below_on HB.out hl); clear hl
   refine we ?_
   refine (other_any c _).mono ?_; rintro e wm ⟨rfl, rfl⟩; refine ⟨_, rfl, ?_⟩
   refine hK.out _ _ (Later.refl _) ?_
   clear hK K
   simp only [Act.put, pa, pb, pc]
   refine l1 16 rfl fun wn hl K hK => ?_
   have HR1 := H_ (HR1.out.later hl); have HB := H_ (below_on HB.out hl); clear hl
   refine we ?_
   refine (on_any p (kingZ p c) (oth c) _ HAt.out.bd (oth_u8 c).1 (HD.out.next HB.out) (HL.out.next HB.out)).mono ?_; rintro e wm ⟨rfl, hb⟩; refine ⟨_, rfl, ?_⟩
   refine hK.out _ _ hb ?_
   have HR1 := H_ (HR1.out.later hb); have HB := H_ (below_on HB.out hb); clear hb
   clear hK K
   simp only [Act.put, pa, pb, pc]
   refine lw 17 rfl ?_
   simp only [Act.put, pa, pb, pc]
   refine lw 18 rfl ?_
   simp only [Act.put, pa, pb, pc]
   refine late_end (by kernel_rfl) (fun wn hl => ?_)
   have HR1 := H_ (HR1.out.later hl); have HB := H_ (below_on HB.out hl); clear hl
   go_wp2_with fail
   go_ret
   exact ⟨by rw [HZ.out, HRy.out, HSh.out]; rfl, HB.out⟩
  ·have HSh := H_ gs
   go_enter Tryz.func15, Tryz.ntmps15
   go_wp2_with (first | (refine step_box rfl _ rfl p rfl ?_; intro b1 w1 N R; have HB := H_ N.below; have HR1 := H_ R; clear N R) | (refine step_load rfl _ rfl _ rfl p HR1.out ?_))
   refine (find_set p c 6 _ HAt.out.bd (HD.out.on HB.out)).mono ?_; rintro e wn ⟨rfl, hb⟩; rw [show firstN (ofN p c 6) = kingZ p c from rfl]; have HR1 := H_ (HR1.out.later hb); have HB := H_ (below_on HB.out hb); clear hb
   go_wp2_with fail
   refine late_begin 19 (by kernel_rfl) ?_
   refine lw 0 rfl ?_
   simp only [Act.put, pa, pb, pc]
   refine lv 1 rfl ⟨_, fun w' hl => (run_get 5 _ rfl b1 0 rfl Tryz.underlying5 rfl (.int .u8 (v : Int)) (by rw [(HR1.out.later hl).cell 0 (by omega), HV.out]; rfl)), ?_⟩
   simp only [Act.put, pa, pb, pc]
   refine lw 2 rfl ?_
   simp only [Act.put, pa, pb, pc]
   refine l1 3 rfl fun wn hl K hK => ?_
   have HR1 := H_ (HR1.out.later hl); have HB := H_ (below_on HB.out hl); clear hl
   refine we ?_
   refine (royal_c v m c HCm.out _ HV2.out (HTv.out.on HB.out)).mono ?_; rintro e wm ⟨rfl, hb⟩; refine ⟨_, rfl, ?_⟩
   rw [HRy.out]
   refine hK.out _ _ hb ?_
   have HR1 := H_ (HR1.out.later hb); have HB := H_ (below_on HB.out hb); clear hb
   clear hK K
   simp only [Act.put, pa, pb, pc]
   refine lw 4 rfl ?_
   simp only [Act.put, pa, pb, pc]
   refine lv 5 rfl ⟨_, fun w' hl => (run_load _ rfl _ rfl (p) (HR1.out.later hl)), ?_⟩
   simp only [Act.put, pa, pb, pc]
   refine lw 6 rfl ?_
   simp only [Act.put, pa, pb, pc]
   refine lw 7 rfl ?_
   simp only [Act.put, pa, pb, pc]
   refine l1 8 rfl fun wn hl K hK => ?_
   have HR1 := H_ (HR1.out.later hl); have HB := H_ (below_on HB.out hl); clear hl
   refine we ?_
   refine (shel_any p (kingZ p c) c _ HAt.out (HL.out.next HB.out)).mono ?_; rintro e wm ⟨rfl, hb⟩; refine ⟨_, rfl, ?_⟩
   rw [HSh.out]
   refine hK.out _ _ hb ?_
   have HR1 := H_ (HR1.out.later hb); have HB := H_ (below_on HB.out hb); clear hb
   clear hK K
   simp only [Act.put, pa, pb, pc]
   refine lw 9 rfl ?_
   simp only [Act.put, pa, pb, pc]
   refine lw 10 rfl ?_
   simp only [Act.put, pa, pb, pc]
   refine lw 11 rfl ?_
   simp only [Act.put, pa, pb, pc]
   refine lo 12 rfl ?_
   simp only [Act.put, pa, pb, pc]
   refine lo 13 rfl ?_
   simp only [Act.put, pa, pb, pc]
   refine lo 14 rfl ?_
   simp only [Act.put, pa, pb, pc]
   refine lo 15 rfl ?_
   simp only [Act.put, pa, pb, pc]
   refine lo 16 rfl ?_
   simp only [Act.put, pa, pb, pc]
   refine lw 17 rfl ?_
   simp only [Act.put, pa, pb, pc]
   refine lw 18 rfl ?_
   simp only [Act.put, pa, pb, pc]
   refine late_end (by kernel_rfl) (fun wn hl => ?_)
   have HR1 := H_ (HR1.out.later hl); have HB := H_ (below_on HB.out hl); clear hl
   go_wp2_with fail
   go_ret
   exact ⟨by rw [HZ.out, HRy.out, HSh.out]; rfl, HB.out⟩
end Go.Proofs.YteblmnbagbdiiaaGreatDoor
