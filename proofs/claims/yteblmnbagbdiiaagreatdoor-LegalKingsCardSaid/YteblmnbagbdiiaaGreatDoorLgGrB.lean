/-
 Several texts in one: LgMath, LgA.
-/
import Derived.Test.YteblmnbagbdiiaaGreatDoorAfGrE
import Derived.Test.YteblmnbagbdiiaaGreatDoorAfGrF
import Derived.Test.YteblmnbagbdiiaaGreatDoorAfAtR
import Derived.Test.YteblmnbagbdiiaaGreatDoorAfCs
/-
 Layer 17: what leaves all well, and the moves that would be, in plain terms.
-/
set_option maxRecDepth 100000
set_option maxHeartbeats 4000000
namespace Go.Proofs.YteblmnbagbdiiaaGreatDoor
open Go.RowKit
set_option linter.unusedVariables false
set_option linter.unusedSimpArgs false

def hkB (p : Nat → Int) (c : Int) : Bool := !(kingZ p c == -1)
def safL (p : Nat → Int) (c : Int) : Bool := hkB p c && (!chkB p c || ((p 0 == 3) && !hkB p (oth c)))
def okL (q : Nat → Int) : Bool := !(ryB (q 0).toNat (oth (q 78)).toNat && !safL q (oth (q 78))) && (!(q 0 == 8) || !chkB q (q 78))
def welL (p : Nat → Int) (m : Mv) : Bool := movB p m && okL (movP p m)
def tkwL (p : Nat → Int) (m : Mv) : Bool := !(takZ p m == -1) && welL p m
def antL (p : Nat → Int) : Bool := (p 0 == 4) && (afL p).any (tkwL p)
def wanL (p : Nat → Int) (m : Mv) : Bool := bif antL p then tkwL p m else welL p m
def wouL (p : Nat → Int) : List Mv := (afL p).filter (wanL p)

theorem tur_wf {p : Nat → Int} {c : Ch} (h : ChR p c) : WfP (turA p) := by
 have h1 : WfP (upd p 78 (oth (p 78))) := h.wf.tr
 unfold turA
 cases (p 0 == 5) && chkB (upd p 78 (oth (p 78))) (oth (p 78))
 ·exact h1
 ·have h84 : ∀ n, n < 2 → (Lit.int (kAt (84 + n)) (min (p (84 + n)) 2 + 1)).wf = true := fun n hn => by
   have k8 : kAt (84 + n) = .u8 := by unfold kAt; rw [if_neg (by omega), if_neg (by omega), if_neg (by omega)]
   have := ps_u8 (h.wf (84 + n) (by omega)) k8
   rw [k8]
   exact wf_u8 (by omega)
  show WfP (upd _ (84 + (p 78).toNat) _)
  rcases h.turn with e | e
  ·rw [e] at h1 ⊢; exact h1.up 84 _ (h84 0 (by decide))
  ·rw [e] at h1 ⊢; exact h1.up 85 _ (h84 1 (by decide))
theorem stp_wf {p : Nat → Int} {c : Ch} (h : ChR p c) : WfP (stpA p c) := tur_wf (h.men.poc.bla.rig.pas.clo)
theorem mov_wf {p : Nat → Int} (hp : WfP p) (m : Mv) : WfP (movP p m) := by
 unfold movP
 cases h : movB p m
 ·exact hp
 ·exact stp_wf (chR_of hp h)
end Go.Proofs.YteblmnbagbdiiaaGreatDoor
/-
 Layer 17: legal's other, hasKing, hasMen, isSafe, isWell, Well, isAtGoal.
-/
namespace Go.Proofs.YteblmnbagbdiiaaGreatDoor
open Go.RowKit Go.Shelf
set_option linter.unusedVariables false
set_option linter.unusedSimpArgs false
attribute [local go_sem] Oper.semAt_some

theorem lg_other (c : Int) (w : World) : Calls Tryz.prog 96 #[.int .u8 c] w (U8S (oth c) w) := by
 have HO := H_ (oth_wrap c)
 go_enter Tryz.func96, Tryz.ntmps96
 go_wp2_with fail
 go_ret
 exact ⟨ret_int (by rw [← HO.out]; rfl), rfl⟩
theorem otherK {c d : Int} (e : oth c = d) (w : World) : Calls Tryz.prog 96 #[.int .u8 c] w (U8S d w) := e ▸ lg_other c w
theorem royalI {v c : Int} {b : Bool} (e : ryB v.toNat c.toNat = b) (w : World) (hv : 0 ≤ v ∧ v ≤ 255) (hc : 0 ≤ c) (hT : TabVar w) : Calls Tryz.prog 14 #[.int .u8 v, .int .u8 c] w (BoL b w) := by
 obtain ⟨n, rfl⟩ := Int.eq_ofNat_of_zero_le hv.1
 obtain ⟨m, rfl⟩ := Int.eq_ofNat_of_zero_le hc
 rw [← e]
 exact royal_any n m w (by omega) hT
theorem checkK {p : Nat → Int} {c : Int} {b : Bool} (e : chkB p c = b) (w : World) (hp : WfP p) (hc : 0 ≤ c ∧ c ≤ 255) (hT : CsT w) : Calls Tryz.prog 15 #[.agg (posA p), .int .u8 c] w (BoL b w) := e ▸ check_any p c w (AtR.of hp) hc hT.db hT.lead hT.var
def menB (p : Nat → Int) (c : Int) : Bool := decide (0 < cntN (ofN p c 0))
def goaB (p : Nat → Int) (c : Int) : Bool := decide (56 ≤ kingZ p c)
theorem lg_king (p : Nat → Int) (c : Int) (w : World) (hp : BdR p) (hD : TabDb w) : Calls Tryz.prog 165 #[.agg (posA p), .int .u8 c] w (BoL (hkB p c) w) := by
 have HP := H_ hp
 have HD := H_ hD
 clear hp hD
 have HB := H_ (Below.refl w.heap.size w)
 go_enter Tryz.func165, Tryz.ntmps165
 go_wp2_with (first
   | (guard_target = gB 2; refine step_box rfl _ rfl p rfl ?_; intro b2 w1 N R; have HG2 := H_ (nA HB.out N); have HB := H_ (below_on HB.out N.below); have HR2 := H_ R; clear N R)
   | (guard_target = gL 2; refine step_load rfl _ rfl b2 rfl p HR2.out ?_)
   | (go_at_call 31; refine (find_set p c 6 _ HP.out (HD.out.next HB.out)).mono ?_; rintro e w3 ⟨rfl, hb⟩; have HB := H_ (below_on HB.out hb); clear hb))
 go_ret
 exact ⟨rfl, HB.out⟩
theorem kingK {p : Nat → Int} {c : Int} {b : Bool} (e : hkB p c = b) (w : World) (hp : WfP p) (hD : TabDb w) : Calls Tryz.prog 165 #[.agg (posA p), .int .u8 c] w (BoL b w) := e ▸ lg_king p c w (AtR.of hp).bd hD
theorem lg_men (p : Nat → Int) (c : Int) (w : World) (hp : BdR p) : Calls Tryz.prog 169 #[.agg (posA p), .int .u8 c] w (BoL (menB p c) w) := by
 have HP := H_ hp
 clear hp
 have HB := H_ (Below.refl w.heap.size w)
 go_enter Tryz.func169, Tryz.ntmps169
 go_wp2_with (first
   | (guard_target = gB 2; refine step_box rfl _ rfl p rfl ?_; intro b2 w1 N R; have HG2 := H_ (nA HB.out N); have HB := H_ (below_on HB.out N.below); have HR2 := H_ R; clear N R)
   | (guard_target = gL 2; refine step_load rfl _ rfl b2 rfl p HR2.out ?_)
   | (go_at_call 224; refine (count_set p c 0 _ HP.out).mono ?_; rintro e w3 ⟨rfl, hb⟩; have HB := H_ (below_on HB.out hb); clear hb))
 go_ret
 exact ⟨rfl, HB.out⟩
theorem lg_goal (p : Nat → Int) (c : Int) (w : World) (hp : BdR p) (hD : TabDb w) : Calls Tryz.prog 173 #[.agg (posA p), .int .u8 c] w (BoL (goaB p c) w) := by
 have HP := H_ hp
 have HD := H_ hD
 clear hp hD
 have HB := H_ (Below.refl w.heap.size w)
 go_enter Tryz.func173, Tryz.ntmps173
 go_wp2_with (first
   | (guard_target = gB 2; refine step_box rfl _ rfl p rfl ?_; intro b2 w1 N R; have HG2 := H_ (nA HB.out N); have HB := H_ (below_on HB.out N.below); have HR2 := H_ R; clear N R)
   | (guard_target = gL 2; refine step_load rfl _ rfl b2 rfl p HR2.out ?_)
   | (go_at_call 31; refine (find_set p c 6 _ HP.out (HD.out.next HB.out)).mono ?_; rintro e w3 ⟨rfl, hb⟩; have HB := H_ (below_on HB.out hb); clear hb))
 go_ret
 exact ⟨rfl, HB.out⟩
theorem goalK {p : Nat → Int} {c : Int} {b : Bool} (e : goaB p c = b) (w : World) (hp : WfP p) (hD : TabDb w) : Calls Tryz.prog 173 #[.agg (posA p), .int .u8 c] w (BoL b w) := e ▸ lg_goal p c w (AtR.of hp).bd hD
theorem menK {p : Nat → Int} {c : Int} {b : Bool} (e : menB p c = b) (w : World) (hp : WfP p) : Calls Tryz.prog 169 #[.agg (posA p), .int .u8 c] w (BoL b w) := e ▸ lg_men p c w (AtR.of hp).bd
theorem safe_0 (p : Nat → Int) (c : Int) (w : World) (hp : WfP p) (hc : 0 ≤ c ∧ c ≤ 255) (hT : CsT w) (hk : hkB p c = false) : Calls Tryz.prog 97 #[.agg (posA p), .int .u8 c] w (BoL (safL p c) w) := by
 have HP := H_ hp
 have HCo := H_ hc
 have HT := H_ hT
 have HK := H_ hk
 clear hk
 clear hp hc hT
 have HB := H_ (Below.refl w.heap.size w)
 go_enter Tryz.func97, Tryz.ntmps97
 go_wp2_with (first
   | (guard_target = gB 2; refine step_box rfl _ rfl p rfl ?_; intro b2 w1 N R; have HG2 := H_ (nA HB.out N); have HB := H_ (below_on HB.out N.below); have HR2 := H_ R; clear N R)
   | (guard_target = gL 2; refine step_load rfl _ rfl b2 rfl p HR2.out ?_)
   | (go_at_call 165; refine (kingK HK.out _ HP.out (HT.out.on HB.out).db).mono ?_; rintro e w3 ⟨rfl, hb⟩; have HR2 := H_ (HR2.out.later hb); have HB := H_ (below_on HB.out hb); clear hb))
 go_ret
 exact ⟨by unfold safL; rw [HK.out]; rfl, HB.out⟩
theorem safe_1 (p : Nat → Int) (c : Int) (w : World) (hp : WfP p) (hc : 0 ≤ c ∧ c ≤ 255) (hT : CsT w) (hk : hkB p c = true) (hch : chkB p c = false) : Calls Tryz.prog 97 #[.agg (posA p), .int .u8 c] w (BoL (safL p c) w) := by
 have HP := H_ hp
 have HCo := H_ hc
 have HT := H_ hT
 have HK := H_ hk
 have HC := H_ hch
 clear hk hch
 clear hp hc hT
 have HB := H_ (Below.refl w.heap.size w)
 go_enter Tryz.func97, Tryz.ntmps97
 go_wp2_with (first
   | (guard_target = gB 2; refine step_box rfl _ rfl p rfl ?_; intro b2 w1 N R; have HG2 := H_ (nA HB.out N); have HB := H_ (below_on HB.out N.below); have HR2 := H_ R; clear N R)
   | (guard_target = gL 2; refine step_load rfl _ rfl b2 rfl p HR2.out ?_)
   | (go_at_call 165; refine (kingK HK.out _ HP.out (HT.out.on HB.out).db).mono ?_; rintro e w3 ⟨rfl, hb⟩; have HR2 := H_ (HR2.out.later hb); have HB := H_ (below_on HB.out hb); clear hb))
 refine late_begin 17 (by kernel_rfl) ?_
 refine lv 0 rfl ⟨.agg (posA p), fun w' hl => (run_load _ rfl _ rfl p (HR2.out.later hl)), ?_⟩
 simp only [Act.put, pa, pb, pc]
 refine lw 1 rfl ?_
 simp only [Act.put, pa, pb, pc]
 refine l1 2 rfl fun wn hl K hK => ?_
 have HR2 := H_ (HR2.out.later hl); have HB := H_ (below_on HB.out hl); clear hl
 refine we ?_
 refine (checkK HC.out _ HP.out HCo.out (HT.out.on HB.out)).mono ?_; rintro e wm ⟨rfl, hb⟩; refine ⟨_, rfl, ?_⟩
 refine hK.out _ _ hb ?_
 have HR2 := H_ (HR2.out.later hb); have HB := H_ (below_on HB.out hb); clear hb
 clear hK K
 simp only [Act.put, pa, pb, pc]
 refine lw 3 rfl ?_
 simp only [Act.put, pa, pb, pc]
 refine lw 4 rfl ?_
 simp only [Act.put, pa, pb, pc]
 refine lo 5 rfl ?_
 simp only [Act.put, pa, pb, pc]
 refine lo 6 rfl ?_
 simp only [Act.put, pa, pb, pc]
 refine lo 7 rfl ?_
 simp only [Act.put, pa, pb, pc]
 refine lo 8 rfl ?_
 simp only [Act.put, pa, pb, pc]
 refine lo 9 rfl ?_
 simp only [Act.put, pa, pb, pc]
 refine lo 10 rfl ?_
 simp only [Act.put, pa, pb, pc]
 refine lo 11 rfl ?_
 simp only [Act.put, pa, pb, pc]
 refine lo 12 rfl ?_
 simp only [Act.put, pa, pb, pc]
 refine lo 13 rfl ?_
 simp only [Act.put, pa, pb, pc]
 refine lo 14 rfl ?_
 simp only [Act.put, pa, pb, pc]
 refine lw 15 rfl ?_
 simp only [Act.put, pa, pb, pc]
 refine lw 16 rfl ?_
 simp only [Act.put, pa, pb, pc]
 refine late_end (by kernel_rfl) (fun wn hl => ?_)
 have HR2 := H_ (HR2.out.later hl); have HB := H_ (below_on HB.out hl); clear hl
 go_wp2_with fail
 go_ret
 exact ⟨by unfold safL; rw [HK.out, HC.out]; rfl, HB.out⟩
theorem safe_2 (p : Nat → Int) (c : Int) (w : World) (hp : WfP p) (hc : 0 ≤ c ∧ c ≤ 255) (hT : CsT w) (hk : hkB p c = true) (hch : chkB p c = true) (gA : (p 0 == 3) = false) : Calls Tryz.prog 97 #[.agg (posA p), .int .u8 c] w (BoL (safL p c) w) := by
 have HP := H_ hp
 have HCo := H_ hc
 have HT := H_ hT
 have HK := H_ hk
 have HC := H_ hch
 clear hk hch
 clear hp hc hT
 have HB := H_ (Below.refl w.heap.size w)
 go_enter Tryz.func97, Tryz.ntmps97
 go_wp2_with (first
   | (guard_target = gB 2; refine step_box rfl _ rfl p rfl ?_; intro b2 w1 N R; have HG2 := H_ (nA HB.out N); have HB := H_ (below_on HB.out N.below); have HR2 := H_ R; clear N R)
   | (guard_target = gL 2; refine step_load rfl _ rfl b2 rfl p HR2.out ?_)
   | (go_at_call 165; refine (kingK HK.out _ HP.out (HT.out.on HB.out).db).mono ?_; rintro e w3 ⟨rfl, hb⟩; have HR2 := H_ (HR2.out.later hb); have HB := H_ (below_on HB.out hb); clear hb))
 refine late_begin 17 (by kernel_rfl) ?_
 refine lv 0 rfl ⟨.agg (posA p), fun w' hl => (run_load _ rfl _ rfl p (HR2.out.later hl)), ?_⟩
 simp only [Act.put, pa, pb, pc]
 refine lw 1 rfl ?_
 simp only [Act.put, pa, pb, pc]
 refine l1 2 rfl fun wn hl K hK => ?_
 have HR2 := H_ (HR2.out.later hl); have HB := H_ (below_on HB.out hl); clear hl
 refine we ?_
 refine (checkK HC.out _ HP.out HCo.out (HT.out.on HB.out)).mono ?_; rintro e wm ⟨rfl, hb⟩; refine ⟨_, rfl, ?_⟩
 refine hK.out _ _ hb ?_
 have HR2 := H_ (HR2.out.later hb); have HB := H_ (below_on HB.out hb); clear hb
 clear hK K
 simp only [Act.put, pa, pb, pc]
 refine lw 3 rfl ?_
 simp only [Act.put, pa, pb, pc]
 refine lw 4 rfl ?_
 simp only [Act.put, pa, pb, pc]
 refine lw 5 rfl ?_
 simp only [Act.put, pa, pb, pc]
 refine lv 6 rfl ⟨.int .u8 (p 0), fun w' hl => (run_get 5 _ rfl b2 0 rfl Tryz.underlying5 rfl (.int .u8 (p 0)) ((HR2.out.later hl).cell 0 (by decide))), ?_⟩
 simp only [Act.put, pa, pb, pc]
 refine lw 7 rfl ?_
 simp only [Act.put, pa, pb, pc]
 refine lw 8 rfl ?_
 simp only [Act.put, pa, pb, pc]
 refine lo 9 rfl ?_
 simp only [Act.put, pa, pb, pc]
 refine lo 10 rfl ?_
 simp only [Act.put, pa, pb, pc]
 refine lo 11 rfl ?_
 simp only [Act.put, pa, pb, pc]
 refine lo 12 rfl ?_
 simp only [Act.put, pa, pb, pc]
 refine lo 13 rfl ?_
 simp only [Act.put, pa, pb, pc]
 refine lw 14 rfl ?_
 simp only [Act.put, pa, pb, pc]
 refine lw 15 rfl ?_
 simp only [Act.put, pa, pb, pc]
 refine lw 16 rfl ?_
 simp only [Act.put, pa, pb, pc]
 refine late_end (by kernel_rfl) (fun wn hl => ?_)
 have HR2 := H_ (HR2.out.later hl); have HB := H_ (below_on HB.out hl); clear hl
 go_wp2_with fail
 go_ret
 exact ⟨by unfold safL; rw [HK.out, HC.out, gA]; rfl, HB.out⟩
theorem safe_3 (p : Nat → Int) (c : Int) (w : World) (hp : WfP p) (hc : 0 ≤ c ∧ c ≤ 255) (hT : CsT w) (hk : hkB p c = true) (hch : chkB p c = true) (gA : (p 0 == 3) = true) : Calls Tryz.prog 97 #[.agg (posA p), .int .u8 c] w (BoL (safL p c) w) := by
 have HP := H_ hp
 have HCo := H_ hc
 have HT := H_ hT
 have HK := H_ hk
 have HC := H_ hch
 obtain ⟨d, hd⟩ : ∃ d, oth c = d := ⟨_, rfl⟩
 have HO := H_ hd
 obtain ⟨z, hz⟩ : ∃ z, hkB p d = z := ⟨_, rfl⟩
 have HKo := H_ hz
 clear hd hz
 clear hk hch
 clear hp hc hT
 have HB := H_ (Below.refl w.heap.size w)
 go_enter Tryz.func97, Tryz.ntmps97
 go_wp2_with (first
   | (guard_target = gB 2; refine step_box rfl _ rfl p rfl ?_; intro b2 w1 N R; have HG2 := H_ (nA HB.out N); have HB := H_ (below_on HB.out N.below); have HR2 := H_ R; clear N R)
   | (guard_target = gL 2; refine step_load rfl _ rfl b2 rfl p HR2.out ?_)
   | (go_at_call 165; refine (kingK HK.out _ HP.out (HT.out.on HB.out).db).mono ?_; rintro e w3 ⟨rfl, hb⟩; have HR2 := H_ (HR2.out.later hb); have HB := H_ (below_on HB.out hb); clear hb))
 refine late_begin 17 (by kernel_rfl) ?_
 refine lv 0 rfl ⟨.agg (posA p), fun w' hl => (run_load _ rfl _ rfl p (HR2.out.later hl)), ?_⟩
 simp only [Act.put, pa, pb, pc]
 refine lw 1 rfl ?_
 simp only [Act.put, pa, pb, pc]
 refine l1 2 rfl fun wn hl K hK => ?_
 have HR2 := H_ (HR2.out.later hl); have HB := H_ (below_on HB.out hl); clear hl
 refine we ?_
 refine (checkK HC.out _ HP.out HCo.out (HT.out.on HB.out)).mono ?_; rintro e wm ⟨rfl, hb⟩; refine ⟨_, rfl, ?_⟩
 refine hK.out _ _ hb ?_
 have HR2 := H_ (HR2.out.later hb); have HB := H_ (below_on HB.out hb); clear hb
 clear hK K
 simp only [Act.put, pa, pb, pc]
 refine lw 3 rfl ?_
 simp only [Act.put, pa, pb, pc]
 refine lw 4 rfl ?_
 simp only [Act.put, pa, pb, pc]
 refine lw 5 rfl ?_
 simp only [Act.put, pa, pb, pc]
 refine lv 6 rfl ⟨.int .u8 (p 0), fun w' hl => (run_get 5 _ rfl b2 0 rfl Tryz.underlying5 rfl (.int .u8 (p 0)) ((HR2.out.later hl).cell 0 (by decide))), ?_⟩
 simp only [Act.put, pa, pb, pc]
 refine lw 7 rfl ?_
 simp only [Act.put, pa, pb, pc]
 refine lw 8 rfl ?_
 simp only [Act.put, pa, pb, pc]
 refine lv 9 rfl ⟨.agg (posA p), fun w' hl => (run_load _ rfl _ rfl p (HR2.out.later hl)), ?_⟩
 simp only [Act.put, pa, pb, pc]
 refine lw 10 rfl ?_
 simp only [Act.put, pa, pb, pc]
 refine l1 11 rfl fun wn hl K hK => ?_
 have HR2 := H_ (HR2.out.later hl); have HB := H_ (below_on HB.out hl); clear hl
 refine we ?_
 refine (otherK HO.out _).mono ?_; rintro e wm ⟨rfl, rfl⟩; refine ⟨_, rfl, ?_⟩
 refine hK.out _ _ (Later.refl _) ?_
 clear hK K
 simp only [Act.put, pa, pb, pc]
 refine l1 12 rfl fun wn hl K hK => ?_
 have HR2 := H_ (HR2.out.later hl); have HB := H_ (below_on HB.out hl); clear hl
 refine we ?_
 refine (kingK HKo.out _ HP.out (HT.out.on HB.out).db).mono ?_; rintro e wm ⟨rfl, hb⟩; refine ⟨_, rfl, ?_⟩
 refine hK.out _ _ hb ?_
 have HR2 := H_ (HR2.out.later hb); have HB := H_ (below_on HB.out hb); clear hb
 clear hK K
 simp only [Act.put, pa, pb, pc]
 refine lw 13 rfl ?_
 simp only [Act.put, pa, pb, pc]
 refine lw 14 rfl ?_
 simp only [Act.put, pa, pb, pc]
 refine lw 15 rfl ?_
 simp only [Act.put, pa, pb, pc]
 refine lw 16 rfl ?_
 simp only [Act.put, pa, pb, pc]
 refine late_end (by kernel_rfl) (fun wn hl => ?_)
 have HR2 := H_ (HR2.out.later hl); have HB := H_ (below_on HB.out hl); clear hl
 go_wp2_with fail
 go_ret
 exact ⟨by unfold safL; rw [HK.out, HC.out, gA, HO.out, HKo.out]; rfl, HB.out⟩
theorem lg_safe (p : Nat → Int) (c : Int) (w : World) (hp : WfP p) (hc : 0 ≤ c ∧ c ≤ 255) (hT : CsT w) : Calls Tryz.prog 97 #[.agg (posA p), .int .u8 c] w (BoL (safL p c) w) := by
 cases hk : hkB p c
 ·exact safe_0 p c w hp hc hT hk
 ·cases hch : chkB p c
  ·exact safe_1 p c w hp hc hT hk hch
  ·cases gA : p 0 == 3
   ·exact safe_2 p c w hp hc hT hk hch gA
   ·exact safe_3 p c w hp hc hT hk hch gA
theorem safeK {p : Nat → Int} {c : Int} {b : Bool} (e : safL p c = b) (w : World) (hp : WfP p) (hc : 0 ≤ c ∧ c ≤ 255) (hT : CsT w) : Calls Tryz.prog 97 #[.agg (posA p), .int .u8 c] w (BoL b w) := e ▸ lg_safe p c w hp hc hT
theorem lg_isWell (q : Nat → Int) (w : World) (hp : WfP q) (hT : CsT w) : Calls Tryz.prog 41 #[.agg (posA q)] w (BoL (okL q) w) := by
 have HP := H_ hp
 have HV := H_ (AtR.of hp).var
 have HTu := H_ (AtR.of hp).turn
 have HT := H_ hT
 obtain ⟨d, hd⟩ : ∃ d, oth (q 78) = d := ⟨_, rfl⟩
 have HO := H_ hd
 have HCo := H_ (show 0 ≤ d ∧ d ≤ 255 by rw [← hd]; exact oth_u8 _)
 obtain ⟨r, hr⟩ : ∃ r, ryB (q 0).toNat d.toNat = r := ⟨_, rfl⟩
 have HRy := H_ hr
 obtain ⟨s, hs⟩ : ∃ s, safL q d = s := ⟨_, rfl⟩
 have HS := H_ hs
 obtain ⟨k, hk⟩ : ∃ k, chkB q (q 78) = k := ⟨_, rfl⟩
 have HC := H_ hk
 have HE := H_ (show okL q = (!(r && !s) && (!(q 0 == 8) || !k)) by unfold okL; rw [hd, hr, hs, hk])
 clear hp hT hd hr hs hk
 have HB := H_ (Below.refl w.heap.size w)
 rw [HE.out]
 cases r
 ·show Calls _ _ _ _ (BoL (!(q 0 == 8) || !k) w)
  cases g8 : (q 0 != 8)
  ·have g8' : (q 0 == 8) = true := by simpa [bne] using g8
   go_enter Tryz.func41, Tryz.ntmps41
   go_wp2_with (first
    | (guard_target = gB 1; refine step_box rfl _ rfl q rfl ?_; intro b1 w1 N R; have HG1 := H_ (nA HB.out N); have HB := H_ (below_on HB.out N.below); have HR1 := H_ R; clear N R)
    | (guard_target = gL 1; refine step_load rfl _ rfl b1 rfl q HR1.out ?_)
    | (guard_target = gL 4; refine step_get rfl 5 _ rfl b1 78 rfl Tryz.underlying5 rfl (.int .u8 (q 78)) ?_ ?_; exact HR1.out.cell 78 (by decide))
    | (guard_target = gL 7; refine step_get rfl 5 _ rfl b1 0 rfl Tryz.underlying5 rfl (.int .u8 (q 0)) ?_ ?_; exact HR1.out.cell 0 (by decide))
    | (guard_target = gL 17; refine step_get rfl 5 _ rfl b1 0 rfl Tryz.underlying5 rfl (.int .u8 (q 0)) ?_ ?_; exact HR1.out.cell 0 (by decide))
    | (guard_target = gL 22; refine step_get rfl 5 _ rfl b1 78 rfl Tryz.underlying5 rfl (.int .u8 (q 78)) ?_ ?_; exact HR1.out.cell 78 (by decide))
    | (go_at_call 96; refine (otherK HO.out _).mono ?_; rintro e w3 ⟨rfl, rfl⟩; skip)
    | (go_at_call 14; refine (royalI HRy.out _ HV.out HCo.out.1 (HT.out.on HB.out).var).mono ?_; rintro e w3 ⟨rfl, hb⟩; have HR1 := H_ (HR1.out.later hb); have HB := H_ (below_on HB.out hb); clear hb)
    | (go_at_call 97; refine (safeK HS.out _ HP.out HCo.out (HT.out.on HB.out)).mono ?_; rintro e w3 ⟨rfl, hb⟩; have HR1 := H_ (HR1.out.later hb); have HB := H_ (below_on HB.out hb); clear hb)
    | (go_at_call 15; refine (checkK HC.out _ HP.out HTu.out (HT.out.on HB.out)).mono ?_; rintro e w3 ⟨rfl, hb⟩; have HB := H_ (below_on HB.out hb); clear hb))
   go_ret
   exact ⟨by rw [g8']; rfl, HB.out⟩
  ·have g8' : (q 0 == 8) = false := by simpa [bne] using g8
   go_enter Tryz.func41, Tryz.ntmps41
   go_wp2_with (first
    | (guard_target = gB 1; refine step_box rfl _ rfl q rfl ?_; intro b1 w1 N R; have HG1 := H_ (nA HB.out N); have HB := H_ (below_on HB.out N.below); have HR1 := H_ R; clear N R)
    | (guard_target = gL 1; refine step_load rfl _ rfl b1 rfl q HR1.out ?_)
    | (guard_target = gL 4; refine step_get rfl 5 _ rfl b1 78 rfl Tryz.underlying5 rfl (.int .u8 (q 78)) ?_ ?_; exact HR1.out.cell 78 (by decide))
    | (guard_target = gL 7; refine step_get rfl 5 _ rfl b1 0 rfl Tryz.underlying5 rfl (.int .u8 (q 0)) ?_ ?_; exact HR1.out.cell 0 (by decide))
    | (guard_target = gL 17; refine step_get rfl 5 _ rfl b1 0 rfl Tryz.underlying5 rfl (.int .u8 (q 0)) ?_ ?_; exact HR1.out.cell 0 (by decide))
    | (guard_target = gL 22; refine step_get rfl 5 _ rfl b1 78 rfl Tryz.underlying5 rfl (.int .u8 (q 78)) ?_ ?_; exact HR1.out.cell 78 (by decide))
    | (go_at_call 96; refine (otherK HO.out _).mono ?_; rintro e w3 ⟨rfl, rfl⟩; skip)
    | (go_at_call 14; refine (royalI HRy.out _ HV.out HCo.out.1 (HT.out.on HB.out).var).mono ?_; rintro e w3 ⟨rfl, hb⟩; have HR1 := H_ (HR1.out.later hb); have HB := H_ (below_on HB.out hb); clear hb)
    | (go_at_call 97; refine (safeK HS.out _ HP.out HCo.out (HT.out.on HB.out)).mono ?_; rintro e w3 ⟨rfl, hb⟩; have HR1 := H_ (HR1.out.later hb); have HB := H_ (below_on HB.out hb); clear hb)
    | (go_at_call 15; refine (checkK HC.out _ HP.out HTu.out (HT.out.on HB.out)).mono ?_; rintro e w3 ⟨rfl, hb⟩; have HB := H_ (below_on HB.out hb); clear hb))
   go_ret
   exact ⟨by rw [g8']; rfl, HB.out⟩
 ·cases s
  ·show Calls _ _ _ _ (BoL false w)
   go_enter Tryz.func41, Tryz.ntmps41
   go_wp2_with (first
    | (guard_target = gB 1; refine step_box rfl _ rfl q rfl ?_; intro b1 w1 N R; have HG1 := H_ (nA HB.out N); have HB := H_ (below_on HB.out N.below); have HR1 := H_ R; clear N R)
    | (guard_target = gL 1; refine step_load rfl _ rfl b1 rfl q HR1.out ?_)
    | (guard_target = gL 4; refine step_get rfl 5 _ rfl b1 78 rfl Tryz.underlying5 rfl (.int .u8 (q 78)) ?_ ?_; exact HR1.out.cell 78 (by decide))
    | (guard_target = gL 7; refine step_get rfl 5 _ rfl b1 0 rfl Tryz.underlying5 rfl (.int .u8 (q 0)) ?_ ?_; exact HR1.out.cell 0 (by decide))
    | (guard_target = gL 17; refine step_get rfl 5 _ rfl b1 0 rfl Tryz.underlying5 rfl (.int .u8 (q 0)) ?_ ?_; exact HR1.out.cell 0 (by decide))
    | (guard_target = gL 22; refine step_get rfl 5 _ rfl b1 78 rfl Tryz.underlying5 rfl (.int .u8 (q 78)) ?_ ?_; exact HR1.out.cell 78 (by decide))
    | (go_at_call 96; refine (otherK HO.out _).mono ?_; rintro e w3 ⟨rfl, rfl⟩; skip)
    | (go_at_call 14; refine (royalI HRy.out _ HV.out HCo.out.1 (HT.out.on HB.out).var).mono ?_; rintro e w3 ⟨rfl, hb⟩; have HR1 := H_ (HR1.out.later hb); have HB := H_ (below_on HB.out hb); clear hb)
    | (go_at_call 97; refine (safeK HS.out _ HP.out HCo.out (HT.out.on HB.out)).mono ?_; rintro e w3 ⟨rfl, hb⟩; have HR1 := H_ (HR1.out.later hb); have HB := H_ (below_on HB.out hb); clear hb)
    | (go_at_call 15; refine (checkK HC.out _ HP.out HTu.out (HT.out.on HB.out)).mono ?_; rintro e w3 ⟨rfl, hb⟩; have HB := H_ (below_on HB.out hb); clear hb))
   go_ret
   exact ⟨rfl, HB.out⟩
  ·show Calls _ _ _ _ (BoL (!(q 0 == 8) || !k) w)
   cases g8 : (q 0 != 8)
   ·have g8' : (q 0 == 8) = true := by simpa [bne] using g8
    go_enter Tryz.func41, Tryz.ntmps41
    go_wp2_with (first
     | (guard_target = gB 1; refine step_box rfl _ rfl q rfl ?_; intro b1 w1 N R; have HG1 := H_ (nA HB.out N); have HB := H_ (below_on HB.out N.below); have HR1 := H_ R; clear N R)
     | (guard_target = gL 1; refine step_load rfl _ rfl b1 rfl q HR1.out ?_)
     | (guard_target = gL 4; refine step_get rfl 5 _ rfl b1 78 rfl Tryz.underlying5 rfl (.int .u8 (q 78)) ?_ ?_; exact HR1.out.cell 78 (by decide))
     | (guard_target = gL 7; refine step_get rfl 5 _ rfl b1 0 rfl Tryz.underlying5 rfl (.int .u8 (q 0)) ?_ ?_; exact HR1.out.cell 0 (by decide))
     | (guard_target = gL 17; refine step_get rfl 5 _ rfl b1 0 rfl Tryz.underlying5 rfl (.int .u8 (q 0)) ?_ ?_; exact HR1.out.cell 0 (by decide))
     | (guard_target = gL 22; refine step_get rfl 5 _ rfl b1 78 rfl Tryz.underlying5 rfl (.int .u8 (q 78)) ?_ ?_; exact HR1.out.cell 78 (by decide))
     | (go_at_call 96; refine (otherK HO.out _).mono ?_; rintro e w3 ⟨rfl, rfl⟩; skip)
     | (go_at_call 14; refine (royalI HRy.out _ HV.out HCo.out.1 (HT.out.on HB.out).var).mono ?_; rintro e w3 ⟨rfl, hb⟩; have HR1 := H_ (HR1.out.later hb); have HB := H_ (below_on HB.out hb); clear hb)
     | (go_at_call 97; refine (safeK HS.out _ HP.out HCo.out (HT.out.on HB.out)).mono ?_; rintro e w3 ⟨rfl, hb⟩; have HR1 := H_ (HR1.out.later hb); have HB := H_ (below_on HB.out hb); clear hb)
     | (go_at_call 15; refine (checkK HC.out _ HP.out HTu.out (HT.out.on HB.out)).mono ?_; rintro e w3 ⟨rfl, hb⟩; have HB := H_ (below_on HB.out hb); clear hb))
    go_ret
    exact ⟨by rw [g8']; rfl, HB.out⟩
   ·have g8' : (q 0 == 8) = false := by simpa [bne] using g8
    go_enter Tryz.func41, Tryz.ntmps41
    go_wp2_with (first
     | (guard_target = gB 1; refine step_box rfl _ rfl q rfl ?_; intro b1 w1 N R; have HG1 := H_ (nA HB.out N); have HB := H_ (below_on HB.out N.below); have HR1 := H_ R; clear N R)
     | (guard_target = gL 1; refine step_load rfl _ rfl b1 rfl q HR1.out ?_)
     | (guard_target = gL 4; refine step_get rfl 5 _ rfl b1 78 rfl Tryz.underlying5 rfl (.int .u8 (q 78)) ?_ ?_; exact HR1.out.cell 78 (by decide))
     | (guard_target = gL 7; refine step_get rfl 5 _ rfl b1 0 rfl Tryz.underlying5 rfl (.int .u8 (q 0)) ?_ ?_; exact HR1.out.cell 0 (by decide))
     | (guard_target = gL 17; refine step_get rfl 5 _ rfl b1 0 rfl Tryz.underlying5 rfl (.int .u8 (q 0)) ?_ ?_; exact HR1.out.cell 0 (by decide))
     | (guard_target = gL 22; refine step_get rfl 5 _ rfl b1 78 rfl Tryz.underlying5 rfl (.int .u8 (q 78)) ?_ ?_; exact HR1.out.cell 78 (by decide))
     | (go_at_call 96; refine (otherK HO.out _).mono ?_; rintro e w3 ⟨rfl, rfl⟩; skip)
     | (go_at_call 14; refine (royalI HRy.out _ HV.out HCo.out.1 (HT.out.on HB.out).var).mono ?_; rintro e w3 ⟨rfl, hb⟩; have HR1 := H_ (HR1.out.later hb); have HB := H_ (below_on HB.out hb); clear hb)
     | (go_at_call 97; refine (safeK HS.out _ HP.out HCo.out (HT.out.on HB.out)).mono ?_; rintro e w3 ⟨rfl, hb⟩; have HR1 := H_ (HR1.out.later hb); have HB := H_ (below_on HB.out hb); clear hb)
     | (go_at_call 15; refine (checkK HC.out _ HP.out HTu.out (HT.out.on HB.out)).mono ?_; rintro e w3 ⟨rfl, hb⟩; have HB := H_ (below_on HB.out hb); clear hb))
    go_ret
    exact ⟨by rw [g8']; rfl, HB.out⟩
theorem isWellK {q : Nat → Int} {b : Bool} (e : okL q = b) (w : World) (hp : WfP q) (hT : CsT w) : Calls Tryz.prog 41 #[.agg (posA q)] w (BoL b w) := e ▸ lg_isWell q w hp hT
theorem moveQ {p q : Nat → Int} {m : Mv} {b : Bool} (e : movP p m = q) (h : movB p m = b) (w : World) (hp : WfP p) (hm : FitV m) (hT : CsT w) : Calls Tryz.prog 13 #[.agg (posA p), .agg (mvA m)] w (TakL q b w) := e ▸ h ▸ move_any p m w hp hm hT
theorem lg_well (p : Nat → Int) (m : Mv) (w : World) (hp : WfP p) (hm : FitV m) (hT : CsT w) : Calls Tryz.prog 19 #[.agg (posA p), .agg (mvA m)] w (BoL (welL p m) w) := by
 have HP := H_ hp
 have HM := H_ hm
 have HT := H_ hT
 have HWf := mov_wf hp m
 unfold welL
 obtain ⟨q, hq⟩ : ∃ q, movP p m = q := ⟨_, rfl⟩
 rw [hq] at HWf ⊢
 have HW := H_ HWf
 have HQ := H_ hq
 obtain ⟨b, hb⟩ : ∃ b, movB p m = b := ⟨_, rfl⟩
 have HMb := H_ hb
 rw [hb]
 obtain ⟨k, hk⟩ : ∃ k, okL q = k := ⟨_, rfl⟩
 have HK := H_ hk
 rw [hk]
 clear hp hm hT HWf hq hb hk
 have HB := H_ (Below.refl w.heap.size w)
 cases b
 ·skip
  go_enter Tryz.func19, Tryz.ntmps19
  go_wp2_with (first
   | (guard_target = gB 2; refine step_box rfl _ rfl p rfl ?_; intro b2 w1 N R; have HG2 := H_ (nA HB.out N); have HB := H_ (below_on HB.out N.below); have HR2 := H_ R; clear N R)
   | (guard_target = gB 3; refine blk_box rfl 40 _ rfl (mvA m) rfl ?_; intro b3 w1 N R; have HG3 := H_ (nA HB.out N); have HR2 := H_ (HR2.out.later N.below); have HB := H_ (below_on HB.out N.below); have HR3 := H_ R; clear N R)
   | (guard_target = gL 2; refine step_load rfl _ rfl b2 rfl p HR2.out ?_)
   | (guard_target = gL 3; refine blk_load rfl 40 _ rfl b3 rfl (mvA m) HR3.out _ Tryz.underlying40 rfl sizeMv ?_)
   | (go_at_call 13; refine (moveQ HQ.out HMb.out _ HP.out HM.out (HT.out.on HB.out)).mono ?_; rintro e w3 ⟨rfl, hb⟩; have HB := H_ (below_on HB.out hb); clear hb)
   | (guard_target = gA 5; refine step_alloc (op := ⟨some 5, _, _, _, _, _⟩) rfl rfl ?_; intro b5 wn N R; have HG5 := H_ (nA HB.out N); have HR5 := H_ R; have HB := H_ (below_on HB.out N.below); clear N R)
   | (guard_target = gS 5; refine step_store (op := ⟨none, .store _ (.tmp 5) _, _, _, _, _⟩) rfl _ _ rfl b5 rfl zeroP q rfl HR5.out ?_; intro wn U R; have HR5 := H_ R; have HB := H_ (HB.out.trans (U.below HG5.out)); clear U R)
   | (guard_target = gL 5; refine step_load rfl _ rfl b5 rfl q HR5.out ?_)
   | (go_at_call 41; refine (isWellK HK.out _ HW.out (HT.out.on HB.out)).mono ?_; rintro e w3 ⟨rfl, hb⟩; have HB := H_ (below_on HB.out hb); clear hb))
  go_ret
  exact ⟨rfl, HB.out⟩
 ·skip
  go_enter Tryz.func19, Tryz.ntmps19
  go_wp2_with (first
   | (guard_target = gB 2; refine step_box rfl _ rfl p rfl ?_; intro b2 w1 N R; have HG2 := H_ (nA HB.out N); have HB := H_ (below_on HB.out N.below); have HR2 := H_ R; clear N R)
   | (guard_target = gB 3; refine blk_box rfl 40 _ rfl (mvA m) rfl ?_; intro b3 w1 N R; have HG3 := H_ (nA HB.out N); have HR2 := H_ (HR2.out.later N.below); have HB := H_ (below_on HB.out N.below); have HR3 := H_ R; clear N R)
   | (guard_target = gL 2; refine step_load rfl _ rfl b2 rfl p HR2.out ?_)
   | (guard_target = gL 3; refine blk_load rfl 40 _ rfl b3 rfl (mvA m) HR3.out _ Tryz.underlying40 rfl sizeMv ?_)
   | (go_at_call 13; refine (moveQ HQ.out HMb.out _ HP.out HM.out (HT.out.on HB.out)).mono ?_; rintro e w3 ⟨rfl, hb⟩; have HB := H_ (below_on HB.out hb); clear hb)
   | (guard_target = gA 5; refine step_alloc (op := ⟨some 5, _, _, _, _, _⟩) rfl rfl ?_; intro b5 wn N R; have HG5 := H_ (nA HB.out N); have HR5 := H_ R; have HB := H_ (below_on HB.out N.below); clear N R)
   | (guard_target = gS 5; refine step_store (op := ⟨none, .store _ (.tmp 5) _, _, _, _, _⟩) rfl _ _ rfl b5 rfl zeroP q rfl HR5.out ?_; intro wn U R; have HR5 := H_ R; have HB := H_ (HB.out.trans (U.below HG5.out)); clear U R)
   | (guard_target = gL 5; refine step_load rfl _ rfl b5 rfl q HR5.out ?_)
   | (go_at_call 41; refine (isWellK HK.out _ HW.out (HT.out.on HB.out)).mono ?_; rintro e w3 ⟨rfl, hb⟩; have HB := H_ (below_on HB.out hb); clear hb))
  go_ret
  exact ⟨rfl, HB.out⟩
theorem wellK {p : Nat → Int} {m : Mv} {b : Bool} (e : welL p m = b) (w : World) (hp : WfP p) (hm : FitV m) (hT : CsT w) : Calls Tryz.prog 19 #[.agg (posA p), .agg (mvA m)] w (BoL b w) := e ▸ lg_well p m w hp hm hT
end Go.Proofs.YteblmnbagbdiiaaGreatDoor
