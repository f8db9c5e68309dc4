/-
  Contracts of layer 11's closures, of tries, and of Parse.
-/
import Derived.Test.YtnogmogmlilpiaaDoorMvE
namespace Go.Proofs.YtnogmogmlilpiaaDoor
open Go.RowKit
set_option linter.unusedVariables false
set_option linter.unusedSimpArgs false

def tryF (b : Nat) : Value := .func (.func 15) #[] #[.pointer (some ⟨b, 0, none⟩)]
def chkF (r b : Nat) : Value := .func (.func 12) #[] #[.pointer (some ⟨r, 0, none⟩), .pointer (some ⟨b, 0, none⟩)]
def mkF (b : Nat) : Value := .func (.func 11) #[] #[.pointer (some ⟨b, 0, none⟩)]
def rdV (f : Nat) : Value := .func (.func f) #[] #[]
def triA (r1 r2 b : Nat) : Array Value := #[tryF b, chkF r1 b, chkF r2 b]
theorem plM_fit (l : List UInt8) : FitV (plM l) := by
  have h := rdE_fit l
  have k := kdL_rng (rdE l).2
  exact ⟨h.f, h.t, by show 0 ≤ kdL (rdE l).2 ∧ kdL (rdE l).2 ≤ 255; omega, by show (0 : Int) ≤ 0 ∧ (0 : Int) ≤ 255; decide⟩
theorem drM_fit (l : List UInt8) : FitV (drM l) := by
  have h := parseZ_rng (bz (cutB 64 l))
  have k := kdL_rng (cutA 64 l)
  exact ⟨by show -128 ≤ parseZ (bz (cutB 64 l)) ∧ parseZ (bz (cutB 64 l)) ≤ 127; omega, by show -128 ≤ parseZ (bz (cutB 64 l)) ∧ parseZ (bz (cutB 64 l)) ≤ 127; omega, by show (0 : Int) ≤ 0 ∧ (0 : Int) ≤ 255; decide, by show 0 ≤ kdL (cutA 64 l) ∧ kdL (cutA 64 l) ≤ 255; omega⟩
set_option maxRecDepth 100000 in
set_option maxHeartbeats 400000 in
theorem try_any (p : Nat → Int) (l : List UInt8) (b : Nat) (w : World) (hl : l.length ≤ 10000) (hp : FitM p) (hs : smB p = true) (hG : TabGo w) (hr : Row w b p) : Calls Tryd.prog 15 #[.string (bz l), .pointer (some ⟨b, 0, none⟩)] w (MvO (coM p l) (coB p l) w) := by
  have HFp := Lib.hid hp
  have HSm := Lib.hid hs
  have HG := Lib.hid hG
  have HL := Lib.hid hl
  have HR := Lib.hid hr
  have HB := Lib.hid (Below.refl w.heap.size w)
  obtain ⟨t, ht⟩ : ∃ t, bz l = t := ⟨_, rfl⟩
  have HT := Lib.hid ht
  obtain ⟨cm, hcm⟩ : ∃ cm, coM p l = cm := ⟨_, rfl⟩
  have HCm := Lib.hid hcm
  obtain ⟨c, hc⟩ : ∃ c, coB p l = c := ⟨_, rfl⟩
  have HC := Lib.hid hc
  rw [ht, hcm, hc]
  clear ht hcm hc hl hp hs hG hr
  go_enter Tryd.func15, Tryd.ntmps15
  go_wp2_with (first
      | (refine blk_alloc rfl 33 rfl (mvA mv0) zeroMv ?_; intro b1 w2 N R; have HG1 := Lib.hid (show w.heap.size ≤ b1 by rw [N.at_]; exact HB.out.size); have HDne := Lib.hid (show b ≠ b1 by rw [N.at_]; exact Nat.ne_of_lt HR.out.lt); have HR := Lib.hid (HR.out.later N.below); have HB := Lib.hid (HB.out.trans (N.below.mono HB.out.size)); have HQ := Lib.hid R; clear N R)
      | (refine step_load rfl _ rfl b rfl p ?_ ?_; exact HR.out)
      | (go_at_call 16; rw [← HT.out]; refine (cof_any p l _ HL.out HFp.out HSm.out (HG.out.on HB.out)).mono ?_; rintro e w4 ⟨rfl, hb⟩; rw [HC.out, HCm.out, HT.out]; have HR := Lib.hid (HR.out.later hb); have HQ := Lib.hid (HQ.out.later hb); have HB := Lib.hid (below_on HB.out hb); clear hb)
      | (refine blk_store rfl 33 _ _ rfl b1 rfl (mvA mv0) (mvA cm) rfl ?_ rfl (mv_one _) sizeMv ?_; exact HQ.out; intro w8 U R; have HB := Lib.hid (HB.out.trans (U.below HG1.out)); have HR := Lib.hid (HR.out.apart U HDne.out); have HQ := Lib.hid R; clear U R))
  refine bodyPost_ret (results_mv2 rfl _ _ _ cm (.bool c) rfl rfl HQ.out) rfl ⟨rfl, HB.out⟩
set_option maxRecDepth 100000 in
set_option maxHeartbeats 400000 in
theorem chk_pl (p : Nat → Int) (l : List UInt8) (b : Nat) (w : World) (hl : l.length ≤ 10000) (hp : FitM p) (hs : smB p = true) (hG : TabGo w) (hr : Row w b p) (r : Nat) (hv : Blk w r 49 #[rdV 17]) : Calls Tryd.prog 12 #[.string (bz l), .pointer (some ⟨r, 0, none⟩), .pointer (some ⟨b, 0, none⟩)] w (MvO (plM l) (isW (mvT p (plM l)) l) w) := by
  have HFp := Lib.hid hp
  have HSm := Lib.hid hs
  have HG := Lib.hid hG
  have HL := Lib.hid hl
  have HR := Lib.hid hr
  have HB := Lib.hid (Below.refl w.heap.size w)
  obtain ⟨t, ht⟩ : ∃ t, bz l = t := ⟨_, rfl⟩
  have HT := Lib.hid ht
  have HV := Lib.hid hv
  obtain ⟨m, hm⟩ : ∃ m, plM l = m := ⟨_, rfl⟩
  have HMm := Lib.hid hm
  have HFv := Lib.hid (show FitV m by rw [← hm]; exact plM_fit l)
  obtain ⟨c, hc⟩ : ∃ c, mvT p m = c := ⟨_, rfl⟩
  have HC := Lib.hid hc
  obtain ⟨wr, hw⟩ : ∃ wr, isW c l = wr := ⟨_, rfl⟩
  have HW := Lib.hid hw
  rw [ht, hm, hc, hw]
  clear ht hm hc hw hl hp hs hG hr hv
  go_enter Tryd.func12, Tryd.ntmps12
  go_wp2_with (first
      | (refine blk_alloc rfl 33 rfl (mvA mv0) zeroMv ?_; intro b1 w2 N R; have HG1 := Lib.hid (show w.heap.size ≤ b1 by rw [N.at_]; exact HB.out.size); have HDHR1 := Lib.hid (show b ≠ b1 by rw [N.at_]; exact Nat.ne_of_lt HR.out.lt); have HDHV1 := Lib.hid (show r ≠ b1 by rw [N.at_]; exact Nat.ne_of_lt HV.out.lt); have HR := Lib.hid (HR.out.later N.below); have HV := Lib.hid (HV.out.later N.below); have HB := Lib.hid (HB.out.trans (N.below.mono HB.out.size)); have HQ := Lib.hid R; clear N R)
      | (refine step_get rfl 49 _ rfl r 0 rfl Tryd.underlying49 rfl (.func (.func 17) #[] #[]) ?_ ?_; exact HV.out.cell 0))
  rw [← HT.out]
  refine (rplain_any l _ HL.out).mono ?_; rintro e w3 ⟨rfl, hb⟩; rw [HMm.out, HT.out]; have HR := Lib.hid (HR.out.later hb); have HQ := Lib.hid (HQ.out.later hb); have HB := Lib.hid (below_on HB.out hb); clear hb
  go_wp2_with (first
      | (refine blk_alloc rfl 33 rfl (mvA mv0) zeroMv ?_; intro b2 w4 N R; have HG2 := Lib.hid (show w.heap.size ≤ b2 by rw [N.at_]; exact HB.out.size); have HDHR2 := Lib.hid (show b ≠ b2 by rw [N.at_]; exact Nat.ne_of_lt HR.out.lt); have HDHQ2 := Lib.hid (show b1 ≠ b2 by rw [N.at_]; exact Nat.ne_of_lt HQ.out.lt); have HR := Lib.hid (HR.out.later N.below); have HQ := Lib.hid (HQ.out.later N.below); have HB := Lib.hid (HB.out.trans (N.below.mono HB.out.size)); have HM := Lib.hid R; clear N R)
      | (refine blk_store rfl 33 _ _ rfl b2 rfl (mvA mv0) (mvA m) rfl ?_ rfl (mv_one _) sizeMv ?_; exact HM.out; intro w5 U R; have HR := Lib.hid (HR.out.apart U HDHR2.out); have HQ := Lib.hid (HQ.out.apart U HDHQ2.out); have HB := Lib.hid (HB.out.trans (U.below HG2.out)); have HM := Lib.hid R; clear U R))
  refine late_begin 6 (by kernel_rfl) ?_
  refine late_take 0 (by kernel_rfl) (by kernel_rfl) (by kernel_rfl) (by kernel_rfl) (by kernel_rfl) (fun _ _ d _ _ h => by cases d <;> exact h) (fun o ho => ?_)
  simp only [List.getElem?_toArray, List.getElem?_cons_zero, List.getElem?_cons_succ, Option.some.injEq] at ho; subst ho
  refine ⟨_, Or.inl ⟨by kernel_rfl, fun w' hl => Or.inl (run_blk 33 _ rfl b2 rfl (mvA m) (HM.out.later hl) _ Tryd.underlying33 rfl sizeMv)⟩, ?_⟩
  simp only [Act.put, List.setIfInBounds_toArray, List.set_cons_zero, List.set_cons_succ]
  refine late_takeD 1 [3, 5, 6] (by kernel_rfl) (by kernel_rfl) (by kernel_rfl) (by kernel_rfl) (by kernel_rfl) (fun _ _ d _ _ h => by cases d <;> exact h) (fun o ho => ?_)
  simp only [List.getElem?_toArray, List.getElem?_cons_zero, List.getElem?_cons_succ, Option.some.injEq] at ho; subst ho
  refine ⟨_, Or.inl ⟨by kernel_rfl, fun w' hl => Or.inl (run_load _ rfl b rfl p (HR.out.later hl))⟩, ?_⟩
  simp only [Act.put, List.setIfInBounds_toArray, List.set_cons_zero, List.set_cons_succ]
  refine late_takeD 2 [3, 5, 6] (by kernel_rfl) (by kernel_rfl) (by kernel_rfl) (by kernel_rfl) (by kernel_rfl) (fun _ _ d _ _ h => by cases d <;> exact h) (fun o ho => ?_)
  simp only [List.getElem?_toArray, List.getElem?_cons_zero, List.getElem?_cons_succ, Option.some.injEq] at ho; subst ho
  refine ⟨_, Or.inl ⟨by kernel_rfl, fun w' hl => Or.inl (run_blk 33 _ rfl b2 rfl (mvA m) (HM.out.later hl) _ Tryd.underlying33 rfl sizeMv)⟩, ?_⟩
  simp only [Act.put, List.setIfInBounds_toArray, List.set_cons_zero, List.set_cons_succ]
  refine late_takeD 4 [5, 6] (by kernel_rfl) (by kernel_rfl) (by kernel_rfl) (by kernel_rfl) (by kernel_rfl) (fun _ _ d _ _ h => by cases d <;> exact h) (fun o ho => ?_)
  simp only [List.getElem?_toArray, List.getElem?_cons_zero, List.getElem?_cons_succ, Option.some.injEq] at ho; subst ho
  apply Exists.intro
  refine ⟨Or.inl ⟨by kernel_rfl, fun w' hl => Or.inl ?_⟩, ?_⟩
  · (go_simp; try with_reducible rfl)
  simp only [Act.put, List.setIfInBounds_toArray, List.set_cons_zero, List.set_cons_succ]
  refine late_one 3 (by kernel_rfl) (by kernel_rfl) (fun o ho => ?_)
  simp only [List.getElem?_toArray, List.getElem?_cons_zero, List.getElem?_cons_succ, Option.some.injEq] at ho; subst ho
  refine ⟨by kernel_rfl, fun wn hl K hK => ?_⟩
  have HR := Lib.hid (HR.out.later hl); have HQ := Lib.hid (HQ.out.later hl); have HM := Lib.hid (HM.out.later hl); have HB := Lib.hid (below_on HB.out hl); clear hl
  refine wp_enter _ _ (by go_simp; exact ⟨rfl, rfl⟩) ?_
  refine (mvText_any p m _ HFp.out HFv.out (HG.out.on HB.out)).mono ?_; rintro e wm ⟨rfl, hb⟩; refine ⟨_, rfl, ?_⟩
  rw [HC.out]
  refine hK.out _ _ hb ?_
  have HR := Lib.hid (HR.out.later hb); have HQ := Lib.hid (HQ.out.later hb); have HM := Lib.hid (HM.out.later hb); have HB := Lib.hid (below_on HB.out hb); clear hb
  clear hK K
  simp only [Act.put, List.setIfInBounds_toArray, List.set_cons_zero, List.set_cons_succ]
  refine late_one 5 (by kernel_rfl) (by kernel_rfl) (fun o ho => ?_)
  simp only [List.getElem?_toArray, List.getElem?_cons_zero, List.getElem?_cons_succ, Option.some.injEq] at ho; subst ho
  refine ⟨by kernel_rfl, fun wn hl K hK => ?_⟩
  have HR := Lib.hid (HR.out.later hl); have HQ := Lib.hid (HQ.out.later hl); have HM := Lib.hid (HM.out.later hl); have HB := Lib.hid (below_on HB.out hl); clear hl
  refine wp_enter _ _ (by go_simp; exact ⟨rfl, rfl⟩) ?_
  rw [← HT.out]
  refine (isW_any c l _).mono ?_; rintro e wm ⟨rfl, rfl⟩; refine ⟨_, rfl, ?_⟩
  rw [HW.out]
  refine hK.out _ _ (Later.refl _) ?_
  clear hK K
  simp only [Act.put, List.setIfInBounds_toArray, List.set_cons_zero, List.set_cons_succ]
  refine late_then 6 (by kernel_rfl) (by kernel_rfl) (fun o ho => ?_)
  simp only [List.getElem?_toArray, List.getElem?_cons_zero, List.getElem?_cons_succ, Option.some.injEq] at ho; subst ho
  refine ⟨by kernel_rfl, fun wn hl K hK => ?_⟩
  have HR := Lib.hid (HR.out.later hl); have HQ := Lib.hid (HQ.out.later hl); have HM := Lib.hid (HM.out.later hl); have HB := Lib.hid (below_on HB.out hl); clear hl
  refine late_blk 33 _ _ rfl b1 rfl (mvA mv0) (mvA m) rfl HQ.out rfl (mv_one _) sizeMv ?_; intro wm U R
  have HQ := Lib.hid R; have HB := Lib.hid (HB.out.trans (U.below HG1.out)); clear U R
  refine hK.out _ _ ?_
  clear hK K
  simp only [Act.put, List.setIfInBounds_toArray, List.set_cons_zero, List.set_cons_succ]
  refine any_one 7 (by kernel_rfl) (by kernel_rfl) (fun o ho => ?_)
  simp only [List.getElem?_toArray, List.getElem?_cons_zero, List.getElem?_cons_succ, Option.some.injEq] at ho; subst ho
  refine ⟨by kernel_rfl, fun K hK => ?_⟩
  refine wp_value (by go_simp; try with_reducible rfl) ?_
  refine hK.out _ _ ?_
  clear hK K
  simp only [Act.put, List.setIfInBounds_toArray, List.set_cons_zero, List.set_cons_succ]
  refine any_end (by kernel_rfl) ?_
  go_wp2_with fail
  refine bodyPost_ret (results_mv2 rfl _ _ _ m (.bool wr) rfl rfl HQ.out) rfl ⟨rfl, HB.out⟩
set_option maxRecDepth 100000 in
set_option maxHeartbeats 400000 in
theorem chk_dr (p : Nat → Int) (l : List UInt8) (b : Nat) (w : World) (hl : l.length ≤ 10000) (hp : FitM p) (hs : smB p = true) (hG : TabGo w) (hr : Row w b p) (r : Nat) (hv : Blk w r 49 #[rdV 18]) (hM : TabMv w) : Calls Tryd.prog 12 #[.string (bz l), .pointer (some ⟨r, 0, none⟩), .pointer (some ⟨b, 0, none⟩)] w (MvO (drM l) (isW (mvT p (drM l)) l) w) := by
  have HFp := Lib.hid hp
  have HSm := Lib.hid hs
  have HG := Lib.hid hG
  have HL := Lib.hid hl
  have HR := Lib.hid hr
  have HB := Lib.hid (Below.refl w.heap.size w)
  obtain ⟨t, ht⟩ : ∃ t, bz l = t := ⟨_, rfl⟩
  have HT := Lib.hid ht
  have HMx := Lib.hid hM
  have HV := Lib.hid hv
  obtain ⟨m, hm⟩ : ∃ m, drM l = m := ⟨_, rfl⟩
  have HMm := Lib.hid hm
  have HFv := Lib.hid (show FitV m by rw [← hm]; exact drM_fit l)
  obtain ⟨c, hc⟩ : ∃ c, mvT p m = c := ⟨_, rfl⟩
  have HC := Lib.hid hc
  obtain ⟨wr, hw⟩ : ∃ wr, isW c l = wr := ⟨_, rfl⟩
  have HW := Lib.hid hw
  rw [ht, hm, hc, hw]
  clear ht hm hc hw hl hp hs hG hr hv hM
  go_enter Tryd.func12, Tryd.ntmps12
  go_wp2_with (first
      | (refine blk_alloc rfl 33 rfl (mvA mv0) zeroMv ?_; intro b1 w2 N R; have HG1 := Lib.hid (show w.heap.size ≤ b1 by rw [N.at_]; exact HB.out.size); have HDHR1 := Lib.hid (show b ≠ b1 by rw [N.at_]; exact Nat.ne_of_lt HR.out.lt); have HDHV1 := Lib.hid (show r ≠ b1 by rw [N.at_]; exact Nat.ne_of_lt HV.out.lt); have HR := Lib.hid (HR.out.later N.below); have HV := Lib.hid (HV.out.later N.below); have HB := Lib.hid (HB.out.trans (N.below.mono HB.out.size)); have HQ := Lib.hid R; clear N R)
      | (refine step_get rfl 49 _ rfl r 0 rfl Tryd.underlying49 rfl (.func (.func 18) #[] #[]) ?_ ?_; exact HV.out.cell 0))
  rw [← HT.out]
  refine (rdrop_any l _ HL.out (HMx.out.on HB.out)).mono ?_; rintro e w3 ⟨rfl, hb⟩; rw [HMm.out, HT.out]; have HR := Lib.hid (HR.out.later hb); have HQ := Lib.hid (HQ.out.later hb); have HB := Lib.hid (below_on HB.out hb); clear hb
  go_wp2_with (first
      | (refine blk_alloc rfl 33 rfl (mvA mv0) zeroMv ?_; intro b2 w4 N R; have HG2 := Lib.hid (show w.heap.size ≤ b2 by rw [N.at_]; exact HB.out.size); have HDHR2 := Lib.hid (show b ≠ b2 by rw [N.at_]; exact Nat.ne_of_lt HR.out.lt); have HDHQ2 := Lib.hid (show b1 ≠ b2 by rw [N.at_]; exact Nat.ne_of_lt HQ.out.lt); have HR := Lib.hid (HR.out.later N.below); have HQ := Lib.hid (HQ.out.later N.below); have HB := Lib.hid (HB.out.trans (N.below.mono HB.out.size)); have HM := Lib.hid R; clear N R)
      | (refine blk_store rfl 33 _ _ rfl b2 rfl (mvA mv0) (mvA m) rfl ?_ rfl (mv_one _) sizeMv ?_; exact HM.out; intro w5 U R; have HR := Lib.hid (HR.out.apart U HDHR2.out); have HQ := Lib.hid (HQ.out.apart U HDHQ2.out); have HB := Lib.hid (HB.out.trans (U.below HG2.out)); have HM := Lib.hid R; clear U R))
  refine late_begin 6 (by kernel_rfl) ?_
  refine late_take 0 (by kernel_rfl) (by kernel_rfl) (by kernel_rfl) (by kernel_rfl) (by kernel_rfl) (fun _ _ d _ _ h => by cases d <;> exact h) (fun o ho => ?_)
  simp only [List.getElem?_toArray, List.getElem?_cons_zero, List.getElem?_cons_succ, Option.some.injEq] at ho; subst ho
  refine ⟨_, Or.inl ⟨by kernel_rfl, fun w' hl => Or.inl (run_blk 33 _ rfl b2 rfl (mvA m) (HM.out.later hl) _ Tryd.underlying33 rfl sizeMv)⟩, ?_⟩
  simp only [Act.put, List.setIfInBounds_toArray, List.set_cons_zero, List.set_cons_succ]
  refine late_takeD 1 [3, 5, 6] (by kernel_rfl) (by kernel_rfl) (by kernel_rfl) (by kernel_rfl) (by kernel_rfl) (fun _ _ d _ _ h => by cases d <;> exact h) (fun o ho => ?_)
  simp only [List.getElem?_toArray, List.getElem?_cons_zero, List.getElem?_cons_succ, Option.some.injEq] at ho; subst ho
  refine ⟨_, Or.inl ⟨by kernel_rfl, fun w' hl => Or.inl (run_load _ rfl b rfl p (HR.out.later hl))⟩, ?_⟩
  simp only [Act.put, List.setIfInBounds_toArray, List.set_cons_zero, List.set_cons_succ]
  refine late_takeD 2 [3, 5, 6] (by kernel_rfl) (by kernel_rfl) (by kernel_rfl) (by kernel_rfl) (by kernel_rfl) (fun _ _ d _ _ h => by cases d <;> exact h) (fun o ho => ?_)
  simp only [List.getElem?_toArray, List.getElem?_cons_zero, List.getElem?_cons_succ, Option.some.injEq] at ho; subst ho
  refine ⟨_, Or.inl ⟨by kernel_rfl, fun w' hl => Or.inl (run_blk 33 _ rfl b2 rfl (mvA m) (HM.out.later hl) _ Tryd.underlying33 rfl sizeMv)⟩, ?_⟩
  simp only [Act.put, List.setIfInBounds_toArray, List.set_cons_zero, List.set_cons_succ]
  refine late_takeD 4 [5, 6] (by kernel_rfl) (by kernel_rfl) (by kernel_rfl) (by kernel_rfl) (by kernel_rfl) (fun _ _ d _ _ h => by cases d <;> exact h) (fun o ho => ?_)
  simp only [List.getElem?_toArray, List.getElem?_cons_zero, List.getElem?_cons_succ, Option.some.injEq] at ho; subst ho
  apply Exists.intro
  refine ⟨Or.inl ⟨by kernel_rfl, fun w' hl => Or.inl ?_⟩, ?_⟩
  · (go_simp; try with_reducible rfl)
  simp only [Act.put, List.setIfInBounds_toArray, List.set_cons_zero, List.set_cons_succ]
  refine late_one 3 (by kernel_rfl) (by kernel_rfl) (fun o ho => ?_)
  simp only [List.getElem?_toArray, List.getElem?_cons_zero, List.getElem?_cons_succ, Option.some.injEq] at ho; subst ho
  refine ⟨by kernel_rfl, fun wn hl K hK => ?_⟩
  have HR := Lib.hid (HR.out.later hl); have HQ := Lib.hid (HQ.out.later hl); have HM := Lib.hid (HM.out.later hl); have HB := Lib.hid (below_on HB.out hl); clear hl
  refine wp_enter _ _ (by go_simp; exact ⟨rfl, rfl⟩) ?_
  refine (mvText_any p m _ HFp.out HFv.out (HG.out.on HB.out)).mono ?_; rintro e wm ⟨rfl, hb⟩; refine ⟨_, rfl, ?_⟩
  rw [HC.out]
  refine hK.out _ _ hb ?_
  have HR := Lib.hid (HR.out.later hb); have HQ := Lib.hid (HQ.out.later hb); have HM := Lib.hid (HM.out.later hb); have HB := Lib.hid (below_on HB.out hb); clear hb
  clear hK K
  simp only [Act.put, List.setIfInBounds_toArray, List.set_cons_zero, List.set_cons_succ]
  refine late_one 5 (by kernel_rfl) (by kernel_rfl) (fun o ho => ?_)
  simp only [List.getElem?_toArray, List.getElem?_cons_zero, List.getElem?_cons_succ, Option.some.injEq] at ho; subst ho
  refine ⟨by kernel_rfl, fun wn hl K hK => ?_⟩
  have HR := Lib.hid (HR.out.later hl); have HQ := Lib.hid (HQ.out.later hl); have HM := Lib.hid (HM.out.later hl); have HB := Lib.hid (below_on HB.out hl); clear hl
  refine wp_enter _ _ (by go_simp; exact ⟨rfl, rfl⟩) ?_
  rw [← HT.out]
  refine (isW_any c l _).mono ?_; rintro e wm ⟨rfl, rfl⟩; refine ⟨_, rfl, ?_⟩
  rw [HW.out]
  refine hK.out _ _ (Later.refl _) ?_
  clear hK K
  simp only [Act.put, List.setIfInBounds_toArray, List.set_cons_zero, List.set_cons_succ]
  refine late_then 6 (by kernel_rfl) (by kernel_rfl) (fun o ho => ?_)
  simp only [List.getElem?_toArray, List.getElem?_cons_zero, List.getElem?_cons_succ, Option.some.injEq] at ho; subst ho
  refine ⟨by kernel_rfl, fun wn hl K hK => ?_⟩
  have HR := Lib.hid (HR.out.later hl); have HQ := Lib.hid (HQ.out.later hl); have HM := Lib.hid (HM.out.later hl); have HB := Lib.hid (below_on HB.out hl); clear hl
  refine late_blk 33 _ _ rfl b1 rfl (mvA mv0) (mvA m) rfl HQ.out rfl (mv_one _) sizeMv ?_; intro wm U R
  have HQ := Lib.hid R; have HB := Lib.hid (HB.out.trans (U.below HG1.out)); clear U R
  refine hK.out _ _ ?_
  clear hK K
  simp only [Act.put, List.setIfInBounds_toArray, List.set_cons_zero, List.set_cons_succ]
  refine any_one 7 (by kernel_rfl) (by kernel_rfl) (fun o ho => ?_)
  simp only [List.getElem?_toArray, List.getElem?_cons_zero, List.getElem?_cons_succ, Option.some.injEq] at ho; subst ho
  refine ⟨by kernel_rfl, fun K hK => ?_⟩
  refine wp_value (by go_simp; try with_reducible rfl) ?_
  refine hK.out _ _ ?_
  clear hK K
  simp only [Act.put, List.setIfInBounds_toArray, List.set_cons_zero, List.set_cons_succ]
  refine any_end (by kernel_rfl) ?_
  go_wp2_with fail
  refine bodyPost_ret (results_mv2 rfl _ _ _ m (.bool wr) rfl rfl HQ.out) rfl ⟨rfl, HB.out⟩
set_option maxRecDepth 100000 in
theorem mk_f_any (f b : Nat) (w : World) : Calls Tryd.prog 11 #[.func (.func f) #[] #[], .pointer (some ⟨b, 0, none⟩)] w (fun e w' => ∃ r, e = .returned (chkF r b) ∧ w.heap.size ≤ r ∧ Blk w' r 49 #[rdV f] ∧ Below w.heap.size w w') := by
  go_enter Tryd.func11, Tryd.ntmps11
  go_wp2_with fail
  go_ret
  exact ⟨w.heap.size, rfl, Nat.le_refl _, heap_alloc_new w _, (New.alloc w _).below⟩
set_option maxRecDepth 100000 in
set_option maxHeartbeats 400000 in
theorem tries_any (p : Nat → Int) (w : World) : Calls Tryd.prog 7 #[.agg (posA p)] w (fun e w' => ∃ r1 r2 b, e = .returned (.agg (triA r1 r2 b)) ∧ Row w' b p ∧ Blk w' r1 49 #[rdV 17] ∧ Blk w' r2 49 #[rdV 18] ∧ Below w.heap.size w w') := by
  have HB := Lib.hid (Below.refl w.heap.size w)
  have HOnce := Lib.hid trivial
  go_enter Tryd.func7, Tryd.ntmps7
  go_wp2_with (first
      | (refine step_box rfl _ rfl p rfl ?_; intro b0 w1 N R; have HB := Lib.hid (HB.out.trans (N.below.mono HB.out.size)); have HR := Lib.hid R; clear N R)
      | (refine blk_alloc rfl 43 rfl #[.nilFunc, .nilFunc, .nilFunc] (by kernel_rfl) ?_; intro b1 w2 N R; have HG1 := Lib.hid (show w.heap.size ≤ b1 by rw [N.at_]; exact HB.out.size); have HDne := Lib.hid (show b0 ≠ b1 by rw [N.at_]; exact Nat.ne_of_lt HR.out.lt); have HR := Lib.hid (HR.out.later N.below); have HB := Lib.hid (HB.out.trans (N.below.mono HB.out.size)); have HQ := Lib.hid R; clear N R)
      | (go_at_call 11; clear HOnce; refine (mk_f_any _ b0 _).mono ?_; rintro e w3 ⟨r1, rfl, hr1, hv1, hb⟩; have HD1 := Lib.hid (show r1 ≠ b1 by have := HQ.out.lt; omega); have HR := Lib.hid (HR.out.later hb); have HQ := Lib.hid (HQ.out.later hb); have HB := Lib.hid (below_on HB.out hb); have HV1 := Lib.hid hv1; clear hb hv1 hr1)
      | (go_at_call 11; refine (mk_f_any _ b0 _).mono ?_; rintro e w4 ⟨r2, rfl, hr2, hv2, hb⟩; have HD2 := Lib.hid (show r2 ≠ b1 by have := HQ.out.lt; omega); have HR := Lib.hid (HR.out.later hb); have HQ := Lib.hid (HQ.out.later hb); have HV1 := Lib.hid (HV1.out.later hb); have HB := Lib.hid (below_on HB.out hb); have HV2 := Lib.hid hv2; clear hb hv2 hr2)
      | (refine step_build rfl 43 _ rfl (triA r1 r2 b0) (by kernel_rfl) ?_)
      | (refine blk_store rfl 43 _ _ rfl b1 rfl #[.nilFunc, .nilFunc, .nilFunc] (triA r1 r2 b0) rfl ?_ rfl (by simp [triA, tryF, chkF, Value.oneCell']) (by kernel_rfl) ?_; exact HQ.out; intro w8 U R; have HB := Lib.hid (HB.out.trans (U.below HG1.out)); have HR := Lib.hid (HR.out.apart U HDne.out); have HV1 := Lib.hid (HV1.out.apart U HD1.out); have HV2 := Lib.hid (HV2.out.apart U HD2.out); have HQ := Lib.hid R; clear U R))
  refine bodyPost_ret (v := .agg (triA r1 r2 b0)) (results_blk rfl _ _ _ _ rfl HQ.out Tryd.underlying43 rfl (n := 3) (by kernel_rfl) rfl) rfl ⟨r1, r2, b0, rfl, HR.out, HV1.out, HV2.out, HB.out⟩
def hitB (p : Nat → Int) (l : List UInt8) (k : Nat) : Bool := bif k == 0 then coB p l else bif k == 1 then isW (mvT p (plM l)) l else isW (mvT p (drM l)) l
def MvN (m : Mv) (n : Int) (w : World) (e : Ending) (w' : World) : Prop := e = .returned (.tuple #[.agg (mvA m), .int .i64 n]) ∧ Below w.heap.size w w'
/-- What Parse answers: the move, the error's number. -/
def pmO (x : Option Mv) : Mv := match x with | some m => m | none => mv0
def enO (p : Nat → Int) (x : Option Mv) : Int := match x with | some _ => 0 | none => bif smB p then 5 else 2
theorem mvR_0 {p : Nat → Int} {l : List UInt8} (h : coB p l = true) : mvR p l = some (coM p l) := by unfold mvR; rw [h]; rfl
theorem mvR_1 {p : Nat → Int} {l : List UInt8} (h0 : coB p l = false) (h : isW (mvT p (plM l)) l = true) : mvR p l = some (plM l) := by unfold mvR; rw [h0, h]; rfl
theorem mvR_2 {p : Nat → Int} {l : List UInt8} (h0 : coB p l = false) (h1 : isW (mvT p (plM l)) l = false) (h : isW (mvT p (drM l)) l = true) : mvR p l = some (drM l) := by unfold mvR; rw [h0, h1, h]; rfl
theorem mvR_3 {p : Nat → Int} {l : List UInt8} (h0 : coB p l = false) (h1 : isW (mvT p (plM l)) l = false) (h : isW (mvT p (drM l)) l = false) : mvR p l = none := by unfold mvR; rw [h0, h1, h]; rfl
set_option maxRecDepth 100000 in
set_option maxHeartbeats 400000 in
theorem parse_w0 (p : Nat → Int) (l : List UInt8) (w : World) (hl : l.length ≤ 10000) (hp : FitM p) (hG : TabGo w) (hM : TabMv w) (h0 : smB p = false) : Calls Tryd.prog 4 #[.agg (posA p), .string (bz l)] w (MvN (pmO (mvP p l)) (enO p (mvP p l)) w) := by
  have HB := Lib.hid (Below.refl w.heap.size w)
  have H0 := Lib.hid h0
  have HS := Lib.hid (show mvP p l = none by unfold mvP; rw [h0]; rfl)
  have HE := Lib.hid (show enO p none = 2 by show (bif smB p then (5 : Int) else 2) = 2; rw [h0]; rfl)
  obtain ⟨t, ht⟩ : ∃ t, bz l = t := ⟨_, rfl⟩
  rw [ht, HS.out, HE.out]
  clear ht h0 hl hp hG hM
  go_enter Tryd.func4, Tryd.ntmps4
  go_wp2_with (first
      | (refine step_box rfl _ rfl p rfl ?_; intro b0 w1 N R; have HB := Lib.hid (HB.out.trans (N.below.mono HB.out.size)); have HR := Lib.hid R; clear N R)
      | (refine blk_alloc rfl 33 rfl (mvA mv0) zeroMv ?_; intro b1 w2 N R; have HG1 := Lib.hid (show w.heap.size ≤ b1 by rw [N.at_]; exact HB.out.size); have HDHR1 := Lib.hid (show b0 ≠ b1 by rw [N.at_]; exact Nat.ne_of_lt HR.out.lt); have HR := Lib.hid (HR.out.later N.below); have HB := Lib.hid (HB.out.trans (N.below.mono HB.out.size)); have HQ := Lib.hid R; clear N R)
      | (refine step_load rfl _ rfl b0 rfl p HR.out ?_)
      | (go_at_call 6; refine (some_any p _).mono ?_; rintro e w3 ⟨rfl, hb⟩; rw [H0.out]; have HR := Lib.hid (HR.out.later hb); have HQ := Lib.hid (HQ.out.later hb); have HB := Lib.hid (below_on HB.out hb); clear hb)
      | (refine step_build rfl 33 _ rfl (mvA mv0) (by kernel_rfl) ?_)
      | (refine blk_store rfl 33 _ _ rfl b1 rfl (mvA mv0) (mvA mv0) rfl ?_ rfl (mv_one _) sizeMv ?_; exact HQ.out; intro w8 U R; have HB := Lib.hid (HB.out.trans (U.below HG1.out)); have HQ := Lib.hid R; clear U R))
  refine bodyPost_ret (results_mv2 rfl _ _ _ mv0 (.int .i64 2) rfl rfl HQ.out) rfl ⟨rfl, HB.out⟩
set_option maxRecDepth 100000 in
set_option maxHeartbeats 400000 in
theorem parse_w1 (p : Nat → Int) (l : List UInt8) (w : World) (hl : l.length ≤ 10000) (hp : FitM p) (hG : TabGo w) (hM : TabMv w) (h0 : smB p = true) : Calls Tryd.prog 4 #[.agg (posA p), .string (bz l)] w (MvN (pmO (mvP p l)) (enO p (mvP p l)) w) := by
  have HB := Lib.hid (Below.refl w.heap.size w)
  have H0 := Lib.hid h0
  have HFp := Lib.hid hp
  have HG := Lib.hid hG
  have HMx := Lib.hid hM
  have HL := Lib.hid hl
  obtain ⟨t, ht⟩ : ∃ t, bz l = t := ⟨_, rfl⟩
  have HT := Lib.hid ht
  rw [ht]
  clear ht h0 hl hp hG hM
  go_enter Tryd.func4, Tryd.ntmps4
  go_wp2_with (first
      | (refine step_box rfl _ rfl p rfl ?_; intro b0 w1 N R; have HB := Lib.hid (HB.out.trans (N.below.mono HB.out.size)); have HR := Lib.hid R; clear N R)
      | (refine blk_alloc rfl 33 rfl (mvA mv0) zeroMv ?_; intro b1 w2 N R; have HG1 := Lib.hid (show w.heap.size ≤ b1 by rw [N.at_]; exact HB.out.size); have HDHR1 := Lib.hid (show b0 ≠ b1 by rw [N.at_]; exact Nat.ne_of_lt HR.out.lt); have HR := Lib.hid (HR.out.later N.below); have HB := Lib.hid (HB.out.trans (N.below.mono HB.out.size)); have HQ := Lib.hid R; clear N R)
      | (refine step_load rfl _ rfl b0 rfl p HR.out ?_)
      | (go_at_call 6; refine (some_any p _).mono ?_; rintro e w3 ⟨rfl, hb⟩; rw [H0.out]; have HR := Lib.hid (HR.out.later hb); have HQ := Lib.hid (HQ.out.later hb); have HB := Lib.hid (below_on HB.out hb); clear hb)
      | (go_at_call 7; refine (tries_any p _).mono ?_; rintro e w4 ⟨r1, r2, bt, rfl, ht, hv1, hv2, hb⟩; have HR := Lib.hid (HR.out.later hb); have HQ := Lib.hid (HQ.out.later hb); have HB := Lib.hid (below_on HB.out hb); have HRt := Lib.hid ht; have HV1 := Lib.hid hv1; have HV2 := Lib.hid hv2; clear hb ht hv1 hv2))
  go_loopw [16] (fun v wr => ∃ k : Nat, k ≤ 3 ∧ v = .int .i64 (k : Int) ∧ (∀ j, j < k → hitB p l j = false) ∧ Row wr b0 p ∧ Blk wr b1 33 (mvA mv0) ∧ Row wr bt p ∧ Blk wr r1 49 #[rdV 17] ∧ Blk wr r2 49 #[rdV 18] ∧ Below w.heap.size w wr) (fun v _ => 3 - (intOf v).toNat)
  case atStart => exact ⟨0, by omega, rfl, by intro j h; omega, HR.out, HQ.out, HRt.out, HV1.out, HV2.out, HB.out⟩
  case round =>
    obtain ⟨k, hk, rfl, hh, hr, hq, hrt, hv1, hv2, hb⟩ := hrel
    have HR := Lib.hid hr
    have HQ := Lib.hid hq
    have HRt := Lib.hid hrt
    have HV1 := Lib.hid hv1
    have HV2 := Lib.hid hv2
    have HB := Lib.hid hb
    have HH := Lib.hid hh
    have HK := Lib.hid hk
    clear hr hq hrt hv1 hv2 hb hh
    by_cases e3 : k = 3
    · have g1 : decide ((k : Int) < 3) = false := decide_eq_false (by omega)
      have HS := Lib.hid (show mvP p l = none by
        unfold mvP; rw [H0.out]
        exact mvR_3 (HH.out 0 (by omega)) (HH.out 1 (by omega)) (HH.out 2 (by omega)))
      have HE := Lib.hid (show enO p none = 5 by show (bif smB p then (5 : Int) else 2) = 5; rw [H0.out]; rfl)
      clear e3 hk
      go_wp2_with (first
          | (refine step_build rfl 33 _ rfl (mvA mv0) (by kernel_rfl) ?_)
          | (refine blk_store rfl 33 _ _ rfl b1 rfl (mvA mv0) (mvA mv0) rfl ?_ rfl (mv_one _) sizeMv ?_; exact HQ.out; intro w8 U R; have HB := Lib.hid (HB.out.trans (U.below HG1.out)); have HQ := Lib.hid R; clear U R))
      refine bodyPost_ret (results_mv2 rfl _ _ _ mv0 (.int .i64 5) rfl rfl HQ.out) rfl ⟨by rw [HS.out, HE.out]; rfl, HB.out⟩
    · have g1 : decide ((k : Int) < 3) = true := decide_eq_true (by omega)
      have hk3 : k < 3 := by omega
      have k0 : (0 : Int) ≤ (k : Int) := by omega
      have k2 : (k : Int) ≤ 2 := by omega
      have HK3 := Lib.hid hk3
      have HN := Lib.hid e3
      clear e3 hk hk3
      by_cases ek : k = 0
      · obtain ⟨cm, hcm⟩ : ∃ cm, coM p l = cm := ⟨_, rfl⟩
        have HCm := Lib.hid hcm
        have HKk := Lib.hid ek
        cases hc : coB p l
        · have HC := Lib.hid hc
          have HH2 := Lib.hid (show ∀ j, j < k + 1 → hitB p l j = false from fun j hj => by
            by_cases e : j < k
            · exact HH.out j e
            · obtain rfl : j = 0 := by omega
              exact hc)
          clear hc hcm ek
          go_wp2_with (first
                | (refine step_index rfl 43 42 _ _ rfl 3 (triA r1 r2 bt) rfl .i64 k rfl HK3.out Tryd.underlying43 Tryd.underlying42 rfl (by kernel_rfl) ((.func (.func 15) #[] #[.pointer (some ⟨bt, 0, none⟩)])) (by rw [HKk.out]; rfl) ?_))
          rw [← HT.out]
          refine (try_any p l bt _ HL.out HFp.out H0.out (HG.out.on HB.out) HRt.out).mono ?_; rintro e w6 ⟨rfl, hb⟩; rw [HC.out, HCm.out, HT.out]; have HR := Lib.hid (HR.out.later hb); have HQ := Lib.hid (HQ.out.later hb); have HRt := Lib.hid (HRt.out.later hb); have HV1 := Lib.hid (HV1.out.later hb); have HV2 := Lib.hid (HV2.out.later hb); have HB := Lib.hid (below_on HB.out hb); clear hb
          go_wp2_with (first
                | (refine blk_alloc rfl 33 rfl (mvA mv0) zeroMv ?_; intro b8 w7 N R; have HG8 := Lib.hid (show w.heap.size ≤ b8 by rw [N.at_]; exact HB.out.size); have HDHR8 := Lib.hid (show b0 ≠ b8 by rw [N.at_]; exact Nat.ne_of_lt HR.out.lt); have HDHQ8 := Lib.hid (show b1 ≠ b8 by rw [N.at_]; exact Nat.ne_of_lt HQ.out.lt); have HDHRt8 := Lib.hid (show bt ≠ b8 by rw [N.at_]; exact Nat.ne_of_lt HRt.out.lt); have HDHV18 := Lib.hid (show r1 ≠ b8 by rw [N.at_]; exact Nat.ne_of_lt HV1.out.lt); have HDHV28 := Lib.hid (show r2 ≠ b8 by rw [N.at_]; exact Nat.ne_of_lt HV2.out.lt); have HR := Lib.hid (HR.out.later N.below); have HQ := Lib.hid (HQ.out.later N.below); have HRt := Lib.hid (HRt.out.later N.below); have HV1 := Lib.hid (HV1.out.later N.below); have HV2 := Lib.hid (HV2.out.later N.below); have HB := Lib.hid (HB.out.trans (N.below.mono HB.out.size)); have HM := Lib.hid R; clear N R)
                | (refine blk_store rfl 33 _ _ rfl b8 rfl (mvA mv0) (mvA cm) rfl ?_ rfl (mv_one _) sizeMv ?_; exact HM.out; intro w5 U R; have HR := Lib.hid (HR.out.apart U HDHR8.out); have HQ := Lib.hid (HQ.out.apart U HDHQ8.out); have HRt := Lib.hid (HRt.out.apart U HDHRt8.out); have HV1 := Lib.hid (HV1.out.apart U HDHV18.out); have HV2 := Lib.hid (HV2.out.apart U HDHV28.out); have HB := Lib.hid (HB.out.trans (U.below HG8.out)); have HM := Lib.hid R; clear U R))
          go_roundw
          case rel => exact ⟨k + 1, by have := HK3.out; omega, by go_num, HH2.out, HR.out, HQ.out, HRt.out, HV1.out, HV2.out, HB.out⟩
          case measure => have := HK3.out; simp [intOf]; omega
        · have HC := Lib.hid hc
          have HS := Lib.hid (show mvP p l = some cm by
            unfold mvP; rw [H0.out, ← hcm]
            exact mvR_0 hc)
          clear hc hcm ek
          go_wp2_with (first
                | (refine step_index rfl 43 42 _ _ rfl 3 (triA r1 r2 bt) rfl .i64 k rfl HK3.out Tryd.underlying43 Tryd.underlying42 rfl (by kernel_rfl) ((.func (.func 15) #[] #[.pointer (some ⟨bt, 0, none⟩)])) (by rw [HKk.out]; rfl) ?_))
          rw [← HT.out]
          refine (try_any p l bt _ HL.out HFp.out H0.out (HG.out.on HB.out) HRt.out).mono ?_; rintro e w6 ⟨rfl, hb⟩; rw [HC.out, HCm.out, HT.out]; have HR := Lib.hid (HR.out.later hb); have HQ := Lib.hid (HQ.out.later hb); have HRt := Lib.hid (HRt.out.later hb); have HV1 := Lib.hid (HV1.out.later hb); have HV2 := Lib.hid (HV2.out.later hb); have HB := Lib.hid (below_on HB.out hb); clear hb
          go_wp2_with (first
                | (refine blk_alloc rfl 33 rfl (mvA mv0) zeroMv ?_; intro b8 w7 N R; have HG8 := Lib.hid (show w.heap.size ≤ b8 by rw [N.at_]; exact HB.out.size); have HDHR8 := Lib.hid (show b0 ≠ b8 by rw [N.at_]; exact Nat.ne_of_lt HR.out.lt); have HDHQ8 := Lib.hid (show b1 ≠ b8 by rw [N.at_]; exact Nat.ne_of_lt HQ.out.lt); have HDHRt8 := Lib.hid (show bt ≠ b8 by rw [N.at_]; exact Nat.ne_of_lt HRt.out.lt); have HDHV18 := Lib.hid (show r1 ≠ b8 by rw [N.at_]; exact Nat.ne_of_lt HV1.out.lt); have HDHV28 := Lib.hid (show r2 ≠ b8 by rw [N.at_]; exact Nat.ne_of_lt HV2.out.lt); have HR := Lib.hid (HR.out.later N.below); have HQ := Lib.hid (HQ.out.later N.below); have HRt := Lib.hid (HRt.out.later N.below); have HV1 := Lib.hid (HV1.out.later N.below); have HV2 := Lib.hid (HV2.out.later N.below); have HB := Lib.hid (HB.out.trans (N.below.mono HB.out.size)); have HM := Lib.hid R; clear N R)
                | (refine blk_store rfl 33 _ _ rfl b8 rfl (mvA mv0) (mvA cm) rfl ?_ rfl (mv_one _) sizeMv ?_; exact HM.out; intro w5 U R; have HR := Lib.hid (HR.out.apart U HDHR8.out); have HQ := Lib.hid (HQ.out.apart U HDHQ8.out); have HRt := Lib.hid (HRt.out.apart U HDHRt8.out); have HV1 := Lib.hid (HV1.out.apart U HDHV18.out); have HV2 := Lib.hid (HV2.out.apart U HDHV28.out); have HB := Lib.hid (HB.out.trans (U.below HG8.out)); have HM := Lib.hid R; clear U R)
                | (refine blk_load rfl 33 _ rfl b8 rfl (mvA cm) HM.out _ Tryd.underlying33 rfl sizeMv ?_)
                | (refine blk_store rfl 33 _ _ rfl b1 rfl (mvA mv0) (mvA cm) rfl ?_ rfl (mv_one _) sizeMv ?_; exact HQ.out; intro w8 U R; have HB := Lib.hid (HB.out.trans (U.below HG1.out)); have HQ := Lib.hid R; clear U R))
          refine bodyPost_ret (results_mv2 rfl _ _ _ cm (.int .i64 0) rfl rfl HQ.out) rfl ⟨by rw [HS.out]; rfl, HB.out⟩
      · by_cases ek1 : k = 1
        · have ek := ek1
          obtain ⟨cm, hcm⟩ : ∃ cm, plM l = cm := ⟨_, rfl⟩
          have HCm := Lib.hid hcm
          have HKk := Lib.hid ek
          cases hc : isW (mvT p (plM l)) l
          · have HC := Lib.hid hc
            have HH2 := Lib.hid (show ∀ j, j < k + 1 → hitB p l j = false from fun j hj => by
              by_cases e : j < k
              · exact HH.out j e
              · obtain rfl : j = 1 := by omega
                exact hc)
            clear hc hcm ek
            go_wp2_with (first
                  | (refine step_index rfl 43 42 _ _ rfl 3 (triA r1 r2 bt) rfl .i64 k rfl HK3.out Tryd.underlying43 Tryd.underlying42 rfl (by kernel_rfl) ((.func (.func 12) #[] #[.pointer (some ⟨r1, 0, none⟩), .pointer (some ⟨bt, 0, none⟩)])) (by rw [HKk.out]; rfl) ?_))
            rw [← HT.out]
            refine (chk_pl p l bt _ HL.out HFp.out H0.out (HG.out.on HB.out) HRt.out r1 HV1.out).mono ?_; rintro e w6 ⟨rfl, hb⟩; rw [HC.out, HCm.out, HT.out]; have HR := Lib.hid (HR.out.later hb); have HQ := Lib.hid (HQ.out.later hb); have HRt := Lib.hid (HRt.out.later hb); have HV1 := Lib.hid (HV1.out.later hb); have HV2 := Lib.hid (HV2.out.later hb); have HB := Lib.hid (below_on HB.out hb); clear hb
            go_wp2_with (first
                  | (refine blk_alloc rfl 33 rfl (mvA mv0) zeroMv ?_; intro b8 w7 N R; have HG8 := Lib.hid (show w.heap.size ≤ b8 by rw [N.at_]; exact HB.out.size); have HDHR8 := Lib.hid (show b0 ≠ b8 by rw [N.at_]; exact Nat.ne_of_lt HR.out.lt); have HDHQ8 := Lib.hid (show b1 ≠ b8 by rw [N.at_]; exact Nat.ne_of_lt HQ.out.lt); have HDHRt8 := Lib.hid (show bt ≠ b8 by rw [N.at_]; exact Nat.ne_of_lt HRt.out.lt); have HDHV18 := Lib.hid (show r1 ≠ b8 by rw [N.at_]; exact Nat.ne_of_lt HV1.out.lt); have HDHV28 := Lib.hid (show r2 ≠ b8 by rw [N.at_]; exact Nat.ne_of_lt HV2.out.lt); have HR := Lib.hid (HR.out.later N.below); have HQ := Lib.hid (HQ.out.later N.below); have HRt := Lib.hid (HRt.out.later N.below); have HV1 := Lib.hid (HV1.out.later N.below); have HV2 := Lib.hid (HV2.out.later N.below); have HB := Lib.hid (HB.out.trans (N.below.mono HB.out.size)); have HM := Lib.hid R; clear N R)
                  | (refine blk_store rfl 33 _ _ rfl b8 rfl (mvA mv0) (mvA cm) rfl ?_ rfl (mv_one _) sizeMv ?_; exact HM.out; intro w5 U R; have HR := Lib.hid (HR.out.apart U HDHR8.out); have HQ := Lib.hid (HQ.out.apart U HDHQ8.out); have HRt := Lib.hid (HRt.out.apart U HDHRt8.out); have HV1 := Lib.hid (HV1.out.apart U HDHV18.out); have HV2 := Lib.hid (HV2.out.apart U HDHV28.out); have HB := Lib.hid (HB.out.trans (U.below HG8.out)); have HM := Lib.hid R; clear U R))
            go_roundw
            case rel => exact ⟨k + 1, by have := HK3.out; omega, by go_num, HH2.out, HR.out, HQ.out, HRt.out, HV1.out, HV2.out, HB.out⟩
            case measure => have := HK3.out; simp [intOf]; omega
          · have HC := Lib.hid hc
            have HS := Lib.hid (show mvP p l = some cm by
              unfold mvP; rw [H0.out, ← hcm]
              exact mvR_1 (HH.out 0 (by omega)) hc)
            clear hc hcm ek
            go_wp2_with (first
                  | (refine step_index rfl 43 42 _ _ rfl 3 (triA r1 r2 bt) rfl .i64 k rfl HK3.out Tryd.underlying43 Tryd.underlying42 rfl (by kernel_rfl) ((.func (.func 12) #[] #[.pointer (some ⟨r1, 0, none⟩), .pointer (some ⟨bt, 0, none⟩)])) (by rw [HKk.out]; rfl) ?_))
            rw [← HT.out]
            refine (chk_pl p l bt _ HL.out HFp.out H0.out (HG.out.on HB.out) HRt.out r1 HV1.out).mono ?_; rintro e w6 ⟨rfl, hb⟩; rw [HC.out, HCm.out, HT.out]; have HR := Lib.hid (HR.out.later hb); have HQ := Lib.hid (HQ.out.later hb); have HRt := Lib.hid (HRt.out.later hb); have HV1 := Lib.hid (HV1.out.later hb); have HV2 := Lib.hid (HV2.out.later hb); have HB := Lib.hid (below_on HB.out hb); clear hb
            go_wp2_with (first
                  | (refine blk_alloc rfl 33 rfl (mvA mv0) zeroMv ?_; intro b8 w7 N R; have HG8 := Lib.hid (show w.heap.size ≤ b8 by rw [N.at_]; exact HB.out.size); have HDHR8 := Lib.hid (show b0 ≠ b8 by rw [N.at_]; exact Nat.ne_of_lt HR.out.lt); have HDHQ8 := Lib.hid (show b1 ≠ b8 by rw [N.at_]; exact Nat.ne_of_lt HQ.out.lt); have HDHRt8 := Lib.hid (show bt ≠ b8 by rw [N.at_]; exact Nat.ne_of_lt HRt.out.lt); have HDHV18 := Lib.hid (show r1 ≠ b8 by rw [N.at_]; exact Nat.ne_of_lt HV1.out.lt); have HDHV28 := Lib.hid (show r2 ≠ b8 by rw [N.at_]; exact Nat.ne_of_lt HV2.out.lt); have HR := Lib.hid (HR.out.later N.below); have HQ := Lib.hid (HQ.out.later N.below); have HRt := Lib.hid (HRt.out.later N.below); have HV1 := Lib.hid (HV1.out.later N.below); have HV2 := Lib.hid (HV2.out.later N.below); have HB := Lib.hid (HB.out.trans (N.below.mono HB.out.size)); have HM := Lib.hid R; clear N R)
                  | (refine blk_store rfl 33 _ _ rfl b8 rfl (mvA mv0) (mvA cm) rfl ?_ rfl (mv_one _) sizeMv ?_; exact HM.out; intro w5 U R; have HR := Lib.hid (HR.out.apart U HDHR8.out); have HQ := Lib.hid (HQ.out.apart U HDHQ8.out); have HRt := Lib.hid (HRt.out.apart U HDHRt8.out); have HV1 := Lib.hid (HV1.out.apart U HDHV18.out); have HV2 := Lib.hid (HV2.out.apart U HDHV28.out); have HB := Lib.hid (HB.out.trans (U.below HG8.out)); have HM := Lib.hid R; clear U R)
                  | (refine blk_load rfl 33 _ rfl b8 rfl (mvA cm) HM.out _ Tryd.underlying33 rfl sizeMv ?_)
                  | (refine blk_store rfl 33 _ _ rfl b1 rfl (mvA mv0) (mvA cm) rfl ?_ rfl (mv_one _) sizeMv ?_; exact HQ.out; intro w8 U R; have HB := Lib.hid (HB.out.trans (U.below HG1.out)); have HQ := Lib.hid R; clear U R))
            refine bodyPost_ret (results_mv2 rfl _ _ _ cm (.int .i64 0) rfl rfl HQ.out) rfl ⟨by rw [HS.out]; rfl, HB.out⟩
        · have ek : k = 2 := by have := HK.out; have := HN.out; omega
          obtain ⟨cm, hcm⟩ : ∃ cm, drM l = cm := ⟨_, rfl⟩
          have HCm := Lib.hid hcm
          have HKk := Lib.hid ek
          cases hc : isW (mvT p (drM l)) l
          · have HC := Lib.hid hc
            have HH2 := Lib.hid (show ∀ j, j < k + 1 → hitB p l j = false from fun j hj => by
              by_cases e : j < k
              · exact HH.out j e
              · obtain rfl : j = 2 := by omega
                exact hc)
            clear hc hcm ek
            go_wp2_with (first
                  | (refine step_index rfl 43 42 _ _ rfl 3 (triA r1 r2 bt) rfl .i64 k rfl HK3.out Tryd.underlying43 Tryd.underlying42 rfl (by kernel_rfl) ((.func (.func 12) #[] #[.pointer (some ⟨r2, 0, none⟩), .pointer (some ⟨bt, 0, none⟩)])) (by rw [HKk.out]; rfl) ?_))
            rw [← HT.out]
            refine (chk_dr p l bt _ HL.out HFp.out H0.out (HG.out.on HB.out) HRt.out r2 HV2.out (HMx.out.on HB.out)).mono ?_; rintro e w6 ⟨rfl, hb⟩; rw [HC.out, HCm.out, HT.out]; have HR := Lib.hid (HR.out.later hb); have HQ := Lib.hid (HQ.out.later hb); have HRt := Lib.hid (HRt.out.later hb); have HV1 := Lib.hid (HV1.out.later hb); have HV2 := Lib.hid (HV2.out.later hb); have HB := Lib.hid (below_on HB.out hb); clear hb
            go_wp2_with (first
                  | (refine blk_alloc rfl 33 rfl (mvA mv0) zeroMv ?_; intro b8 w7 N R; have HG8 := Lib.hid (show w.heap.size ≤ b8 by rw [N.at_]; exact HB.out.size); have HDHR8 := Lib.hid (show b0 ≠ b8 by rw [N.at_]; exact Nat.ne_of_lt HR.out.lt); have HDHQ8 := Lib.hid (show b1 ≠ b8 by rw [N.at_]; exact Nat.ne_of_lt HQ.out.lt); have HDHRt8 := Lib.hid (show bt ≠ b8 by rw [N.at_]; exact Nat.ne_of_lt HRt.out.lt); have HDHV18 := Lib.hid (show r1 ≠ b8 by rw [N.at_]; exact Nat.ne_of_lt HV1.out.lt); have HDHV28 := Lib.hid (show r2 ≠ b8 by rw [N.at_]; exact Nat.ne_of_lt HV2.out.lt); have HR := Lib.hid (HR.out.later N.below); have HQ := Lib.hid (HQ.out.later N.below); have HRt := Lib.hid (HRt.out.later N.below); have HV1 := Lib.hid (HV1.out.later N.below); have HV2 := Lib.hid (HV2.out.later N.below); have HB := Lib.hid (HB.out.trans (N.below.mono HB.out.size)); have HM := Lib.hid R; clear N R)
                  | (refine blk_store rfl 33 _ _ rfl b8 rfl (mvA mv0) (mvA cm) rfl ?_ rfl (mv_one _) sizeMv ?_; exact HM.out; intro w5 U R; have HR := Lib.hid (HR.out.apart U HDHR8.out); have HQ := Lib.hid (HQ.out.apart U HDHQ8.out); have HRt := Lib.hid (HRt.out.apart U HDHRt8.out); have HV1 := Lib.hid (HV1.out.apart U HDHV18.out); have HV2 := Lib.hid (HV2.out.apart U HDHV28.out); have HB := Lib.hid (HB.out.trans (U.below HG8.out)); have HM := Lib.hid R; clear U R))
            go_roundw
            case rel => exact ⟨k + 1, by have := HK3.out; omega, by go_num, HH2.out, HR.out, HQ.out, HRt.out, HV1.out, HV2.out, HB.out⟩
            case measure => have := HK3.out; simp [intOf]; omega
          · have HC := Lib.hid hc
            have HS := Lib.hid (show mvP p l = some cm by
              unfold mvP; rw [H0.out, ← hcm]
              exact mvR_2 (HH.out 0 (by omega)) (HH.out 1 (by omega)) hc)
            clear hc hcm ek
            go_wp2_with (first
                  | (refine step_index rfl 43 42 _ _ rfl 3 (triA r1 r2 bt) rfl .i64 k rfl HK3.out Tryd.underlying43 Tryd.underlying42 rfl (by kernel_rfl) ((.func (.func 12) #[] #[.pointer (some ⟨r2, 0, none⟩), .pointer (some ⟨bt, 0, none⟩)])) (by rw [HKk.out]; rfl) ?_))
            rw [← HT.out]
            refine (chk_dr p l bt _ HL.out HFp.out H0.out (HG.out.on HB.out) HRt.out r2 HV2.out (HMx.out.on HB.out)).mono ?_; rintro e w6 ⟨rfl, hb⟩; rw [HC.out, HCm.out, HT.out]; have HR := Lib.hid (HR.out.later hb); have HQ := Lib.hid (HQ.out.later hb); have HRt := Lib.hid (HRt.out.later hb); have HV1 := Lib.hid (HV1.out.later hb); have HV2 := Lib.hid (HV2.out.later hb); have HB := Lib.hid (below_on HB.out hb); clear hb
            go_wp2_with (first
                  | (refine blk_alloc rfl 33 rfl (mvA mv0) zeroMv ?_; intro b8 w7 N R; have HG8 := Lib.hid (show w.heap.size ≤ b8 by rw [N.at_]; exact HB.out.size); have HDHR8 := Lib.hid (show b0 ≠ b8 by rw [N.at_]; exact Nat.ne_of_lt HR.out.lt); have HDHQ8 := Lib.hid (show b1 ≠ b8 by rw [N.at_]; exact Nat.ne_of_lt HQ.out.lt); have HDHRt8 := Lib.hid (show bt ≠ b8 by rw [N.at_]; exact Nat.ne_of_lt HRt.out.lt); have HDHV18 := Lib.hid (show r1 ≠ b8 by rw [N.at_]; exact Nat.ne_of_lt HV1.out.lt); have HDHV28 := Lib.hid (show r2 ≠ b8 by rw [N.at_]; exact Nat.ne_of_lt HV2.out.lt); have HR := Lib.hid (HR.out.later N.below); have HQ := Lib.hid (HQ.out.later N.below); have HRt := Lib.hid (HRt.out.later N.below); have HV1 := Lib.hid (HV1.out.later N.below); have HV2 := Lib.hid (HV2.out.later N.below); have HB := Lib.hid (HB.out.trans (N.below.mono HB.out.size)); have HM := Lib.hid R; clear N R)
                  | (refine blk_store rfl 33 _ _ rfl b8 rfl (mvA mv0) (mvA cm) rfl ?_ rfl (mv_one _) sizeMv ?_; exact HM.out; intro w5 U R; have HR := Lib.hid (HR.out.apart U HDHR8.out); have HQ := Lib.hid (HQ.out.apart U HDHQ8.out); have HRt := Lib.hid (HRt.out.apart U HDHRt8.out); have HV1 := Lib.hid (HV1.out.apart U HDHV18.out); have HV2 := Lib.hid (HV2.out.apart U HDHV28.out); have HB := Lib.hid (HB.out.trans (U.below HG8.out)); have HM := Lib.hid R; clear U R)
                  | (refine blk_load rfl 33 _ rfl b8 rfl (mvA cm) HM.out _ Tryd.underlying33 rfl sizeMv ?_)
                  | (refine blk_store rfl 33 _ _ rfl b1 rfl (mvA mv0) (mvA cm) rfl ?_ rfl (mv_one _) sizeMv ?_; exact HQ.out; intro w8 U R; have HB := Lib.hid (HB.out.trans (U.below HG1.out)); have HQ := Lib.hid R; clear U R))
            refine bodyPost_ret (results_mv2 rfl _ _ _ cm (.int .i64 0) rfl rfl HQ.out) rfl ⟨by rw [HS.out]; rfl, HB.out⟩
theorem mvParse_any (p : Nat → Int) (l : List UInt8) (w : World) (hl : l.length ≤ 10000) (hp : FitM p) (hG : TabGo w) (hM : TabMv w) : Calls Tryd.prog 4 #[.agg (posA p), .string (bz l)] w (MvN (pmO (mvP p l)) (enO p (mvP p l)) w) := by
  cases h0 : smB p
  · exact parse_w0 p l w hl hp hG hM h0
  · exact parse_w1 p l w hl hp hG hM h0
end Go.Proofs.YtnogmogmlilpiaaDoor
