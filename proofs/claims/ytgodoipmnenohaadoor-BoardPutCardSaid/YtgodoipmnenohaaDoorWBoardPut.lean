/-
  The walk of BoardPut.
-/
import Derived.Test.YtgodoipmnenohaaDoorBoPutLaw
import Derived.Test.YtgodoipmnenohaaDoorLater
import Derived.Outline
import Derived.WalkKit
import Derived.OpenShut
namespace Go.Proofs.YtgodoipmnenohaaDoor.boardPut
open Go.RowKit
set_option linter.unusedVariables false
set_option linter.unusedSimpArgs false
set_option maxRecDepth 100000 in
set_option maxHeartbeats 4000000 in
theorem walk (p : Nat → Int) (a1 a2 a3 : Int) (hp : WfP p) (w1 : (Lit.int .i64 a1).wf = true) (w2 : (Lit.int .i64 a2).wf = true) (w3 : (Lit.int .u8 a3).wf = true) (w : World) (hD : TabDb w) :
    Calls Tryd.prog 7 #[.agg (posA p), .int .i64 a1, .int .i64 a2, .int .u8 a3] w fun e w' => e = .returned (.bool true) ∧ Below w.heap.size w w' := by
  obtain ⟨x0, x1⟩ := u8_rng w3
  have HW := Lib.hid hp
  have HP := Lib.hid hp.R
  have HT := Lib.hid hD
  clear hp hD
  go_enter Tryd.func7, Tryd.ntmps7
  go_wp2_with (first | (refine step_box rfl _ rfl p rfl ?_; intro b1 wn N R; have HR1 := Lib.hid R; have HB := Lib.hid N.below; have HG1 := Lib.hid (Nat.le_of_eq N.at_.symm); clear N R))
  refine (bawake_any _ (HT.out.on HB.out)).mono ?_; rintro e wn ⟨rfl, hb⟩; have HR1 := Lib.hid (HR1.out.later hb); have HB := Lib.hid (below_on HB.out hb); clear hb
  go_wp2_with (refine step_load (by rfl) _ rfl _ rfl p HR1.out ?_)
  refine (put_pos p _ _ _ x0 x1).mono ?_; rintro e wn ⟨rfl, hb⟩; have HR1 := Lib.hid (HR1.out.later hb); have HB := Lib.hid (below_on HB.out hb); clear hb
  have HMay := Lib.hid (show putB a1 a3 = (sq a1 && mayB a3) from rfl)
  cases gp : putB a1 a3
  · rw [putP_no gp]
    by_cases k0 : a1 < 0
    · have d0 : decide (a1 < 0) = true := decide_eq_true k0
      go_wp2_with (first | (refine step_alloc (op := ⟨some 9, _, _, _, _, _⟩) rfl rfl ?_; intro b2 wn N R; have HD12 := Lib.hid (N.ne HR1.out); have HR1 := Lib.hid (N.row HR1.out); have HR2 := Lib.hid R; have HG2 := Lib.hid (show w.heap.size ≤ b2 by have := HB.out.size; have := N.at_; omega); have HB := Lib.hid (below_on HB.out N.below); clear N R) | (refine step_store rfl _ _ rfl _ rfl _ (p) rfl HR2.out ?_; intro wn U R; have HR1 := Lib.hid (HR1.out.apart U HD12.out); have HR2 := Lib.hid R; have HB := Lib.hid (HB.out.trans (U.below HG2.out)); clear U R) | (refine step_load rfl _ rfl b2 rfl (p) HR2.out ?_) | (refine step_load rfl _ rfl b1 rfl (p) HR1.out ?_) | (refine step_same rfl _ _ rfl (p) (p) rfl rfl HW.out rfl ?_))
      go_ret
      exact ⟨rfl, HB.out⟩
    · have d0 : decide (a1 < 0) = false := decide_eq_false k0
      by_cases k1 : 63 < a1
      · have d1 : decide (63 < a1) = true := decide_eq_true k1
        go_wp2_with (first | (refine step_alloc (op := ⟨some 9, _, _, _, _, _⟩) rfl rfl ?_; intro b2 wn N R; have HD12 := Lib.hid (N.ne HR1.out); have HR1 := Lib.hid (N.row HR1.out); have HR2 := Lib.hid R; have HG2 := Lib.hid (show w.heap.size ≤ b2 by have := HB.out.size; have := N.at_; omega); have HB := Lib.hid (below_on HB.out N.below); clear N R) | (refine step_store rfl _ _ rfl _ rfl _ (p) rfl HR2.out ?_; intro wn U R; have HR1 := Lib.hid (HR1.out.apart U HD12.out); have HR2 := Lib.hid R; have HB := Lib.hid (HB.out.trans (U.below HG2.out)); clear U R) | (refine step_load rfl _ rfl b2 rfl (p) HR2.out ?_) | (refine step_load rfl _ rfl b1 rfl (p) HR1.out ?_) | (refine step_same rfl _ _ rfl (p) (p) rfl rfl HW.out rfl ?_))
        go_ret
        exact ⟨rfl, HB.out⟩
      · have d1 : decide (63 < a1) = false := decide_eq_false k1
        have hs : sq a1 = true := sq_true.2 ⟨by omega, by omega⟩
        have hm : mayB a3 = false := by have h := HMay.out; rw [gp, hs] at h; simpa using h.symm
        have hm0 : (a3 != 0) = true := by unfold mayB at hm; rw [Bool.or_eq_false_iff] at hm; simpa using hm.1
        have hm1 : pcB a3 = false := by unfold mayB at hm; rw [Bool.or_eq_false_iff] at hm; exact hm.2
        clear hm hs HMay gp
        go_wp2_with (first | (refine step_alloc (op := ⟨some 9, _, _, _, _, _⟩) rfl rfl ?_; intro b2 wn N R; have HD12 := Lib.hid (N.ne HR1.out); have HR1 := Lib.hid (N.row HR1.out); have HR2 := Lib.hid R; have HG2 := Lib.hid (show w.heap.size ≤ b2 by have := HB.out.size; have := N.at_; omega); have HB := Lib.hid (below_on HB.out N.below); clear N R) | (refine step_store rfl _ _ rfl _ rfl _ (p) rfl HR2.out ?_; intro wn U R; have HR1 := Lib.hid (HR1.out.apart U HD12.out); have HR2 := Lib.hid R; have HB := Lib.hid (HB.out.trans (U.below HG2.out)); clear U R))
        refine (is_at hm1 _ x0 x1).mono ?_; rintro e wm ⟨rfl, rfl⟩
        go_wp2_with (first | (refine step_load rfl _ rfl b2 rfl (p) HR2.out ?_) | (refine step_load rfl _ rfl b1 rfl (p) HR1.out ?_) | (refine step_same rfl _ _ rfl (p) (p) rfl rfl HW.out rfl ?_))
        go_ret
        exact ⟨rfl, HB.out⟩
  · obtain ⟨hs, hm⟩ : sq a1 = true ∧ mayB a3 = true := by rw [HMay.out, Bool.and_eq_true] at gp; exact gp
    obtain ⟨n, rfl⟩ := Int.eq_ofNat_of_zero_le (sq_true.1 hs).1
    have hn : n < 64 := by have := (sq_true.1 hs).2; omega
    have HNn := Lib.hid hn
    obtain ⟨q, HQ⟩ : ∃ q, Hid (upd p (1 + n) a3 = q) := ⟨_, Lib.hid rfl⟩
    have HWq := HW.out.put (n : Int) a3 ⟨x0, x1⟩
    rw [putP_yes gp, HQ.out] at HWq
    have HWq := Lib.hid HWq
    rw [putP_yes gp, HQ.out]
    have HQn := Lib.hid (show atZ q (n : Int) = a3 by rw [← HQ.out]; exact put_at hn hm)
    have HQo := Lib.hid (fun (o : Int) (ho : o ≠ (n : Int)) => show atZ q o = atZ p o by rw [← HQ.out]; exact put_else ho)
    have HQh := Lib.hid (fun (h : pcB a3 = true) => show hasN (ofN q (colZ a3) (kndZ a3)) (n : Int) = true by
      rw [has_of, HQn.out]; simp [pcB_ne h])
    obtain ⟨y, HY⟩ : ∃ y, Hid (atZ p (n : Int) = y) := ⟨_, Lib.hid rfl⟩
    have HYr := at_rng HP.out.bd (n : Int)
    rw [HY.out] at HYr
    obtain ⟨y0, y1⟩ := HYr
    have HPb := show putP q (n : Int) y = upd q (1 + n) y from putP_yes (by
      unfold putB mayB; rw [hs]; rcases at_pc p (n : Int) with h | h <;> rw [HY.out] at h <;> simp [h])
    obtain ⟨bk, HBk⟩ : ∃ bk, Hid (upd q (1 + n) y = bk) := ⟨_, Lib.hid rfl⟩
    rw [HBk.out] at HPb
    have HPb := Lib.hid HPb
    have HE := Lib.hid (show posA (upd bk (1 + n) (p (1 + n))) = posA p from posA_ext fun j _ => by
      rw [← HBk.out, ← HQ.out]; unfold upd; by_cases e : j = 1 + n
      · rw [if_pos e, e]
      · simp only [if_neg e])
    have HWe := Lib.hid (show WfP (upd bk (1 + n) (p (1 + n))) from HW.out.ext fun j _ => by
      rw [← HBk.out, ← HQ.out]; unfold upd; by_cases e : j = 1 + n
      · rw [if_pos e, e]
      · simp only [if_neg e])
    have l0 : (0 : Int) ≤ (n : Int) := by omega
    have l1 : (n : Int) < 64 := by omega
    have d0 : decide ((n : Int) < 0) = false := decide_eq_false (by omega)
    have d1 : decide (63 < (n : Int)) = false := decide_eq_false (by omega)
    have HK := Lib.hid (kAt_board (Nat.zero_le _) hn)
    have HI := Lib.hid (show 1 + n < 88 by omega)
    clear hs gp
    by_cases hne : a2 = (n : Int)
    · subst hne
      cases hpc : pcB a3
      · obtain rfl : a3 = 0 := by unfold mayB at hm; rw [hpc] at hm; simpa using hm
        go_wp2_with (first | (refine step_alloc (op := ⟨some 9, _, _, _, _, _⟩) rfl rfl ?_; intro b2 wn N R; have HD12 := Lib.hid (N.ne HR1.out); have HR1 := Lib.hid (N.row HR1.out); have HR2 := Lib.hid R; have HG2 := Lib.hid (show w.heap.size ≤ b2 by have := HB.out.size; have := N.at_; omega); have HB := Lib.hid (below_on HB.out N.below); clear N R) | (refine step_store rfl _ _ rfl _ rfl _ (q) rfl HR2.out ?_; intro wn U R; have HR1 := Lib.hid (HR1.out.apart U HD12.out); have HR2 := Lib.hid R; have HB := Lib.hid (HB.out.trans (U.below HG2.out)); clear U R))
        refine late_begin 34 (by kernel_rfl) ?_
        refine late_take 0 (by kernel_rfl) (by kernel_rfl) (by kernel_rfl) (by kernel_rfl) (by kernel_rfl) (fun _ _ d _ _ h => by cases d <;> exact h) (fun o ho => ?_)
        simp only [List.getElem?_toArray, List.getElem?_cons_zero, List.getElem?_cons_succ, Option.some.injEq] at ho; subst ho
        refine ⟨_, Or.inl ⟨by kernel_rfl, fun w' hl => Or.inl (run_load _ rfl _ rfl (q) (HR2.out.later hl))⟩, ?_⟩
        simp only [Act.put, List.setIfInBounds_toArray, List.set_cons_zero, List.set_cons_succ]
        refine late_take 1 (by kernel_rfl) (by kernel_rfl) (by kernel_rfl) (by kernel_rfl) (by kernel_rfl) (fun _ _ d _ _ h => by cases d <;> exact h) (fun o ho => ?_)
        simp only [List.getElem?_toArray, List.getElem?_cons_zero, List.getElem?_cons_succ, Option.some.injEq] at ho; subst ho
        apply Exists.intro
        refine ⟨Or.inl ⟨by kernel_rfl, fun w' hl => Or.inl ?_⟩, ?_⟩
        · (go_simp; try with_reducible rfl)
        simp only [Act.put, List.setIfInBounds_toArray, List.set_cons_zero, List.set_cons_succ]
        refine late_take 3 (by kernel_rfl) (by kernel_rfl) (by kernel_rfl) (by kernel_rfl) (by kernel_rfl) (fun _ _ d _ _ h => by cases d <;> exact h) (fun o ho => ?_)
        simp only [List.getElem?_toArray, List.getElem?_cons_zero, List.getElem?_cons_succ, Option.some.injEq] at ho; subst ho
        apply Exists.intro
        refine ⟨Or.inl ⟨by kernel_rfl, fun w' hl => Or.inl ?_⟩, ?_⟩
        · (go_simp; try with_reducible rfl)
        simp only [Act.put, List.setIfInBounds_toArray, List.set_cons_zero, List.set_cons_succ]
        refine late_one 2 (by kernel_rfl) (by kernel_rfl) (fun o ho => ?_)
        simp only [List.getElem?_toArray, List.getElem?_cons_zero, List.getElem?_cons_succ, Option.some.injEq] at ho; subst ho
        refine ⟨by kernel_rfl, fun wn hl K hK => ?_⟩
        have HR1 := Lib.hid (HR1.out.later hl); have HR2 := Lib.hid (HR2.out.later hl); have HB := Lib.hid (below_on HB.out hl); clear hl
        refine wp_enter _ _ (by go_simp; exact ⟨rfl, rfl⟩) ?_
        refine (at_any q _ _ HWq.out.R.bd).mono ?_; rintro e wm ⟨rfl, hb⟩; refine ⟨_, rfl, ?_⟩
        rw [HQn.out]
        refine hK.out _ _ hb ?_
        have HR1 := Lib.hid (HR1.out.later hb); have HR2 := Lib.hid (HR2.out.later hb); have HB := Lib.hid (below_on HB.out hb); clear hb
        clear hK K
        simp only [Act.put, List.setIfInBounds_toArray, List.set_cons_zero, List.set_cons_succ]
        refine late_take 4 (by kernel_rfl) (by kernel_rfl) (by kernel_rfl) (by kernel_rfl) (by kernel_rfl) (fun _ _ d _ _ h => by cases d <;> exact h) (fun o ho => ?_)
        simp only [List.getElem?_toArray, List.getElem?_cons_zero, List.getElem?_cons_succ, Option.some.injEq] at ho; subst ho
        apply Exists.intro
        refine ⟨Or.inl ⟨by kernel_rfl, fun w' hl => Or.inl ?_⟩, ?_⟩
        · (go_simp; try with_reducible rfl)
        simp only [Act.put, List.setIfInBounds_toArray, List.set_cons_zero, List.set_cons_succ]
        refine late_take 5 (by kernel_rfl) (by kernel_rfl) (by kernel_rfl) (by kernel_rfl) (by kernel_rfl) (fun _ _ d _ _ h => by cases d <;> exact h) (fun o ho => ?_)
        simp only [List.getElem?_toArray, List.getElem?_cons_zero, List.getElem?_cons_succ, Option.some.injEq] at ho; subst ho
        apply Exists.intro
        refine ⟨Or.inl ⟨by kernel_rfl, fun w' hl => Or.inl ?_⟩, ?_⟩
        · (go_simp; try with_reducible rfl)
        simp only [Act.put, List.setIfInBounds_toArray, List.set_cons_zero, List.set_cons_succ]
        refine late_take 6 (by kernel_rfl) (by kernel_rfl) (by kernel_rfl) (by kernel_rfl) (by kernel_rfl) (fun _ _ d _ _ h => by cases d <;> exact h) (fun o ho => ?_)
        simp only [List.getElem?_toArray, List.getElem?_cons_zero, List.getElem?_cons_succ, Option.some.injEq] at ho; subst ho
        apply Exists.intro
        refine ⟨Or.inl ⟨by kernel_rfl, fun w' hl => Or.inl ?_⟩, ?_⟩
        · (go_simp; try with_reducible rfl)
        simp only [Act.put, List.setIfInBounds_toArray, List.set_cons_zero, List.set_cons_succ]
        refine late_take 7 (by kernel_rfl) (by kernel_rfl) (by kernel_rfl) (by kernel_rfl) (by kernel_rfl) (fun _ _ d _ _ h => by cases d <;> exact h) (fun o ho => ?_)
        simp only [List.getElem?_toArray, List.getElem?_cons_zero, List.getElem?_cons_succ, Option.some.injEq] at ho; subst ho
        apply Exists.intro
        refine ⟨Or.inl ⟨by kernel_rfl, fun w' hl => Or.inl ?_⟩, ?_⟩
        · (go_simp; try with_reducible rfl)
        simp only [Act.put, List.setIfInBounds_toArray, List.set_cons_zero, List.set_cons_succ]
        refine late_take 8 (by kernel_rfl) (by kernel_rfl) (by kernel_rfl) (by kernel_rfl) (by kernel_rfl) (fun _ _ d _ _ h => by cases d <;> exact h) (fun o ho => ?_)
        simp only [List.getElem?_toArray, List.getElem?_cons_zero, List.getElem?_cons_succ, Option.some.injEq] at ho; subst ho
        apply Exists.intro
        refine ⟨Or.inl ⟨by kernel_rfl, fun w' hl => Or.inl ?_⟩, ?_⟩
        · (go_simp; try with_reducible rfl)
        simp only [Act.put, List.setIfInBounds_toArray, List.set_cons_zero, List.set_cons_succ]
        refine late_take 9 (by kernel_rfl) (by kernel_rfl) (by kernel_rfl) (by kernel_rfl) (by kernel_rfl) (fun _ _ d _ _ h => by cases d <;> exact h) (fun o ho => ?_)
        simp only [List.getElem?_toArray, List.getElem?_cons_zero, List.getElem?_cons_succ, Option.some.injEq] at ho; subst ho
        apply Exists.intro
        refine ⟨Or.inl ⟨by kernel_rfl, fun w' hl => Or.inl ?_⟩, ?_⟩
        · (go_simp; try with_reducible rfl)
        simp only [Act.put, List.setIfInBounds_toArray, List.set_cons_zero, List.set_cons_succ]
        refine late_take 10 (by kernel_rfl) (by kernel_rfl) (by kernel_rfl) (by kernel_rfl) (by kernel_rfl) (fun _ _ d _ _ h => by cases d <;> exact h) (fun o ho => ?_)
        simp only [List.getElem?_toArray, List.getElem?_cons_zero, List.getElem?_cons_succ, Option.some.injEq] at ho; subst ho
        refine ⟨_, Or.inr ⟨by kernel_rfl, rfl⟩, ?_⟩
        simp only [Act.put, List.setIfInBounds_toArray, List.set_cons_zero, List.set_cons_succ]
        refine late_take 11 (by kernel_rfl) (by kernel_rfl) (by kernel_rfl) (by kernel_rfl) (by kernel_rfl) (fun _ _ d _ _ h => by cases d <;> exact h) (fun o ho => ?_)
        simp only [List.getElem?_toArray, List.getElem?_cons_zero, List.getElem?_cons_succ, Option.some.injEq] at ho; subst ho
        refine ⟨_, Or.inr ⟨by kernel_rfl, rfl⟩, ?_⟩
        simp only [Act.put, List.setIfInBounds_toArray, List.set_cons_zero, List.set_cons_succ]
        refine late_take 12 (by kernel_rfl) (by kernel_rfl) (by kernel_rfl) (by kernel_rfl) (by kernel_rfl) (fun _ _ d _ _ h => by cases d <;> exact h) (fun o ho => ?_)
        simp only [List.getElem?_toArray, List.getElem?_cons_zero, List.getElem?_cons_succ, Option.some.injEq] at ho; subst ho
        refine ⟨_, Or.inr ⟨by kernel_rfl, rfl⟩, ?_⟩
        simp only [Act.put, List.setIfInBounds_toArray, List.set_cons_zero, List.set_cons_succ]
        refine late_take 13 (by kernel_rfl) (by kernel_rfl) (by kernel_rfl) (by kernel_rfl) (by kernel_rfl) (fun _ _ d _ _ h => by cases d <;> exact h) (fun o ho => ?_)
        simp only [List.getElem?_toArray, List.getElem?_cons_zero, List.getElem?_cons_succ, Option.some.injEq] at ho; subst ho
        refine ⟨_, Or.inr ⟨by kernel_rfl, rfl⟩, ?_⟩
        simp only [Act.put, List.setIfInBounds_toArray, List.set_cons_zero, List.set_cons_succ]
        refine late_take 14 (by kernel_rfl) (by kernel_rfl) (by kernel_rfl) (by kernel_rfl) (by kernel_rfl) (fun _ _ d _ _ h => by cases d <;> exact h) (fun o ho => ?_)
        simp only [List.getElem?_toArray, List.getElem?_cons_zero, List.getElem?_cons_succ, Option.some.injEq] at ho; subst ho
        refine ⟨_, Or.inr ⟨by kernel_rfl, rfl⟩, ?_⟩
        simp only [Act.put, List.setIfInBounds_toArray, List.set_cons_zero, List.set_cons_succ]
        refine late_take 15 (by kernel_rfl) (by kernel_rfl) (by kernel_rfl) (by kernel_rfl) (by kernel_rfl) (fun _ _ d _ _ h => by cases d <;> exact h) (fun o ho => ?_)
        simp only [List.getElem?_toArray, List.getElem?_cons_zero, List.getElem?_cons_succ, Option.some.injEq] at ho; subst ho
        refine ⟨_, Or.inr ⟨by kernel_rfl, rfl⟩, ?_⟩
        simp only [Act.put, List.setIfInBounds_toArray, List.set_cons_zero, List.set_cons_succ]
        refine late_take 16 (by kernel_rfl) (by kernel_rfl) (by kernel_rfl) (by kernel_rfl) (by kernel_rfl) (fun _ _ d _ _ h => by cases d <;> exact h) (fun o ho => ?_)
        simp only [List.getElem?_toArray, List.getElem?_cons_zero, List.getElem?_cons_succ, Option.some.injEq] at ho; subst ho
        refine ⟨_, Or.inr ⟨by kernel_rfl, rfl⟩, ?_⟩
        simp only [Act.put, List.setIfInBounds_toArray, List.set_cons_zero, List.set_cons_succ]
        refine late_take 17 (by kernel_rfl) (by kernel_rfl) (by kernel_rfl) (by kernel_rfl) (by kernel_rfl) (fun _ _ d _ _ h => by cases d <;> exact h) (fun o ho => ?_)
        simp only [List.getElem?_toArray, List.getElem?_cons_zero, List.getElem?_cons_succ, Option.some.injEq] at ho; subst ho
        apply Exists.intro
        refine ⟨Or.inl ⟨by kernel_rfl, fun w' hl => Or.inl ?_⟩, ?_⟩
        · (go_simp; try with_reducible rfl)
        simp only [Act.put, List.setIfInBounds_toArray, List.set_cons_zero, List.set_cons_succ]
        refine late_take 18 (by kernel_rfl) (by kernel_rfl) (by kernel_rfl) (by kernel_rfl) (by kernel_rfl) (fun _ _ d _ _ h => by cases d <;> exact h) (fun o ho => ?_)
        simp only [List.getElem?_toArray, List.getElem?_cons_zero, List.getElem?_cons_succ, Option.some.injEq] at ho; subst ho
        apply Exists.intro
        refine ⟨Or.inl ⟨by kernel_rfl, fun w' hl => Or.inl ?_⟩, ?_⟩
        · (go_simp; try with_reducible rfl)
        simp only [Act.put, List.setIfInBounds_toArray, List.set_cons_zero, List.set_cons_succ]
        refine late_take 19 (by kernel_rfl) (by kernel_rfl) (by kernel_rfl) (by kernel_rfl) (by kernel_rfl) (fun _ _ d _ _ h => by cases d <;> exact h) (fun o ho => ?_)
        simp only [List.getElem?_toArray, List.getElem?_cons_zero, List.getElem?_cons_succ, Option.some.injEq] at ho; subst ho
        apply Exists.intro
        refine ⟨Or.inl ⟨by kernel_rfl, fun w' hl => Or.inl ?_⟩, ?_⟩
        · (go_simp; try with_reducible rfl)
        simp only [Act.put, List.setIfInBounds_toArray, List.set_cons_zero, List.set_cons_succ]
        refine late_take 20 (by kernel_rfl) (by kernel_rfl) (by kernel_rfl) (by kernel_rfl) (by kernel_rfl) (fun _ _ d _ _ h => by cases d <;> exact h) (fun o ho => ?_)
        simp only [List.getElem?_toArray, List.getElem?_cons_zero, List.getElem?_cons_succ, Option.some.injEq] at ho; subst ho
        apply Exists.intro
        refine ⟨Or.inl ⟨by kernel_rfl, fun w' hl => Or.inl ?_⟩, ?_⟩
        · (go_simp; try with_reducible rfl)
        simp only [Act.put, List.setIfInBounds_toArray, List.set_cons_zero, List.set_cons_succ]
        refine late_take 21 (by kernel_rfl) (by kernel_rfl) (by kernel_rfl) (by kernel_rfl) (by kernel_rfl) (fun _ _ d _ _ h => by cases d <;> exact h) (fun o ho => ?_)
        simp only [List.getElem?_toArray, List.getElem?_cons_zero, List.getElem?_cons_succ, Option.some.injEq] at ho; subst ho
        apply Exists.intro
        refine ⟨Or.inl ⟨by kernel_rfl, fun w' hl => Or.inl ?_⟩, ?_⟩
        · (go_simp; try with_reducible rfl)
        simp only [Act.put, List.setIfInBounds_toArray, List.set_cons_zero, List.set_cons_succ]
        refine late_take 22 (by kernel_rfl) (by kernel_rfl) (by kernel_rfl) (by kernel_rfl) (by kernel_rfl) (fun _ _ d _ _ h => by cases d <;> exact h) (fun o ho => ?_)
        simp only [List.getElem?_toArray, List.getElem?_cons_zero, List.getElem?_cons_succ, Option.some.injEq] at ho; subst ho
        apply Exists.intro
        refine ⟨Or.inl ⟨by kernel_rfl, fun w' hl => Or.inl ?_⟩, ?_⟩
        · (go_simp; try with_reducible rfl)
        simp only [Act.put, List.setIfInBounds_toArray, List.set_cons_zero, List.set_cons_succ]
        refine late_take 23 (by kernel_rfl) (by kernel_rfl) (by kernel_rfl) (by kernel_rfl) (by kernel_rfl) (fun _ _ d _ _ h => by cases d <;> exact h) (fun o ho => ?_)
        simp only [List.getElem?_toArray, List.getElem?_cons_zero, List.getElem?_cons_succ, Option.some.injEq] at ho; subst ho
        refine ⟨_, Or.inr ⟨by kernel_rfl, rfl⟩, ?_⟩
        simp only [Act.put, List.setIfInBounds_toArray, List.set_cons_zero, List.set_cons_succ]
        refine late_take 24 (by kernel_rfl) (by kernel_rfl) (by kernel_rfl) (by kernel_rfl) (by kernel_rfl) (fun _ _ d _ _ h => by cases d <;> exact h) (fun o ho => ?_)
        simp only [List.getElem?_toArray, List.getElem?_cons_zero, List.getElem?_cons_succ, Option.some.injEq] at ho; subst ho
        refine ⟨_, Or.inr ⟨by kernel_rfl, rfl⟩, ?_⟩
        simp only [Act.put, List.setIfInBounds_toArray, List.set_cons_zero, List.set_cons_succ]
        refine late_take 25 (by kernel_rfl) (by kernel_rfl) (by kernel_rfl) (by kernel_rfl) (by kernel_rfl) (fun _ _ d _ _ h => by cases d <;> exact h) (fun o ho => ?_)
        simp only [List.getElem?_toArray, List.getElem?_cons_zero, List.getElem?_cons_succ, Option.some.injEq] at ho; subst ho
        refine ⟨_, Or.inr ⟨by kernel_rfl, rfl⟩, ?_⟩
        simp only [Act.put, List.setIfInBounds_toArray, List.set_cons_zero, List.set_cons_succ]
        refine late_take 26 (by kernel_rfl) (by kernel_rfl) (by kernel_rfl) (by kernel_rfl) (by kernel_rfl) (fun _ _ d _ _ h => by cases d <;> exact h) (fun o ho => ?_)
        simp only [List.getElem?_toArray, List.getElem?_cons_zero, List.getElem?_cons_succ, Option.some.injEq] at ho; subst ho
        refine ⟨_, Or.inr ⟨by kernel_rfl, rfl⟩, ?_⟩
        simp only [Act.put, List.setIfInBounds_toArray, List.set_cons_zero, List.set_cons_succ]
        refine late_take 27 (by kernel_rfl) (by kernel_rfl) (by kernel_rfl) (by kernel_rfl) (by kernel_rfl) (fun _ _ d _ _ h => by cases d <;> exact h) (fun o ho => ?_)
        simp only [List.getElem?_toArray, List.getElem?_cons_zero, List.getElem?_cons_succ, Option.some.injEq] at ho; subst ho
        refine ⟨_, Or.inr ⟨by kernel_rfl, rfl⟩, ?_⟩
        simp only [Act.put, List.setIfInBounds_toArray, List.set_cons_zero, List.set_cons_succ]
        refine late_take 28 (by kernel_rfl) (by kernel_rfl) (by kernel_rfl) (by kernel_rfl) (by kernel_rfl) (fun _ _ d _ _ h => by cases d <;> exact h) (fun o ho => ?_)
        simp only [List.getElem?_toArray, List.getElem?_cons_zero, List.getElem?_cons_succ, Option.some.injEq] at ho; subst ho
        refine ⟨_, Or.inr ⟨by kernel_rfl, rfl⟩, ?_⟩
        simp only [Act.put, List.setIfInBounds_toArray, List.set_cons_zero, List.set_cons_succ]
        refine late_take 29 (by kernel_rfl) (by kernel_rfl) (by kernel_rfl) (by kernel_rfl) (by kernel_rfl) (fun _ _ d _ _ h => by cases d <;> exact h) (fun o ho => ?_)
        simp only [List.getElem?_toArray, List.getElem?_cons_zero, List.getElem?_cons_succ, Option.some.injEq] at ho; subst ho
        refine ⟨_, Or.inr ⟨by kernel_rfl, rfl⟩, ?_⟩
        simp only [Act.put, List.setIfInBounds_toArray, List.set_cons_zero, List.set_cons_succ]
        refine late_take 30 (by kernel_rfl) (by kernel_rfl) (by kernel_rfl) (by kernel_rfl) (by kernel_rfl) (fun _ _ d _ _ h => by cases d <;> exact h) (fun o ho => ?_)
        simp only [List.getElem?_toArray, List.getElem?_cons_zero, List.getElem?_cons_succ, Option.some.injEq] at ho; subst ho
        refine ⟨_, Or.inr ⟨by kernel_rfl, rfl⟩, ?_⟩
        simp only [Act.put, List.setIfInBounds_toArray, List.set_cons_zero, List.set_cons_succ]
        refine late_take 31 (by kernel_rfl) (by kernel_rfl) (by kernel_rfl) (by kernel_rfl) (by kernel_rfl) (fun _ _ d _ _ h => by cases d <;> exact h) (fun o ho => ?_)
        simp only [List.getElem?_toArray, List.getElem?_cons_zero, List.getElem?_cons_succ, Option.some.injEq] at ho; subst ho
        refine ⟨_, Or.inr ⟨by kernel_rfl, rfl⟩, ?_⟩
        simp only [Act.put, List.setIfInBounds_toArray, List.set_cons_zero, List.set_cons_succ]
        refine late_take 32 (by kernel_rfl) (by kernel_rfl) (by kernel_rfl) (by kernel_rfl) (by kernel_rfl) (fun _ _ d _ _ h => by cases d <;> exact h) (fun o ho => ?_)
        simp only [List.getElem?_toArray, List.getElem?_cons_zero, List.getElem?_cons_succ, Option.some.injEq] at ho; subst ho
        apply Exists.intro
        refine ⟨Or.inl ⟨by kernel_rfl, fun w' hl => Or.inl ?_⟩, ?_⟩
        · (go_simp; try with_reducible rfl)
        simp only [Act.put, List.setIfInBounds_toArray, List.set_cons_zero, List.set_cons_succ]
        refine late_take 33 (by kernel_rfl) (by kernel_rfl) (by kernel_rfl) (by kernel_rfl) (by kernel_rfl) (fun _ _ d _ _ h => by cases d <;> exact h) (fun o ho => ?_)
        simp only [List.getElem?_toArray, List.getElem?_cons_zero, List.getElem?_cons_succ, Option.some.injEq] at ho; subst ho
        apply Exists.intro
        refine ⟨Or.inl ⟨by kernel_rfl, fun w' hl => Or.inl ?_⟩, ?_⟩
        · (go_simp; try with_reducible rfl)
        simp only [Act.put, List.setIfInBounds_toArray, List.set_cons_zero, List.set_cons_succ]
        refine late_end (by kernel_rfl) (fun wn hl => ?_)
        have HR1 := Lib.hid (HR1.out.later hl); have HR2 := Lib.hid (HR2.out.later hl); have HB := Lib.hid (below_on HB.out hl); clear hl
        go_wp2_with fail
        refine late_begin 7 (by kernel_rfl) ?_
        refine late_take 0 (by kernel_rfl) (by kernel_rfl) (by kernel_rfl) (by kernel_rfl) (by kernel_rfl) (fun _ _ d _ _ h => by cases d <;> exact h) (fun o ho => ?_)
        simp only [List.getElem?_toArray, List.getElem?_cons_zero, List.getElem?_cons_succ, Option.some.injEq] at ho; subst ho
        refine ⟨_, Or.inl ⟨by kernel_rfl, fun w' hl => Or.inl (run_load _ rfl _ rfl (q) (HR2.out.later hl))⟩, ?_⟩
        simp only [Act.put, List.setIfInBounds_toArray, List.set_cons_zero, List.set_cons_succ]
        refine late_take 1 (by kernel_rfl) (by kernel_rfl) (by kernel_rfl) (by kernel_rfl) (by kernel_rfl) (fun _ _ d _ _ h => by cases d <;> exact h) (fun o ho => ?_)
        simp only [List.getElem?_toArray, List.getElem?_cons_zero, List.getElem?_cons_succ, Option.some.injEq] at ho; subst ho
        apply Exists.intro
        refine ⟨Or.inl ⟨by kernel_rfl, fun w' hl => Or.inl ?_⟩, ?_⟩
        · (go_simp; try with_reducible rfl)
        simp only [Act.put, List.setIfInBounds_toArray, List.set_cons_zero, List.set_cons_succ]
        refine late_take 2 (by kernel_rfl) (by kernel_rfl) (by kernel_rfl) (by kernel_rfl) (by kernel_rfl) (fun _ _ d _ _ h => by cases d <;> exact h) (fun o ho => ?_)
        simp only [List.getElem?_toArray, List.getElem?_cons_zero, List.getElem?_cons_succ, Option.some.injEq] at ho; subst ho
        refine ⟨_, Or.inl ⟨by kernel_rfl, fun w' hl => Or.inl (run_load _ rfl _ rfl (p) (HR1.out.later hl))⟩, ?_⟩
        simp only [Act.put, List.setIfInBounds_toArray, List.set_cons_zero, List.set_cons_succ]
        refine late_take 3 (by kernel_rfl) (by kernel_rfl) (by kernel_rfl) (by kernel_rfl) (by kernel_rfl) (fun _ _ d _ _ h => by cases d <;> exact h) (fun o ho => ?_)
        simp only [List.getElem?_toArray, List.getElem?_cons_zero, List.getElem?_cons_succ, Option.some.injEq] at ho; subst ho
        apply Exists.intro
        refine ⟨Or.inl ⟨by kernel_rfl, fun w' hl => Or.inl ?_⟩, ?_⟩
        · (go_simp; try with_reducible rfl)
        simp only [Act.put, List.setIfInBounds_toArray, List.set_cons_zero, List.set_cons_succ]
        refine late_fork 4 6 (by kernel_rfl) (by kernel_rfl) (by kernel_rfl) (fun o ho => ?_) (fun o ho => ?_)
        · simp only [List.getElem?_toArray, List.getElem?_cons_zero, List.getElem?_cons_succ, Option.some.injEq] at ho; subst ho
          refine ⟨by kernel_rfl, fun wn hl K hK => ?_⟩
          have HR1 := Lib.hid (HR1.out.later hl); have HR2 := Lib.hid (HR2.out.later hl); have HB := Lib.hid (below_on HB.out hl); clear hl
          refine wp_enter _ _ (by go_simp; exact ⟨rfl, rfl⟩) ?_
          refine (at_any p _ _ HP.out.bd).mono ?_; rintro e wm ⟨rfl, hb⟩; refine ⟨_, rfl, ?_⟩
          rw [HY.out]
          refine hK.out _ _ hb ?_
          have HR1 := Lib.hid (HR1.out.later hb); have HR2 := Lib.hid (HR2.out.later hb); have HB := Lib.hid (below_on HB.out hb); clear hb
          clear hK K
          simp only [Act.put, List.setIfInBounds_toArray, List.set_cons_zero, List.set_cons_succ]
          refine late_fork 5 6 (by kernel_rfl) (by kernel_rfl) (by kernel_rfl) (fun o ho => ?_) (fun o ho => ?_)
          · simp only [List.getElem?_toArray, List.getElem?_cons_zero, List.getElem?_cons_succ, Option.some.injEq] at ho; subst ho
            refine ⟨by kernel_rfl, fun wn hl K hK => ?_⟩
            have HR1 := Lib.hid (HR1.out.later hl); have HR2 := Lib.hid (HR2.out.later hl); have HB := Lib.hid (below_on HB.out hl); clear hl
            refine wp_enter _ _ (by go_simp; exact ⟨rfl, rfl⟩) ?_
            refine (put_pos q _ _ _ y0 y1).mono ?_; rintro e wm ⟨rfl, hb⟩; refine ⟨_, rfl, ?_⟩
            rw [HPb.out]
            refine hK.out _ _ hb ?_
            have HR1 := Lib.hid (HR1.out.later hb); have HR2 := Lib.hid (HR2.out.later hb); have HB := Lib.hid (below_on HB.out hb); clear hb
            clear hK K
            simp only [Act.put, List.setIfInBounds_toArray, List.set_cons_zero, List.set_cons_succ]
            refine late_one 6 (by kernel_rfl) (by kernel_rfl) (fun o ho => ?_)
            simp only [List.getElem?_toArray, List.getElem?_cons_zero, List.getElem?_cons_succ, Option.some.injEq] at ho; subst ho
            refine ⟨by kernel_rfl, fun wn hl K hK => ?_⟩
            have HR1 := Lib.hid (HR1.out.later hl); have HR2 := Lib.hid (HR2.out.later hl); have HB := Lib.hid (below_on HB.out hl); clear hl
            refine late_alloc rfl ?_; intro b3 wm N R
            have HD13 := Lib.hid (N.ne HR1.out)
            have HD23 := Lib.hid (N.ne HR2.out)
            have HG3 := Lib.hid (show w.heap.size ≤ b3 by have := HB.out.size; have := N.at_; omega)
            have hb := N.below
            have HRn := Lib.hid R
            clear N R
            refine hK.out _ _ hb ?_
            have HR1 := Lib.hid (HR1.out.later hb); have HR2 := Lib.hid (HR2.out.later hb); have HB := Lib.hid (below_on HB.out hb); clear hb
            have HR3 := HRn; clear HRn
            clear hK K
            simp only [Act.put, List.setIfInBounds_toArray, List.set_cons_zero, List.set_cons_succ]
            refine late_last 7 (by kernel_rfl) (by kernel_rfl) (by kernel_rfl) (fun o ho => ?_)
            simp only [List.getElem?_toArray, List.getElem?_cons_zero, List.getElem?_cons_succ, Option.some.injEq] at ho; subst ho
            refine ⟨by kernel_rfl, fun wn hl K hK => ?_⟩
            have HR1 := Lib.hid (HR1.out.later hl); have HR2 := Lib.hid (HR2.out.later hl); have HR3 := Lib.hid (HR3.out.later hl); have HB := Lib.hid (below_on HB.out hl); clear hl
            refine late_whole _ _ rfl b3 rfl _ (bk) rfl HR3.out ?_; intro wm U R
            have HR1 := Lib.hid (HR1.out.apart U HD13.out)
            have HR2 := Lib.hid (HR2.out.apart U HD23.out)
            have HR3 := Lib.hid R; have HB := Lib.hid (HB.out.trans (U.below HG3.out)); clear U R
            refine hK.out _ _ ?_
            clear hK K
            simp only [Act.put, List.setIfInBounds_toArray, List.set_cons_zero, List.set_cons_succ]
            have hcell := HR1.out.cell (1 + n) HI.out
            rw [HK.out] at hcell
            go_wp2_with (first | (refine step_cell rfl 5 _ _ rfl _ _ rfl _ _ rfl _ HR3.out HI.out HK.out size5 ?_; clear hcell; intro wn U R; have HR1 := Lib.hid (HR1.out.apart U HD13.out); have HR2 := Lib.hid (HR2.out.apart U HD23.out); have HR3 := Lib.hid R; have HB := Lib.hid (HB.out.trans (U.below HG3.out)); clear U R) | (refine step_load rfl _ rfl b3 rfl (_) HR3.out ?_) | (refine step_load rfl _ rfl b1 rfl (p) HR1.out ?_) | (refine step_same rfl _ _ rfl (_) (p) rfl rfl HWe.out HE.out ?_))
            go_ret
            exact ⟨rfl, HB.out⟩
          · simp only [List.getElem?_toArray, List.getElem?_cons_zero, List.getElem?_cons_succ, Option.some.injEq] at ho; subst ho
            refine ⟨by kernel_rfl, fun wn hl K hK => ?_⟩
            have HR1 := Lib.hid (HR1.out.later hl); have HR2 := Lib.hid (HR2.out.later hl); have HB := Lib.hid (below_on HB.out hl); clear hl
            refine late_alloc rfl ?_; intro b3 wm N R
            have HD13 := Lib.hid (N.ne HR1.out)
            have HD23 := Lib.hid (N.ne HR2.out)
            have HG3 := Lib.hid (show w.heap.size ≤ b3 by have := HB.out.size; have := N.at_; omega)
            have hb := N.below
            have HRn := Lib.hid R
            clear N R
            refine hK.out _ _ hb ?_
            have HR1 := Lib.hid (HR1.out.later hb); have HR2 := Lib.hid (HR2.out.later hb); have HB := Lib.hid (below_on HB.out hb); clear hb
            have HR3 := HRn; clear HRn
            clear hK K
            simp only [Act.put, List.setIfInBounds_toArray, List.set_cons_zero, List.set_cons_succ]
            refine late_one 5 (by kernel_rfl) (by kernel_rfl) (fun o ho => ?_)
            simp only [List.getElem?_toArray, List.getElem?_cons_zero, List.getElem?_cons_succ, Option.some.injEq] at ho; subst ho
            refine ⟨by kernel_rfl, fun wn hl K hK => ?_⟩
            have HR1 := Lib.hid (HR1.out.later hl); have HR2 := Lib.hid (HR2.out.later hl); have HR3 := Lib.hid (HR3.out.later hl); have HB := Lib.hid (below_on HB.out hl); clear hl
            refine wp_enter _ _ (by go_simp; exact ⟨rfl, rfl⟩) ?_
            refine (put_pos q _ _ _ y0 y1).mono ?_; rintro e wm ⟨rfl, hb⟩; refine ⟨_, rfl, ?_⟩
            rw [HPb.out]
            refine hK.out _ _ hb ?_
            have HR1 := Lib.hid (HR1.out.later hb); have HR2 := Lib.hid (HR2.out.later hb); have HR3 := Lib.hid (HR3.out.later hb); have HB := Lib.hid (below_on HB.out hb); clear hb
            clear hK K
            simp only [Act.put, List.setIfInBounds_toArray, List.set_cons_zero, List.set_cons_succ]
            refine late_last 7 (by kernel_rfl) (by kernel_rfl) (by kernel_rfl) (fun o ho => ?_)
            simp only [List.getElem?_toArray, List.getElem?_cons_zero, List.getElem?_cons_succ, Option.some.injEq] at ho; subst ho
            refine ⟨by kernel_rfl, fun wn hl K hK => ?_⟩
            have HR1 := Lib.hid (HR1.out.later hl); have HR2 := Lib.hid (HR2.out.later hl); have HR3 := Lib.hid (HR3.out.later hl); have HB := Lib.hid (below_on HB.out hl); clear hl
            refine late_whole _ _ rfl b3 rfl _ (bk) rfl HR3.out ?_; intro wm U R
            have HR1 := Lib.hid (HR1.out.apart U HD13.out)
            have HR2 := Lib.hid (HR2.out.apart U HD23.out)
            have HR3 := Lib.hid R; have HB := Lib.hid (HB.out.trans (U.below HG3.out)); clear U R
            refine hK.out _ _ ?_
            clear hK K
            simp only [Act.put, List.setIfInBounds_toArray, List.set_cons_zero, List.set_cons_succ]
            have hcell := HR1.out.cell (1 + n) HI.out
            rw [HK.out] at hcell
            go_wp2_with (first | (refine step_cell rfl 5 _ _ rfl _ _ rfl _ _ rfl _ HR3.out HI.out HK.out size5 ?_; clear hcell; intro wn U R; have HR1 := Lib.hid (HR1.out.apart U HD13.out); have HR2 := Lib.hid (HR2.out.apart U HD23.out); have HR3 := Lib.hid R; have HB := Lib.hid (HB.out.trans (U.below HG3.out)); clear U R) | (refine step_load rfl _ rfl b3 rfl (_) HR3.out ?_) | (refine step_load rfl _ rfl b1 rfl (p) HR1.out ?_) | (refine step_same rfl _ _ rfl (_) (p) rfl rfl HWe.out HE.out ?_))
            go_ret
            exact ⟨rfl, HB.out⟩
        · simp only [List.getElem?_toArray, List.getElem?_cons_zero, List.getElem?_cons_succ, Option.some.injEq] at ho; subst ho
          refine ⟨by kernel_rfl, fun wn hl K hK => ?_⟩
          have HR1 := Lib.hid (HR1.out.later hl); have HR2 := Lib.hid (HR2.out.later hl); have HB := Lib.hid (below_on HB.out hl); clear hl
          refine late_alloc rfl ?_; intro b3 wm N R
          have HD13 := Lib.hid (N.ne HR1.out)
          have HD23 := Lib.hid (N.ne HR2.out)
          have HG3 := Lib.hid (show w.heap.size ≤ b3 by have := HB.out.size; have := N.at_; omega)
          have hb := N.below
          have HRn := Lib.hid R
          clear N R
          refine hK.out _ _ hb ?_
          have HR1 := Lib.hid (HR1.out.later hb); have HR2 := Lib.hid (HR2.out.later hb); have HB := Lib.hid (below_on HB.out hb); clear hb
          have HR3 := HRn; clear HRn
          clear hK K
          simp only [Act.put, List.setIfInBounds_toArray, List.set_cons_zero, List.set_cons_succ]
          refine late_one 4 (by kernel_rfl) (by kernel_rfl) (fun o ho => ?_)
          simp only [List.getElem?_toArray, List.getElem?_cons_zero, List.getElem?_cons_succ, Option.some.injEq] at ho; subst ho
          refine ⟨by kernel_rfl, fun wn hl K hK => ?_⟩
          have HR1 := Lib.hid (HR1.out.later hl); have HR2 := Lib.hid (HR2.out.later hl); have HR3 := Lib.hid (HR3.out.later hl); have HB := Lib.hid (below_on HB.out hl); clear hl
          refine wp_enter _ _ (by go_simp; exact ⟨rfl, rfl⟩) ?_
          refine (at_any p _ _ HP.out.bd).mono ?_; rintro e wm ⟨rfl, hb⟩; refine ⟨_, rfl, ?_⟩
          rw [HY.out]
          refine hK.out _ _ hb ?_
          have HR1 := Lib.hid (HR1.out.later hb); have HR2 := Lib.hid (HR2.out.later hb); have HR3 := Lib.hid (HR3.out.later hb); have HB := Lib.hid (below_on HB.out hb); clear hb
          clear hK K
          simp only [Act.put, List.setIfInBounds_toArray, List.set_cons_zero, List.set_cons_succ]
          refine late_one 5 (by kernel_rfl) (by kernel_rfl) (fun o ho => ?_)
          simp only [List.getElem?_toArray, List.getElem?_cons_zero, List.getElem?_cons_succ, Option.some.injEq] at ho; subst ho
          refine ⟨by kernel_rfl, fun wn hl K hK => ?_⟩
          have HR1 := Lib.hid (HR1.out.later hl); have HR2 := Lib.hid (HR2.out.later hl); have HR3 := Lib.hid (HR3.out.later hl); have HB := Lib.hid (below_on HB.out hl); clear hl
          refine wp_enter _ _ (by go_simp; exact ⟨rfl, rfl⟩) ?_
          refine (put_pos q _ _ _ y0 y1).mono ?_; rintro e wm ⟨rfl, hb⟩; refine ⟨_, rfl, ?_⟩
          rw [HPb.out]
          refine hK.out _ _ hb ?_
          have HR1 := Lib.hid (HR1.out.later hb); have HR2 := Lib.hid (HR2.out.later hb); have HR3 := Lib.hid (HR3.out.later hb); have HB := Lib.hid (below_on HB.out hb); clear hb
          clear hK K
          simp only [Act.put, List.setIfInBounds_toArray, List.set_cons_zero, List.set_cons_succ]
          refine late_last 7 (by kernel_rfl) (by kernel_rfl) (by kernel_rfl) (fun o ho => ?_)
          simp only [List.getElem?_toArray, List.getElem?_cons_zero, List.getElem?_cons_succ, Option.some.injEq] at ho; subst ho
          refine ⟨by kernel_rfl, fun wn hl K hK => ?_⟩
          have HR1 := Lib.hid (HR1.out.later hl); have HR2 := Lib.hid (HR2.out.later hl); have HR3 := Lib.hid (HR3.out.later hl); have HB := Lib.hid (below_on HB.out hl); clear hl
          refine late_whole _ _ rfl b3 rfl _ (bk) rfl HR3.out ?_; intro wm U R
          have HR1 := Lib.hid (HR1.out.apart U HD13.out)
          have HR2 := Lib.hid (HR2.out.apart U HD23.out)
          have HR3 := Lib.hid R; have HB := Lib.hid (HB.out.trans (U.below HG3.out)); clear U R
          refine hK.out _ _ ?_
          clear hK K
          simp only [Act.put, List.setIfInBounds_toArray, List.set_cons_zero, List.set_cons_succ]
          have hcell := HR1.out.cell (1 + n) HI.out
          rw [HK.out] at hcell
          go_wp2_with (first | (refine step_cell rfl 5 _ _ rfl _ _ rfl _ _ rfl _ HR3.out HI.out HK.out size5 ?_; clear hcell; intro wn U R; have HR1 := Lib.hid (HR1.out.apart U HD13.out); have HR2 := Lib.hid (HR2.out.apart U HD23.out); have HR3 := Lib.hid R; have HB := Lib.hid (HB.out.trans (U.below HG3.out)); clear U R) | (refine step_load rfl _ rfl b3 rfl (_) HR3.out ?_) | (refine step_load rfl _ rfl b1 rfl (p) HR1.out ?_) | (refine step_same rfl _ _ rfl (_) (p) rfl rfl HWe.out HE.out ?_))
          go_ret
          exact ⟨rfl, HB.out⟩
      · skip
        have hnz : (a3 != 0) = true := pcB_ne hpc
        go_wp2_with (first | (refine step_alloc (op := ⟨some 9, _, _, _, _, _⟩) rfl rfl ?_; intro b2 wn N R; have HD12 := Lib.hid (N.ne HR1.out); have HR1 := Lib.hid (N.row HR1.out); have HR2 := Lib.hid R; have HG2 := Lib.hid (show w.heap.size ≤ b2 by have := HB.out.size; have := N.at_; omega); have HB := Lib.hid (below_on HB.out N.below); clear N R) | (refine step_store rfl _ _ rfl _ rfl _ (q) rfl HR2.out ?_; intro wn U R; have HR1 := Lib.hid (HR1.out.apart U HD12.out); have HR2 := Lib.hid R; have HB := Lib.hid (HB.out.trans (U.below HG2.out)); clear U R))
        refine (is_at hpc _ x0 x1).mono ?_; rintro e wm ⟨rfl, rfl⟩
        go_wp2_with fail
        refine late_begin 34 (by kernel_rfl) ?_
        refine late_take 0 (by kernel_rfl) (by kernel_rfl) (by kernel_rfl) (by kernel_rfl) (by kernel_rfl) (fun _ _ d _ _ h => by cases d <;> exact h) (fun o ho => ?_)
        simp only [List.getElem?_toArray, List.getElem?_cons_zero, List.getElem?_cons_succ, Option.some.injEq] at ho; subst ho
        refine ⟨_, Or.inl ⟨by kernel_rfl, fun w' hl => Or.inl (run_load _ rfl _ rfl (q) (HR2.out.later hl))⟩, ?_⟩
        simp only [Act.put, List.setIfInBounds_toArray, List.set_cons_zero, List.set_cons_succ]
        refine late_take 1 (by kernel_rfl) (by kernel_rfl) (by kernel_rfl) (by kernel_rfl) (by kernel_rfl) (fun _ _ d _ _ h => by cases d <;> exact h) (fun o ho => ?_)
        simp only [List.getElem?_toArray, List.getElem?_cons_zero, List.getElem?_cons_succ, Option.some.injEq] at ho; subst ho
        apply Exists.intro
        refine ⟨Or.inl ⟨by kernel_rfl, fun w' hl => Or.inl ?_⟩, ?_⟩
        · (go_simp; try with_reducible rfl)
        simp only [Act.put, List.setIfInBounds_toArray, List.set_cons_zero, List.set_cons_succ]
        refine late_take 3 (by kernel_rfl) (by kernel_rfl) (by kernel_rfl) (by kernel_rfl) (by kernel_rfl) (fun _ _ d _ _ h => by cases d <;> exact h) (fun o ho => ?_)
        simp only [List.getElem?_toArray, List.getElem?_cons_zero, List.getElem?_cons_succ, Option.some.injEq] at ho; subst ho
        apply Exists.intro
        refine ⟨Or.inl ⟨by kernel_rfl, fun w' hl => Or.inl ?_⟩, ?_⟩
        · (go_simp; try with_reducible rfl)
        simp only [Act.put, List.setIfInBounds_toArray, List.set_cons_zero, List.set_cons_succ]
        refine late_one 2 (by kernel_rfl) (by kernel_rfl) (fun o ho => ?_)
        simp only [List.getElem?_toArray, List.getElem?_cons_zero, List.getElem?_cons_succ, Option.some.injEq] at ho; subst ho
        refine ⟨by kernel_rfl, fun wn hl K hK => ?_⟩
        have HR1 := Lib.hid (HR1.out.later hl); have HR2 := Lib.hid (HR2.out.later hl); have HB := Lib.hid (below_on HB.out hl); clear hl
        refine wp_enter _ _ (by go_simp; exact ⟨rfl, rfl⟩) ?_
        refine (at_any q _ _ HWq.out.R.bd).mono ?_; rintro e wm ⟨rfl, hb⟩; refine ⟨_, rfl, ?_⟩
        rw [HQn.out]
        refine hK.out _ _ hb ?_
        have HR1 := Lib.hid (HR1.out.later hb); have HR2 := Lib.hid (HR2.out.later hb); have HB := Lib.hid (below_on HB.out hb); clear hb
        clear hK K
        simp only [Act.put, List.setIfInBounds_toArray, List.set_cons_zero, List.set_cons_succ]
        refine late_take 4 (by kernel_rfl) (by kernel_rfl) (by kernel_rfl) (by kernel_rfl) (by kernel_rfl) (fun _ _ d _ _ h => by cases d <;> exact h) (fun o ho => ?_)
        simp only [List.getElem?_toArray, List.getElem?_cons_zero, List.getElem?_cons_succ, Option.some.injEq] at ho; subst ho
        apply Exists.intro
        refine ⟨Or.inl ⟨by kernel_rfl, fun w' hl => Or.inl ?_⟩, ?_⟩
        · (go_simp; try with_reducible rfl)
        simp only [Act.put, List.setIfInBounds_toArray, List.set_cons_zero, List.set_cons_succ]
        refine late_take 5 (by kernel_rfl) (by kernel_rfl) (by kernel_rfl) (by kernel_rfl) (by kernel_rfl) (fun _ _ d _ _ h => by cases d <;> exact h) (fun o ho => ?_)
        simp only [List.getElem?_toArray, List.getElem?_cons_zero, List.getElem?_cons_succ, Option.some.injEq] at ho; subst ho
        apply Exists.intro
        refine ⟨Or.inl ⟨by kernel_rfl, fun w' hl => Or.inl ?_⟩, ?_⟩
        · (go_simp; try with_reducible rfl)
        simp only [Act.put, List.setIfInBounds_toArray, List.set_cons_zero, List.set_cons_succ]
        refine late_take 6 (by kernel_rfl) (by kernel_rfl) (by kernel_rfl) (by kernel_rfl) (by kernel_rfl) (fun _ _ d _ _ h => by cases d <;> exact h) (fun o ho => ?_)
        simp only [List.getElem?_toArray, List.getElem?_cons_zero, List.getElem?_cons_succ, Option.some.injEq] at ho; subst ho
        apply Exists.intro
        refine ⟨Or.inl ⟨by kernel_rfl, fun w' hl => Or.inl ?_⟩, ?_⟩
        · (go_simp; try with_reducible rfl)
        simp only [Act.put, List.setIfInBounds_toArray, List.set_cons_zero, List.set_cons_succ]
        refine late_take 7 (by kernel_rfl) (by kernel_rfl) (by kernel_rfl) (by kernel_rfl) (by kernel_rfl) (fun _ _ d _ _ h => by cases d <;> exact h) (fun o ho => ?_)
        simp only [List.getElem?_toArray, List.getElem?_cons_zero, List.getElem?_cons_succ, Option.some.injEq] at ho; subst ho
        apply Exists.intro
        refine ⟨Or.inl ⟨by kernel_rfl, fun w' hl => Or.inl ?_⟩, ?_⟩
        · (go_simp; try with_reducible rfl)
        simp only [Act.put, List.setIfInBounds_toArray, List.set_cons_zero, List.set_cons_succ]
        refine late_take 8 (by kernel_rfl) (by kernel_rfl) (by kernel_rfl) (by kernel_rfl) (by kernel_rfl) (fun _ _ d _ _ h => by cases d <;> exact h) (fun o ho => ?_)
        simp only [List.getElem?_toArray, List.getElem?_cons_zero, List.getElem?_cons_succ, Option.some.injEq] at ho; subst ho
        apply Exists.intro
        refine ⟨Or.inl ⟨by kernel_rfl, fun w' hl => Or.inl ?_⟩, ?_⟩
        · (go_simp; try with_reducible rfl)
        simp only [Act.put, List.setIfInBounds_toArray, List.set_cons_zero, List.set_cons_succ]
        refine late_take 9 (by kernel_rfl) (by kernel_rfl) (by kernel_rfl) (by kernel_rfl) (by kernel_rfl) (fun _ _ d _ _ h => by cases d <;> exact h) (fun o ho => ?_)
        simp only [List.getElem?_toArray, List.getElem?_cons_zero, List.getElem?_cons_succ, Option.some.injEq] at ho; subst ho
        apply Exists.intro
        refine ⟨Or.inl ⟨by kernel_rfl, fun w' hl => Or.inl ?_⟩, ?_⟩
        · (go_simp; try with_reducible rfl)
        simp only [Act.put, List.setIfInBounds_toArray, List.set_cons_zero, List.set_cons_succ]
        refine late_take 10 (by kernel_rfl) (by kernel_rfl) (by kernel_rfl) (by kernel_rfl) (by kernel_rfl) (fun _ _ d _ _ h => by cases d <;> exact h) (fun o ho => ?_)
        simp only [List.getElem?_toArray, List.getElem?_cons_zero, List.getElem?_cons_succ, Option.some.injEq] at ho; subst ho
        refine ⟨_, Or.inr ⟨by kernel_rfl, rfl⟩, ?_⟩
        simp only [Act.put, List.setIfInBounds_toArray, List.set_cons_zero, List.set_cons_succ]
        refine late_take 11 (by kernel_rfl) (by kernel_rfl) (by kernel_rfl) (by kernel_rfl) (by kernel_rfl) (fun _ _ d _ _ h => by cases d <;> exact h) (fun o ho => ?_)
        simp only [List.getElem?_toArray, List.getElem?_cons_zero, List.getElem?_cons_succ, Option.some.injEq] at ho; subst ho
        refine ⟨_, Or.inr ⟨by kernel_rfl, rfl⟩, ?_⟩
        simp only [Act.put, List.setIfInBounds_toArray, List.set_cons_zero, List.set_cons_succ]
        refine late_take 12 (by kernel_rfl) (by kernel_rfl) (by kernel_rfl) (by kernel_rfl) (by kernel_rfl) (fun _ _ d _ _ h => by cases d <;> exact h) (fun o ho => ?_)
        simp only [List.getElem?_toArray, List.getElem?_cons_zero, List.getElem?_cons_succ, Option.some.injEq] at ho; subst ho
        refine ⟨_, Or.inr ⟨by kernel_rfl, rfl⟩, ?_⟩
        simp only [Act.put, List.setIfInBounds_toArray, List.set_cons_zero, List.set_cons_succ]
        refine late_take 13 (by kernel_rfl) (by kernel_rfl) (by kernel_rfl) (by kernel_rfl) (by kernel_rfl) (fun _ _ d _ _ h => by cases d <;> exact h) (fun o ho => ?_)
        simp only [List.getElem?_toArray, List.getElem?_cons_zero, List.getElem?_cons_succ, Option.some.injEq] at ho; subst ho
        refine ⟨_, Or.inr ⟨by kernel_rfl, rfl⟩, ?_⟩
        simp only [Act.put, List.setIfInBounds_toArray, List.set_cons_zero, List.set_cons_succ]
        refine late_take 14 (by kernel_rfl) (by kernel_rfl) (by kernel_rfl) (by kernel_rfl) (by kernel_rfl) (fun _ _ d _ _ h => by cases d <;> exact h) (fun o ho => ?_)
        simp only [List.getElem?_toArray, List.getElem?_cons_zero, List.getElem?_cons_succ, Option.some.injEq] at ho; subst ho
        refine ⟨_, Or.inr ⟨by kernel_rfl, rfl⟩, ?_⟩
        simp only [Act.put, List.setIfInBounds_toArray, List.set_cons_zero, List.set_cons_succ]
        refine late_take 15 (by kernel_rfl) (by kernel_rfl) (by kernel_rfl) (by kernel_rfl) (by kernel_rfl) (fun _ _ d _ _ h => by cases d <;> exact h) (fun o ho => ?_)
        simp only [List.getElem?_toArray, List.getElem?_cons_zero, List.getElem?_cons_succ, Option.some.injEq] at ho; subst ho
        refine ⟨_, Or.inr ⟨by kernel_rfl, rfl⟩, ?_⟩
        simp only [Act.put, List.setIfInBounds_toArray, List.set_cons_zero, List.set_cons_succ]
        refine late_take 16 (by kernel_rfl) (by kernel_rfl) (by kernel_rfl) (by kernel_rfl) (by kernel_rfl) (fun _ _ d _ _ h => by cases d <;> exact h) (fun o ho => ?_)
        simp only [List.getElem?_toArray, List.getElem?_cons_zero, List.getElem?_cons_succ, Option.some.injEq] at ho; subst ho
        refine ⟨_, Or.inr ⟨by kernel_rfl, rfl⟩, ?_⟩
        simp only [Act.put, List.setIfInBounds_toArray, List.set_cons_zero, List.set_cons_succ]
        refine late_take 17 (by kernel_rfl) (by kernel_rfl) (by kernel_rfl) (by kernel_rfl) (by kernel_rfl) (fun _ _ d _ _ h => by cases d <;> exact h) (fun o ho => ?_)
        simp only [List.getElem?_toArray, List.getElem?_cons_zero, List.getElem?_cons_succ, Option.some.injEq] at ho; subst ho
        apply Exists.intro
        refine ⟨Or.inl ⟨by kernel_rfl, fun w' hl => Or.inl ?_⟩, ?_⟩
        · (go_simp; try with_reducible rfl)
        simp only [Act.put, List.setIfInBounds_toArray, List.set_cons_zero, List.set_cons_succ]
        refine late_take 18 (by kernel_rfl) (by kernel_rfl) (by kernel_rfl) (by kernel_rfl) (by kernel_rfl) (fun _ _ d _ _ h => by cases d <;> exact h) (fun o ho => ?_)
        simp only [List.getElem?_toArray, List.getElem?_cons_zero, List.getElem?_cons_succ, Option.some.injEq] at ho; subst ho
        apply Exists.intro
        refine ⟨Or.inl ⟨by kernel_rfl, fun w' hl => Or.inl ?_⟩, ?_⟩
        · (go_simp; try with_reducible rfl)
        simp only [Act.put, List.setIfInBounds_toArray, List.set_cons_zero, List.set_cons_succ]
        refine late_take 19 (by kernel_rfl) (by kernel_rfl) (by kernel_rfl) (by kernel_rfl) (by kernel_rfl) (fun _ _ d _ _ h => by cases d <;> exact h) (fun o ho => ?_)
        simp only [List.getElem?_toArray, List.getElem?_cons_zero, List.getElem?_cons_succ, Option.some.injEq] at ho; subst ho
        apply Exists.intro
        refine ⟨Or.inl ⟨by kernel_rfl, fun w' hl => Or.inl ?_⟩, ?_⟩
        · (go_simp; try with_reducible rfl)
        simp only [Act.put, List.setIfInBounds_toArray, List.set_cons_zero, List.set_cons_succ]
        refine late_take 20 (by kernel_rfl) (by kernel_rfl) (by kernel_rfl) (by kernel_rfl) (by kernel_rfl) (fun _ _ d _ _ h => by cases d <;> exact h) (fun o ho => ?_)
        simp only [List.getElem?_toArray, List.getElem?_cons_zero, List.getElem?_cons_succ, Option.some.injEq] at ho; subst ho
        apply Exists.intro
        refine ⟨Or.inl ⟨by kernel_rfl, fun w' hl => Or.inl ?_⟩, ?_⟩
        · (go_simp; try with_reducible rfl)
        simp only [Act.put, List.setIfInBounds_toArray, List.set_cons_zero, List.set_cons_succ]
        refine late_take 21 (by kernel_rfl) (by kernel_rfl) (by kernel_rfl) (by kernel_rfl) (by kernel_rfl) (fun _ _ d _ _ h => by cases d <;> exact h) (fun o ho => ?_)
        simp only [List.getElem?_toArray, List.getElem?_cons_zero, List.getElem?_cons_succ, Option.some.injEq] at ho; subst ho
        apply Exists.intro
        refine ⟨Or.inl ⟨by kernel_rfl, fun w' hl => Or.inl ?_⟩, ?_⟩
        · (go_simp; try with_reducible rfl)
        simp only [Act.put, List.setIfInBounds_toArray, List.set_cons_zero, List.set_cons_succ]
        refine late_take 22 (by kernel_rfl) (by kernel_rfl) (by kernel_rfl) (by kernel_rfl) (by kernel_rfl) (fun _ _ d _ _ h => by cases d <;> exact h) (fun o ho => ?_)
        simp only [List.getElem?_toArray, List.getElem?_cons_zero, List.getElem?_cons_succ, Option.some.injEq] at ho; subst ho
        apply Exists.intro
        refine ⟨Or.inl ⟨by kernel_rfl, fun w' hl => Or.inl ?_⟩, ?_⟩
        · (go_simp; try with_reducible rfl)
        simp only [Act.put, List.setIfInBounds_toArray, List.set_cons_zero, List.set_cons_succ]
        refine late_take 23 (by kernel_rfl) (by kernel_rfl) (by kernel_rfl) (by kernel_rfl) (by kernel_rfl) (fun _ _ d _ _ h => by cases d <;> exact h) (fun o ho => ?_)
        simp only [List.getElem?_toArray, List.getElem?_cons_zero, List.getElem?_cons_succ, Option.some.injEq] at ho; subst ho
        refine ⟨_, Or.inl ⟨by kernel_rfl, fun w' hl => Or.inl (run_load _ rfl _ rfl (q) (HR2.out.later hl))⟩, ?_⟩
        simp only [Act.put, List.setIfInBounds_toArray, List.set_cons_zero, List.set_cons_succ]
        refine late_take 24 (by kernel_rfl) (by kernel_rfl) (by kernel_rfl) (by kernel_rfl) (by kernel_rfl) (fun _ _ d _ _ h => by cases d <;> exact h) (fun o ho => ?_)
        simp only [List.getElem?_toArray, List.getElem?_cons_zero, List.getElem?_cons_succ, Option.some.injEq] at ho; subst ho
        apply Exists.intro
        refine ⟨Or.inl ⟨by kernel_rfl, fun w' hl => Or.inl ?_⟩, ?_⟩
        · (go_simp; try with_reducible rfl)
        simp only [Act.put, List.setIfInBounds_toArray, List.set_cons_zero, List.set_cons_succ]
        refine late_take 26 (by kernel_rfl) (by kernel_rfl) (by kernel_rfl) (by kernel_rfl) (by kernel_rfl) (fun _ _ d _ _ h => by cases d <;> exact h) (fun o ho => ?_)
        simp only [List.getElem?_toArray, List.getElem?_cons_zero, List.getElem?_cons_succ, Option.some.injEq] at ho; subst ho
        apply Exists.intro
        refine ⟨Or.inl ⟨by kernel_rfl, fun w' hl => Or.inl ?_⟩, ?_⟩
        · (go_simp; try with_reducible rfl)
        simp only [Act.put, List.setIfInBounds_toArray, List.set_cons_zero, List.set_cons_succ]
        refine late_take 29 (by kernel_rfl) (by kernel_rfl) (by kernel_rfl) (by kernel_rfl) (by kernel_rfl) (fun _ _ d _ _ h => by cases d <;> exact h) (fun o ho => ?_)
        simp only [List.getElem?_toArray, List.getElem?_cons_zero, List.getElem?_cons_succ, Option.some.injEq] at ho; subst ho
        apply Exists.intro
        refine ⟨Or.inl ⟨by kernel_rfl, fun w' hl => Or.inl ?_⟩, ?_⟩
        · (go_simp; try with_reducible rfl)
        simp only [Act.put, List.setIfInBounds_toArray, List.set_cons_zero, List.set_cons_succ]
        refine late_one 25 (by kernel_rfl) (by kernel_rfl) (fun o ho => ?_)
        simp only [List.getElem?_toArray, List.getElem?_cons_zero, List.getElem?_cons_succ, Option.some.injEq] at ho; subst ho
        refine ⟨by kernel_rfl, fun wn hl K hK => ?_⟩
        have HR1 := Lib.hid (HR1.out.later hl); have HR2 := Lib.hid (HR2.out.later hl); have HB := Lib.hid (below_on HB.out hl); clear hl
        refine wp_enter _ _ (by go_simp; exact ⟨rfl, rfl⟩) ?_
        refine (col_any _ _ x0 x1).mono ?_; rintro e wm ⟨rfl, rfl⟩; refine ⟨_, rfl, ?_⟩
        refine hK.out _ _ (Later.refl _) ?_
        clear hK K
        simp only [Act.put, List.setIfInBounds_toArray, List.set_cons_zero, List.set_cons_succ]
        refine late_one 27 (by kernel_rfl) (by kernel_rfl) (fun o ho => ?_)
        simp only [List.getElem?_toArray, List.getElem?_cons_zero, List.getElem?_cons_succ, Option.some.injEq] at ho; subst ho
        refine ⟨by kernel_rfl, fun wn hl K hK => ?_⟩
        have HR1 := Lib.hid (HR1.out.later hl); have HR2 := Lib.hid (HR2.out.later hl); have HB := Lib.hid (below_on HB.out hl); clear hl
        refine wp_enter _ _ (by go_simp; exact ⟨rfl, rfl⟩) ?_
        refine (knd_any _ _ x0 x1).mono ?_; rintro e wm ⟨rfl, rfl⟩; refine ⟨_, rfl, ?_⟩
        refine hK.out _ _ (Later.refl _) ?_
        clear hK K
        simp only [Act.put, List.setIfInBounds_toArray, List.set_cons_zero, List.set_cons_succ]
        refine late_one 28 (by kernel_rfl) (by kernel_rfl) (fun o ho => ?_)
        simp only [List.getElem?_toArray, List.getElem?_cons_zero, List.getElem?_cons_succ, Option.some.injEq] at ho; subst ho
        refine ⟨by kernel_rfl, fun wn hl K hK => ?_⟩
        have HR1 := Lib.hid (HR1.out.later hl); have HR2 := Lib.hid (HR2.out.later hl); have HB := Lib.hid (below_on HB.out hl); clear hl
        refine wp_enter _ _ (by go_simp; exact ⟨rfl, rfl⟩) ?_
        refine (of_any q _ _ _ HWq.out.R.bd).mono ?_; rintro e wm ⟨rfl, hb⟩; refine ⟨_, rfl, ?_⟩
        refine hK.out _ _ hb ?_
        have HR1 := Lib.hid (HR1.out.later hb); have HR2 := Lib.hid (HR2.out.later hb); have HB := Lib.hid (below_on HB.out hb); clear hb
        clear hK K
        simp only [Act.put, List.setIfInBounds_toArray, List.set_cons_zero, List.set_cons_succ]
        refine late_one 30 (by kernel_rfl) (by kernel_rfl) (fun o ho => ?_)
        simp only [List.getElem?_toArray, List.getElem?_cons_zero, List.getElem?_cons_succ, Option.some.injEq] at ho; subst ho
        refine ⟨by kernel_rfl, fun wn hl K hK => ?_⟩
        have HR1 := Lib.hid (HR1.out.later hl); have HR2 := Lib.hid (HR2.out.later hl); have HB := Lib.hid (below_on HB.out hl); clear hl
        refine wp_enter _ _ (by go_simp; exact ⟨rfl, rfl⟩) ?_
        refine (has_any _ _ _ (ofN_lt _ _ _)).mono ?_; rintro e wm ⟨rfl, rfl⟩; refine ⟨_, rfl, ?_⟩
        rw [HQh.out hpc]
        refine hK.out _ _ (Later.refl _) ?_
        clear hK K
        simp only [Act.put, List.setIfInBounds_toArray, List.set_cons_zero, List.set_cons_succ]
        refine late_take 31 (by kernel_rfl) (by kernel_rfl) (by kernel_rfl) (by kernel_rfl) (by kernel_rfl) (fun _ _ d _ _ h => by cases d <;> exact h) (fun o ho => ?_)
        simp only [List.getElem?_toArray, List.getElem?_cons_zero, List.getElem?_cons_succ, Option.some.injEq] at ho; subst ho
        apply Exists.intro
        refine ⟨Or.inl ⟨by kernel_rfl, fun w' hl => Or.inl ?_⟩, ?_⟩
        · (go_simp; try with_reducible rfl)
        simp only [Act.put, List.setIfInBounds_toArray, List.set_cons_zero, List.set_cons_succ]
        refine late_take 32 (by kernel_rfl) (by kernel_rfl) (by kernel_rfl) (by kernel_rfl) (by kernel_rfl) (fun _ _ d _ _ h => by cases d <;> exact h) (fun o ho => ?_)
        simp only [List.getElem?_toArray, List.getElem?_cons_zero, List.getElem?_cons_succ, Option.some.injEq] at ho; subst ho
        apply Exists.intro
        refine ⟨Or.inl ⟨by kernel_rfl, fun w' hl => Or.inl ?_⟩, ?_⟩
        · (go_simp; try with_reducible rfl)
        simp only [Act.put, List.setIfInBounds_toArray, List.set_cons_zero, List.set_cons_succ]
        refine late_take 33 (by kernel_rfl) (by kernel_rfl) (by kernel_rfl) (by kernel_rfl) (by kernel_rfl) (fun _ _ d _ _ h => by cases d <;> exact h) (fun o ho => ?_)
        simp only [List.getElem?_toArray, List.getElem?_cons_zero, List.getElem?_cons_succ, Option.some.injEq] at ho; subst ho
        apply Exists.intro
        refine ⟨Or.inl ⟨by kernel_rfl, fun w' hl => Or.inl ?_⟩, ?_⟩
        · (go_simp; try with_reducible rfl)
        simp only [Act.put, List.setIfInBounds_toArray, List.set_cons_zero, List.set_cons_succ]
        refine late_end (by kernel_rfl) (fun wn hl => ?_)
        have HR1 := Lib.hid (HR1.out.later hl); have HR2 := Lib.hid (HR2.out.later hl); have HB := Lib.hid (below_on HB.out hl); clear hl
        go_wp2_with fail
        refine late_begin 7 (by kernel_rfl) ?_
        refine late_take 0 (by kernel_rfl) (by kernel_rfl) (by kernel_rfl) (by kernel_rfl) (by kernel_rfl) (fun _ _ d _ _ h => by cases d <;> exact h) (fun o ho => ?_)
        simp only [List.getElem?_toArray, List.getElem?_cons_zero, List.getElem?_cons_succ, Option.some.injEq] at ho; subst ho
        refine ⟨_, Or.inl ⟨by kernel_rfl, fun w' hl => Or.inl (run_load _ rfl _ rfl (q) (HR2.out.later hl))⟩, ?_⟩
        simp only [Act.put, List.setIfInBounds_toArray, List.set_cons_zero, List.set_cons_succ]
        refine late_take 1 (by kernel_rfl) (by kernel_rfl) (by kernel_rfl) (by kernel_rfl) (by kernel_rfl) (fun _ _ d _ _ h => by cases d <;> exact h) (fun o ho => ?_)
        simp only [List.getElem?_toArray, List.getElem?_cons_zero, List.getElem?_cons_succ, Option.some.injEq] at ho; subst ho
        apply Exists.intro
        refine ⟨Or.inl ⟨by kernel_rfl, fun w' hl => Or.inl ?_⟩, ?_⟩
        · (go_simp; try with_reducible rfl)
        simp only [Act.put, List.setIfInBounds_toArray, List.set_cons_zero, List.set_cons_succ]
        refine late_take 2 (by kernel_rfl) (by kernel_rfl) (by kernel_rfl) (by kernel_rfl) (by kernel_rfl) (fun _ _ d _ _ h => by cases d <;> exact h) (fun o ho => ?_)
        simp only [List.getElem?_toArray, List.getElem?_cons_zero, List.getElem?_cons_succ, Option.some.injEq] at ho; subst ho
        refine ⟨_, Or.inl ⟨by kernel_rfl, fun w' hl => Or.inl (run_load _ rfl _ rfl (p) (HR1.out.later hl))⟩, ?_⟩
        simp only [Act.put, List.setIfInBounds_toArray, List.set_cons_zero, List.set_cons_succ]
        refine late_take 3 (by kernel_rfl) (by kernel_rfl) (by kernel_rfl) (by kernel_rfl) (by kernel_rfl) (fun _ _ d _ _ h => by cases d <;> exact h) (fun o ho => ?_)
        simp only [List.getElem?_toArray, List.getElem?_cons_zero, List.getElem?_cons_succ, Option.some.injEq] at ho; subst ho
        apply Exists.intro
        refine ⟨Or.inl ⟨by kernel_rfl, fun w' hl => Or.inl ?_⟩, ?_⟩
        · (go_simp; try with_reducible rfl)
        simp only [Act.put, List.setIfInBounds_toArray, List.set_cons_zero, List.set_cons_succ]
        refine late_fork 4 6 (by kernel_rfl) (by kernel_rfl) (by kernel_rfl) (fun o ho => ?_) (fun o ho => ?_)
        · simp only [List.getElem?_toArray, List.getElem?_cons_zero, List.getElem?_cons_succ, Option.some.injEq] at ho; subst ho
          refine ⟨by kernel_rfl, fun wn hl K hK => ?_⟩
          have HR1 := Lib.hid (HR1.out.later hl); have HR2 := Lib.hid (HR2.out.later hl); have HB := Lib.hid (below_on HB.out hl); clear hl
          refine wp_enter _ _ (by go_simp; exact ⟨rfl, rfl⟩) ?_
          refine (at_any p _ _ HP.out.bd).mono ?_; rintro e wm ⟨rfl, hb⟩; refine ⟨_, rfl, ?_⟩
          rw [HY.out]
          refine hK.out _ _ hb ?_
          have HR1 := Lib.hid (HR1.out.later hb); have HR2 := Lib.hid (HR2.out.later hb); have HB := Lib.hid (below_on HB.out hb); clear hb
          clear hK K
          simp only [Act.put, List.setIfInBounds_toArray, List.set_cons_zero, List.set_cons_succ]
          refine late_fork 5 6 (by kernel_rfl) (by kernel_rfl) (by kernel_rfl) (fun o ho => ?_) (fun o ho => ?_)
          · simp only [List.getElem?_toArray, List.getElem?_cons_zero, List.getElem?_cons_succ, Option.some.injEq] at ho; subst ho
            refine ⟨by kernel_rfl, fun wn hl K hK => ?_⟩
            have HR1 := Lib.hid (HR1.out.later hl); have HR2 := Lib.hid (HR2.out.later hl); have HB := Lib.hid (below_on HB.out hl); clear hl
            refine wp_enter _ _ (by go_simp; exact ⟨rfl, rfl⟩) ?_
            refine (put_pos q _ _ _ y0 y1).mono ?_; rintro e wm ⟨rfl, hb⟩; refine ⟨_, rfl, ?_⟩
            rw [HPb.out]
            refine hK.out _ _ hb ?_
            have HR1 := Lib.hid (HR1.out.later hb); have HR2 := Lib.hid (HR2.out.later hb); have HB := Lib.hid (below_on HB.out hb); clear hb
            clear hK K
            simp only [Act.put, List.setIfInBounds_toArray, List.set_cons_zero, List.set_cons_succ]
            refine late_one 6 (by kernel_rfl) (by kernel_rfl) (fun o ho => ?_)
            simp only [List.getElem?_toArray, List.getElem?_cons_zero, List.getElem?_cons_succ, Option.some.injEq] at ho; subst ho
            refine ⟨by kernel_rfl, fun wn hl K hK => ?_⟩
            have HR1 := Lib.hid (HR1.out.later hl); have HR2 := Lib.hid (HR2.out.later hl); have HB := Lib.hid (below_on HB.out hl); clear hl
            refine late_alloc rfl ?_; intro b3 wm N R
            have HD13 := Lib.hid (N.ne HR1.out)
            have HD23 := Lib.hid (N.ne HR2.out)
            have HG3 := Lib.hid (show w.heap.size ≤ b3 by have := HB.out.size; have := N.at_; omega)
            have hb := N.below
            have HRn := Lib.hid R
            clear N R
            refine hK.out _ _ hb ?_
            have HR1 := Lib.hid (HR1.out.later hb); have HR2 := Lib.hid (HR2.out.later hb); have HB := Lib.hid (below_on HB.out hb); clear hb
            have HR3 := HRn; clear HRn
            clear hK K
            simp only [Act.put, List.setIfInBounds_toArray, List.set_cons_zero, List.set_cons_succ]
            refine late_last 7 (by kernel_rfl) (by kernel_rfl) (by kernel_rfl) (fun o ho => ?_)
            simp only [List.getElem?_toArray, List.getElem?_cons_zero, List.getElem?_cons_succ, Option.some.injEq] at ho; subst ho
            refine ⟨by kernel_rfl, fun wn hl K hK => ?_⟩
            have HR1 := Lib.hid (HR1.out.later hl); have HR2 := Lib.hid (HR2.out.later hl); have HR3 := Lib.hid (HR3.out.later hl); have HB := Lib.hid (below_on HB.out hl); clear hl
            refine late_whole _ _ rfl b3 rfl _ (bk) rfl HR3.out ?_; intro wm U R
            have HR1 := Lib.hid (HR1.out.apart U HD13.out)
            have HR2 := Lib.hid (HR2.out.apart U HD23.out)
            have HR3 := Lib.hid R; have HB := Lib.hid (HB.out.trans (U.below HG3.out)); clear U R
            refine hK.out _ _ ?_
            clear hK K
            simp only [Act.put, List.setIfInBounds_toArray, List.set_cons_zero, List.set_cons_succ]
            have hcell := HR1.out.cell (1 + n) HI.out
            rw [HK.out] at hcell
            go_wp2_with (first | (refine step_cell rfl 5 _ _ rfl _ _ rfl _ _ rfl _ HR3.out HI.out HK.out size5 ?_; clear hcell; intro wn U R; have HR1 := Lib.hid (HR1.out.apart U HD13.out); have HR2 := Lib.hid (HR2.out.apart U HD23.out); have HR3 := Lib.hid R; have HB := Lib.hid (HB.out.trans (U.below HG3.out)); clear U R) | (refine step_load rfl _ rfl b3 rfl (_) HR3.out ?_) | (refine step_load rfl _ rfl b1 rfl (p) HR1.out ?_) | (refine step_same rfl _ _ rfl (_) (p) rfl rfl HWe.out HE.out ?_))
            go_ret
            exact ⟨rfl, HB.out⟩
          · simp only [List.getElem?_toArray, List.getElem?_cons_zero, List.getElem?_cons_succ, Option.some.injEq] at ho; subst ho
            refine ⟨by kernel_rfl, fun wn hl K hK => ?_⟩
            have HR1 := Lib.hid (HR1.out.later hl); have HR2 := Lib.hid (HR2.out.later hl); have HB := Lib.hid (below_on HB.out hl); clear hl
            refine late_alloc rfl ?_; intro b3 wm N R
            have HD13 := Lib.hid (N.ne HR1.out)
            have HD23 := Lib.hid (N.ne HR2.out)
            have HG3 := Lib.hid (show w.heap.size ≤ b3 by have := HB.out.size; have := N.at_; omega)
            have hb := N.below
            have HRn := Lib.hid R
            clear N R
            refine hK.out _ _ hb ?_
            have HR1 := Lib.hid (HR1.out.later hb); have HR2 := Lib.hid (HR2.out.later hb); have HB := Lib.hid (below_on HB.out hb); clear hb
            have HR3 := HRn; clear HRn
            clear hK K
            simp only [Act.put, List.setIfInBounds_toArray, List.set_cons_zero, List.set_cons_succ]
            refine late_one 5 (by kernel_rfl) (by kernel_rfl) (fun o ho => ?_)
            simp only [List.getElem?_toArray, List.getElem?_cons_zero, List.getElem?_cons_succ, Option.some.injEq] at ho; subst ho
            refine ⟨by kernel_rfl, fun wn hl K hK => ?_⟩
            have HR1 := Lib.hid (HR1.out.later hl); have HR2 := Lib.hid (HR2.out.later hl); have HR3 := Lib.hid (HR3.out.later hl); have HB := Lib.hid (below_on HB.out hl); clear hl
            refine wp_enter _ _ (by go_simp; exact ⟨rfl, rfl⟩) ?_
            refine (put_pos q _ _ _ y0 y1).mono ?_; rintro e wm ⟨rfl, hb⟩; refine ⟨_, rfl, ?_⟩
            rw [HPb.out]
            refine hK.out _ _ hb ?_
            have HR1 := Lib.hid (HR1.out.later hb); have HR2 := Lib.hid (HR2.out.later hb); have HR3 := Lib.hid (HR3.out.later hb); have HB := Lib.hid (below_on HB.out hb); clear hb
            clear hK K
            simp only [Act.put, List.setIfInBounds_toArray, List.set_cons_zero, List.set_cons_succ]
            refine late_last 7 (by kernel_rfl) (by kernel_rfl) (by kernel_rfl) (fun o ho => ?_)
            simp only [List.getElem?_toArray, List.getElem?_cons_zero, List.getElem?_cons_succ, Option.some.injEq] at ho; subst ho
            refine ⟨by kernel_rfl, fun wn hl K hK => ?_⟩
            have HR1 := Lib.hid (HR1.out.later hl); have HR2 := Lib.hid (HR2.out.later hl); have HR3 := Lib.hid (HR3.out.later hl); have HB := Lib.hid (below_on HB.out hl); clear hl
            refine late_whole _ _ rfl b3 rfl _ (bk) rfl HR3.out ?_; intro wm U R
            have HR1 := Lib.hid (HR1.out.apart U HD13.out)
            have HR2 := Lib.hid (HR2.out.apart U HD23.out)
            have HR3 := Lib.hid R; have HB := Lib.hid (HB.out.trans (U.below HG3.out)); clear U R
            refine hK.out _ _ ?_
            clear hK K
            simp only [Act.put, List.setIfInBounds_toArray, List.set_cons_zero, List.set_cons_succ]
            have hcell := HR1.out.cell (1 + n) HI.out
            rw [HK.out] at hcell
            go_wp2_with (first | (refine step_cell rfl 5 _ _ rfl _ _ rfl _ _ rfl _ HR3.out HI.out HK.out size5 ?_; clear hcell; intro wn U R; have HR1 := Lib.hid (HR1.out.apart U HD13.out); have HR2 := Lib.hid (HR2.out.apart U HD23.out); have HR3 := Lib.hid R; have HB := Lib.hid (HB.out.trans (U.below HG3.out)); clear U R) | (refine step_load rfl _ rfl b3 rfl (_) HR3.out ?_) | (refine step_load rfl _ rfl b1 rfl (p) HR1.out ?_) | (refine step_same rfl _ _ rfl (_) (p) rfl rfl HWe.out HE.out ?_))
            go_ret
            exact ⟨rfl, HB.out⟩
        · simp only [List.getElem?_toArray, List.getElem?_cons_zero, List.getElem?_cons_succ, Option.some.injEq] at ho; subst ho
          refine ⟨by kernel_rfl, fun wn hl K hK => ?_⟩
          have HR1 := Lib.hid (HR1.out.later hl); have HR2 := Lib.hid (HR2.out.later hl); have HB := Lib.hid (below_on HB.out hl); clear hl
          refine late_alloc rfl ?_; intro b3 wm N R
          have HD13 := Lib.hid (N.ne HR1.out)
          have HD23 := Lib.hid (N.ne HR2.out)
          have HG3 := Lib.hid (show w.heap.size ≤ b3 by have := HB.out.size; have := N.at_; omega)
          have hb := N.below
          have HRn := Lib.hid R
          clear N R
          refine hK.out _ _ hb ?_
          have HR1 := Lib.hid (HR1.out.later hb); have HR2 := Lib.hid (HR2.out.later hb); have HB := Lib.hid (below_on HB.out hb); clear hb
          have HR3 := HRn; clear HRn
          clear hK K
          simp only [Act.put, List.setIfInBounds_toArray, List.set_cons_zero, List.set_cons_succ]
          refine late_one 4 (by kernel_rfl) (by kernel_rfl) (fun o ho => ?_)
          simp only [List.getElem?_toArray, List.getElem?_cons_zero, List.getElem?_cons_succ, Option.some.injEq] at ho; subst ho
          refine ⟨by kernel_rfl, fun wn hl K hK => ?_⟩
          have HR1 := Lib.hid (HR1.out.later hl); have HR2 := Lib.hid (HR2.out.later hl); have HR3 := Lib.hid (HR3.out.later hl); have HB := Lib.hid (below_on HB.out hl); clear hl
          refine wp_enter _ _ (by go_simp; exact ⟨rfl, rfl⟩) ?_
          refine (at_any p _ _ HP.out.bd).mono ?_; rintro e wm ⟨rfl, hb⟩; refine ⟨_, rfl, ?_⟩
          rw [HY.out]
          refine hK.out _ _ hb ?_
          have HR1 := Lib.hid (HR1.out.later hb); have HR2 := Lib.hid (HR2.out.later hb); have HR3 := Lib.hid (HR3.out.later hb); have HB := Lib.hid (below_on HB.out hb); clear hb
          clear hK K
          simp only [Act.put, List.setIfInBounds_toArray, List.set_cons_zero, List.set_cons_succ]
          refine late_one 5 (by kernel_rfl) (by kernel_rfl) (fun o ho => ?_)
          simp only [List.getElem?_toArray, List.getElem?_cons_zero, List.getElem?_cons_succ, Option.some.injEq] at ho; subst ho
          refine ⟨by kernel_rfl, fun wn hl K hK => ?_⟩
          have HR1 := Lib.hid (HR1.out.later hl); have HR2 := Lib.hid (HR2.out.later hl); have HR3 := Lib.hid (HR3.out.later hl); have HB := Lib.hid (below_on HB.out hl); clear hl
          refine wp_enter _ _ (by go_simp; exact ⟨rfl, rfl⟩) ?_
          refine (put_pos q _ _ _ y0 y1).mono ?_; rintro e wm ⟨rfl, hb⟩; refine ⟨_, rfl, ?_⟩
          rw [HPb.out]
          refine hK.out _ _ hb ?_
          have HR1 := Lib.hid (HR1.out.later hb); have HR2 := Lib.hid (HR2.out.later hb); have HR3 := Lib.hid (HR3.out.later hb); have HB := Lib.hid (below_on HB.out hb); clear hb
          clear hK K
          simp only [Act.put, List.setIfInBounds_toArray, List.set_cons_zero, List.set_cons_succ]
          refine late_last 7 (by kernel_rfl) (by kernel_rfl) (by kernel_rfl) (fun o ho => ?_)
          simp only [List.getElem?_toArray, List.getElem?_cons_zero, List.getElem?_cons_succ, Option.some.injEq] at ho; subst ho
          refine ⟨by kernel_rfl, fun wn hl K hK => ?_⟩
          have HR1 := Lib.hid (HR1.out.later hl); have HR2 := Lib.hid (HR2.out.later hl); have HR3 := Lib.hid (HR3.out.later hl); have HB := Lib.hid (below_on HB.out hl); clear hl
          refine late_whole _ _ rfl b3 rfl _ (bk) rfl HR3.out ?_; intro wm U R
          have HR1 := Lib.hid (HR1.out.apart U HD13.out)
          have HR2 := Lib.hid (HR2.out.apart U HD23.out)
          have HR3 := Lib.hid R; have HB := Lib.hid (HB.out.trans (U.below HG3.out)); clear U R
          refine hK.out _ _ ?_
          clear hK K
          simp only [Act.put, List.setIfInBounds_toArray, List.set_cons_zero, List.set_cons_succ]
          have hcell := HR1.out.cell (1 + n) HI.out
          rw [HK.out] at hcell
          go_wp2_with (first | (refine step_cell rfl 5 _ _ rfl _ _ rfl _ _ rfl _ HR3.out HI.out HK.out size5 ?_; clear hcell; intro wn U R; have HR1 := Lib.hid (HR1.out.apart U HD13.out); have HR2 := Lib.hid (HR2.out.apart U HD23.out); have HR3 := Lib.hid R; have HB := Lib.hid (HB.out.trans (U.below HG3.out)); clear U R) | (refine step_load rfl _ rfl b3 rfl (_) HR3.out ?_) | (refine step_load rfl _ rfl b1 rfl (p) HR1.out ?_) | (refine step_same rfl _ _ rfl (_) (p) rfl rfl HWe.out HE.out ?_))
          go_ret
          exact ⟨rfl, HB.out⟩
    · have dne : (a2 != (n : Int)) = true := by simpa using hne
      cases hpc : pcB a3
      · obtain rfl : a3 = 0 := by unfold mayB at hm; rw [hpc] at hm; simpa using hm
        go_wp2_with (first | (refine step_alloc (op := ⟨some 9, _, _, _, _, _⟩) rfl rfl ?_; intro b2 wn N R; have HD12 := Lib.hid (N.ne HR1.out); have HR1 := Lib.hid (N.row HR1.out); have HR2 := Lib.hid R; have HG2 := Lib.hid (show w.heap.size ≤ b2 by have := HB.out.size; have := N.at_; omega); have HB := Lib.hid (below_on HB.out N.below); clear N R) | (refine step_store rfl _ _ rfl _ rfl _ (q) rfl HR2.out ?_; intro wn U R; have HR1 := Lib.hid (HR1.out.apart U HD12.out); have HR2 := Lib.hid R; have HB := Lib.hid (HB.out.trans (U.below HG2.out)); clear U R))
        refine late_begin 34 (by kernel_rfl) ?_
        refine late_take 0 (by kernel_rfl) (by kernel_rfl) (by kernel_rfl) (by kernel_rfl) (by kernel_rfl) (fun _ _ d _ _ h => by cases d <;> exact h) (fun o ho => ?_)
        simp only [List.getElem?_toArray, List.getElem?_cons_zero, List.getElem?_cons_succ, Option.some.injEq] at ho; subst ho
        refine ⟨_, Or.inl ⟨by kernel_rfl, fun w' hl => Or.inl (run_load _ rfl _ rfl (q) (HR2.out.later hl))⟩, ?_⟩
        simp only [Act.put, List.setIfInBounds_toArray, List.set_cons_zero, List.set_cons_succ]
        refine late_take 1 (by kernel_rfl) (by kernel_rfl) (by kernel_rfl) (by kernel_rfl) (by kernel_rfl) (fun _ _ d _ _ h => by cases d <;> exact h) (fun o ho => ?_)
        simp only [List.getElem?_toArray, List.getElem?_cons_zero, List.getElem?_cons_succ, Option.some.injEq] at ho; subst ho
        apply Exists.intro
        refine ⟨Or.inl ⟨by kernel_rfl, fun w' hl => Or.inl ?_⟩, ?_⟩
        · (go_simp; try with_reducible rfl)
        simp only [Act.put, List.setIfInBounds_toArray, List.set_cons_zero, List.set_cons_succ]
        refine late_take 3 (by kernel_rfl) (by kernel_rfl) (by kernel_rfl) (by kernel_rfl) (by kernel_rfl) (fun _ _ d _ _ h => by cases d <;> exact h) (fun o ho => ?_)
        simp only [List.getElem?_toArray, List.getElem?_cons_zero, List.getElem?_cons_succ, Option.some.injEq] at ho; subst ho
        apply Exists.intro
        refine ⟨Or.inl ⟨by kernel_rfl, fun w' hl => Or.inl ?_⟩, ?_⟩
        · (go_simp; try with_reducible rfl)
        simp only [Act.put, List.setIfInBounds_toArray, List.set_cons_zero, List.set_cons_succ]
        refine late_one 2 (by kernel_rfl) (by kernel_rfl) (fun o ho => ?_)
        simp only [List.getElem?_toArray, List.getElem?_cons_zero, List.getElem?_cons_succ, Option.some.injEq] at ho; subst ho
        refine ⟨by kernel_rfl, fun wn hl K hK => ?_⟩
        have HR1 := Lib.hid (HR1.out.later hl); have HR2 := Lib.hid (HR2.out.later hl); have HB := Lib.hid (below_on HB.out hl); clear hl
        refine wp_enter _ _ (by go_simp; exact ⟨rfl, rfl⟩) ?_
        refine (at_any q _ _ HWq.out.R.bd).mono ?_; rintro e wm ⟨rfl, hb⟩; refine ⟨_, rfl, ?_⟩
        rw [HQn.out]
        refine hK.out _ _ hb ?_
        have HR1 := Lib.hid (HR1.out.later hb); have HR2 := Lib.hid (HR2.out.later hb); have HB := Lib.hid (below_on HB.out hb); clear hb
        clear hK K
        simp only [Act.put, List.setIfInBounds_toArray, List.set_cons_zero, List.set_cons_succ]
        refine late_take 4 (by kernel_rfl) (by kernel_rfl) (by kernel_rfl) (by kernel_rfl) (by kernel_rfl) (fun _ _ d _ _ h => by cases d <;> exact h) (fun o ho => ?_)
        simp only [List.getElem?_toArray, List.getElem?_cons_zero, List.getElem?_cons_succ, Option.some.injEq] at ho; subst ho
        apply Exists.intro
        refine ⟨Or.inl ⟨by kernel_rfl, fun w' hl => Or.inl ?_⟩, ?_⟩
        · (go_simp; try with_reducible rfl)
        simp only [Act.put, List.setIfInBounds_toArray, List.set_cons_zero, List.set_cons_succ]
        refine late_take 5 (by kernel_rfl) (by kernel_rfl) (by kernel_rfl) (by kernel_rfl) (by kernel_rfl) (fun _ _ d _ _ h => by cases d <;> exact h) (fun o ho => ?_)
        simp only [List.getElem?_toArray, List.getElem?_cons_zero, List.getElem?_cons_succ, Option.some.injEq] at ho; subst ho
        apply Exists.intro
        refine ⟨Or.inl ⟨by kernel_rfl, fun w' hl => Or.inl ?_⟩, ?_⟩
        · (go_simp; try with_reducible rfl)
        simp only [Act.put, List.setIfInBounds_toArray, List.set_cons_zero, List.set_cons_succ]
        refine late_take 6 (by kernel_rfl) (by kernel_rfl) (by kernel_rfl) (by kernel_rfl) (by kernel_rfl) (fun _ _ d _ _ h => by cases d <;> exact h) (fun o ho => ?_)
        simp only [List.getElem?_toArray, List.getElem?_cons_zero, List.getElem?_cons_succ, Option.some.injEq] at ho; subst ho
        apply Exists.intro
        refine ⟨Or.inl ⟨by kernel_rfl, fun w' hl => Or.inl ?_⟩, ?_⟩
        · (go_simp; try with_reducible rfl)
        simp only [Act.put, List.setIfInBounds_toArray, List.set_cons_zero, List.set_cons_succ]
        refine late_take 7 (by kernel_rfl) (by kernel_rfl) (by kernel_rfl) (by kernel_rfl) (by kernel_rfl) (fun _ _ d _ _ h => by cases d <;> exact h) (fun o ho => ?_)
        simp only [List.getElem?_toArray, List.getElem?_cons_zero, List.getElem?_cons_succ, Option.some.injEq] at ho; subst ho
        apply Exists.intro
        refine ⟨Or.inl ⟨by kernel_rfl, fun w' hl => Or.inl ?_⟩, ?_⟩
        · (go_simp; try with_reducible rfl)
        simp only [Act.put, List.setIfInBounds_toArray, List.set_cons_zero, List.set_cons_succ]
        refine late_take 8 (by kernel_rfl) (by kernel_rfl) (by kernel_rfl) (by kernel_rfl) (by kernel_rfl) (fun _ _ d _ _ h => by cases d <;> exact h) (fun o ho => ?_)
        simp only [List.getElem?_toArray, List.getElem?_cons_zero, List.getElem?_cons_succ, Option.some.injEq] at ho; subst ho
        apply Exists.intro
        refine ⟨Or.inl ⟨by kernel_rfl, fun w' hl => Or.inl ?_⟩, ?_⟩
        · (go_simp; try with_reducible rfl)
        simp only [Act.put, List.setIfInBounds_toArray, List.set_cons_zero, List.set_cons_succ]
        refine late_take 9 (by kernel_rfl) (by kernel_rfl) (by kernel_rfl) (by kernel_rfl) (by kernel_rfl) (fun _ _ d _ _ h => by cases d <;> exact h) (fun o ho => ?_)
        simp only [List.getElem?_toArray, List.getElem?_cons_zero, List.getElem?_cons_succ, Option.some.injEq] at ho; subst ho
        apply Exists.intro
        refine ⟨Or.inl ⟨by kernel_rfl, fun w' hl => Or.inl ?_⟩, ?_⟩
        · (go_simp; try with_reducible rfl)
        simp only [Act.put, List.setIfInBounds_toArray, List.set_cons_zero, List.set_cons_succ]
        refine late_take 10 (by kernel_rfl) (by kernel_rfl) (by kernel_rfl) (by kernel_rfl) (by kernel_rfl) (fun _ _ d _ _ h => by cases d <;> exact h) (fun o ho => ?_)
        simp only [List.getElem?_toArray, List.getElem?_cons_zero, List.getElem?_cons_succ, Option.some.injEq] at ho; subst ho
        refine ⟨_, Or.inl ⟨by kernel_rfl, fun w' hl => Or.inl (run_load _ rfl _ rfl (q) (HR2.out.later hl))⟩, ?_⟩
        simp only [Act.put, List.setIfInBounds_toArray, List.set_cons_zero, List.set_cons_succ]
        refine late_take 11 (by kernel_rfl) (by kernel_rfl) (by kernel_rfl) (by kernel_rfl) (by kernel_rfl) (fun _ _ d _ _ h => by cases d <;> exact h) (fun o ho => ?_)
        simp only [List.getElem?_toArray, List.getElem?_cons_zero, List.getElem?_cons_succ, Option.some.injEq] at ho; subst ho
        apply Exists.intro
        refine ⟨Or.inl ⟨by kernel_rfl, fun w' hl => Or.inl ?_⟩, ?_⟩
        · (go_simp; try with_reducible rfl)
        simp only [Act.put, List.setIfInBounds_toArray, List.set_cons_zero, List.set_cons_succ]
        refine late_take 13 (by kernel_rfl) (by kernel_rfl) (by kernel_rfl) (by kernel_rfl) (by kernel_rfl) (fun _ _ d _ _ h => by cases d <;> exact h) (fun o ho => ?_)
        simp only [List.getElem?_toArray, List.getElem?_cons_zero, List.getElem?_cons_succ, Option.some.injEq] at ho; subst ho
        refine ⟨_, Or.inl ⟨by kernel_rfl, fun w' hl => Or.inl (run_load _ rfl _ rfl (p) (HR1.out.later hl))⟩, ?_⟩
        simp only [Act.put, List.setIfInBounds_toArray, List.set_cons_zero, List.set_cons_succ]
        refine late_take 14 (by kernel_rfl) (by kernel_rfl) (by kernel_rfl) (by kernel_rfl) (by kernel_rfl) (fun _ _ d _ _ h => by cases d <;> exact h) (fun o ho => ?_)
        simp only [List.getElem?_toArray, List.getElem?_cons_zero, List.getElem?_cons_succ, Option.some.injEq] at ho; subst ho
        apply Exists.intro
        refine ⟨Or.inl ⟨by kernel_rfl, fun w' hl => Or.inl ?_⟩, ?_⟩
        · (go_simp; try with_reducible rfl)
        simp only [Act.put, List.setIfInBounds_toArray, List.set_cons_zero, List.set_cons_succ]
        refine late_one 12 (by kernel_rfl) (by kernel_rfl) (fun o ho => ?_)
        simp only [List.getElem?_toArray, List.getElem?_cons_zero, List.getElem?_cons_succ, Option.some.injEq] at ho; subst ho
        refine ⟨by kernel_rfl, fun wn hl K hK => ?_⟩
        have HR1 := Lib.hid (HR1.out.later hl); have HR2 := Lib.hid (HR2.out.later hl); have HB := Lib.hid (below_on HB.out hl); clear hl
        refine wp_enter _ _ (by go_simp; exact ⟨rfl, rfl⟩) ?_
        refine (at_any q _ _ HWq.out.R.bd).mono ?_; rintro e wm ⟨rfl, hb⟩; refine ⟨_, rfl, ?_⟩
        rw [HQo.out _ hne]
        refine hK.out _ _ hb ?_
        have HR1 := Lib.hid (HR1.out.later hb); have HR2 := Lib.hid (HR2.out.later hb); have HB := Lib.hid (below_on HB.out hb); clear hb
        clear hK K
        simp only [Act.put, List.setIfInBounds_toArray, List.set_cons_zero, List.set_cons_succ]
        refine late_one 15 (by kernel_rfl) (by kernel_rfl) (fun o ho => ?_)
        simp only [List.getElem?_toArray, List.getElem?_cons_zero, List.getElem?_cons_succ, Option.some.injEq] at ho; subst ho
        refine ⟨by kernel_rfl, fun wn hl K hK => ?_⟩
        have HR1 := Lib.hid (HR1.out.later hl); have HR2 := Lib.hid (HR2.out.later hl); have HB := Lib.hid (below_on HB.out hl); clear hl
        refine wp_enter _ _ (by go_simp; exact ⟨rfl, rfl⟩) ?_
        refine (at_any p _ _ HP.out.bd).mono ?_; rintro e wm ⟨rfl, hb⟩; refine ⟨_, rfl, ?_⟩
        refine hK.out _ _ hb ?_
        have HR1 := Lib.hid (HR1.out.later hb); have HR2 := Lib.hid (HR2.out.later hb); have HB := Lib.hid (below_on HB.out hb); clear hb
        clear hK K
        simp only [Act.put, List.setIfInBounds_toArray, List.set_cons_zero, List.set_cons_succ]
        refine late_take 16 (by kernel_rfl) (by kernel_rfl) (by kernel_rfl) (by kernel_rfl) (by kernel_rfl) (fun _ _ d _ _ h => by cases d <;> exact h) (fun o ho => ?_)
        simp only [List.getElem?_toArray, List.getElem?_cons_zero, List.getElem?_cons_succ, Option.some.injEq] at ho; subst ho
        apply Exists.intro
        refine ⟨Or.inl ⟨by kernel_rfl, fun w' hl => Or.inl ?_⟩, ?_⟩
        · (go_simp; try with_reducible rfl)
        simp only [Act.put, List.setIfInBounds_toArray, List.set_cons_zero, List.set_cons_succ]
        refine late_take 17 (by kernel_rfl) (by kernel_rfl) (by kernel_rfl) (by kernel_rfl) (by kernel_rfl) (fun _ _ d _ _ h => by cases d <;> exact h) (fun o ho => ?_)
        simp only [List.getElem?_toArray, List.getElem?_cons_zero, List.getElem?_cons_succ, Option.some.injEq] at ho; subst ho
        apply Exists.intro
        refine ⟨Or.inl ⟨by kernel_rfl, fun w' hl => Or.inl ?_⟩, ?_⟩
        · (go_simp; try with_reducible rfl)
        simp only [Act.put, List.setIfInBounds_toArray, List.set_cons_zero, List.set_cons_succ]
        refine late_take 18 (by kernel_rfl) (by kernel_rfl) (by kernel_rfl) (by kernel_rfl) (by kernel_rfl) (fun _ _ d _ _ h => by cases d <;> exact h) (fun o ho => ?_)
        simp only [List.getElem?_toArray, List.getElem?_cons_zero, List.getElem?_cons_succ, Option.some.injEq] at ho; subst ho
        apply Exists.intro
        refine ⟨Or.inl ⟨by kernel_rfl, fun w' hl => Or.inl ?_⟩, ?_⟩
        · (go_simp; try with_reducible rfl)
        simp only [Act.put, List.setIfInBounds_toArray, List.set_cons_zero, List.set_cons_succ]
        refine late_take 19 (by kernel_rfl) (by kernel_rfl) (by kernel_rfl) (by kernel_rfl) (by kernel_rfl) (fun _ _ d _ _ h => by cases d <;> exact h) (fun o ho => ?_)
        simp only [List.getElem?_toArray, List.getElem?_cons_zero, List.getElem?_cons_succ, Option.some.injEq] at ho; subst ho
        apply Exists.intro
        refine ⟨Or.inl ⟨by kernel_rfl, fun w' hl => Or.inl ?_⟩, ?_⟩
        · (go_simp; try with_reducible rfl)
        simp only [Act.put, List.setIfInBounds_toArray, List.set_cons_zero, List.set_cons_succ]
        refine late_take 20 (by kernel_rfl) (by kernel_rfl) (by kernel_rfl) (by kernel_rfl) (by kernel_rfl) (fun _ _ d _ _ h => by cases d <;> exact h) (fun o ho => ?_)
        simp only [List.getElem?_toArray, List.getElem?_cons_zero, List.getElem?_cons_succ, Option.some.injEq] at ho; subst ho
        apply Exists.intro
        refine ⟨Or.inl ⟨by kernel_rfl, fun w' hl => Or.inl ?_⟩, ?_⟩
        · (go_simp; try with_reducible rfl)
        simp only [Act.put, List.setIfInBounds_toArray, List.set_cons_zero, List.set_cons_succ]
        refine late_take 21 (by kernel_rfl) (by kernel_rfl) (by kernel_rfl) (by kernel_rfl) (by kernel_rfl) (fun _ _ d _ _ h => by cases d <;> exact h) (fun o ho => ?_)
        simp only [List.getElem?_toArray, List.getElem?_cons_zero, List.getElem?_cons_succ, Option.some.injEq] at ho; subst ho
        apply Exists.intro
        refine ⟨Or.inl ⟨by kernel_rfl, fun w' hl => Or.inl ?_⟩, ?_⟩
        · (go_simp; try with_reducible rfl)
        simp only [Act.put, List.setIfInBounds_toArray, List.set_cons_zero, List.set_cons_succ]
        refine late_take 22 (by kernel_rfl) (by kernel_rfl) (by kernel_rfl) (by kernel_rfl) (by kernel_rfl) (fun _ _ d _ _ h => by cases d <;> exact h) (fun o ho => ?_)
        simp only [List.getElem?_toArray, List.getElem?_cons_zero, List.getElem?_cons_succ, Option.some.injEq] at ho; subst ho
        apply Exists.intro
        refine ⟨Or.inl ⟨by kernel_rfl, fun w' hl => Or.inl ?_⟩, ?_⟩
        · (go_simp; try with_reducible rfl)
        simp only [Act.put, List.setIfInBounds_toArray, List.set_cons_zero, List.set_cons_succ]
        refine late_take 23 (by kernel_rfl) (by kernel_rfl) (by kernel_rfl) (by kernel_rfl) (by kernel_rfl) (fun _ _ d _ _ h => by cases d <;> exact h) (fun o ho => ?_)
        simp only [List.getElem?_toArray, List.getElem?_cons_zero, List.getElem?_cons_succ, Option.some.injEq] at ho; subst ho
        refine ⟨_, Or.inr ⟨by kernel_rfl, rfl⟩, ?_⟩
        simp only [Act.put, List.setIfInBounds_toArray, List.set_cons_zero, List.set_cons_succ]
        refine late_take 24 (by kernel_rfl) (by kernel_rfl) (by kernel_rfl) (by kernel_rfl) (by kernel_rfl) (fun _ _ d _ _ h => by cases d <;> exact h) (fun o ho => ?_)
        simp only [List.getElem?_toArray, List.getElem?_cons_zero, List.getElem?_cons_succ, Option.some.injEq] at ho; subst ho
        refine ⟨_, Or.inr ⟨by kernel_rfl, rfl⟩, ?_⟩
        simp only [Act.put, List.setIfInBounds_toArray, List.set_cons_zero, List.set_cons_succ]
        refine late_take 25 (by kernel_rfl) (by kernel_rfl) (by kernel_rfl) (by kernel_rfl) (by kernel_rfl) (fun _ _ d _ _ h => by cases d <;> exact h) (fun o ho => ?_)
        simp only [List.getElem?_toArray, List.getElem?_cons_zero, List.getElem?_cons_succ, Option.some.injEq] at ho; subst ho
        refine ⟨_, Or.inr ⟨by kernel_rfl, rfl⟩, ?_⟩
        simp only [Act.put, List.setIfInBounds_toArray, List.set_cons_zero, List.set_cons_succ]
        refine late_take 26 (by kernel_rfl) (by kernel_rfl) (by kernel_rfl) (by kernel_rfl) (by kernel_rfl) (fun _ _ d _ _ h => by cases d <;> exact h) (fun o ho => ?_)
        simp only [List.getElem?_toArray, List.getElem?_cons_zero, List.getElem?_cons_succ, Option.some.injEq] at ho; subst ho
        refine ⟨_, Or.inr ⟨by kernel_rfl, rfl⟩, ?_⟩
        simp only [Act.put, List.setIfInBounds_toArray, List.set_cons_zero, List.set_cons_succ]
        refine late_take 27 (by kernel_rfl) (by kernel_rfl) (by kernel_rfl) (by kernel_rfl) (by kernel_rfl) (fun _ _ d _ _ h => by cases d <;> exact h) (fun o ho => ?_)
        simp only [List.getElem?_toArray, List.getElem?_cons_zero, List.getElem?_cons_succ, Option.some.injEq] at ho; subst ho
        refine ⟨_, Or.inr ⟨by kernel_rfl, rfl⟩, ?_⟩
        simp only [Act.put, List.setIfInBounds_toArray, List.set_cons_zero, List.set_cons_succ]
        refine late_take 28 (by kernel_rfl) (by kernel_rfl) (by kernel_rfl) (by kernel_rfl) (by kernel_rfl) (fun _ _ d _ _ h => by cases d <;> exact h) (fun o ho => ?_)
        simp only [List.getElem?_toArray, List.getElem?_cons_zero, List.getElem?_cons_succ, Option.some.injEq] at ho; subst ho
        refine ⟨_, Or.inr ⟨by kernel_rfl, rfl⟩, ?_⟩
        simp only [Act.put, List.setIfInBounds_toArray, List.set_cons_zero, List.set_cons_succ]
        refine late_take 29 (by kernel_rfl) (by kernel_rfl) (by kernel_rfl) (by kernel_rfl) (by kernel_rfl) (fun _ _ d _ _ h => by cases d <;> exact h) (fun o ho => ?_)
        simp only [List.getElem?_toArray, List.getElem?_cons_zero, List.getElem?_cons_succ, Option.some.injEq] at ho; subst ho
        refine ⟨_, Or.inr ⟨by kernel_rfl, rfl⟩, ?_⟩
        simp only [Act.put, List.setIfInBounds_toArray, List.set_cons_zero, List.set_cons_succ]
        refine late_take 30 (by kernel_rfl) (by kernel_rfl) (by kernel_rfl) (by kernel_rfl) (by kernel_rfl) (fun _ _ d _ _ h => by cases d <;> exact h) (fun o ho => ?_)
        simp only [List.getElem?_toArray, List.getElem?_cons_zero, List.getElem?_cons_succ, Option.some.injEq] at ho; subst ho
        refine ⟨_, Or.inr ⟨by kernel_rfl, rfl⟩, ?_⟩
        simp only [Act.put, List.setIfInBounds_toArray, List.set_cons_zero, List.set_cons_succ]
        refine late_take 31 (by kernel_rfl) (by kernel_rfl) (by kernel_rfl) (by kernel_rfl) (by kernel_rfl) (fun _ _ d _ _ h => by cases d <;> exact h) (fun o ho => ?_)
        simp only [List.getElem?_toArray, List.getElem?_cons_zero, List.getElem?_cons_succ, Option.some.injEq] at ho; subst ho
        refine ⟨_, Or.inr ⟨by kernel_rfl, rfl⟩, ?_⟩
        simp only [Act.put, List.setIfInBounds_toArray, List.set_cons_zero, List.set_cons_succ]
        refine late_take 32 (by kernel_rfl) (by kernel_rfl) (by kernel_rfl) (by kernel_rfl) (by kernel_rfl) (fun _ _ d _ _ h => by cases d <;> exact h) (fun o ho => ?_)
        simp only [List.getElem?_toArray, List.getElem?_cons_zero, List.getElem?_cons_succ, Option.some.injEq] at ho; subst ho
        apply Exists.intro
        refine ⟨Or.inl ⟨by kernel_rfl, fun w' hl => Or.inl ?_⟩, ?_⟩
        · (go_simp; try with_reducible rfl)
        simp only [Act.put, List.setIfInBounds_toArray, List.set_cons_zero, List.set_cons_succ]
        refine late_take 33 (by kernel_rfl) (by kernel_rfl) (by kernel_rfl) (by kernel_rfl) (by kernel_rfl) (fun _ _ d _ _ h => by cases d <;> exact h) (fun o ho => ?_)
        simp only [List.getElem?_toArray, List.getElem?_cons_zero, List.getElem?_cons_succ, Option.some.injEq] at ho; subst ho
        apply Exists.intro
        refine ⟨Or.inl ⟨by kernel_rfl, fun w' hl => Or.inl ?_⟩, ?_⟩
        · (go_simp; try with_reducible rfl)
        simp only [Act.put, List.setIfInBounds_toArray, List.set_cons_zero, List.set_cons_succ]
        refine late_end (by kernel_rfl) (fun wn hl => ?_)
        have HR1 := Lib.hid (HR1.out.later hl); have HR2 := Lib.hid (HR2.out.later hl); have HB := Lib.hid (below_on HB.out hl); clear hl
        go_wp2_with fail
        refine late_begin 7 (by kernel_rfl) ?_
        refine late_take 0 (by kernel_rfl) (by kernel_rfl) (by kernel_rfl) (by kernel_rfl) (by kernel_rfl) (fun _ _ d _ _ h => by cases d <;> exact h) (fun o ho => ?_)
        simp only [List.getElem?_toArray, List.getElem?_cons_zero, List.getElem?_cons_succ, Option.some.injEq] at ho; subst ho
        refine ⟨_, Or.inl ⟨by kernel_rfl, fun w' hl => Or.inl (run_load _ rfl _ rfl (q) (HR2.out.later hl))⟩, ?_⟩
        simp only [Act.put, List.setIfInBounds_toArray, List.set_cons_zero, List.set_cons_succ]
        refine late_take 1 (by kernel_rfl) (by kernel_rfl) (by kernel_rfl) (by kernel_rfl) (by kernel_rfl) (fun _ _ d _ _ h => by cases d <;> exact h) (fun o ho => ?_)
        simp only [List.getElem?_toArray, List.getElem?_cons_zero, List.getElem?_cons_succ, Option.some.injEq] at ho; subst ho
        apply Exists.intro
        refine ⟨Or.inl ⟨by kernel_rfl, fun w' hl => Or.inl ?_⟩, ?_⟩
        · (go_simp; try with_reducible rfl)
        simp only [Act.put, List.setIfInBounds_toArray, List.set_cons_zero, List.set_cons_succ]
        refine late_take 2 (by kernel_rfl) (by kernel_rfl) (by kernel_rfl) (by kernel_rfl) (by kernel_rfl) (fun _ _ d _ _ h => by cases d <;> exact h) (fun o ho => ?_)
        simp only [List.getElem?_toArray, List.getElem?_cons_zero, List.getElem?_cons_succ, Option.some.injEq] at ho; subst ho
        refine ⟨_, Or.inl ⟨by kernel_rfl, fun w' hl => Or.inl (run_load _ rfl _ rfl (p) (HR1.out.later hl))⟩, ?_⟩
        simp only [Act.put, List.setIfInBounds_toArray, List.set_cons_zero, List.set_cons_succ]
        refine late_take 3 (by kernel_rfl) (by kernel_rfl) (by kernel_rfl) (by kernel_rfl) (by kernel_rfl) (fun _ _ d _ _ h => by cases d <;> exact h) (fun o ho => ?_)
        simp only [List.getElem?_toArray, List.getElem?_cons_zero, List.getElem?_cons_succ, Option.some.injEq] at ho; subst ho
        apply Exists.intro
        refine ⟨Or.inl ⟨by kernel_rfl, fun w' hl => Or.inl ?_⟩, ?_⟩
        · (go_simp; try with_reducible rfl)
        simp only [Act.put, List.setIfInBounds_toArray, List.set_cons_zero, List.set_cons_succ]
        refine late_fork 4 6 (by kernel_rfl) (by kernel_rfl) (by kernel_rfl) (fun o ho => ?_) (fun o ho => ?_)
        · simp only [List.getElem?_toArray, List.getElem?_cons_zero, List.getElem?_cons_succ, Option.some.injEq] at ho; subst ho
          refine ⟨by kernel_rfl, fun wn hl K hK => ?_⟩
          have HR1 := Lib.hid (HR1.out.later hl); have HR2 := Lib.hid (HR2.out.later hl); have HB := Lib.hid (below_on HB.out hl); clear hl
          refine wp_enter _ _ (by go_simp; exact ⟨rfl, rfl⟩) ?_
          refine (at_any p _ _ HP.out.bd).mono ?_; rintro e wm ⟨rfl, hb⟩; refine ⟨_, rfl, ?_⟩
          rw [HY.out]
          refine hK.out _ _ hb ?_
          have HR1 := Lib.hid (HR1.out.later hb); have HR2 := Lib.hid (HR2.out.later hb); have HB := Lib.hid (below_on HB.out hb); clear hb
          clear hK K
          simp only [Act.put, List.setIfInBounds_toArray, List.set_cons_zero, List.set_cons_succ]
          refine late_fork 5 6 (by kernel_rfl) (by kernel_rfl) (by kernel_rfl) (fun o ho => ?_) (fun o ho => ?_)
          · simp only [List.getElem?_toArray, List.getElem?_cons_zero, List.getElem?_cons_succ, Option.some.injEq] at ho; subst ho
            refine ⟨by kernel_rfl, fun wn hl K hK => ?_⟩
            have HR1 := Lib.hid (HR1.out.later hl); have HR2 := Lib.hid (HR2.out.later hl); have HB := Lib.hid (below_on HB.out hl); clear hl
            refine wp_enter _ _ (by go_simp; exact ⟨rfl, rfl⟩) ?_
            refine (put_pos q _ _ _ y0 y1).mono ?_; rintro e wm ⟨rfl, hb⟩; refine ⟨_, rfl, ?_⟩
            rw [HPb.out]
            refine hK.out _ _ hb ?_
            have HR1 := Lib.hid (HR1.out.later hb); have HR2 := Lib.hid (HR2.out.later hb); have HB := Lib.hid (below_on HB.out hb); clear hb
            clear hK K
            simp only [Act.put, List.setIfInBounds_toArray, List.set_cons_zero, List.set_cons_succ]
            refine late_one 6 (by kernel_rfl) (by kernel_rfl) (fun o ho => ?_)
            simp only [List.getElem?_toArray, List.getElem?_cons_zero, List.getElem?_cons_succ, Option.some.injEq] at ho; subst ho
            refine ⟨by kernel_rfl, fun wn hl K hK => ?_⟩
            have HR1 := Lib.hid (HR1.out.later hl); have HR2 := Lib.hid (HR2.out.later hl); have HB := Lib.hid (below_on HB.out hl); clear hl
            refine late_alloc rfl ?_; intro b3 wm N R
            have HD13 := Lib.hid (N.ne HR1.out)
            have HD23 := Lib.hid (N.ne HR2.out)
            have HG3 := Lib.hid (show w.heap.size ≤ b3 by have := HB.out.size; have := N.at_; omega)
            have hb := N.below
            have HRn := Lib.hid R
            clear N R
            refine hK.out _ _ hb ?_
            have HR1 := Lib.hid (HR1.out.later hb); have HR2 := Lib.hid (HR2.out.later hb); have HB := Lib.hid (below_on HB.out hb); clear hb
            have HR3 := HRn; clear HRn
            clear hK K
            simp only [Act.put, List.setIfInBounds_toArray, List.set_cons_zero, List.set_cons_succ]
            refine late_last 7 (by kernel_rfl) (by kernel_rfl) (by kernel_rfl) (fun o ho => ?_)
            simp only [List.getElem?_toArray, List.getElem?_cons_zero, List.getElem?_cons_succ, Option.some.injEq] at ho; subst ho
            refine ⟨by kernel_rfl, fun wn hl K hK => ?_⟩
            have HR1 := Lib.hid (HR1.out.later hl); have HR2 := Lib.hid (HR2.out.later hl); have HR3 := Lib.hid (HR3.out.later hl); have HB := Lib.hid (below_on HB.out hl); clear hl
            refine late_whole _ _ rfl b3 rfl _ (bk) rfl HR3.out ?_; intro wm U R
            have HR1 := Lib.hid (HR1.out.apart U HD13.out)
            have HR2 := Lib.hid (HR2.out.apart U HD23.out)
            have HR3 := Lib.hid R; have HB := Lib.hid (HB.out.trans (U.below HG3.out)); clear U R
            refine hK.out _ _ ?_
            clear hK K
            simp only [Act.put, List.setIfInBounds_toArray, List.set_cons_zero, List.set_cons_succ]
            have hcell := HR1.out.cell (1 + n) HI.out
            rw [HK.out] at hcell
            go_wp2_with (first | (refine step_cell rfl 5 _ _ rfl _ _ rfl _ _ rfl _ HR3.out HI.out HK.out size5 ?_; clear hcell; intro wn U R; have HR1 := Lib.hid (HR1.out.apart U HD13.out); have HR2 := Lib.hid (HR2.out.apart U HD23.out); have HR3 := Lib.hid R; have HB := Lib.hid (HB.out.trans (U.below HG3.out)); clear U R) | (refine step_load rfl _ rfl b3 rfl (_) HR3.out ?_) | (refine step_load rfl _ rfl b1 rfl (p) HR1.out ?_) | (refine step_same rfl _ _ rfl (_) (p) rfl rfl HWe.out HE.out ?_))
            go_ret
            exact ⟨rfl, HB.out⟩
          · simp only [List.getElem?_toArray, List.getElem?_cons_zero, List.getElem?_cons_succ, Option.some.injEq] at ho; subst ho
            refine ⟨by kernel_rfl, fun wn hl K hK => ?_⟩
            have HR1 := Lib.hid (HR1.out.later hl); have HR2 := Lib.hid (HR2.out.later hl); have HB := Lib.hid (below_on HB.out hl); clear hl
            refine late_alloc rfl ?_; intro b3 wm N R
            have HD13 := Lib.hid (N.ne HR1.out)
            have HD23 := Lib.hid (N.ne HR2.out)
            have HG3 := Lib.hid (show w.heap.size ≤ b3 by have := HB.out.size; have := N.at_; omega)
            have hb := N.below
            have HRn := Lib.hid R
            clear N R
            refine hK.out _ _ hb ?_
            have HR1 := Lib.hid (HR1.out.later hb); have HR2 := Lib.hid (HR2.out.later hb); have HB := Lib.hid (below_on HB.out hb); clear hb
            have HR3 := HRn; clear HRn
            clear hK K
            simp only [Act.put, List.setIfInBounds_toArray, List.set_cons_zero, List.set_cons_succ]
            refine late_one 5 (by kernel_rfl) (by kernel_rfl) (fun o ho => ?_)
            simp only [List.getElem?_toArray, List.getElem?_cons_zero, List.getElem?_cons_succ, Option.some.injEq] at ho; subst ho
            refine ⟨by kernel_rfl, fun wn hl K hK => ?_⟩
            have HR1 := Lib.hid (HR1.out.later hl); have HR2 := Lib.hid (HR2.out.later hl); have HR3 := Lib.hid (HR3.out.later hl); have HB := Lib.hid (below_on HB.out hl); clear hl
            refine wp_enter _ _ (by go_simp; exact ⟨rfl, rfl⟩) ?_
            refine (put_pos q _ _ _ y0 y1).mono ?_; rintro e wm ⟨rfl, hb⟩; refine ⟨_, rfl, ?_⟩
            rw [HPb.out]
            refine hK.out _ _ hb ?_
            have HR1 := Lib.hid (HR1.out.later hb); have HR2 := Lib.hid (HR2.out.later hb); have HR3 := Lib.hid (HR3.out.later hb); have HB := Lib.hid (below_on HB.out hb); clear hb
            clear hK K
            simp only [Act.put, List.setIfInBounds_toArray, List.set_cons_zero, List.set_cons_succ]
            refine late_last 7 (by kernel_rfl) (by kernel_rfl) (by kernel_rfl) (fun o ho => ?_)
            simp only [List.getElem?_toArray, List.getElem?_cons_zero, List.getElem?_cons_succ, Option.some.injEq] at ho; subst ho
            refine ⟨by kernel_rfl, fun wn hl K hK => ?_⟩
            have HR1 := Lib.hid (HR1.out.later hl); have HR2 := Lib.hid (HR2.out.later hl); have HR3 := Lib.hid (HR3.out.later hl); have HB := Lib.hid (below_on HB.out hl); clear hl
            refine late_whole _ _ rfl b3 rfl _ (bk) rfl HR3.out ?_; intro wm U R
            have HR1 := Lib.hid (HR1.out.apart U HD13.out)
            have HR2 := Lib.hid (HR2.out.apart U HD23.out)
            have HR3 := Lib.hid R; have HB := Lib.hid (HB.out.trans (U.below HG3.out)); clear U R
            refine hK.out _ _ ?_
            clear hK K
            simp only [Act.put, List.setIfInBounds_toArray, List.set_cons_zero, List.set_cons_succ]
            have hcell := HR1.out.cell (1 + n) HI.out
            rw [HK.out] at hcell
            go_wp2_with (first | (refine step_cell rfl 5 _ _ rfl _ _ rfl _ _ rfl _ HR3.out HI.out HK.out size5 ?_; clear hcell; intro wn U R; have HR1 := Lib.hid (HR1.out.apart U HD13.out); have HR2 := Lib.hid (HR2.out.apart U HD23.out); have HR3 := Lib.hid R; have HB := Lib.hid (HB.out.trans (U.below HG3.out)); clear U R) | (refine step_load rfl _ rfl b3 rfl (_) HR3.out ?_) | (refine step_load rfl _ rfl b1 rfl (p) HR1.out ?_) | (refine step_same rfl _ _ rfl (_) (p) rfl rfl HWe.out HE.out ?_))
            go_ret
            exact ⟨rfl, HB.out⟩
        · simp only [List.getElem?_toArray, List.getElem?_cons_zero, List.getElem?_cons_succ, Option.some.injEq] at ho; subst ho
          refine ⟨by kernel_rfl, fun wn hl K hK => ?_⟩
          have HR1 := Lib.hid (HR1.out.later hl); have HR2 := Lib.hid (HR2.out.later hl); have HB := Lib.hid (below_on HB.out hl); clear hl
          refine late_alloc rfl ?_; intro b3 wm N R
          have HD13 := Lib.hid (N.ne HR1.out)
          have HD23 := Lib.hid (N.ne HR2.out)
          have HG3 := Lib.hid (show w.heap.size ≤ b3 by have := HB.out.size; have := N.at_; omega)
          have hb := N.below
          have HRn := Lib.hid R
          clear N R
          refine hK.out _ _ hb ?_
          have HR1 := Lib.hid (HR1.out.later hb); have HR2 := Lib.hid (HR2.out.later hb); have HB := Lib.hid (below_on HB.out hb); clear hb
          have HR3 := HRn; clear HRn
          clear hK K
          simp only [Act.put, List.setIfInBounds_toArray, List.set_cons_zero, List.set_cons_succ]
          refine late_one 4 (by kernel_rfl) (by kernel_rfl) (fun o ho => ?_)
          simp only [List.getElem?_toArray, List.getElem?_cons_zero, List.getElem?_cons_succ, Option.some.injEq] at ho; subst ho
          refine ⟨by kernel_rfl, fun wn hl K hK => ?_⟩
          have HR1 := Lib.hid (HR1.out.later hl); have HR2 := Lib.hid (HR2.out.later hl); have HR3 := Lib.hid (HR3.out.later hl); have HB := Lib.hid (below_on HB.out hl); clear hl
          refine wp_enter _ _ (by go_simp; exact ⟨rfl, rfl⟩) ?_
          refine (at_any p _ _ HP.out.bd).mono ?_; rintro e wm ⟨rfl, hb⟩; refine ⟨_, rfl, ?_⟩
          rw [HY.out]
          refine hK.out _ _ hb ?_
          have HR1 := Lib.hid (HR1.out.later hb); have HR2 := Lib.hid (HR2.out.later hb); have HR3 := Lib.hid (HR3.out.later hb); have HB := Lib.hid (below_on HB.out hb); clear hb
          clear hK K
          simp only [Act.put, List.setIfInBounds_toArray, List.set_cons_zero, List.set_cons_succ]
          refine late_one 5 (by kernel_rfl) (by kernel_rfl) (fun o ho => ?_)
          simp only [List.getElem?_toArray, List.getElem?_cons_zero, List.getElem?_cons_succ, Option.some.injEq] at ho; subst ho
          refine ⟨by kernel_rfl, fun wn hl K hK => ?_⟩
          have HR1 := Lib.hid (HR1.out.later hl); have HR2 := Lib.hid (HR2.out.later hl); have HR3 := Lib.hid (HR3.out.later hl); have HB := Lib.hid (below_on HB.out hl); clear hl
          refine wp_enter _ _ (by go_simp; exact ⟨rfl, rfl⟩) ?_
          refine (put_pos q _ _ _ y0 y1).mono ?_; rintro e wm ⟨rfl, hb⟩; refine ⟨_, rfl, ?_⟩
          rw [HPb.out]
          refine hK.out _ _ hb ?_
          have HR1 := Lib.hid (HR1.out.later hb); have HR2 := Lib.hid (HR2.out.later hb); have HR3 := Lib.hid (HR3.out.later hb); have HB := Lib.hid (below_on HB.out hb); clear hb
          clear hK K
          simp only [Act.put, List.setIfInBounds_toArray, List.set_cons_zero, List.set_cons_succ]
          refine late_last 7 (by kernel_rfl) (by kernel_rfl) (by kernel_rfl) (fun o ho => ?_)
          simp only [List.getElem?_toArray, List.getElem?_cons_zero, List.getElem?_cons_succ, Option.some.injEq] at ho; subst ho
          refine ⟨by kernel_rfl, fun wn hl K hK => ?_⟩
          have HR1 := Lib.hid (HR1.out.later hl); have HR2 := Lib.hid (HR2.out.later hl); have HR3 := Lib.hid (HR3.out.later hl); have HB := Lib.hid (below_on HB.out hl); clear hl
          refine late_whole _ _ rfl b3 rfl _ (bk) rfl HR3.out ?_; intro wm U R
          have HR1 := Lib.hid (HR1.out.apart U HD13.out)
          have HR2 := Lib.hid (HR2.out.apart U HD23.out)
          have HR3 := Lib.hid R; have HB := Lib.hid (HB.out.trans (U.below HG3.out)); clear U R
          refine hK.out _ _ ?_
          clear hK K
          simp only [Act.put, List.setIfInBounds_toArray, List.set_cons_zero, List.set_cons_succ]
          have hcell := HR1.out.cell (1 + n) HI.out
          rw [HK.out] at hcell
          go_wp2_with (first | (refine step_cell rfl 5 _ _ rfl _ _ rfl _ _ rfl _ HR3.out HI.out HK.out size5 ?_; clear hcell; intro wn U R; have HR1 := Lib.hid (HR1.out.apart U HD13.out); have HR2 := Lib.hid (HR2.out.apart U HD23.out); have HR3 := Lib.hid R; have HB := Lib.hid (HB.out.trans (U.below HG3.out)); clear U R) | (refine step_load rfl _ rfl b3 rfl (_) HR3.out ?_) | (refine step_load rfl _ rfl b1 rfl (p) HR1.out ?_) | (refine step_same rfl _ _ rfl (_) (p) rfl rfl HWe.out HE.out ?_))
          go_ret
          exact ⟨rfl, HB.out⟩
      · skip
        have hnz : (a3 != 0) = true := pcB_ne hpc
        go_wp2_with (first | (refine step_alloc (op := ⟨some 9, _, _, _, _, _⟩) rfl rfl ?_; intro b2 wn N R; have HD12 := Lib.hid (N.ne HR1.out); have HR1 := Lib.hid (N.row HR1.out); have HR2 := Lib.hid R; have HG2 := Lib.hid (show w.heap.size ≤ b2 by have := HB.out.size; have := N.at_; omega); have HB := Lib.hid (below_on HB.out N.below); clear N R) | (refine step_store rfl _ _ rfl _ rfl _ (q) rfl HR2.out ?_; intro wn U R; have HR1 := Lib.hid (HR1.out.apart U HD12.out); have HR2 := Lib.hid R; have HB := Lib.hid (HB.out.trans (U.below HG2.out)); clear U R))
        refine (is_at hpc _ x0 x1).mono ?_; rintro e wm ⟨rfl, rfl⟩
        go_wp2_with fail
        refine late_begin 34 (by kernel_rfl) ?_
        refine late_take 0 (by kernel_rfl) (by kernel_rfl) (by kernel_rfl) (by kernel_rfl) (by kernel_rfl) (fun _ _ d _ _ h => by cases d <;> exact h) (fun o ho => ?_)
        simp only [List.getElem?_toArray, List.getElem?_cons_zero, List.getElem?_cons_succ, Option.some.injEq] at ho; subst ho
        refine ⟨_, Or.inl ⟨by kernel_rfl, fun w' hl => Or.inl (run_load _ rfl _ rfl (q) (HR2.out.later hl))⟩, ?_⟩
        simp only [Act.put, List.setIfInBounds_toArray, List.set_cons_zero, List.set_cons_succ]
        refine late_take 1 (by kernel_rfl) (by kernel_rfl) (by kernel_rfl) (by kernel_rfl) (by kernel_rfl) (fun _ _ d _ _ h => by cases d <;> exact h) (fun o ho => ?_)
        simp only [List.getElem?_toArray, List.getElem?_cons_zero, List.getElem?_cons_succ, Option.some.injEq] at ho; subst ho
        apply Exists.intro
        refine ⟨Or.inl ⟨by kernel_rfl, fun w' hl => Or.inl ?_⟩, ?_⟩
        · (go_simp; try with_reducible rfl)
        simp only [Act.put, List.setIfInBounds_toArray, List.set_cons_zero, List.set_cons_succ]
        refine late_take 3 (by kernel_rfl) (by kernel_rfl) (by kernel_rfl) (by kernel_rfl) (by kernel_rfl) (fun _ _ d _ _ h => by cases d <;> exact h) (fun o ho => ?_)
        simp only [List.getElem?_toArray, List.getElem?_cons_zero, List.getElem?_cons_succ, Option.some.injEq] at ho; subst ho
        apply Exists.intro
        refine ⟨Or.inl ⟨by kernel_rfl, fun w' hl => Or.inl ?_⟩, ?_⟩
        · (go_simp; try with_reducible rfl)
        simp only [Act.put, List.setIfInBounds_toArray, List.set_cons_zero, List.set_cons_succ]
        refine late_one 2 (by kernel_rfl) (by kernel_rfl) (fun o ho => ?_)
        simp only [List.getElem?_toArray, List.getElem?_cons_zero, List.getElem?_cons_succ, Option.some.injEq] at ho; subst ho
        refine ⟨by kernel_rfl, fun wn hl K hK => ?_⟩
        have HR1 := Lib.hid (HR1.out.later hl); have HR2 := Lib.hid (HR2.out.later hl); have HB := Lib.hid (below_on HB.out hl); clear hl
        refine wp_enter _ _ (by go_simp; exact ⟨rfl, rfl⟩) ?_
        refine (at_any q _ _ HWq.out.R.bd).mono ?_; rintro e wm ⟨rfl, hb⟩; refine ⟨_, rfl, ?_⟩
        rw [HQn.out]
        refine hK.out _ _ hb ?_
        have HR1 := Lib.hid (HR1.out.later hb); have HR2 := Lib.hid (HR2.out.later hb); have HB := Lib.hid (below_on HB.out hb); clear hb
        clear hK K
        simp only [Act.put, List.setIfInBounds_toArray, List.set_cons_zero, List.set_cons_succ]
        refine late_take 4 (by kernel_rfl) (by kernel_rfl) (by kernel_rfl) (by kernel_rfl) (by kernel_rfl) (fun _ _ d _ _ h => by cases d <;> exact h) (fun o ho => ?_)
        simp only [List.getElem?_toArray, List.getElem?_cons_zero, List.getElem?_cons_succ, Option.some.injEq] at ho; subst ho
        apply Exists.intro
        refine ⟨Or.inl ⟨by kernel_rfl, fun w' hl => Or.inl ?_⟩, ?_⟩
        · (go_simp; try with_reducible rfl)
        simp only [Act.put, List.setIfInBounds_toArray, List.set_cons_zero, List.set_cons_succ]
        refine late_take 5 (by kernel_rfl) (by kernel_rfl) (by kernel_rfl) (by kernel_rfl) (by kernel_rfl) (fun _ _ d _ _ h => by cases d <;> exact h) (fun o ho => ?_)
        simp only [List.getElem?_toArray, List.getElem?_cons_zero, List.getElem?_cons_succ, Option.some.injEq] at ho; subst ho
        apply Exists.intro
        refine ⟨Or.inl ⟨by kernel_rfl, fun w' hl => Or.inl ?_⟩, ?_⟩
        · (go_simp; try with_reducible rfl)
        simp only [Act.put, List.setIfInBounds_toArray, List.set_cons_zero, List.set_cons_succ]
        refine late_take 6 (by kernel_rfl) (by kernel_rfl) (by kernel_rfl) (by kernel_rfl) (by kernel_rfl) (fun _ _ d _ _ h => by cases d <;> exact h) (fun o ho => ?_)
        simp only [List.getElem?_toArray, List.getElem?_cons_zero, List.getElem?_cons_succ, Option.some.injEq] at ho; subst ho
        apply Exists.intro
        refine ⟨Or.inl ⟨by kernel_rfl, fun w' hl => Or.inl ?_⟩, ?_⟩
        · (go_simp; try with_reducible rfl)
        simp only [Act.put, List.setIfInBounds_toArray, List.set_cons_zero, List.set_cons_succ]
        refine late_take 7 (by kernel_rfl) (by kernel_rfl) (by kernel_rfl) (by kernel_rfl) (by kernel_rfl) (fun _ _ d _ _ h => by cases d <;> exact h) (fun o ho => ?_)
        simp only [List.getElem?_toArray, List.getElem?_cons_zero, List.getElem?_cons_succ, Option.some.injEq] at ho; subst ho
        apply Exists.intro
        refine ⟨Or.inl ⟨by kernel_rfl, fun w' hl => Or.inl ?_⟩, ?_⟩
        · (go_simp; try with_reducible rfl)
        simp only [Act.put, List.setIfInBounds_toArray, List.set_cons_zero, List.set_cons_succ]
        refine late_take 8 (by kernel_rfl) (by kernel_rfl) (by kernel_rfl) (by kernel_rfl) (by kernel_rfl) (fun _ _ d _ _ h => by cases d <;> exact h) (fun o ho => ?_)
        simp only [List.getElem?_toArray, List.getElem?_cons_zero, List.getElem?_cons_succ, Option.some.injEq] at ho; subst ho
        apply Exists.intro
        refine ⟨Or.inl ⟨by kernel_rfl, fun w' hl => Or.inl ?_⟩, ?_⟩
        · (go_simp; try with_reducible rfl)
        simp only [Act.put, List.setIfInBounds_toArray, List.set_cons_zero, List.set_cons_succ]
        refine late_take 9 (by kernel_rfl) (by kernel_rfl) (by kernel_rfl) (by kernel_rfl) (by kernel_rfl) (fun _ _ d _ _ h => by cases d <;> exact h) (fun o ho => ?_)
        simp only [List.getElem?_toArray, List.getElem?_cons_zero, List.getElem?_cons_succ, Option.some.injEq] at ho; subst ho
        apply Exists.intro
        refine ⟨Or.inl ⟨by kernel_rfl, fun w' hl => Or.inl ?_⟩, ?_⟩
        · (go_simp; try with_reducible rfl)
        simp only [Act.put, List.setIfInBounds_toArray, List.set_cons_zero, List.set_cons_succ]
        refine late_take 10 (by kernel_rfl) (by kernel_rfl) (by kernel_rfl) (by kernel_rfl) (by kernel_rfl) (fun _ _ d _ _ h => by cases d <;> exact h) (fun o ho => ?_)
        simp only [List.getElem?_toArray, List.getElem?_cons_zero, List.getElem?_cons_succ, Option.some.injEq] at ho; subst ho
        refine ⟨_, Or.inl ⟨by kernel_rfl, fun w' hl => Or.inl (run_load _ rfl _ rfl (q) (HR2.out.later hl))⟩, ?_⟩
        simp only [Act.put, List.setIfInBounds_toArray, List.set_cons_zero, List.set_cons_succ]
        refine late_take 11 (by kernel_rfl) (by kernel_rfl) (by kernel_rfl) (by kernel_rfl) (by kernel_rfl) (fun _ _ d _ _ h => by cases d <;> exact h) (fun o ho => ?_)
        simp only [List.getElem?_toArray, List.getElem?_cons_zero, List.getElem?_cons_succ, Option.some.injEq] at ho; subst ho
        apply Exists.intro
        refine ⟨Or.inl ⟨by kernel_rfl, fun w' hl => Or.inl ?_⟩, ?_⟩
        · (go_simp; try with_reducible rfl)
        simp only [Act.put, List.setIfInBounds_toArray, List.set_cons_zero, List.set_cons_succ]
        refine late_take 13 (by kernel_rfl) (by kernel_rfl) (by kernel_rfl) (by kernel_rfl) (by kernel_rfl) (fun _ _ d _ _ h => by cases d <;> exact h) (fun o ho => ?_)
        simp only [List.getElem?_toArray, List.getElem?_cons_zero, List.getElem?_cons_succ, Option.some.injEq] at ho; subst ho
        refine ⟨_, Or.inl ⟨by kernel_rfl, fun w' hl => Or.inl (run_load _ rfl _ rfl (p) (HR1.out.later hl))⟩, ?_⟩
        simp only [Act.put, List.setIfInBounds_toArray, List.set_cons_zero, List.set_cons_succ]
        refine late_take 14 (by kernel_rfl) (by kernel_rfl) (by kernel_rfl) (by kernel_rfl) (by kernel_rfl) (fun _ _ d _ _ h => by cases d <;> exact h) (fun o ho => ?_)
        simp only [List.getElem?_toArray, List.getElem?_cons_zero, List.getElem?_cons_succ, Option.some.injEq] at ho; subst ho
        apply Exists.intro
        refine ⟨Or.inl ⟨by kernel_rfl, fun w' hl => Or.inl ?_⟩, ?_⟩
        · (go_simp; try with_reducible rfl)
        simp only [Act.put, List.setIfInBounds_toArray, List.set_cons_zero, List.set_cons_succ]
        refine late_one 12 (by kernel_rfl) (by kernel_rfl) (fun o ho => ?_)
        simp only [List.getElem?_toArray, List.getElem?_cons_zero, List.getElem?_cons_succ, Option.some.injEq] at ho; subst ho
        refine ⟨by kernel_rfl, fun wn hl K hK => ?_⟩
        have HR1 := Lib.hid (HR1.out.later hl); have HR2 := Lib.hid (HR2.out.later hl); have HB := Lib.hid (below_on HB.out hl); clear hl
        refine wp_enter _ _ (by go_simp; exact ⟨rfl, rfl⟩) ?_
        refine (at_any q _ _ HWq.out.R.bd).mono ?_; rintro e wm ⟨rfl, hb⟩; refine ⟨_, rfl, ?_⟩
        rw [HQo.out _ hne]
        refine hK.out _ _ hb ?_
        have HR1 := Lib.hid (HR1.out.later hb); have HR2 := Lib.hid (HR2.out.later hb); have HB := Lib.hid (below_on HB.out hb); clear hb
        clear hK K
        simp only [Act.put, List.setIfInBounds_toArray, List.set_cons_zero, List.set_cons_succ]
        refine late_one 15 (by kernel_rfl) (by kernel_rfl) (fun o ho => ?_)
        simp only [List.getElem?_toArray, List.getElem?_cons_zero, List.getElem?_cons_succ, Option.some.injEq] at ho; subst ho
        refine ⟨by kernel_rfl, fun wn hl K hK => ?_⟩
        have HR1 := Lib.hid (HR1.out.later hl); have HR2 := Lib.hid (HR2.out.later hl); have HB := Lib.hid (below_on HB.out hl); clear hl
        refine wp_enter _ _ (by go_simp; exact ⟨rfl, rfl⟩) ?_
        refine (at_any p _ _ HP.out.bd).mono ?_; rintro e wm ⟨rfl, hb⟩; refine ⟨_, rfl, ?_⟩
        refine hK.out _ _ hb ?_
        have HR1 := Lib.hid (HR1.out.later hb); have HR2 := Lib.hid (HR2.out.later hb); have HB := Lib.hid (below_on HB.out hb); clear hb
        clear hK K
        simp only [Act.put, List.setIfInBounds_toArray, List.set_cons_zero, List.set_cons_succ]
        refine late_take 16 (by kernel_rfl) (by kernel_rfl) (by kernel_rfl) (by kernel_rfl) (by kernel_rfl) (fun _ _ d _ _ h => by cases d <;> exact h) (fun o ho => ?_)
        simp only [List.getElem?_toArray, List.getElem?_cons_zero, List.getElem?_cons_succ, Option.some.injEq] at ho; subst ho
        apply Exists.intro
        refine ⟨Or.inl ⟨by kernel_rfl, fun w' hl => Or.inl ?_⟩, ?_⟩
        · (go_simp; try with_reducible rfl)
        simp only [Act.put, List.setIfInBounds_toArray, List.set_cons_zero, List.set_cons_succ]
        refine late_take 17 (by kernel_rfl) (by kernel_rfl) (by kernel_rfl) (by kernel_rfl) (by kernel_rfl) (fun _ _ d _ _ h => by cases d <;> exact h) (fun o ho => ?_)
        simp only [List.getElem?_toArray, List.getElem?_cons_zero, List.getElem?_cons_succ, Option.some.injEq] at ho; subst ho
        apply Exists.intro
        refine ⟨Or.inl ⟨by kernel_rfl, fun w' hl => Or.inl ?_⟩, ?_⟩
        · (go_simp; try with_reducible rfl)
        simp only [Act.put, List.setIfInBounds_toArray, List.set_cons_zero, List.set_cons_succ]
        refine late_take 18 (by kernel_rfl) (by kernel_rfl) (by kernel_rfl) (by kernel_rfl) (by kernel_rfl) (fun _ _ d _ _ h => by cases d <;> exact h) (fun o ho => ?_)
        simp only [List.getElem?_toArray, List.getElem?_cons_zero, List.getElem?_cons_succ, Option.some.injEq] at ho; subst ho
        apply Exists.intro
        refine ⟨Or.inl ⟨by kernel_rfl, fun w' hl => Or.inl ?_⟩, ?_⟩
        · (go_simp; try with_reducible rfl)
        simp only [Act.put, List.setIfInBounds_toArray, List.set_cons_zero, List.set_cons_succ]
        refine late_take 19 (by kernel_rfl) (by kernel_rfl) (by kernel_rfl) (by kernel_rfl) (by kernel_rfl) (fun _ _ d _ _ h => by cases d <;> exact h) (fun o ho => ?_)
        simp only [List.getElem?_toArray, List.getElem?_cons_zero, List.getElem?_cons_succ, Option.some.injEq] at ho; subst ho
        apply Exists.intro
        refine ⟨Or.inl ⟨by kernel_rfl, fun w' hl => Or.inl ?_⟩, ?_⟩
        · (go_simp; try with_reducible rfl)
        simp only [Act.put, List.setIfInBounds_toArray, List.set_cons_zero, List.set_cons_succ]
        refine late_take 20 (by kernel_rfl) (by kernel_rfl) (by kernel_rfl) (by kernel_rfl) (by kernel_rfl) (fun _ _ d _ _ h => by cases d <;> exact h) (fun o ho => ?_)
        simp only [List.getElem?_toArray, List.getElem?_cons_zero, List.getElem?_cons_succ, Option.some.injEq] at ho; subst ho
        apply Exists.intro
        refine ⟨Or.inl ⟨by kernel_rfl, fun w' hl => Or.inl ?_⟩, ?_⟩
        · (go_simp; try with_reducible rfl)
        simp only [Act.put, List.setIfInBounds_toArray, List.set_cons_zero, List.set_cons_succ]
        refine late_take 21 (by kernel_rfl) (by kernel_rfl) (by kernel_rfl) (by kernel_rfl) (by kernel_rfl) (fun _ _ d _ _ h => by cases d <;> exact h) (fun o ho => ?_)
        simp only [List.getElem?_toArray, List.getElem?_cons_zero, List.getElem?_cons_succ, Option.some.injEq] at ho; subst ho
        apply Exists.intro
        refine ⟨Or.inl ⟨by kernel_rfl, fun w' hl => Or.inl ?_⟩, ?_⟩
        · (go_simp; try with_reducible rfl)
        simp only [Act.put, List.setIfInBounds_toArray, List.set_cons_zero, List.set_cons_succ]
        refine late_take 22 (by kernel_rfl) (by kernel_rfl) (by kernel_rfl) (by kernel_rfl) (by kernel_rfl) (fun _ _ d _ _ h => by cases d <;> exact h) (fun o ho => ?_)
        simp only [List.getElem?_toArray, List.getElem?_cons_zero, List.getElem?_cons_succ, Option.some.injEq] at ho; subst ho
        apply Exists.intro
        refine ⟨Or.inl ⟨by kernel_rfl, fun w' hl => Or.inl ?_⟩, ?_⟩
        · (go_simp; try with_reducible rfl)
        simp only [Act.put, List.setIfInBounds_toArray, List.set_cons_zero, List.set_cons_succ]
        refine late_take 23 (by kernel_rfl) (by kernel_rfl) (by kernel_rfl) (by kernel_rfl) (by kernel_rfl) (fun _ _ d _ _ h => by cases d <;> exact h) (fun o ho => ?_)
        simp only [List.getElem?_toArray, List.getElem?_cons_zero, List.getElem?_cons_succ, Option.some.injEq] at ho; subst ho
        refine ⟨_, Or.inl ⟨by kernel_rfl, fun w' hl => Or.inl (run_load _ rfl _ rfl (q) (HR2.out.later hl))⟩, ?_⟩
        simp only [Act.put, List.setIfInBounds_toArray, List.set_cons_zero, List.set_cons_succ]
        refine late_take 24 (by kernel_rfl) (by kernel_rfl) (by kernel_rfl) (by kernel_rfl) (by kernel_rfl) (fun _ _ d _ _ h => by cases d <;> exact h) (fun o ho => ?_)
        simp only [List.getElem?_toArray, List.getElem?_cons_zero, List.getElem?_cons_succ, Option.some.injEq] at ho; subst ho
        apply Exists.intro
        refine ⟨Or.inl ⟨by kernel_rfl, fun w' hl => Or.inl ?_⟩, ?_⟩
        · (go_simp; try with_reducible rfl)
        simp only [Act.put, List.setIfInBounds_toArray, List.set_cons_zero, List.set_cons_succ]
        refine late_take 26 (by kernel_rfl) (by kernel_rfl) (by kernel_rfl) (by kernel_rfl) (by kernel_rfl) (fun _ _ d _ _ h => by cases d <;> exact h) (fun o ho => ?_)
        simp only [List.getElem?_toArray, List.getElem?_cons_zero, List.getElem?_cons_succ, Option.some.injEq] at ho; subst ho
        apply Exists.intro
        refine ⟨Or.inl ⟨by kernel_rfl, fun w' hl => Or.inl ?_⟩, ?_⟩
        · (go_simp; try with_reducible rfl)
        simp only [Act.put, List.setIfInBounds_toArray, List.set_cons_zero, List.set_cons_succ]
        refine late_take 29 (by kernel_rfl) (by kernel_rfl) (by kernel_rfl) (by kernel_rfl) (by kernel_rfl) (fun _ _ d _ _ h => by cases d <;> exact h) (fun o ho => ?_)
        simp only [List.getElem?_toArray, List.getElem?_cons_zero, List.getElem?_cons_succ, Option.some.injEq] at ho; subst ho
        apply Exists.intro
        refine ⟨Or.inl ⟨by kernel_rfl, fun w' hl => Or.inl ?_⟩, ?_⟩
        · (go_simp; try with_reducible rfl)
        simp only [Act.put, List.setIfInBounds_toArray, List.set_cons_zero, List.set_cons_succ]
        refine late_one 25 (by kernel_rfl) (by kernel_rfl) (fun o ho => ?_)
        simp only [List.getElem?_toArray, List.getElem?_cons_zero, List.getElem?_cons_succ, Option.some.injEq] at ho; subst ho
        refine ⟨by kernel_rfl, fun wn hl K hK => ?_⟩
        have HR1 := Lib.hid (HR1.out.later hl); have HR2 := Lib.hid (HR2.out.later hl); have HB := Lib.hid (below_on HB.out hl); clear hl
        refine wp_enter _ _ (by go_simp; exact ⟨rfl, rfl⟩) ?_
        refine (col_any _ _ x0 x1).mono ?_; rintro e wm ⟨rfl, rfl⟩; refine ⟨_, rfl, ?_⟩
        refine hK.out _ _ (Later.refl _) ?_
        clear hK K
        simp only [Act.put, List.setIfInBounds_toArray, List.set_cons_zero, List.set_cons_succ]
        refine late_one 27 (by kernel_rfl) (by kernel_rfl) (fun o ho => ?_)
        simp only [List.getElem?_toArray, List.getElem?_cons_zero, List.getElem?_cons_succ, Option.some.injEq] at ho; subst ho
        refine ⟨by kernel_rfl, fun wn hl K hK => ?_⟩
        have HR1 := Lib.hid (HR1.out.later hl); have HR2 := Lib.hid (HR2.out.later hl); have HB := Lib.hid (below_on HB.out hl); clear hl
        refine wp_enter _ _ (by go_simp; exact ⟨rfl, rfl⟩) ?_
        refine (knd_any _ _ x0 x1).mono ?_; rintro e wm ⟨rfl, rfl⟩; refine ⟨_, rfl, ?_⟩
        refine hK.out _ _ (Later.refl _) ?_
        clear hK K
        simp only [Act.put, List.setIfInBounds_toArray, List.set_cons_zero, List.set_cons_succ]
        refine late_one 28 (by kernel_rfl) (by kernel_rfl) (fun o ho => ?_)
        simp only [List.getElem?_toArray, List.getElem?_cons_zero, List.getElem?_cons_succ, Option.some.injEq] at ho; subst ho
        refine ⟨by kernel_rfl, fun wn hl K hK => ?_⟩
        have HR1 := Lib.hid (HR1.out.later hl); have HR2 := Lib.hid (HR2.out.later hl); have HB := Lib.hid (below_on HB.out hl); clear hl
        refine wp_enter _ _ (by go_simp; exact ⟨rfl, rfl⟩) ?_
        refine (of_any q _ _ _ HWq.out.R.bd).mono ?_; rintro e wm ⟨rfl, hb⟩; refine ⟨_, rfl, ?_⟩
        refine hK.out _ _ hb ?_
        have HR1 := Lib.hid (HR1.out.later hb); have HR2 := Lib.hid (HR2.out.later hb); have HB := Lib.hid (below_on HB.out hb); clear hb
        clear hK K
        simp only [Act.put, List.setIfInBounds_toArray, List.set_cons_zero, List.set_cons_succ]
        refine late_one 30 (by kernel_rfl) (by kernel_rfl) (fun o ho => ?_)
        simp only [List.getElem?_toArray, List.getElem?_cons_zero, List.getElem?_cons_succ, Option.some.injEq] at ho; subst ho
        refine ⟨by kernel_rfl, fun wn hl K hK => ?_⟩
        have HR1 := Lib.hid (HR1.out.later hl); have HR2 := Lib.hid (HR2.out.later hl); have HB := Lib.hid (below_on HB.out hl); clear hl
        refine wp_enter _ _ (by go_simp; exact ⟨rfl, rfl⟩) ?_
        refine (has_any _ _ _ (ofN_lt _ _ _)).mono ?_; rintro e wm ⟨rfl, rfl⟩; refine ⟨_, rfl, ?_⟩
        rw [HQh.out hpc]
        refine hK.out _ _ (Later.refl _) ?_
        clear hK K
        simp only [Act.put, List.setIfInBounds_toArray, List.set_cons_zero, List.set_cons_succ]
        refine late_take 31 (by kernel_rfl) (by kernel_rfl) (by kernel_rfl) (by kernel_rfl) (by kernel_rfl) (fun _ _ d _ _ h => by cases d <;> exact h) (fun o ho => ?_)
        simp only [List.getElem?_toArray, List.getElem?_cons_zero, List.getElem?_cons_succ, Option.some.injEq] at ho; subst ho
        apply Exists.intro
        refine ⟨Or.inl ⟨by kernel_rfl, fun w' hl => Or.inl ?_⟩, ?_⟩
        · (go_simp; try with_reducible rfl)
        simp only [Act.put, List.setIfInBounds_toArray, List.set_cons_zero, List.set_cons_succ]
        refine late_take 32 (by kernel_rfl) (by kernel_rfl) (by kernel_rfl) (by kernel_rfl) (by kernel_rfl) (fun _ _ d _ _ h => by cases d <;> exact h) (fun o ho => ?_)
        simp only [List.getElem?_toArray, List.getElem?_cons_zero, List.getElem?_cons_succ, Option.some.injEq] at ho; subst ho
        apply Exists.intro
        refine ⟨Or.inl ⟨by kernel_rfl, fun w' hl => Or.inl ?_⟩, ?_⟩
        · (go_simp; try with_reducible rfl)
        simp only [Act.put, List.setIfInBounds_toArray, List.set_cons_zero, List.set_cons_succ]
        refine late_take 33 (by kernel_rfl) (by kernel_rfl) (by kernel_rfl) (by kernel_rfl) (by kernel_rfl) (fun _ _ d _ _ h => by cases d <;> exact h) (fun o ho => ?_)
        simp only [List.getElem?_toArray, List.getElem?_cons_zero, List.getElem?_cons_succ, Option.some.injEq] at ho; subst ho
        apply Exists.intro
        refine ⟨Or.inl ⟨by kernel_rfl, fun w' hl => Or.inl ?_⟩, ?_⟩
        · (go_simp; try with_reducible rfl)
        simp only [Act.put, List.setIfInBounds_toArray, List.set_cons_zero, List.set_cons_succ]
        refine late_end (by kernel_rfl) (fun wn hl => ?_)
        have HR1 := Lib.hid (HR1.out.later hl); have HR2 := Lib.hid (HR2.out.later hl); have HB := Lib.hid (below_on HB.out hl); clear hl
        go_wp2_with fail
        refine late_begin 7 (by kernel_rfl) ?_
        refine late_take 0 (by kernel_rfl) (by kernel_rfl) (by kernel_rfl) (by kernel_rfl) (by kernel_rfl) (fun _ _ d _ _ h => by cases d <;> exact h) (fun o ho => ?_)
        simp only [List.getElem?_toArray, List.getElem?_cons_zero, List.getElem?_cons_succ, Option.some.injEq] at ho; subst ho
        refine ⟨_, Or.inl ⟨by kernel_rfl, fun w' hl => Or.inl (run_load _ rfl _ rfl (q) (HR2.out.later hl))⟩, ?_⟩
        simp only [Act.put, List.setIfInBounds_toArray, List.set_cons_zero, List.set_cons_succ]
        refine late_take 1 (by kernel_rfl) (by kernel_rfl) (by kernel_rfl) (by kernel_rfl) (by kernel_rfl) (fun _ _ d _ _ h => by cases d <;> exact h) (fun o ho => ?_)
        simp only [List.getElem?_toArray, List.getElem?_cons_zero, List.getElem?_cons_succ, Option.some.injEq] at ho; subst ho
        apply Exists.intro
        refine ⟨Or.inl ⟨by kernel_rfl, fun w' hl => Or.inl ?_⟩, ?_⟩
        · (go_simp; try with_reducible rfl)
        simp only [Act.put, List.setIfInBounds_toArray, List.set_cons_zero, List.set_cons_succ]
        refine late_take 2 (by kernel_rfl) (by kernel_rfl) (by kernel_rfl) (by kernel_rfl) (by kernel_rfl) (fun _ _ d _ _ h => by cases d <;> exact h) (fun o ho => ?_)
        simp only [List.getElem?_toArray, List.getElem?_cons_zero, List.getElem?_cons_succ, Option.some.injEq] at ho; subst ho
        refine ⟨_, Or.inl ⟨by kernel_rfl, fun w' hl => Or.inl (run_load _ rfl _ rfl (p) (HR1.out.later hl))⟩, ?_⟩
        simp only [Act.put, List.setIfInBounds_toArray, List.set_cons_zero, List.set_cons_succ]
        refine late_take 3 (by kernel_rfl) (by kernel_rfl) (by kernel_rfl) (by kernel_rfl) (by kernel_rfl) (fun _ _ d _ _ h => by cases d <;> exact h) (fun o ho => ?_)
        simp only [List.getElem?_toArray, List.getElem?_cons_zero, List.getElem?_cons_succ, Option.some.injEq] at ho; subst ho
        apply Exists.intro
        refine ⟨Or.inl ⟨by kernel_rfl, fun w' hl => Or.inl ?_⟩, ?_⟩
        · (go_simp; try with_reducible rfl)
        simp only [Act.put, List.setIfInBounds_toArray, List.set_cons_zero, List.set_cons_succ]
        refine late_fork 4 6 (by kernel_rfl) (by kernel_rfl) (by kernel_rfl) (fun o ho => ?_) (fun o ho => ?_)
        · simp only [List.getElem?_toArray, List.getElem?_cons_zero, List.getElem?_cons_succ, Option.some.injEq] at ho; subst ho
          refine ⟨by kernel_rfl, fun wn hl K hK => ?_⟩
          have HR1 := Lib.hid (HR1.out.later hl); have HR2 := Lib.hid (HR2.out.later hl); have HB := Lib.hid (below_on HB.out hl); clear hl
          refine wp_enter _ _ (by go_simp; exact ⟨rfl, rfl⟩) ?_
          refine (at_any p _ _ HP.out.bd).mono ?_; rintro e wm ⟨rfl, hb⟩; refine ⟨_, rfl, ?_⟩
          rw [HY.out]
          refine hK.out _ _ hb ?_
          have HR1 := Lib.hid (HR1.out.later hb); have HR2 := Lib.hid (HR2.out.later hb); have HB := Lib.hid (below_on HB.out hb); clear hb
          clear hK K
          simp only [Act.put, List.setIfInBounds_toArray, List.set_cons_zero, List.set_cons_succ]
          refine late_fork 5 6 (by kernel_rfl) (by kernel_rfl) (by kernel_rfl) (fun o ho => ?_) (fun o ho => ?_)
          · simp only [List.getElem?_toArray, List.getElem?_cons_zero, List.getElem?_cons_succ, Option.some.injEq] at ho; subst ho
            refine ⟨by kernel_rfl, fun wn hl K hK => ?_⟩
            have HR1 := Lib.hid (HR1.out.later hl); have HR2 := Lib.hid (HR2.out.later hl); have HB := Lib.hid (below_on HB.out hl); clear hl
            refine wp_enter _ _ (by go_simp; exact ⟨rfl, rfl⟩) ?_
            refine (put_pos q _ _ _ y0 y1).mono ?_; rintro e wm ⟨rfl, hb⟩; refine ⟨_, rfl, ?_⟩
            rw [HPb.out]
            refine hK.out _ _ hb ?_
            have HR1 := Lib.hid (HR1.out.later hb); have HR2 := Lib.hid (HR2.out.later hb); have HB := Lib.hid (below_on HB.out hb); clear hb
            clear hK K
            simp only [Act.put, List.setIfInBounds_toArray, List.set_cons_zero, List.set_cons_succ]
            refine late_one 6 (by kernel_rfl) (by kernel_rfl) (fun o ho => ?_)
            simp only [List.getElem?_toArray, List.getElem?_cons_zero, List.getElem?_cons_succ, Option.some.injEq] at ho; subst ho
            refine ⟨by kernel_rfl, fun wn hl K hK => ?_⟩
            have HR1 := Lib.hid (HR1.out.later hl); have HR2 := Lib.hid (HR2.out.later hl); have HB := Lib.hid (below_on HB.out hl); clear hl
            refine late_alloc rfl ?_; intro b3 wm N R
            have HD13 := Lib.hid (N.ne HR1.out)
            have HD23 := Lib.hid (N.ne HR2.out)
            have HG3 := Lib.hid (show w.heap.size ≤ b3 by have := HB.out.size; have := N.at_; omega)
            have hb := N.below
            have HRn := Lib.hid R
            clear N R
            refine hK.out _ _ hb ?_
            have HR1 := Lib.hid (HR1.out.later hb); have HR2 := Lib.hid (HR2.out.later hb); have HB := Lib.hid (below_on HB.out hb); clear hb
            have HR3 := HRn; clear HRn
            clear hK K
            simp only [Act.put, List.setIfInBounds_toArray, List.set_cons_zero, List.set_cons_succ]
            refine late_last 7 (by kernel_rfl) (by kernel_rfl) (by kernel_rfl) (fun o ho => ?_)
            simp only [List.getElem?_toArray, List.getElem?_cons_zero, List.getElem?_cons_succ, Option.some.injEq] at ho; subst ho
            refine ⟨by kernel_rfl, fun wn hl K hK => ?_⟩
            have HR1 := Lib.hid (HR1.out.later hl); have HR2 := Lib.hid (HR2.out.later hl); have HR3 := Lib.hid (HR3.out.later hl); have HB := Lib.hid (below_on HB.out hl); clear hl
            refine late_whole _ _ rfl b3 rfl _ (bk) rfl HR3.out ?_; intro wm U R
            have HR1 := Lib.hid (HR1.out.apart U HD13.out)
            have HR2 := Lib.hid (HR2.out.apart U HD23.out)
            have HR3 := Lib.hid R; have HB := Lib.hid (HB.out.trans (U.below HG3.out)); clear U R
            refine hK.out _ _ ?_
            clear hK K
            simp only [Act.put, List.setIfInBounds_toArray, List.set_cons_zero, List.set_cons_succ]
            have hcell := HR1.out.cell (1 + n) HI.out
            rw [HK.out] at hcell
            go_wp2_with (first | (refine step_cell rfl 5 _ _ rfl _ _ rfl _ _ rfl _ HR3.out HI.out HK.out size5 ?_; clear hcell; intro wn U R; have HR1 := Lib.hid (HR1.out.apart U HD13.out); have HR2 := Lib.hid (HR2.out.apart U HD23.out); have HR3 := Lib.hid R; have HB := Lib.hid (HB.out.trans (U.below HG3.out)); clear U R) | (refine step_load rfl _ rfl b3 rfl (_) HR3.out ?_) | (refine step_load rfl _ rfl b1 rfl (p) HR1.out ?_) | (refine step_same rfl _ _ rfl (_) (p) rfl rfl HWe.out HE.out ?_))
            go_ret
            exact ⟨rfl, HB.out⟩
          · simp only [List.getElem?_toArray, List.getElem?_cons_zero, List.getElem?_cons_succ, Option.some.injEq] at ho; subst ho
            refine ⟨by kernel_rfl, fun wn hl K hK => ?_⟩
            have HR1 := Lib.hid (HR1.out.later hl); have HR2 := Lib.hid (HR2.out.later hl); have HB := Lib.hid (below_on HB.out hl); clear hl
            refine late_alloc rfl ?_; intro b3 wm N R
            have HD13 := Lib.hid (N.ne HR1.out)
            have HD23 := Lib.hid (N.ne HR2.out)
            have HG3 := Lib.hid (show w.heap.size ≤ b3 by have := HB.out.size; have := N.at_; omega)
            have hb := N.below
            have HRn := Lib.hid R
            clear N R
            refine hK.out _ _ hb ?_
            have HR1 := Lib.hid (HR1.out.later hb); have HR2 := Lib.hid (HR2.out.later hb); have HB := Lib.hid (below_on HB.out hb); clear hb
            have HR3 := HRn; clear HRn
            clear hK K
            simp only [Act.put, List.setIfInBounds_toArray, List.set_cons_zero, List.set_cons_succ]
            refine late_one 5 (by kernel_rfl) (by kernel_rfl) (fun o ho => ?_)
            simp only [List.getElem?_toArray, List.getElem?_cons_zero, List.getElem?_cons_succ, Option.some.injEq] at ho; subst ho
            refine ⟨by kernel_rfl, fun wn hl K hK => ?_⟩
            have HR1 := Lib.hid (HR1.out.later hl); have HR2 := Lib.hid (HR2.out.later hl); have HR3 := Lib.hid (HR3.out.later hl); have HB := Lib.hid (below_on HB.out hl); clear hl
            refine wp_enter _ _ (by go_simp; exact ⟨rfl, rfl⟩) ?_
            refine (put_pos q _ _ _ y0 y1).mono ?_; rintro e wm ⟨rfl, hb⟩; refine ⟨_, rfl, ?_⟩
            rw [HPb.out]
            refine hK.out _ _ hb ?_
            have HR1 := Lib.hid (HR1.out.later hb); have HR2 := Lib.hid (HR2.out.later hb); have HR3 := Lib.hid (HR3.out.later hb); have HB := Lib.hid (below_on HB.out hb); clear hb
            clear hK K
            simp only [Act.put, List.setIfInBounds_toArray, List.set_cons_zero, List.set_cons_succ]
            refine late_last 7 (by kernel_rfl) (by kernel_rfl) (by kernel_rfl) (fun o ho => ?_)
            simp only [List.getElem?_toArray, List.getElem?_cons_zero, List.getElem?_cons_succ, Option.some.injEq] at ho; subst ho
            refine ⟨by kernel_rfl, fun wn hl K hK => ?_⟩
            have HR1 := Lib.hid (HR1.out.later hl); have HR2 := Lib.hid (HR2.out.later hl); have HR3 := Lib.hid (HR3.out.later hl); have HB := Lib.hid (below_on HB.out hl); clear hl
            refine late_whole _ _ rfl b3 rfl _ (bk) rfl HR3.out ?_; intro wm U R
            have HR1 := Lib.hid (HR1.out.apart U HD13.out)
            have HR2 := Lib.hid (HR2.out.apart U HD23.out)
            have HR3 := Lib.hid R; have HB := Lib.hid (HB.out.trans (U.below HG3.out)); clear U R
            refine hK.out _ _ ?_
            clear hK K
            simp only [Act.put, List.setIfInBounds_toArray, List.set_cons_zero, List.set_cons_succ]
            have hcell := HR1.out.cell (1 + n) HI.out
            rw [HK.out] at hcell
            go_wp2_with (first | (refine step_cell rfl 5 _ _ rfl _ _ rfl _ _ rfl _ HR3.out HI.out HK.out size5 ?_; clear hcell; intro wn U R; have HR1 := Lib.hid (HR1.out.apart U HD13.out); have HR2 := Lib.hid (HR2.out.apart U HD23.out); have HR3 := Lib.hid R; have HB := Lib.hid (HB.out.trans (U.below HG3.out)); clear U R) | (refine step_load rfl _ rfl b3 rfl (_) HR3.out ?_) | (refine step_load rfl _ rfl b1 rfl (p) HR1.out ?_) | (refine step_same rfl _ _ rfl (_) (p) rfl rfl HWe.out HE.out ?_))
            go_ret
            exact ⟨rfl, HB.out⟩
        · simp only [List.getElem?_toArray, List.getElem?_cons_zero, List.getElem?_cons_succ, Option.some.injEq] at ho; subst ho
          refine ⟨by kernel_rfl, fun wn hl K hK => ?_⟩
          have HR1 := Lib.hid (HR1.out.later hl); have HR2 := Lib.hid (HR2.out.later hl); have HB := Lib.hid (below_on HB.out hl); clear hl
          refine late_alloc rfl ?_; intro b3 wm N R
          have HD13 := Lib.hid (N.ne HR1.out)
          have HD23 := Lib.hid (N.ne HR2.out)
          have HG3 := Lib.hid (show w.heap.size ≤ b3 by have := HB.out.size; have := N.at_; omega)
          have hb := N.below
          have HRn := Lib.hid R
          clear N R
          refine hK.out _ _ hb ?_
          have HR1 := Lib.hid (HR1.out.later hb); have HR2 := Lib.hid (HR2.out.later hb); have HB := Lib.hid (below_on HB.out hb); clear hb
          have HR3 := HRn; clear HRn
          clear hK K
          simp only [Act.put, List.setIfInBounds_toArray, List.set_cons_zero, List.set_cons_succ]
          refine late_one 4 (by kernel_rfl) (by kernel_rfl) (fun o ho => ?_)
          simp only [List.getElem?_toArray, List.getElem?_cons_zero, List.getElem?_cons_succ, Option.some.injEq] at ho; subst ho
          refine ⟨by kernel_rfl, fun wn hl K hK => ?_⟩
          have HR1 := Lib.hid (HR1.out.later hl); have HR2 := Lib.hid (HR2.out.later hl); have HR3 := Lib.hid (HR3.out.later hl); have HB := Lib.hid (below_on HB.out hl); clear hl
          refine wp_enter _ _ (by go_simp; exact ⟨rfl, rfl⟩) ?_
          refine (at_any p _ _ HP.out.bd).mono ?_; rintro e wm ⟨rfl, hb⟩; refine ⟨_, rfl, ?_⟩
          rw [HY.out]
          refine hK.out _ _ hb ?_
          have HR1 := Lib.hid (HR1.out.later hb); have HR2 := Lib.hid (HR2.out.later hb); have HR3 := Lib.hid (HR3.out.later hb); have HB := Lib.hid (below_on HB.out hb); clear hb
          clear hK K
          simp only [Act.put, List.setIfInBounds_toArray, List.set_cons_zero, List.set_cons_succ]
          refine late_one 5 (by kernel_rfl) (by kernel_rfl) (fun o ho => ?_)
          simp only [List.getElem?_toArray, List.getElem?_cons_zero, List.getElem?_cons_succ, Option.some.injEq] at ho; subst ho
          refine ⟨by kernel_rfl, fun wn hl K hK => ?_⟩
          have HR1 := Lib.hid (HR1.out.later hl); have HR2 := Lib.hid (HR2.out.later hl); have HR3 := Lib.hid (HR3.out.later hl); have HB := Lib.hid (below_on HB.out hl); clear hl
          refine wp_enter _ _ (by go_simp; exact ⟨rfl, rfl⟩) ?_
          refine (put_pos q _ _ _ y0 y1).mono ?_; rintro e wm ⟨rfl, hb⟩; refine ⟨_, rfl, ?_⟩
          rw [HPb.out]
          refine hK.out _ _ hb ?_
          have HR1 := Lib.hid (HR1.out.later hb); have HR2 := Lib.hid (HR2.out.later hb); have HR3 := Lib.hid (HR3.out.later hb); have HB := Lib.hid (below_on HB.out hb); clear hb
          clear hK K
          simp only [Act.put, List.setIfInBounds_toArray, List.set_cons_zero, List.set_cons_succ]
          refine late_last 7 (by kernel_rfl) (by kernel_rfl) (by kernel_rfl) (fun o ho => ?_)
          simp only [List.getElem?_toArray, List.getElem?_cons_zero, List.getElem?_cons_succ, Option.some.injEq] at ho; subst ho
          refine ⟨by kernel_rfl, fun wn hl K hK => ?_⟩
          have HR1 := Lib.hid (HR1.out.later hl); have HR2 := Lib.hid (HR2.out.later hl); have HR3 := Lib.hid (HR3.out.later hl); have HB := Lib.hid (below_on HB.out hl); clear hl
          refine late_whole _ _ rfl b3 rfl _ (bk) rfl HR3.out ?_; intro wm U R
          have HR1 := Lib.hid (HR1.out.apart U HD13.out)
          have HR2 := Lib.hid (HR2.out.apart U HD23.out)
          have HR3 := Lib.hid R; have HB := Lib.hid (HB.out.trans (U.below HG3.out)); clear U R
          refine hK.out _ _ ?_
          clear hK K
          simp only [Act.put, List.setIfInBounds_toArray, List.set_cons_zero, List.set_cons_succ]
          have hcell := HR1.out.cell (1 + n) HI.out
          rw [HK.out] at hcell
          go_wp2_with (first | (refine step_cell rfl 5 _ _ rfl _ _ rfl _ _ rfl _ HR3.out HI.out HK.out size5 ?_; clear hcell; intro wn U R; have HR1 := Lib.hid (HR1.out.apart U HD13.out); have HR2 := Lib.hid (HR2.out.apart U HD23.out); have HR3 := Lib.hid R; have HB := Lib.hid (HB.out.trans (U.below HG3.out)); clear U R) | (refine step_load rfl _ rfl b3 rfl (_) HR3.out ?_) | (refine step_load rfl _ rfl b1 rfl (p) HR1.out ?_) | (refine step_same rfl _ _ rfl (_) (p) rfl rfl HWe.out HE.out ?_))
          go_ret
          exact ⟨rfl, HB.out⟩
end Go.Proofs.YtgodoipmnenohaaDoor.boardPut
