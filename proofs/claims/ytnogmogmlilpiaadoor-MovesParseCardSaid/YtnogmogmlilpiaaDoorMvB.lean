/-
  Contracts of layer 11's functions: stands, castles, castlingText, dropText, readEnds, castlingOf, plainText, readPlain, readDrop, Text.
-/
import Derived.Test.YtnogmogmlilpiaaDoorMvA
import Derived.Test.YtnogmogmlilpiaaDoorRuLater
import Derived.IntWalk
namespace Go.Proofs.YtnogmogmlilpiaaDoor
open Go.RowKit
set_option linter.unusedVariables false
set_option linter.unusedSimpArgs false

theorem late_blk {o : Oper} {a : Act} {w : World} {K : Act → World → Prop} {Q : Exit → Act → World → Prop} (T : TypeId) (x y : Operand) (ho : o.op = .store T x y) (b : Nat) (hx : a.eval x = .pointer (some ⟨b, 0, none⟩)) (cs ds : Array Value) (hy : a.eval y = .agg ds) (hr : Blk w b T cs)
    (hs : ds.size = cs.size) (h1 : ds.all (·.oneCell') = true) (hi : (Tryd.prog.info? T).map (·.size) = some ds.size)
    (h : ∀ w', Upd b w w' → Blk w' b T ds → K (a.put o.dst undef) w') : Wp Tryd.prog o a w K Q :=
  ⟨wp_store_mid T x y ho b 0 ds hx hy (hr.there 0 _ (by omega)) hi h1 (h _ (Upd.setCells _ _ _ _) (hr.whole hs))⟩
set_option maxRecDepth 100000 in
set_option maxHeartbeats 1000000 in
theorem stands_any (p : Nat → Int) (s k : Int) (w : World) (hs : sqB s = true) (ht : 0 ≤ p 78) (hk0 : 0 ≤ k) : Calls Tryd.prog 50 #[.agg (posA p), .int .i8 s, .int .u8 k] w (BoL (stB p s k) w) := by
  obtain ⟨h0, h1⟩ := sqB_true.1 hs
  obtain ⟨n, rfl⟩ := Int.eq_ofNat_of_zero_le h0
  have hn : n < 64 := by omega
  have HS := Lib.hid (show stB p (n : Int) k = (p (1 + n) == mkZ (p 78) k) from rfl)
  have HK := Lib.hid (kAt_board (Nat.zero_le _) hn)
  have HT := Lib.hid ht
  have g1 : (n : Int) < 64 := h1
  rw [HS.out]
  clear HS hs h1 ht
  have HB := Lib.hid (Below.refl w.heap.size w)
  go_enter Tryd.func50, Tryd.ntmps50
  go_wp2_with (first
      | (refine step_box rfl _ rfl p rfl ?_; intro b0 w1 N R; have HB := Lib.hid (HB.out.trans (N.below.mono HB.out.size)); have HR := Lib.hid R; clear N R))
  refine late_begin 10 (by kernel_rfl) ?_
  refine late_take 0 (by kernel_rfl) (by kernel_rfl) (by kernel_rfl) (by kernel_rfl) (by kernel_rfl) (fun _ _ d _ _ h => by cases d <;> exact h) (fun o ho => ?_)
  simp only [List.getElem?_toArray, List.getElem?_cons_zero, List.getElem?_cons_succ, Option.some.injEq] at ho; subst ho
  apply Exists.intro
  refine ⟨Or.inl ⟨by kernel_rfl, fun w' hl => Or.inl ?_⟩, ?_⟩
  · (go_simp; try with_reducible rfl)
  simp only [Act.put, List.setIfInBounds_toArray, List.set_cons_zero, List.set_cons_succ]
  refine late_take 1 (by kernel_rfl) (by kernel_rfl) (by kernel_rfl) (by kernel_rfl) (by kernel_rfl) (fun _ _ d _ _ h => by cases d <;> exact h) (fun o ho => ?_)
  simp only [List.getElem?_toArray, List.getElem?_cons_zero, List.getElem?_cons_succ, Option.some.injEq] at ho; subst ho
  apply Exists.intro
  refine ⟨Or.inl ⟨by kernel_rfl, fun w' hl => Or.inl ?_⟩, ?_⟩
  · (go_simp; try with_reducible rfl)
  simp only [Act.put, List.setIfInBounds_toArray, List.set_cons_zero, List.set_cons_succ]
  refine late_take 2 (by kernel_rfl) (by kernel_rfl) (by kernel_rfl) (by kernel_rfl) (by kernel_rfl) (fun _ _ d _ _ h => by cases d <;> exact h) (fun o ho => ?_)
  simp only [List.getElem?_toArray, List.getElem?_cons_zero, List.getElem?_cons_succ, Option.some.injEq] at ho; subst ho
  apply Exists.intro
  refine ⟨Or.inl ⟨by kernel_rfl, fun w' hl => Or.inl ?_⟩, ?_⟩
  · (go_simp; try with_reducible rfl)
  simp only [Act.put, List.setIfInBounds_toArray, List.set_cons_zero, List.set_cons_succ]
  refine late_take 3 (by kernel_rfl) (by kernel_rfl) (by kernel_rfl) (by kernel_rfl) (by kernel_rfl) (fun _ _ d _ _ h => by cases d <;> exact h) (fun o ho => ?_)
  simp only [List.getElem?_toArray, List.getElem?_cons_zero, List.getElem?_cons_succ, Option.some.injEq] at ho; subst ho
  refine ⟨_, Or.inl ⟨by kernel_rfl, fun w' hl => Or.inl (run_get 5 _ rfl b0 (1 + n) rfl Tryd.underlying5 rfl (.int .u8 (p (1 + n))) (((HR.out.later hl).cell (1 + n) (by omega)).trans (by rw [HK.out])))⟩, ?_⟩
  simp only [Act.put, List.setIfInBounds_toArray, List.set_cons_zero, List.set_cons_succ]
  refine late_take 4 (by kernel_rfl) (by kernel_rfl) (by kernel_rfl) (by kernel_rfl) (by kernel_rfl) (fun _ _ d _ _ h => by cases d <;> exact h) (fun o ho => ?_)
  simp only [List.getElem?_toArray, List.getElem?_cons_zero, List.getElem?_cons_succ, Option.some.injEq] at ho; subst ho
  apply Exists.intro
  refine ⟨Or.inl ⟨by kernel_rfl, fun w' hl => Or.inl ?_⟩, ?_⟩
  · (go_simp; try with_reducible rfl)
  simp only [Act.put, List.setIfInBounds_toArray, List.set_cons_zero, List.set_cons_succ]
  refine late_take 5 (by kernel_rfl) (by kernel_rfl) (by kernel_rfl) (by kernel_rfl) (by kernel_rfl) (fun _ _ d _ _ h => by cases d <;> exact h) (fun o ho => ?_)
  simp only [List.getElem?_toArray, List.getElem?_cons_zero, List.getElem?_cons_succ, Option.some.injEq] at ho; subst ho
  refine ⟨_, Or.inl ⟨by kernel_rfl, fun w' hl => Or.inl (run_get 5 _ rfl b0 (78) rfl Tryd.underlying5 rfl (.int .u8 (p 78)) ((HR.out.later hl).cell 78 (by decide)))⟩, ?_⟩
  simp only [Act.put, List.setIfInBounds_toArray, List.set_cons_zero, List.set_cons_succ]
  refine late_take 6 (by kernel_rfl) (by kernel_rfl) (by kernel_rfl) (by kernel_rfl) (by kernel_rfl) (fun _ _ d _ _ h => by cases d <;> exact h) (fun o ho => ?_)
  simp only [List.getElem?_toArray, List.getElem?_cons_zero, List.getElem?_cons_succ, Option.some.injEq] at ho; subst ho
  apply Exists.intro
  refine ⟨Or.inl ⟨by kernel_rfl, fun w' hl => Or.inl ?_⟩, ?_⟩
  · (go_simp; try with_reducible rfl)
  simp only [Act.put, List.setIfInBounds_toArray, List.set_cons_zero, List.set_cons_succ]
  refine late_one 7 (by kernel_rfl) (by kernel_rfl) (fun o ho => ?_)
  simp only [List.getElem?_toArray, List.getElem?_cons_zero, List.getElem?_cons_succ, Option.some.injEq] at ho; subst ho
  refine ⟨by kernel_rfl, fun wn hl K hK => ?_⟩
  have HR := Lib.hid (HR.out.later hl); have HB := Lib.hid (below_on HB.out hl); clear hl
  refine wp_enter _ _ (by go_simp; exact ⟨rfl, rfl⟩) ?_
  refine (mk_any (p 78) k _ HT.out hk0).mono ?_; rintro e wm ⟨rfl, rfl⟩; refine ⟨_, rfl, ?_⟩
  refine hK.out _ _ (Later.refl _) ?_
  clear hK K
  simp only [Act.put, List.setIfInBounds_toArray, List.set_cons_zero, List.set_cons_succ]
  refine late_take 8 (by kernel_rfl) (by kernel_rfl) (by kernel_rfl) (by kernel_rfl) (by kernel_rfl) (fun _ _ d _ _ h => by cases d <;> exact h) (fun o ho => ?_)
  simp only [List.getElem?_toArray, List.getElem?_cons_zero, List.getElem?_cons_succ, Option.some.injEq] at ho; subst ho
  apply Exists.intro
  refine ⟨Or.inl ⟨by kernel_rfl, fun w' hl => Or.inl ?_⟩, ?_⟩
  · (go_simp; try with_reducible rfl)
  simp only [Act.put, List.setIfInBounds_toArray, List.set_cons_zero, List.set_cons_succ]
  refine late_take 9 (by kernel_rfl) (by kernel_rfl) (by kernel_rfl) (by kernel_rfl) (by kernel_rfl) (fun _ _ d _ _ h => by cases d <;> exact h) (fun o ho => ?_)
  simp only [List.getElem?_toArray, List.getElem?_cons_zero, List.getElem?_cons_succ, Option.some.injEq] at ho; subst ho
  apply Exists.intro
  refine ⟨Or.inl ⟨by kernel_rfl, fun w' hl => Or.inl ?_⟩, ?_⟩
  · (go_simp; try with_reducible rfl)
  simp only [Act.put, List.setIfInBounds_toArray, List.set_cons_zero, List.set_cons_succ]
  refine late_end (by kernel_rfl) (fun wn hl => ?_)
  have HR := Lib.hid (HR.out.later hl); have HB := Lib.hid (below_on HB.out hl); clear hl
  go_wp2_with fail
  go_ret
  exact ⟨rfl, HB.out⟩
set_option maxRecDepth 100000 in
set_option maxHeartbeats 1000000 in
theorem castles_w0 (p : Nat → Int) (m : Mv) (w : World) (hp : FitM p) (hm : FitV m) (hs : smB p = true) (h1 : (sqB m.f && sqB m.t && (m.f != m.t)) = false) : Calls Tryd.prog 40 #[.agg (posA p), .agg (mvA m)] w (BoL (csB p m.f m.t) w) := by
  have HMf := Lib.hid hm
  have ht := smB_turn hs hp.turn.1
  have HTn := Lib.hid ht
  obtain ⟨q, hq⟩ : ∃ q, bz (enL m.f m.t) = q := ⟨_, rfl⟩
  have HQ := Lib.hid hq
  have HB := Lib.hid (Below.refl w.heap.size w)
  have hqe : q.toList.isEmpty = true := by rw [← hq, bz_toList, enL_no h1]; rfl
  have HS := Lib.hid (show csB p m.f m.t = false by unfold csB; rw [h1]; rfl)
  clear h1 hq hp hm hs ht
  go_enter Tryd.func40, Tryd.ntmps40
  go_wp2_with (first
      | (refine step_box rfl _ rfl p rfl ?_; intro b0 w1 N R; have HB := Lib.hid (HB.out.trans (N.below.mono HB.out.size)); have HR := Lib.hid R; clear N R)
      | (refine blk_box rfl 33 _ rfl (mvA m) rfl ?_; intro b1 w2 N R; have HR := Lib.hid (HR.out.later N.below); have HB := Lib.hid (HB.out.trans (N.below.mono HB.out.size)); have HM := Lib.hid R; clear N R)
      | (refine step_get rfl 26 _ rfl b1 0 rfl Tryd.underlying26 rfl (.int .i8 m.f) ?_ ?_; exact HM.out.cell 0)
      | (refine step_get rfl 26 _ rfl b1 1 rfl Tryd.underlying26 rfl (.int .i8 m.t) ?_ ?_; exact HM.out.cell 1)
      | (go_at_call 41; refine (ends_any _ _ _ HMf.out.f HMf.out.t).mono ?_; rintro e w3 ⟨rfl, hb⟩; rw [HQ.out]; have HR := Lib.hid (HR.out.later hb); have HM := Lib.hid (HM.out.later hb); have HB := Lib.hid (below_on HB.out hb); clear hb))
  go_ret
  exact ⟨by rw [HS.out]; rfl, HB.out⟩
set_option maxRecDepth 100000 in
set_option maxHeartbeats 1000000 in
theorem castles_w1 (p : Nat → Int) (m : Mv) (w : World) (hp : FitM p) (hm : FitV m) (hs : smB p = true) (h1 : (sqB m.f && sqB m.t && (m.f != m.t)) = true) (h2 : stB p m.f 6 = false) : Calls Tryd.prog 40 #[.agg (posA p), .agg (mvA m)] w (BoL (csB p m.f m.t) w) := by
  have HMf := Lib.hid hm
  have ht := smB_turn hs hp.turn.1
  have HTn := Lib.hid ht
  obtain ⟨q, hq⟩ : ∃ q, bz (enL m.f m.t) = q := ⟨_, rfl⟩
  have HQ := Lib.hid hq
  have HB := Lib.hid (Below.refl w.heap.size w)
  have hqe : q.toList.isEmpty = false := by
    rw [← hq, bz_toList]
    exact List.isEmpty_eq_false_iff.2 (enL_ne h1)
  have h1' := h1
  simp only [Bool.and_eq_true] at h1'
  have HSf := Lib.hid h1'.1.1
  have HSt := Lib.hid h1'.1.2
  have HT0 := Lib.hid hp.turn.1
  have H2 := Lib.hid h2
  have HS := Lib.hid (show csB p m.f m.t = false by unfold csB; rw [h1, h2]; rfl)
  clear h1 h1' hq hp hm hs ht h2
  go_enter Tryd.func40, Tryd.ntmps40
  go_wp2_with (first
      | (refine step_box rfl _ rfl p rfl ?_; intro b0 w1 N R; have HB := Lib.hid (HB.out.trans (N.below.mono HB.out.size)); have HR := Lib.hid R; clear N R)
      | (refine blk_box rfl 33 _ rfl (mvA m) rfl ?_; intro b1 w2 N R; have HR := Lib.hid (HR.out.later N.below); have HB := Lib.hid (HB.out.trans (N.below.mono HB.out.size)); have HM := Lib.hid R; clear N R)
      | (refine step_get rfl 26 _ rfl b1 0 rfl Tryd.underlying26 rfl (.int .i8 m.f) ?_ ?_; exact HM.out.cell 0)
      | (refine step_get rfl 26 _ rfl b1 1 rfl Tryd.underlying26 rfl (.int .i8 m.t) ?_ ?_; exact HM.out.cell 1)
      | (go_at_call 41; refine (ends_any _ _ _ HMf.out.f HMf.out.t).mono ?_; rintro e w3 ⟨rfl, hb⟩; rw [HQ.out]; have HR := Lib.hid (HR.out.later hb); have HM := Lib.hid (HM.out.later hb); have HB := Lib.hid (below_on HB.out hb); clear hb)
      | (refine step_load rfl _ rfl b0 rfl p HR.out ?_))
  refine (stands_any p m.f 6 _ HSf.out HT0.out (by decide)).mono ?_; rintro e w4 ⟨rfl, hb⟩; rw [H2.out]; have HR := Lib.hid (HR.out.later hb); have HM := Lib.hid (HM.out.later hb); have HB := Lib.hid (below_on HB.out hb); clear hb
  go_wp2_with fail
  go_ret
  exact ⟨by rw [HS.out]; rfl, HB.out⟩
set_option maxRecDepth 100000 in
set_option maxHeartbeats 1000000 in
theorem castles_w2 (p : Nat → Int) (m : Mv) (w : World) (hp : FitM p) (hm : FitV m) (hs : smB p = true) (h1 : (sqB m.f && sqB m.t && (m.f != m.t)) = true) (h2 : stB p m.f 6 = true) (h3 : (p 0 == 1) = true) : Calls Tryd.prog 40 #[.agg (posA p), .agg (mvA m)] w (BoL (csB p m.f m.t) w) := by
  have HMf := Lib.hid hm
  have ht := smB_turn hs hp.turn.1
  have HTn := Lib.hid ht
  obtain ⟨q, hq⟩ : ∃ q, bz (enL m.f m.t) = q := ⟨_, rfl⟩
  have HQ := Lib.hid hq
  have HB := Lib.hid (Below.refl w.heap.size w)
  have hqe : q.toList.isEmpty = false := by
    rw [← hq, bz_toList]
    exact List.isEmpty_eq_false_iff.2 (enL_ne h1)
  have h1' := h1
  simp only [Bool.and_eq_true] at h1'
  have HSf := Lib.hid h1'.1.1
  have HSt := Lib.hid h1'.1.2
  have HT0 := Lib.hid hp.turn.1
  have H2 := Lib.hid h2
  have HS := Lib.hid (show csB p m.f m.t = stB p m.t 4 by unfold csB; rw [h1, h2, h3]; rfl)
  clear h1 h1' hq hp hm hs ht h2
  go_enter Tryd.func40, Tryd.ntmps40
  go_wp2_with (first
      | (refine step_box rfl _ rfl p rfl ?_; intro b0 w1 N R; have HB := Lib.hid (HB.out.trans (N.below.mono HB.out.size)); have HR := Lib.hid R; clear N R)
      | (refine blk_box rfl 33 _ rfl (mvA m) rfl ?_; intro b1 w2 N R; have HR := Lib.hid (HR.out.later N.below); have HB := Lib.hid (HB.out.trans (N.below.mono HB.out.size)); have HM := Lib.hid R; clear N R)
      | (refine step_get rfl 26 _ rfl b1 0 rfl Tryd.underlying26 rfl (.int .i8 m.f) ?_ ?_; exact HM.out.cell 0)
      | (refine step_get rfl 26 _ rfl b1 1 rfl Tryd.underlying26 rfl (.int .i8 m.t) ?_ ?_; exact HM.out.cell 1)
      | (go_at_call 41; refine (ends_any _ _ _ HMf.out.f HMf.out.t).mono ?_; rintro e w3 ⟨rfl, hb⟩; rw [HQ.out]; have HR := Lib.hid (HR.out.later hb); have HM := Lib.hid (HM.out.later hb); have HB := Lib.hid (below_on HB.out hb); clear hb)
      | (refine step_load rfl _ rfl b0 rfl p HR.out ?_))
  refine (stands_any p m.f 6 _ HSf.out HT0.out (by decide)).mono ?_; rintro e w4 ⟨rfl, hb⟩; rw [H2.out]; have HR := Lib.hid (HR.out.later hb); have HM := Lib.hid (HM.out.later hb); have HB := Lib.hid (below_on HB.out hb); clear hb
  go_wp2_with (first
      | (refine step_get rfl 5 _ rfl b0 0 rfl Tryd.underlying5 rfl (.int .u8 (p 0)) ?_ ?_; exact HR.out.cell 0 (by decide))
      | (refine step_load rfl _ rfl b0 rfl p HR.out ?_)
      | (refine step_get rfl 26 _ rfl b1 1 rfl Tryd.underlying26 rfl (.int .i8 m.t) ?_ ?_; exact HM.out.cell 1))
  refine (stands_any p m.t 4 _ HSt.out HT0.out (by decide)).mono ?_; rintro e w4 ⟨rfl, hb⟩; have HR := Lib.hid (HR.out.later hb); have HM := Lib.hid (HM.out.later hb); have HB := Lib.hid (below_on HB.out hb); clear hb
  go_wp2_with fail
  go_ret
  exact ⟨by rw [HS.out]; rfl, HB.out⟩
set_option maxRecDepth 100000 in
set_option maxHeartbeats 1000000 in
theorem castles_w3 (p : Nat → Int) (m : Mv) (w : World) (hp : FitM p) (hm : FitV m) (hs : smB p = true) (h1 : (sqB m.f && sqB m.t && (m.f != m.t)) = true) (h2 : stB p m.f 6 = true) (h3 : (p 0 == 1) = false) (h4 : (m.f == hmZ p 4) = false) : Calls Tryd.prog 40 #[.agg (posA p), .agg (mvA m)] w (BoL (csB p m.f m.t) w) := by
  have HMf := Lib.hid hm
  have ht := smB_turn hs hp.turn.1
  have HTn := Lib.hid ht
  obtain ⟨q, hq⟩ : ∃ q, bz (enL m.f m.t) = q := ⟨_, rfl⟩
  have HQ := Lib.hid hq
  have HB := Lib.hid (Below.refl w.heap.size w)
  have hqe : q.toList.isEmpty = false := by
    rw [← hq, bz_toList]
    exact List.isEmpty_eq_false_iff.2 (enL_ne h1)
  have h1' := h1
  simp only [Bool.and_eq_true] at h1'
  have HSf := Lib.hid h1'.1.1
  have HSt := Lib.hid h1'.1.2
  have HT0 := Lib.hid hp.turn.1
  have H2 := Lib.hid h2
  have HS := Lib.hid (show csB p m.f m.t = false by unfold csB; rw [h1, h2, h3, h4]; rfl)
  obtain ⟨z, hz⟩ : ∃ z, hmZ p 4 = z := ⟨_, rfl⟩
  have H4 := Lib.hid hz
  rw [hz] at h4
  have g4 := h4
  clear h1 h1' hq hp hm hs ht h2 hz h4
  go_enter Tryd.func40, Tryd.ntmps40
  go_wp2_with (first
      | (refine step_box rfl _ rfl p rfl ?_; intro b0 w1 N R; have HB := Lib.hid (HB.out.trans (N.below.mono HB.out.size)); have HR := Lib.hid R; clear N R)
      | (refine blk_box rfl 33 _ rfl (mvA m) rfl ?_; intro b1 w2 N R; have HR := Lib.hid (HR.out.later N.below); have HB := Lib.hid (HB.out.trans (N.below.mono HB.out.size)); have HM := Lib.hid R; clear N R)
      | (refine step_get rfl 26 _ rfl b1 0 rfl Tryd.underlying26 rfl (.int .i8 m.f) ?_ ?_; exact HM.out.cell 0)
      | (refine step_get rfl 26 _ rfl b1 1 rfl Tryd.underlying26 rfl (.int .i8 m.t) ?_ ?_; exact HM.out.cell 1)
      | (go_at_call 41; refine (ends_any _ _ _ HMf.out.f HMf.out.t).mono ?_; rintro e w3 ⟨rfl, hb⟩; rw [HQ.out]; have HR := Lib.hid (HR.out.later hb); have HM := Lib.hid (HM.out.later hb); have HB := Lib.hid (below_on HB.out hb); clear hb)
      | (refine step_load rfl _ rfl b0 rfl p HR.out ?_))
  refine (stands_any p m.f 6 _ HSf.out HT0.out (by decide)).mono ?_; rintro e w4 ⟨rfl, hb⟩; rw [H2.out]; have HR := Lib.hid (HR.out.later hb); have HM := Lib.hid (HM.out.later hb); have HB := Lib.hid (below_on HB.out hb); clear hb
  go_wp2_with (first
      | (refine step_get rfl 5 _ rfl b0 0 rfl Tryd.underlying5 rfl (.int .u8 (p 0)) ?_ ?_; exact HR.out.cell 0 (by decide))
      | (refine step_load rfl _ rfl b0 rfl p HR.out ?_)
      | (refine step_get rfl 26 _ rfl b1 1 rfl Tryd.underlying26 rfl (.int .i8 m.t) ?_ ?_; exact HM.out.cell 1))
  refine late_begin 22 (by kernel_rfl) ?_
  refine late_take 0 (by kernel_rfl) (by kernel_rfl) (by kernel_rfl) (by kernel_rfl) (by kernel_rfl) (fun _ _ d _ _ h => by cases d <;> exact h) (fun o ho => ?_)
  simp only [List.getElem?_toArray, List.getElem?_cons_zero, List.getElem?_cons_succ, Option.some.injEq] at ho; subst ho
  apply Exists.intro
  refine ⟨Or.inl ⟨by kernel_rfl, fun w' hl => Or.inl ?_⟩, ?_⟩
  · (go_simp; try with_reducible rfl)
  simp only [Act.put, List.setIfInBounds_toArray, List.set_cons_zero, List.set_cons_succ]
  refine late_take 1 (by kernel_rfl) (by kernel_rfl) (by kernel_rfl) (by kernel_rfl) (by kernel_rfl) (fun _ _ d _ _ h => by cases d <;> exact h) (fun o ho => ?_)
  simp only [List.getElem?_toArray, List.getElem?_cons_zero, List.getElem?_cons_succ, Option.some.injEq] at ho; subst ho
  refine ⟨_, Or.inl ⟨by kernel_rfl, fun w' hl => Or.inl (run_get 26 _ rfl b1 (0) rfl Tryd.underlying26 rfl (.int .i8 m.f) ((HM.out.later hl).cell 0))⟩, ?_⟩
  simp only [Act.put, List.setIfInBounds_toArray, List.set_cons_zero, List.set_cons_succ]
  refine late_take 2 (by kernel_rfl) (by kernel_rfl) (by kernel_rfl) (by kernel_rfl) (by kernel_rfl) (fun _ _ d _ _ h => by cases d <;> exact h) (fun o ho => ?_)
  simp only [List.getElem?_toArray, List.getElem?_cons_zero, List.getElem?_cons_succ, Option.some.injEq] at ho; subst ho
  refine ⟨_, Or.inl ⟨by kernel_rfl, fun w' hl => Or.inl (run_load _ rfl _ rfl (p) (HR.out.later hl))⟩, ?_⟩
  simp only [Act.put, List.setIfInBounds_toArray, List.set_cons_zero, List.set_cons_succ]
  refine late_one 3 (by kernel_rfl) (by kernel_rfl) (fun o ho => ?_)
  simp only [List.getElem?_toArray, List.getElem?_cons_zero, List.getElem?_cons_succ, Option.some.injEq] at ho; subst ho
  refine ⟨by kernel_rfl, fun wn hl K hK => ?_⟩
  have HR := Lib.hid (HR.out.later hl); have HM := Lib.hid (HM.out.later hl); have HB := Lib.hid (below_on HB.out hl); clear hl
  refine wp_enter _ _ (by go_simp; exact ⟨rfl, rfl⟩) ?_
  refine (home_any p 4 _ HTn.out).mono ?_; rintro e wm ⟨rfl, hb⟩; refine ⟨_, rfl, ?_⟩
  rw [H4.out]
  refine hK.out _ _ hb ?_
  have HR := Lib.hid (HR.out.later hb); have HM := Lib.hid (HM.out.later hb); have HB := Lib.hid (below_on HB.out hb); clear hb
  clear hK K
  simp only [Act.put, List.setIfInBounds_toArray, List.set_cons_zero, List.set_cons_succ]
  refine late_take 4 (by kernel_rfl) (by kernel_rfl) (by kernel_rfl) (by kernel_rfl) (by kernel_rfl) (fun _ _ d _ _ h => by cases d <;> exact h) (fun o ho => ?_)
  simp only [List.getElem?_toArray, List.getElem?_cons_zero, List.getElem?_cons_succ, Option.some.injEq] at ho; subst ho
  refine ⟨.bool false, Or.inl ⟨by kernel_rfl, fun w' hl => Or.inl ?_⟩, ?_⟩
  · (go_simp; try simp [g4])
  simp only [Act.put, List.setIfInBounds_toArray, List.set_cons_zero, List.set_cons_succ]
  refine late_take 5 (by kernel_rfl) (by kernel_rfl) (by kernel_rfl) (by kernel_rfl) (by kernel_rfl) (fun _ _ d _ _ h => by cases d <;> exact h) (fun o ho => ?_)
  simp only [List.getElem?_toArray, List.getElem?_cons_zero, List.getElem?_cons_succ, Option.some.injEq] at ho; subst ho
  apply Exists.intro
  refine ⟨Or.inl ⟨by kernel_rfl, fun w' hl => Or.inl ?_⟩, ?_⟩
  · (go_simp; try with_reducible rfl)
  simp only [Act.put, List.setIfInBounds_toArray, List.set_cons_zero, List.set_cons_succ]
  refine late_take 6 (by kernel_rfl) (by kernel_rfl) (by kernel_rfl) (by kernel_rfl) (by kernel_rfl) (fun _ _ d _ _ h => by cases d <;> exact h) (fun o ho => ?_)
  simp only [List.getElem?_toArray, List.getElem?_cons_zero, List.getElem?_cons_succ, Option.some.injEq] at ho; subst ho
  refine ⟨_, Or.inr ⟨by kernel_rfl, rfl⟩, ?_⟩
  simp only [Act.put, List.setIfInBounds_toArray, List.set_cons_zero, List.set_cons_succ]
  refine late_take 7 (by kernel_rfl) (by kernel_rfl) (by kernel_rfl) (by kernel_rfl) (by kernel_rfl) (fun _ _ d _ _ h => by cases d <;> exact h) (fun o ho => ?_)
  simp only [List.getElem?_toArray, List.getElem?_cons_zero, List.getElem?_cons_succ, Option.some.injEq] at ho; subst ho
  refine ⟨_, Or.inr ⟨by kernel_rfl, rfl⟩, ?_⟩
  simp only [Act.put, List.setIfInBounds_toArray, List.set_cons_zero, List.set_cons_succ]
  refine late_take 8 (by kernel_rfl) (by kernel_rfl) (by kernel_rfl) (by kernel_rfl) (by kernel_rfl) (fun _ _ d _ _ h => by cases d <;> exact h) (fun o ho => ?_)
  simp only [List.getElem?_toArray, List.getElem?_cons_zero, List.getElem?_cons_succ, Option.some.injEq] at ho; subst ho
  refine ⟨_, Or.inr ⟨by kernel_rfl, rfl⟩, ?_⟩
  simp only [Act.put, List.setIfInBounds_toArray, List.set_cons_zero, List.set_cons_succ]
  refine late_take 9 (by kernel_rfl) (by kernel_rfl) (by kernel_rfl) (by kernel_rfl) (by kernel_rfl) (fun _ _ d _ _ h => by cases d <;> exact h) (fun o ho => ?_)
  simp only [List.getElem?_toArray, List.getElem?_cons_zero, List.getElem?_cons_succ, Option.some.injEq] at ho; subst ho
  refine ⟨_, Or.inr ⟨by kernel_rfl, rfl⟩, ?_⟩
  simp only [Act.put, List.setIfInBounds_toArray, List.set_cons_zero, List.set_cons_succ]
  refine late_take 10 (by kernel_rfl) (by kernel_rfl) (by kernel_rfl) (by kernel_rfl) (by kernel_rfl) (fun _ _ d _ _ h => by cases d <;> exact h) (fun o ho => ?_)
  simp only [List.getElem?_toArray, List.getElem?_cons_zero, List.getElem?_cons_succ, Option.some.injEq] at ho; subst ho
  refine ⟨_, Or.inr ⟨by kernel_rfl, rfl⟩, ?_⟩
  simp only [Act.put, List.setIfInBounds_toArray, List.set_cons_zero, List.set_cons_succ]
  refine late_take 11 (by kernel_rfl) (by kernel_rfl) (by kernel_rfl) (by kernel_rfl) (by kernel_rfl) (fun _ _ d _ _ h => by cases d <;> exact h) (fun o ho => ?_)
  simp only [List.getElem?_toArray, List.getElem?_cons_zero, List.getElem?_cons_succ, Option.some.injEq] at ho; subst ho
  refine ⟨_, Or.inr ⟨by kernel_rfl, rfl⟩, ?_⟩
  simp only [Act.put, List.setIfInBounds_toArray, List.set_cons_zero, List.set_cons_succ]
  refine late_take 12 (by kernel_rfl) (by kernel_rfl) (by kernel_rfl) (by kernel_rfl) (by kernel_rfl) (fun _ _ d _ _ h => by cases d <;> exact h) (fun o ho => ?_)
  simp only [List.getElem?_toArray, List.getElem?_cons_zero, List.getElem?_cons_succ, Option.some.injEq] at ho; subst ho
  refine ⟨_, Or.inr ⟨by kernel_rfl, rfl⟩, ?_⟩
  simp only [Act.put, List.setIfInBounds_toArray, List.set_cons_zero, List.set_cons_succ]
  refine late_take 13 (by kernel_rfl) (by kernel_rfl) (by kernel_rfl) (by kernel_rfl) (by kernel_rfl) (fun _ _ d _ _ h => by cases d <;> exact h) (fun o ho => ?_)
  simp only [List.getElem?_toArray, List.getElem?_cons_zero, List.getElem?_cons_succ, Option.some.injEq] at ho; subst ho
  refine ⟨_, Or.inr ⟨by kernel_rfl, rfl⟩, ?_⟩
  simp only [Act.put, List.setIfInBounds_toArray, List.set_cons_zero, List.set_cons_succ]
  refine late_take 14 (by kernel_rfl) (by kernel_rfl) (by kernel_rfl) (by kernel_rfl) (by kernel_rfl) (fun _ _ d _ _ h => by cases d <;> exact h) (fun o ho => ?_)
  simp only [List.getElem?_toArray, List.getElem?_cons_zero, List.getElem?_cons_succ, Option.some.injEq] at ho; subst ho
  refine ⟨_, Or.inr ⟨by kernel_rfl, rfl⟩, ?_⟩
  simp only [Act.put, List.setIfInBounds_toArray, List.set_cons_zero, List.set_cons_succ]
  refine late_take 15 (by kernel_rfl) (by kernel_rfl) (by kernel_rfl) (by kernel_rfl) (by kernel_rfl) (fun _ _ d _ _ h => by cases d <;> exact h) (fun o ho => ?_)
  simp only [List.getElem?_toArray, List.getElem?_cons_zero, List.getElem?_cons_succ, Option.some.injEq] at ho; subst ho
  refine ⟨_, Or.inr ⟨by kernel_rfl, rfl⟩, ?_⟩
  simp only [Act.put, List.setIfInBounds_toArray, List.set_cons_zero, List.set_cons_succ]
  refine late_take 16 (by kernel_rfl) (by kernel_rfl) (by kernel_rfl) (by kernel_rfl) (by kernel_rfl) (fun _ _ d _ _ h => by cases d <;> exact h) (fun o ho => ?_)
  simp only [List.getElem?_toArray, List.getElem?_cons_zero, List.getElem?_cons_succ, Option.some.injEq] at ho; subst ho
  refine ⟨_, Or.inr ⟨by kernel_rfl, rfl⟩, ?_⟩
  simp only [Act.put, List.setIfInBounds_toArray, List.set_cons_zero, List.set_cons_succ]
  refine late_take 17 (by kernel_rfl) (by kernel_rfl) (by kernel_rfl) (by kernel_rfl) (by kernel_rfl) (fun _ _ d _ _ h => by cases d <;> exact h) (fun o ho => ?_)
  simp only [List.getElem?_toArray, List.getElem?_cons_zero, List.getElem?_cons_succ, Option.some.injEq] at ho; subst ho
  refine ⟨_, Or.inr ⟨by kernel_rfl, rfl⟩, ?_⟩
  simp only [Act.put, List.setIfInBounds_toArray, List.set_cons_zero, List.set_cons_succ]
  refine late_take 18 (by kernel_rfl) (by kernel_rfl) (by kernel_rfl) (by kernel_rfl) (by kernel_rfl) (fun _ _ d _ _ h => by cases d <;> exact h) (fun o ho => ?_)
  simp only [List.getElem?_toArray, List.getElem?_cons_zero, List.getElem?_cons_succ, Option.some.injEq] at ho; subst ho
  refine ⟨_, Or.inr ⟨by kernel_rfl, rfl⟩, ?_⟩
  simp only [Act.put, List.setIfInBounds_toArray, List.set_cons_zero, List.set_cons_succ]
  refine late_take 19 (by kernel_rfl) (by kernel_rfl) (by kernel_rfl) (by kernel_rfl) (by kernel_rfl) (fun _ _ d _ _ h => by cases d <;> exact h) (fun o ho => ?_)
  simp only [List.getElem?_toArray, List.getElem?_cons_zero, List.getElem?_cons_succ, Option.some.injEq] at ho; subst ho
  refine ⟨_, Or.inr ⟨by kernel_rfl, rfl⟩, ?_⟩
  simp only [Act.put, List.setIfInBounds_toArray, List.set_cons_zero, List.set_cons_succ]
  refine late_take 20 (by kernel_rfl) (by kernel_rfl) (by kernel_rfl) (by kernel_rfl) (by kernel_rfl) (fun _ _ d _ _ h => by cases d <;> exact h) (fun o ho => ?_)
  simp only [List.getElem?_toArray, List.getElem?_cons_zero, List.getElem?_cons_succ, Option.some.injEq] at ho; subst ho
  apply Exists.intro
  refine ⟨Or.inl ⟨by kernel_rfl, fun w' hl => Or.inl ?_⟩, ?_⟩
  · (go_simp; try with_reducible rfl)
  simp only [Act.put, List.setIfInBounds_toArray, List.set_cons_zero, List.set_cons_succ]
  refine late_take 21 (by kernel_rfl) (by kernel_rfl) (by kernel_rfl) (by kernel_rfl) (by kernel_rfl) (fun _ _ d _ _ h => by cases d <;> exact h) (fun o ho => ?_)
  simp only [List.getElem?_toArray, List.getElem?_cons_zero, List.getElem?_cons_succ, Option.some.injEq] at ho; subst ho
  apply Exists.intro
  refine ⟨Or.inl ⟨by kernel_rfl, fun w' hl => Or.inl ?_⟩, ?_⟩
  · (go_simp; try with_reducible rfl)
  simp only [Act.put, List.setIfInBounds_toArray, List.set_cons_zero, List.set_cons_succ]
  refine late_end (by kernel_rfl) (fun wn hl => ?_)
  have HR := Lib.hid (HR.out.later hl); have HM := Lib.hid (HM.out.later hl); have HB := Lib.hid (below_on HB.out hl); clear hl
  go_wp2_with fail
  go_ret
  exact ⟨by rw [HS.out]; rfl, HB.out⟩
set_option maxRecDepth 100000 in
set_option maxHeartbeats 1000000 in
theorem castles_w4 (p : Nat → Int) (m : Mv) (w : World) (hp : FitM p) (hm : FitV m) (hs : smB p = true) (h1 : (sqB m.f && sqB m.t && (m.f != m.t)) = true) (h2 : stB p m.f 6 = true) (h3 : (p 0 == 1) = false) (h4 : (m.f == hmZ p 4) = true) : Calls Tryd.prog 40 #[.agg (posA p), .agg (mvA m)] w (BoL (csB p m.f m.t) w) := by
  have HMf := Lib.hid hm
  have ht := smB_turn hs hp.turn.1
  have HTn := Lib.hid ht
  obtain ⟨q, hq⟩ : ∃ q, bz (enL m.f m.t) = q := ⟨_, rfl⟩
  have HQ := Lib.hid hq
  have HB := Lib.hid (Below.refl w.heap.size w)
  have hqe : q.toList.isEmpty = false := by
    rw [← hq, bz_toList]
    exact List.isEmpty_eq_false_iff.2 (enL_ne h1)
  have h1' := h1
  simp only [Bool.and_eq_true] at h1'
  have HSf := Lib.hid h1'.1.1
  have HSt := Lib.hid h1'.1.2
  have HT0 := Lib.hid hp.turn.1
  have H2 := Lib.hid h2
  have HS := Lib.hid (show csB p m.f m.t = (m.t == hmZ p (roP p (sdN m.f m.t))) by unfold csB; rw [h1, h2, h3, h4]; rfl)
  obtain ⟨z, hz⟩ : ∃ z, hmZ p 4 = z := ⟨_, rfl⟩
  have H4 := Lib.hid hz
  rw [hz] at h4
  have g4 := h4
  obtain ⟨d, hd⟩ : ∃ d, sdN m.f m.t = d := ⟨_, rfl⟩
  have HSd := Lib.hid hd
  have hd2 : d < 2 := by rw [← hd]; unfold sdN; cases decide (m.f < m.t) <;> decide
  obtain ⟨c, hc⟩ : ∃ c : Nat, p 78 = (c : Int) := Int.eq_ofNat_of_zero_le hp.turn.1
  have hc2 : c < 2 := by omega
  have hc3 : (c : Int) < 2 := by omega
  have hd3 : (d : Int) < 2 := by omega
  have HCt := Lib.hid hc
  obtain ⟨r, hr⟩ : ∃ r, p (79 + c * 2 + d) = r := ⟨_, rfl⟩
  have HRr := Lib.hid hr
  obtain ⟨r0, r1⟩ := hp.rook (79 + c * 2 + d) (by omega) (by omega)
  rw [hr] at r0 r1
  have HKr := Lib.hid (show kAt (79 + c * 2 + d) = .i8 by
    have a : c = 0 ∨ c = 1 := by omega
    have b : d = 0 ∨ d = 1 := by omega
    rcases a with rfl | rfl <;> rcases b with rfl | rfl <;> rfl)
  have wr : IntKind.i64.wrap r = r := IntWalk.i64_in r (by omega)
  obtain ⟨y, hy⟩ : ∃ y, hmZ p r = y := ⟨_, rfl⟩
  have H5 := Lib.hid hy
  rw [hd, show roP p d = r by unfold roP; rw [hc]; exact hr, hy] at HS
  clear h1 h1' hq hp hm hs ht h2 hz h4 hd hc hr hy
  go_enter Tryd.func40, Tryd.ntmps40
  go_wp2_with (first
      | (refine step_box rfl _ rfl p rfl ?_; intro b0 w1 N R; have HB := Lib.hid (HB.out.trans (N.below.mono HB.out.size)); have HR := Lib.hid R; clear N R)
      | (refine blk_box rfl 33 _ rfl (mvA m) rfl ?_; intro b1 w2 N R; have HR := Lib.hid (HR.out.later N.below); have HB := Lib.hid (HB.out.trans (N.below.mono HB.out.size)); have HM := Lib.hid R; clear N R)
      | (refine step_get rfl 26 _ rfl b1 0 rfl Tryd.underlying26 rfl (.int .i8 m.f) ?_ ?_; exact HM.out.cell 0)
      | (refine step_get rfl 26 _ rfl b1 1 rfl Tryd.underlying26 rfl (.int .i8 m.t) ?_ ?_; exact HM.out.cell 1)
      | (go_at_call 41; refine (ends_any _ _ _ HMf.out.f HMf.out.t).mono ?_; rintro e w3 ⟨rfl, hb⟩; rw [HQ.out]; have HR := Lib.hid (HR.out.later hb); have HM := Lib.hid (HM.out.later hb); have HB := Lib.hid (below_on HB.out hb); clear hb)
      | (refine step_load rfl _ rfl b0 rfl p HR.out ?_))
  refine (stands_any p m.f 6 _ HSf.out HT0.out (by decide)).mono ?_; rintro e w4 ⟨rfl, hb⟩; rw [H2.out]; have HR := Lib.hid (HR.out.later hb); have HM := Lib.hid (HM.out.later hb); have HB := Lib.hid (below_on HB.out hb); clear hb
  go_wp2_with (first
      | (refine step_get rfl 5 _ rfl b0 0 rfl Tryd.underlying5 rfl (.int .u8 (p 0)) ?_ ?_; exact HR.out.cell 0 (by decide))
      | (refine step_load rfl _ rfl b0 rfl p HR.out ?_)
      | (refine step_get rfl 26 _ rfl b1 1 rfl Tryd.underlying26 rfl (.int .i8 m.t) ?_ ?_; exact HM.out.cell 1))
  refine late_begin 22 (by kernel_rfl) ?_
  refine late_take 0 (by kernel_rfl) (by kernel_rfl) (by kernel_rfl) (by kernel_rfl) (by kernel_rfl) (fun _ _ d _ _ h => by cases d <;> exact h) (fun o ho => ?_)
  simp only [List.getElem?_toArray, List.getElem?_cons_zero, List.getElem?_cons_succ, Option.some.injEq] at ho; subst ho
  apply Exists.intro
  refine ⟨Or.inl ⟨by kernel_rfl, fun w' hl => Or.inl ?_⟩, ?_⟩
  · (go_simp; try with_reducible rfl)
  simp only [Act.put, List.setIfInBounds_toArray, List.set_cons_zero, List.set_cons_succ]
  refine late_take 1 (by kernel_rfl) (by kernel_rfl) (by kernel_rfl) (by kernel_rfl) (by kernel_rfl) (fun _ _ d _ _ h => by cases d <;> exact h) (fun o ho => ?_)
  simp only [List.getElem?_toArray, List.getElem?_cons_zero, List.getElem?_cons_succ, Option.some.injEq] at ho; subst ho
  refine ⟨_, Or.inl ⟨by kernel_rfl, fun w' hl => Or.inl (run_get 26 _ rfl b1 (0) rfl Tryd.underlying26 rfl (.int .i8 m.f) ((HM.out.later hl).cell 0))⟩, ?_⟩
  simp only [Act.put, List.setIfInBounds_toArray, List.set_cons_zero, List.set_cons_succ]
  refine late_take 2 (by kernel_rfl) (by kernel_rfl) (by kernel_rfl) (by kernel_rfl) (by kernel_rfl) (fun _ _ d _ _ h => by cases d <;> exact h) (fun o ho => ?_)
  simp only [List.getElem?_toArray, List.getElem?_cons_zero, List.getElem?_cons_succ, Option.some.injEq] at ho; subst ho
  refine ⟨_, Or.inl ⟨by kernel_rfl, fun w' hl => Or.inl (run_load _ rfl _ rfl (p) (HR.out.later hl))⟩, ?_⟩
  simp only [Act.put, List.setIfInBounds_toArray, List.set_cons_zero, List.set_cons_succ]
  refine late_one 3 (by kernel_rfl) (by kernel_rfl) (fun o ho => ?_)
  simp only [List.getElem?_toArray, List.getElem?_cons_zero, List.getElem?_cons_succ, Option.some.injEq] at ho; subst ho
  refine ⟨by kernel_rfl, fun wn hl K hK => ?_⟩
  have HR := Lib.hid (HR.out.later hl); have HM := Lib.hid (HM.out.later hl); have HB := Lib.hid (below_on HB.out hl); clear hl
  refine wp_enter _ _ (by go_simp; exact ⟨rfl, rfl⟩) ?_
  refine (home_any p 4 _ HTn.out).mono ?_; rintro e wm ⟨rfl, hb⟩; refine ⟨_, rfl, ?_⟩
  rw [H4.out]
  refine hK.out _ _ hb ?_
  have HR := Lib.hid (HR.out.later hb); have HM := Lib.hid (HM.out.later hb); have HB := Lib.hid (below_on HB.out hb); clear hb
  clear hK K
  simp only [Act.put, List.setIfInBounds_toArray, List.set_cons_zero, List.set_cons_succ]
  refine late_take 4 (by kernel_rfl) (by kernel_rfl) (by kernel_rfl) (by kernel_rfl) (by kernel_rfl) (fun _ _ d _ _ h => by cases d <;> exact h) (fun o ho => ?_)
  simp only [List.getElem?_toArray, List.getElem?_cons_zero, List.getElem?_cons_succ, Option.some.injEq] at ho; subst ho
  refine ⟨.bool true, Or.inl ⟨by kernel_rfl, fun w' hl => Or.inl ?_⟩, ?_⟩
  · (go_simp; try simp [g4])
  simp only [Act.put, List.setIfInBounds_toArray, List.set_cons_zero, List.set_cons_succ]
  refine late_take 5 (by kernel_rfl) (by kernel_rfl) (by kernel_rfl) (by kernel_rfl) (by kernel_rfl) (fun _ _ d _ _ h => by cases d <;> exact h) (fun o ho => ?_)
  simp only [List.getElem?_toArray, List.getElem?_cons_zero, List.getElem?_cons_succ, Option.some.injEq] at ho; subst ho
  apply Exists.intro
  refine ⟨Or.inl ⟨by kernel_rfl, fun w' hl => Or.inl ?_⟩, ?_⟩
  · (go_simp; try with_reducible rfl)
  simp only [Act.put, List.setIfInBounds_toArray, List.set_cons_zero, List.set_cons_succ]
  refine late_take 6 (by kernel_rfl) (by kernel_rfl) (by kernel_rfl) (by kernel_rfl) (by kernel_rfl) (fun _ _ d _ _ h => by cases d <;> exact h) (fun o ho => ?_)
  simp only [List.getElem?_toArray, List.getElem?_cons_zero, List.getElem?_cons_succ, Option.some.injEq] at ho; subst ho
  apply Exists.intro
  refine ⟨Or.inl ⟨by kernel_rfl, fun w' hl => Or.inl ?_⟩, ?_⟩
  · (go_simp; try with_reducible rfl)
  simp only [Act.put, List.setIfInBounds_toArray, List.set_cons_zero, List.set_cons_succ]
  refine late_take 7 (by kernel_rfl) (by kernel_rfl) (by kernel_rfl) (by kernel_rfl) (by kernel_rfl) (fun _ _ d _ _ h => by cases d <;> exact h) (fun o ho => ?_)
  simp only [List.getElem?_toArray, List.getElem?_cons_zero, List.getElem?_cons_succ, Option.some.injEq] at ho; subst ho
  refine ⟨_, Or.inl ⟨by kernel_rfl, fun w' hl => Or.inl (run_get 26 _ rfl b1 (1) rfl Tryd.underlying26 rfl (.int .i8 m.t) ((HM.out.later hl).cell 1))⟩, ?_⟩
  simp only [Act.put, List.setIfInBounds_toArray, List.set_cons_zero, List.set_cons_succ]
  refine late_take 8 (by kernel_rfl) (by kernel_rfl) (by kernel_rfl) (by kernel_rfl) (by kernel_rfl) (fun _ _ d _ _ h => by cases d <;> exact h) (fun o ho => ?_)
  simp only [List.getElem?_toArray, List.getElem?_cons_zero, List.getElem?_cons_succ, Option.some.injEq] at ho; subst ho
  refine ⟨_, Or.inl ⟨by kernel_rfl, fun w' hl => Or.inl (run_load _ rfl _ rfl (p) (HR.out.later hl))⟩, ?_⟩
  simp only [Act.put, List.setIfInBounds_toArray, List.set_cons_zero, List.set_cons_succ]
  refine late_take 9 (by kernel_rfl) (by kernel_rfl) (by kernel_rfl) (by kernel_rfl) (by kernel_rfl) (fun _ _ d _ _ h => by cases d <;> exact h) (fun o ho => ?_)
  simp only [List.getElem?_toArray, List.getElem?_cons_zero, List.getElem?_cons_succ, Option.some.injEq] at ho; subst ho
  apply Exists.intro
  refine ⟨Or.inl ⟨by kernel_rfl, fun w' hl => Or.inl ?_⟩, ?_⟩
  · (go_simp; try with_reducible rfl)
  simp only [Act.put, List.setIfInBounds_toArray, List.set_cons_zero, List.set_cons_succ]
  refine late_take 10 (by kernel_rfl) (by kernel_rfl) (by kernel_rfl) (by kernel_rfl) (by kernel_rfl) (fun _ _ d _ _ h => by cases d <;> exact h) (fun o ho => ?_)
  simp only [List.getElem?_toArray, List.getElem?_cons_zero, List.getElem?_cons_succ, Option.some.injEq] at ho; subst ho
  refine ⟨.int .u8 (c : Int), Or.inl ⟨by kernel_rfl, fun w' hl => Or.inl (run_get 5 _ rfl b0 78 rfl Tryd.underlying5 rfl (.int .u8 (c : Int)) (by rw [(HR.out.later hl).cell 78 (by decide), HCt.out]; rfl))⟩, ?_⟩
  simp only [Act.put, List.setIfInBounds_toArray, List.set_cons_zero, List.set_cons_succ]
  refine late_take 11 (by kernel_rfl) (by kernel_rfl) (by kernel_rfl) (by kernel_rfl) (by kernel_rfl) (fun _ _ d _ _ h => by cases d <;> exact h) (fun o ho => ?_)
  simp only [List.getElem?_toArray, List.getElem?_cons_zero, List.getElem?_cons_succ, Option.some.injEq] at ho; subst ho
  refine ⟨_, Or.inl ⟨by kernel_rfl, fun w' hl => Or.inl (run_blk 33 _ rfl b1 rfl (mvA m) (HM.out.later hl) _ Tryd.underlying33 rfl sizeMv)⟩, ?_⟩
  simp only [Act.put, List.setIfInBounds_toArray, List.set_cons_zero, List.set_cons_succ]
  refine late_take 13 (by kernel_rfl) (by kernel_rfl) (by kernel_rfl) (by kernel_rfl) (by kernel_rfl) (fun _ _ d _ _ h => by cases d <;> exact h) (fun o ho => ?_)
  simp only [List.getElem?_toArray, List.getElem?_cons_zero, List.getElem?_cons_succ, Option.some.injEq] at ho; subst ho
  apply Exists.intro
  refine ⟨Or.inl ⟨by kernel_rfl, fun w' hl => Or.inl ?_⟩, ?_⟩
  · (go_simp; try with_reducible rfl)
  simp only [Act.put, List.setIfInBounds_toArray, List.set_cons_zero, List.set_cons_succ]
  refine late_take 14 (by kernel_rfl) (by kernel_rfl) (by kernel_rfl) (by kernel_rfl) (by kernel_rfl) (fun _ _ d _ _ h => by cases d <;> exact h) (fun o ho => ?_)
  simp only [List.getElem?_toArray, List.getElem?_cons_zero, List.getElem?_cons_succ, Option.some.injEq] at ho; subst ho
  apply Exists.intro
  refine ⟨Or.inl ⟨by kernel_rfl, fun w' hl => Or.inl ?_⟩, ?_⟩
  · (go_simp; try with_reducible rfl)
  simp only [Act.put, List.setIfInBounds_toArray, List.set_cons_zero, List.set_cons_succ]
  refine late_one 12 (by kernel_rfl) (by kernel_rfl) (fun o ho => ?_)
  simp only [List.getElem?_toArray, List.getElem?_cons_zero, List.getElem?_cons_succ, Option.some.injEq] at ho; subst ho
  refine ⟨by kernel_rfl, fun wn hl K hK => ?_⟩
  have HR := Lib.hid (HR.out.later hl); have HM := Lib.hid (HM.out.later hl); have HB := Lib.hid (below_on HB.out hl); clear hl
  refine wp_enter _ _ (by go_simp; exact ⟨rfl, rfl⟩) ?_
  refine (side_any m _).mono ?_; rintro e wm ⟨rfl, hb⟩; refine ⟨_, rfl, ?_⟩
  rw [HSd.out]
  refine hK.out _ _ hb ?_
  have HR := Lib.hid (HR.out.later hb); have HM := Lib.hid (HM.out.later hb); have HB := Lib.hid (below_on HB.out hb); clear hb
  clear hK K
  simp only [Act.put, List.setIfInBounds_toArray, List.set_cons_zero, List.set_cons_succ]
  refine late_take 15 (by kernel_rfl) (by kernel_rfl) (by kernel_rfl) (by kernel_rfl) (by kernel_rfl) (fun _ _ d _ _ h => by cases d <;> exact h) (fun o ho => ?_)
  simp only [List.getElem?_toArray, List.getElem?_cons_zero, List.getElem?_cons_succ, Option.some.injEq] at ho; subst ho
  apply Exists.intro
  refine ⟨Or.inl ⟨by kernel_rfl, fun w' hl => Or.inl ?_⟩, ?_⟩
  · (go_simp; try with_reducible rfl)
  simp only [Act.put, List.setIfInBounds_toArray, List.set_cons_zero, List.set_cons_succ]
  refine late_take 16 (by kernel_rfl) (by kernel_rfl) (by kernel_rfl) (by kernel_rfl) (by kernel_rfl) (fun _ _ d _ _ h => by cases d <;> exact h) (fun o ho => ?_)
  simp only [List.getElem?_toArray, List.getElem?_cons_zero, List.getElem?_cons_succ, Option.some.injEq] at ho; subst ho
  refine ⟨.int .i8 r, Or.inl ⟨by kernel_rfl, fun w' hl => Or.inl (run_get 26 _ rfl b0 (79 + c * 2 + d) rfl Tryd.underlying26 rfl (.int .i8 r) (by rw [(HR.out.later hl).cell (79 + c * 2 + d) (by omega), HKr.out, HRr.out]))⟩, ?_⟩
  simp only [Act.put, List.setIfInBounds_toArray, List.set_cons_zero, List.set_cons_succ]
  refine late_take 17 (by kernel_rfl) (by kernel_rfl) (by kernel_rfl) (by kernel_rfl) (by kernel_rfl) (fun _ _ d _ _ h => by cases d <;> exact h) (fun o ho => ?_)
  simp only [List.getElem?_toArray, List.getElem?_cons_zero, List.getElem?_cons_succ, Option.some.injEq] at ho; subst ho
  refine ⟨.int .i64 r, Or.inl ⟨by kernel_rfl, fun w' hl => Or.inl ?_⟩, ?_⟩
  · (go_simp; try simp [wr])
  simp only [Act.put, List.setIfInBounds_toArray, List.set_cons_zero, List.set_cons_succ]
  refine late_one 18 (by kernel_rfl) (by kernel_rfl) (fun o ho => ?_)
  simp only [List.getElem?_toArray, List.getElem?_cons_zero, List.getElem?_cons_succ, Option.some.injEq] at ho; subst ho
  refine ⟨by kernel_rfl, fun wn hl K hK => ?_⟩
  have HR := Lib.hid (HR.out.later hl); have HM := Lib.hid (HM.out.later hl); have HB := Lib.hid (below_on HB.out hl); clear hl
  refine wp_enter _ _ (by go_simp; exact ⟨rfl, rfl⟩) ?_
  refine (home_any p r _ HTn.out).mono ?_; rintro e wm ⟨rfl, hb⟩; refine ⟨_, rfl, ?_⟩
  rw [H5.out]
  refine hK.out _ _ hb ?_
  have HR := Lib.hid (HR.out.later hb); have HM := Lib.hid (HM.out.later hb); have HB := Lib.hid (below_on HB.out hb); clear hb
  clear hK K
  simp only [Act.put, List.setIfInBounds_toArray, List.set_cons_zero, List.set_cons_succ]
  refine late_take 19 (by kernel_rfl) (by kernel_rfl) (by kernel_rfl) (by kernel_rfl) (by kernel_rfl) (fun _ _ d _ _ h => by cases d <;> exact h) (fun o ho => ?_)
  simp only [List.getElem?_toArray, List.getElem?_cons_zero, List.getElem?_cons_succ, Option.some.injEq] at ho; subst ho
  apply Exists.intro
  refine ⟨Or.inl ⟨by kernel_rfl, fun w' hl => Or.inl ?_⟩, ?_⟩
  · (go_simp; try with_reducible rfl)
  simp only [Act.put, List.setIfInBounds_toArray, List.set_cons_zero, List.set_cons_succ]
  refine late_take 20 (by kernel_rfl) (by kernel_rfl) (by kernel_rfl) (by kernel_rfl) (by kernel_rfl) (fun _ _ d _ _ h => by cases d <;> exact h) (fun o ho => ?_)
  simp only [List.getElem?_toArray, List.getElem?_cons_zero, List.getElem?_cons_succ, Option.some.injEq] at ho; subst ho
  apply Exists.intro
  refine ⟨Or.inl ⟨by kernel_rfl, fun w' hl => Or.inl ?_⟩, ?_⟩
  · (go_simp; try with_reducible rfl)
  simp only [Act.put, List.setIfInBounds_toArray, List.set_cons_zero, List.set_cons_succ]
  refine late_take 21 (by kernel_rfl) (by kernel_rfl) (by kernel_rfl) (by kernel_rfl) (by kernel_rfl) (fun _ _ d _ _ h => by cases d <;> exact h) (fun o ho => ?_)
  simp only [List.getElem?_toArray, List.getElem?_cons_zero, List.getElem?_cons_succ, Option.some.injEq] at ho; subst ho
  apply Exists.intro
  refine ⟨Or.inl ⟨by kernel_rfl, fun w' hl => Or.inl ?_⟩, ?_⟩
  · (go_simp; try with_reducible rfl)
  simp only [Act.put, List.setIfInBounds_toArray, List.set_cons_zero, List.set_cons_succ]
  refine late_end (by kernel_rfl) (fun wn hl => ?_)
  have HR := Lib.hid (HR.out.later hl); have HM := Lib.hid (HM.out.later hl); have HB := Lib.hid (below_on HB.out hl); clear hl
  go_wp2_with fail
  go_ret
  exact ⟨by rw [HS.out]; rfl, HB.out⟩
theorem castles_any (p : Nat → Int) (m : Mv) (w : World) (hp : FitM p) (hm : FitV m) (hs : smB p = true) : Calls Tryd.prog 40 #[.agg (posA p), .agg (mvA m)] w (BoL (csB p m.f m.t) w) := by
  cases h1 : (sqB m.f && sqB m.t && (m.f != m.t))
  · exact castles_w0 p m w hp hm hs h1
  · cases h2 : stB p m.f 6
    · exact castles_w1 p m w hp hm hs h1 h2
    · cases h3 : (p 0 == 1)
      · cases h4 : (m.f == hmZ p 4)
        · exact castles_w3 p m w hp hm hs h1 h2 h3 h4
        · exact castles_w4 p m w hp hm hs h1 h2 h3 h4
      · exact castles_w2 p m w hp hm hs h1 h2 h3
end Go.Proofs.YtnogmogmlilpiaaDoor
