/-
  Contracts of layer 11's functions: readEnds, castlingOf.
-/
import Derived.Test.YtnogmogmlilpiaaDoorMvC
import Derived.Test.YtnogmogmlilpiaaDoorLaterD
namespace Go.Proofs.YtnogmogmlilpiaaDoor
open Go.RowKit
set_option linter.unusedVariables false
set_option linter.unusedSimpArgs false

theorem late_forkL {P : Program} {md : Region.Mode} {ops : Array Oper} {Q : Exit → Act → World → Prop} (i L : Nat) {n : Nat} {listed : Array Bool} {a : Act} {w : World} (hr : Region.ready md ops listed = [i, L]) (hz : ((ops[i]?).isSome && i != L) = true) (hzL : (ops[L]?).isSome = true)
    (h1 : LateStep L P md ops Q n listed a w i)
    (h2 : ∀ o : Oper, ops[L]? = some o → Region.wanted o (yielded ops a.tmps) = true ∧ ∀ w', Later w w' → ∀ K : Act → World → Prop, Shut (∀ a2 w2, wpAny P md ops Q n (listed.setIfInBounds L true) a2 w2 → K a2 w2) → Wp P o a w' K Q) : Late L P md ops Q (n + 1) listed a w := fun w' hw' =>
  ⟨fun h0 => (by rw [hr] at h0; cases h0), fun k hk => (by
    rw [hr] at hk
    have hk : k = i ∨ k = L := by simpa using hk
    rcases hk with rfl | rfl
    · exact late_step hz h1 hw'
    · obtain ⟨o, ho⟩ := Option.isSome_iff_exists.1 hzL
      obtain ⟨hw, h⟩ := h2 o ho
      unfold wpOp
      rw [ho]
      simp only [hw, if_true]
      exact .inl (h w' hw' _ fun a2 w2 hk => hk).out)⟩
theorem rdE_short {l : List UInt8} (h : l.length < 4) : rdE l = (mv0, []) := by
  match l, h with
  | [], _ => rfl
  | [a], _ => rfl
  | [a, b], _ => rfl
  | [a, b, c], _ => rfl
theorem rdE_fit (l : List UInt8) : FitV (rdE l).1 := by
  unfold rdE
  split
  · rename_i a b c d r
    have h1 := parseZ_rng (bz [a, b])
    have h2 := parseZ_rng (bz [c, d])
    exact ⟨by show -128 ≤ parseZ (bz [a, b]) ∧ parseZ (bz [a, b]) ≤ 127; omega, by show -128 ≤ parseZ (bz [c, d]) ∧ parseZ (bz [c, d]) ≤ 127; omega, by show (0 : Int) ≤ 0 ∧ (0 : Int) ≤ 255; decide, by show (0 : Int) ≤ 0 ∧ (0 : Int) ≤ 255; decide⟩
  · exact ⟨by show -128 ≤ (0 : Int) ∧ (0 : Int) ≤ 127; decide, by show -128 ≤ (0 : Int) ∧ (0 : Int) ≤ 127; decide, by show (0 : Int) ≤ 0 ∧ (0 : Int) ≤ 255; decide, by show (0 : Int) ≤ 0 ∧ (0 : Int) ≤ 255; decide⟩
set_option maxRecDepth 100000 in
set_option maxHeartbeats 400000 in
theorem rends_short (l : List UInt8) (w : World) (hl : l.length < 4) : Calls Tryd.prog 29 #[.string (bz l)] w (MvS (rdE l).1 (bz (rdE l).2) w) := by
  have HB := Lib.hid (Below.refl w.heap.size w)
  have HS := Lib.hid (rdE_short hl)
  obtain ⟨t, ht⟩ : ∃ t, bz l = t := ⟨_, rfl⟩
  have hs : t.size = l.length := by rw [← ht, bz_size]
  have g0 : decide ((t.size : Int) < 4) = true := decide_eq_true (by omega)
  rw [ht, HS.out]
  clear ht hs hl HS
  go_enter Tryd.func29, Tryd.ntmps29
  go_wp2_with (first
      | (refine blk_alloc rfl 33 rfl (mvA mv0) zeroMv ?_; intro b1 w2 N R; have HG1 := Lib.hid (show w.heap.size ≤ b1 by rw [N.at_]; exact HB.out.size); have HB := Lib.hid (HB.out.trans (N.below.mono HB.out.size)); have HM := Lib.hid R; clear N R)
      | (refine blk_store rfl 33 _ _ rfl b1 rfl (mvA mv0) (mvA mv0) rfl ?_ rfl (mv_one _) sizeMv ?_; exact HM.out; intro w5 U R; have HB := Lib.hid (HB.out.trans (U.below HG1.out)); have HM := Lib.hid R; clear U R))
  refine bodyPost_ret (results_mv2 rfl _ _ _ mv0 (.string ⟨#[]⟩) rfl rfl HM.out) rfl ⟨rfl, HB.out⟩
set_option maxRecDepth 100000 in
set_option maxHeartbeats 400000 in
theorem rends_long (a b c d : UInt8) (r l : List UInt8) (hl0 : l = a :: b :: c :: d :: r) (w : World) (hl : l.length ≤ 10000) : Calls Tryd.prog 29 #[.string (bz l)] w (MvS (rdE l).1 (bz (rdE l).2) w) := by
  have HB := Lib.hid (Below.refl w.heap.size w)
  obtain ⟨x, hx⟩ : ∃ x, parseZ (bz [a, b]) = x := ⟨_, rfl⟩
  obtain ⟨y, hy⟩ : ∃ y, parseZ (bz [c, d]) = y := ⟨_, rfl⟩
  have x1 := parseZ_rng (bz [a, b])
  have y1 := parseZ_rng (bz [c, d])
  rw [hx] at x1
  rw [hy] at y1
  have HS := Lib.hid (show rdE l = (⟨x, y, 0, 0, false⟩, r) by subst hl0; rw [← hx, ← hy]; rfl)
  obtain ⟨t, ht⟩ : ∃ t, bz l = t := ⟨_, rfl⟩
  obtain ⟨u, hu⟩ : ∃ u, bz [a, b] = u := ⟨_, rfl⟩
  obtain ⟨v, hv⟩ : ∃ v, bz [c, d] = v := ⟨_, rfl⟩
  obtain ⟨z, hz⟩ : ∃ z, bz r = z := ⟨_, rfl⟩
  have hs : t.size = l.length := by rw [← ht, bz_size]
  have e4 : 4 ≤ l.length := by subst hl0; simp
  have g0 : decide ((t.size : Int) < 4) = false := decide_eq_false (by omega)
  have g2 : (2 : Int) ≤ (t.size : Int) := by omega
  have g4 : (4 : Int) ≤ (t.size : Int) := by omega
  have s1 : t.extract 0 2 = u := by rw [← ht, ← hu, extract_bz, hl0]; rfl
  have s2 : t.extract 2 4 = v := by rw [← ht, ← hv, extract_bz, hl0]; rfl
  have s3 : t.extract 4 t.size = z := by
    rw [hs, ← ht, ← hz, extract_bz, List.take_length, hl0]; rfl
  have wx : IntKind.i8.wrap x = x := IntWalk.i8_in x (by omega)
  have wy : IntKind.i8.wrap y = y := IntWalk.i8_in y (by omega)
  have HX := Lib.hid (show parseZ u = x by rw [← hu]; exact hx)
  have HY := Lib.hid (show parseZ v = y by rw [← hv]; exact hy)
  have HZ := Lib.hid hz
  have HOnce := Lib.hid trivial
  rw [ht, HS.out, hz]
  clear ht hs hl hl0 HS hu hv hz hx hy x1 y1 e4
  go_enter Tryd.func29, Tryd.ntmps29
  go_wp2_with (first
      | (refine blk_alloc rfl 33 rfl (mvA mv0) zeroMv ?_; intro b1 w2 N R; have HG1 := Lib.hid (show w.heap.size ≤ b1 by rw [N.at_]; exact HB.out.size); have HB := Lib.hid (HB.out.trans (N.below.mono HB.out.size)); have HM := Lib.hid R; clear N R)
      | (go_at_call 34; clear HOnce; refine (parse_any u _).mono ?_; rintro e w3 ⟨rfl, hb⟩; rw [HX.out]; have HM := Lib.hid (HM.out.later hb); have HB := Lib.hid (below_on HB.out hb); clear hb)
      | (go_at_call 34; refine (parse_any v _).mono ?_; rintro e w3 ⟨rfl, hb⟩; rw [HY.out]; have HM := Lib.hid (HM.out.later hb); have HB := Lib.hid (below_on HB.out hb); clear hb))
  refine late_begin 7 (by kernel_rfl) ?_
  refine late_take 0 (by kernel_rfl) (by kernel_rfl) (by kernel_rfl) (by kernel_rfl) (by kernel_rfl) (fun _ _ d _ _ h => by cases d <;> exact h) (fun o ho => ?_)
  simp only [List.getElem?_toArray, List.getElem?_cons_zero, List.getElem?_cons_succ, Option.some.injEq] at ho; subst ho
  apply Exists.intro
  refine ⟨Or.inl ⟨by kernel_rfl, fun w' hl => Or.inl ?_⟩, ?_⟩
  · (go_simp; try with_reducible rfl)
  simp only [Act.put, List.setIfInBounds_toArray, List.set_cons_zero, List.set_cons_succ]
  refine late_take 1 (by kernel_rfl) (by kernel_rfl) (by kernel_rfl) (by kernel_rfl) (by kernel_rfl) (fun _ _ d _ _ h => by cases d <;> exact h) (fun o ho => ?_)
  simp only [List.getElem?_toArray, List.getElem?_cons_zero, List.getElem?_cons_succ, Option.some.injEq] at ho; subst ho
  refine ⟨.int .i8 x, Or.inl ⟨by kernel_rfl, fun w' hl => Or.inl ?_⟩, ?_⟩
  · (go_simp; try simp [wx])
  simp only [Act.put, List.setIfInBounds_toArray, List.set_cons_zero, List.set_cons_succ]
  refine late_take 2 (by kernel_rfl) (by kernel_rfl) (by kernel_rfl) (by kernel_rfl) (by kernel_rfl) (fun _ _ d _ _ h => by cases d <;> exact h) (fun o ho => ?_)
  simp only [List.getElem?_toArray, List.getElem?_cons_zero, List.getElem?_cons_succ, Option.some.injEq] at ho; subst ho
  apply Exists.intro
  refine ⟨Or.inl ⟨by kernel_rfl, fun w' hl => Or.inl ?_⟩, ?_⟩
  · (go_simp; try with_reducible rfl)
  simp only [Act.put, List.setIfInBounds_toArray, List.set_cons_zero, List.set_cons_succ]
  refine late_take 3 (by kernel_rfl) (by kernel_rfl) (by kernel_rfl) (by kernel_rfl) (by kernel_rfl) (fun _ _ d _ _ h => by cases d <;> exact h) (fun o ho => ?_)
  simp only [List.getElem?_toArray, List.getElem?_cons_zero, List.getElem?_cons_succ, Option.some.injEq] at ho; subst ho
  refine ⟨.int .i8 y, Or.inl ⟨by kernel_rfl, fun w' hl => Or.inl ?_⟩, ?_⟩
  · (go_simp; try simp [wy])
  simp only [Act.put, List.setIfInBounds_toArray, List.set_cons_zero, List.set_cons_succ]
  refine late_take 4 (by kernel_rfl) (by kernel_rfl) (by kernel_rfl) (by kernel_rfl) (by kernel_rfl) (fun _ _ d _ _ h => by cases d <;> exact h) (fun o ho => ?_)
  simp only [List.getElem?_toArray, List.getElem?_cons_zero, List.getElem?_cons_succ, Option.some.injEq] at ho; subst ho
  apply Exists.intro
  refine ⟨Or.inl ⟨by kernel_rfl, fun w' hl => Or.inl ?_⟩, ?_⟩
  · (go_simp; try with_reducible rfl)
  simp only [Act.put, List.setIfInBounds_toArray, List.set_cons_zero, List.set_cons_succ]
  refine late_forkL 5 7 (by kernel_rfl) (by kernel_rfl) (by kernel_rfl) (fun o ho => ?_) (fun o ho => ?_)
  · simp only [List.getElem?_toArray, List.getElem?_cons_zero, List.getElem?_cons_succ, Option.some.injEq] at ho; subst ho
    refine ⟨by kernel_rfl, fun wn hl K hK => ?_⟩
    have HM := Lib.hid (HM.out.later hl); have HB := Lib.hid (below_on HB.out hl); clear hl
    refine wp_value (by go_simp; try with_reducible rfl) ?_
    refine hK.out _ _ (Later.refl _) ?_
    clear hK K
    simp only [Act.put, List.setIfInBounds_toArray, List.set_cons_zero, List.set_cons_succ]
    refine late_forkL 6 7 (by kernel_rfl) (by kernel_rfl) (by kernel_rfl) (fun o ho => ?_) (fun o ho => ?_)
    · simp only [List.getElem?_toArray, List.getElem?_cons_zero, List.getElem?_cons_succ, Option.some.injEq] at ho; subst ho
      refine ⟨by kernel_rfl, fun wn hl K hK => ?_⟩
      have HM := Lib.hid (HM.out.later hl); have HB := Lib.hid (below_on HB.out hl); clear hl
      refine wp_value (by go_simp; try with_reducible rfl) ?_
      refine hK.out _ _ (Later.refl _) ?_
      clear hK K
      simp only [Act.put, List.setIfInBounds_toArray, List.set_cons_zero, List.set_cons_succ]
      refine late_then 7 (by kernel_rfl) (by kernel_rfl) (fun o ho => ?_)
      simp only [List.getElem?_toArray, List.getElem?_cons_zero, List.getElem?_cons_succ, Option.some.injEq] at ho; subst ho
      refine ⟨by kernel_rfl, fun wn hl K hK => ?_⟩
      have HM := Lib.hid (HM.out.later hl); have HB := Lib.hid (below_on HB.out hl); clear hl
      refine late_blk 33 _ _ rfl b1 rfl (mvA mv0) (mvA ⟨x, y, 0, 0, false⟩) rfl HM.out rfl (mv_one _) sizeMv ?_; intro wm U R
      have HM := Lib.hid R; have HB := Lib.hid (HB.out.trans (U.below HG1.out)); clear U R
      refine hK.out _ _ ?_
      clear hK K
      simp only [Act.put, List.setIfInBounds_toArray, List.set_cons_zero, List.set_cons_succ]
      refine any_one 8 (by kernel_rfl) (by kernel_rfl) (fun o ho => ?_)
      simp only [List.getElem?_toArray, List.getElem?_cons_zero, List.getElem?_cons_succ, Option.some.injEq] at ho; subst ho
      refine ⟨by kernel_rfl, fun K hK => ?_⟩
      refine wp_value (by go_simp; try with_reducible rfl) ?_
      refine hK.out _ _ ?_
      clear hK K
      simp only [Act.put, List.setIfInBounds_toArray, List.set_cons_zero, List.set_cons_succ]
      refine any_end (by kernel_rfl) ?_
      go_wp2_with fail
      refine bodyPost_ret (results_mv2 rfl _ _ _ ⟨x, y, 0, 0, false⟩ (.string z) rfl rfl HM.out) rfl ⟨rfl, HB.out⟩
    · simp only [List.getElem?_toArray, List.getElem?_cons_zero, List.getElem?_cons_succ, Option.some.injEq] at ho; subst ho
      refine ⟨by kernel_rfl, fun wn hl K hK => ?_⟩
      have HM := Lib.hid (HM.out.later hl); have HB := Lib.hid (below_on HB.out hl); clear hl
      refine late_blk 33 _ _ rfl b1 rfl (mvA mv0) (mvA ⟨x, y, 0, 0, false⟩) rfl HM.out rfl (mv_one _) sizeMv ?_; intro wm U R
      have HM := Lib.hid R; have HB := Lib.hid (HB.out.trans (U.below HG1.out)); clear U R
      refine hK.out _ _ ?_
      clear hK K
      simp only [Act.put, List.setIfInBounds_toArray, List.set_cons_zero, List.set_cons_succ]
      refine any_one 6 (by kernel_rfl) (by kernel_rfl) (fun o ho => ?_)
      simp only [List.getElem?_toArray, List.getElem?_cons_zero, List.getElem?_cons_succ, Option.some.injEq] at ho; subst ho
      refine ⟨by kernel_rfl, fun K hK => ?_⟩
      refine wp_value (by go_simp; try with_reducible rfl) ?_
      refine hK.out _ _ ?_
      clear hK K
      simp only [Act.put, List.setIfInBounds_toArray, List.set_cons_zero, List.set_cons_succ]
      refine any_one 8 (by kernel_rfl) (by kernel_rfl) (fun o ho => ?_)
      simp only [List.getElem?_toArray, List.getElem?_cons_zero, List.getElem?_cons_succ, Option.some.injEq] at ho; subst ho
      refine ⟨by kernel_rfl, fun K hK => ?_⟩
      refine wp_value (by go_simp; try with_reducible rfl) ?_
      refine hK.out _ _ ?_
      clear hK K
      simp only [Act.put, List.setIfInBounds_toArray, List.set_cons_zero, List.set_cons_succ]
      refine any_end (by kernel_rfl) ?_
      go_wp2_with fail
      refine bodyPost_ret (results_mv2 rfl _ _ _ ⟨x, y, 0, 0, false⟩ (.string z) rfl rfl HM.out) rfl ⟨rfl, HB.out⟩
  · simp only [List.getElem?_toArray, List.getElem?_cons_zero, List.getElem?_cons_succ, Option.some.injEq] at ho; subst ho
    refine ⟨by kernel_rfl, fun wn hl K hK => ?_⟩
    have HM := Lib.hid (HM.out.later hl); have HB := Lib.hid (below_on HB.out hl); clear hl
    refine late_blk 33 _ _ rfl b1 rfl (mvA mv0) (mvA ⟨x, y, 0, 0, false⟩) rfl HM.out rfl (mv_one _) sizeMv ?_; intro wm U R
    have HM := Lib.hid R; have HB := Lib.hid (HB.out.trans (U.below HG1.out)); clear U R
    refine hK.out _ _ ?_
    clear hK K
    simp only [Act.put, List.setIfInBounds_toArray, List.set_cons_zero, List.set_cons_succ]
    refine any_one 5 (by kernel_rfl) (by kernel_rfl) (fun o ho => ?_)
    simp only [List.getElem?_toArray, List.getElem?_cons_zero, List.getElem?_cons_succ, Option.some.injEq] at ho; subst ho
    refine ⟨by kernel_rfl, fun K hK => ?_⟩
    refine wp_value (by go_simp; try with_reducible rfl) ?_
    refine hK.out _ _ ?_
    clear hK K
    simp only [Act.put, List.setIfInBounds_toArray, List.set_cons_zero, List.set_cons_succ]
    refine any_one 6 (by kernel_rfl) (by kernel_rfl) (fun o ho => ?_)
    simp only [List.getElem?_toArray, List.getElem?_cons_zero, List.getElem?_cons_succ, Option.some.injEq] at ho; subst ho
    refine ⟨by kernel_rfl, fun K hK => ?_⟩
    refine wp_value (by go_simp; try with_reducible rfl) ?_
    refine hK.out _ _ ?_
    clear hK K
    simp only [Act.put, List.setIfInBounds_toArray, List.set_cons_zero, List.set_cons_succ]
    refine any_one 8 (by kernel_rfl) (by kernel_rfl) (fun o ho => ?_)
    simp only [List.getElem?_toArray, List.getElem?_cons_zero, List.getElem?_cons_succ, Option.some.injEq] at ho; subst ho
    refine ⟨by kernel_rfl, fun K hK => ?_⟩
    refine wp_value (by go_simp; try with_reducible rfl) ?_
    refine hK.out _ _ ?_
    clear hK K
    simp only [Act.put, List.setIfInBounds_toArray, List.set_cons_zero, List.set_cons_succ]
    refine any_end (by kernel_rfl) ?_
    go_wp2_with fail
    refine bodyPost_ret (results_mv2 rfl _ _ _ ⟨x, y, 0, 0, false⟩ (.string z) rfl rfl HM.out) rfl ⟨rfl, HB.out⟩
theorem rends_any (l : List UInt8) (w : World) (hl : l.length ≤ 10000) : Calls Tryd.prog 29 #[.string (bz l)] w (MvS (rdE l).1 (bz (rdE l).2) w) := by
  by_cases h : l.length < 4
  · exact rends_short l w h
  · match hl0 : l, h with
    | a :: b :: c :: d :: r, _ => exact rends_long a b c d r _ rfl w hl
    | [], h => exact absurd (by simp) h
    | [a], h => exact absurd (by simp) h
    | [a, b], h => exact absurd (by simp) h
    | [a, b, c], h => exact absurd (by simp) h
theorem rdE_flat (l : List UInt8) : (rdE l).1.pr = 0 ∧ (rdE l).1.dr = 0 ∧ (rdE l).1.ca = false := by
  unfold rdE
  split <;> exact ⟨rfl, rfl, rfl⟩
theorem rdE_mk (l : List UInt8) : (rdE l).1 = ⟨(rdE l).1.f, (rdE l).1.t, 0, 0, false⟩ := by
  obtain ⟨h1, h2, h3⟩ := rdE_flat l
  exact Mv.ext' rfl rfl h1 h2 h3
theorem hm_rng {p : Nat → Int} (hs : smB p = true) (h0 : 0 ≤ p 78) (k : Int) : -128 ≤ hmZ p k ∧ hmZ p k ≤ 127 := by
  have ht := smB_turn hs h0
  unfold hmZ
  cases e : lnB k
  · show -128 ≤ (-1 : Int) ∧ (-1 : Int) ≤ 127; decide
  · rw [lnB_true] at e; show -128 ≤ 56 * p 78 + k ∧ 56 * p 78 + k ≤ 127; omega
theorem coM_fit {p : Nat → Int} (hp : FitM p) (hs : smB p = true) (l : List UInt8) : FitV (coM p l) := by
  have h := rdE_fit l
  refine ⟨h.f, ?_, by show (0 : Int) ≤ 0 ∧ (0 : Int) ≤ 255; decide, by show (0 : Int) ≤ 0 ∧ (0 : Int) ≤ 255; decide⟩
  show -128 ≤ (bif p 0 == 1 then (rdE l).1.t else hmZ p (roP p (sdN (rdE l).1.f (rdE l).1.t))) ∧ (bif p 0 == 1 then (rdE l).1.t else hmZ p (roP p (sdN (rdE l).1.f (rdE l).1.t))) ≤ 127
  cases (p 0 == 1)
  · exact hm_rng hs hp.turn.1 _
  · exact h.t
set_option maxRecDepth 100000 in
set_option maxHeartbeats 400000 in
theorem cof_960 (p : Nat → Int) (l : List UInt8) (w : World) (hl : l.length ≤ 10000) (hp : FitM p) (hs : smB p = true) (hG : TabGo w) (h0 : (p 0 == 1) = true) : Calls Tryd.prog 16 #[.agg (posA p), .string (bz l)] w (MvO (coM p l) (coB p l) w) := by
  have HFp := Lib.hid hp
  have HSm := Lib.hid hs
  have HTn := Lib.hid (smB_turn hs hp.turn.1)
  have HG := Lib.hid hG
  have HB := Lib.hid (Below.refl w.heap.size w)
  have hfit := coM_fit hp hs l
  have HL := Lib.hid hl
  obtain ⟨t, ht⟩ : ∃ t, bz l = t := ⟨_, rfl⟩
  have HT := Lib.hid ht
  obtain ⟨rs, hrs⟩ : ∃ rs, bz (rdE l).2 = rs := ⟨_, rfl⟩
  have hmk := rdE_mk l
  obtain ⟨x, hx⟩ : ∃ x, (rdE l).1.f = x := ⟨_, rfl⟩
  obtain ⟨y, hy⟩ : ∃ y, (rdE l).1.t = y := ⟨_, rfl⟩
  rw [hx, hy] at hmk
  have HE := Lib.hid (show ∀ w, Calls Tryd.prog 29 #[.string t] w (MvS ⟨x, y, 0, 0, false⟩ rs w) from fun w => by rw [← ht, ← hmk, ← hrs]; exact rends_any l w hl)
  obtain ⟨g, hg⟩ : ∃ g, y = g := ⟨_, rfl⟩
  have hS : coM p l = ⟨x, g, 0, 0, true⟩ := by unfold coM; rw [h0, hx, hy, ← hg]; rfl
  subst hg
  obtain ⟨c, hc⟩ : ∃ c, csT p ⟨x, y, 0, 0, true⟩ = c := ⟨_, rfl⟩
  have HC := Lib.hid (show bz (csT p ⟨x, y, 0, 0, true⟩) = bz c by rw [hc])
  obtain ⟨wr, hw⟩ : ∃ wr, isW c l = wr := ⟨_, rfl⟩
  have HW := Lib.hid hw
  rw [hS] at hfit
  have HFv := Lib.hid hfit
  have HS := Lib.hid hS
  have HW2 := Lib.hid (show coB p l = wr by unfold coB; rw [hS, hc]; exact hw)
  rw [ht]
  clear ht hrs hmk hx hy hc hw hS hfit hl hp hs hG
  have g0 : (p 0 != 1) = false := by rw [bne, h0]; rfl
  clear h0
  go_enter Tryd.func16, Tryd.ntmps16
  go_wp2_with (first
      | (refine step_box rfl _ rfl p rfl ?_; intro b0 w1 N R; have HB := Lib.hid (HB.out.trans (N.below.mono HB.out.size)); have HR := Lib.hid R; clear N R)
      | (refine blk_alloc rfl 33 rfl (mvA mv0) zeroMv ?_; intro b1 w2 N R; have HG1 := Lib.hid (show w.heap.size ≤ b1 by rw [N.at_]; exact HB.out.size); have HR := Lib.hid (HR.out.later N.below); have HB := Lib.hid (HB.out.trans (N.below.mono HB.out.size)); have HQ := Lib.hid R; clear N R))
  refine (HE.out _).mono ?_; rintro e w3 ⟨rfl, hb⟩; have HR := Lib.hid (HR.out.later hb); have HQ := Lib.hid (HQ.out.later hb); have HB := Lib.hid (below_on HB.out hb); clear hb
  go_wp2_with (first
      | (refine blk_alloc rfl 33 rfl (mvA mv0) zeroMv ?_; intro b2 w4 N R; have HG2 := Lib.hid (show w.heap.size ≤ b2 by rw [N.at_]; exact HB.out.size); have HDR := Lib.hid (show b0 ≠ b2 by rw [N.at_]; exact Nat.ne_of_lt HR.out.lt); have HDQ := Lib.hid (show b1 ≠ b2 by rw [N.at_]; exact Nat.ne_of_lt HQ.out.lt); have HR := Lib.hid (HR.out.later N.below); have HQ := Lib.hid (HQ.out.later N.below); have HB := Lib.hid (HB.out.trans (N.below.mono HB.out.size)); have HM := Lib.hid R; clear N R)
      | (refine blk_store rfl 33 _ _ rfl b2 rfl (mvA mv0) (mvA ⟨x, y, 0, 0, false⟩) rfl ?_ rfl (mv_one _) sizeMv ?_; exact HM.out; intro w5 U R; have HR := Lib.hid (HR.out.apart U HDR.out); have HQ := Lib.hid (HQ.out.apart U HDQ.out); have HB := Lib.hid (HB.out.trans (U.below HG2.out)); have HM := Lib.hid R; clear U R)
      | (refine step_get rfl 5 _ rfl b0 0 rfl Tryd.underlying5 rfl (.int .u8 (p 0)) ?_ ?_; exact HR.out.cell 0 (by decide))
      | (refine blk_yes rfl 4 _ _ rfl b2 4 rfl true rfl 33 (mvA ⟨x, y, 0, 0, false⟩) ?_ (by show 4 < 5; decide) (by kernel_rfl) ?_; exact HM.out; intro w6 U R; have R := (show Blk w6 b2 33 (mvA ⟨x, y, 0, 0, true⟩) from R); have HR := Lib.hid (HR.out.apart U HDR.out); have HQ := Lib.hid (HQ.out.apart U HDQ.out); have HB := Lib.hid (HB.out.trans (U.below HG2.out)); have HM := Lib.hid R; clear U R))
  refine late_begin 6 (by kernel_rfl) ?_
  refine late_take 0 (by kernel_rfl) (by kernel_rfl) (by kernel_rfl) (by kernel_rfl) (by kernel_rfl) (fun _ _ d _ _ h => by cases d <;> exact h) (fun o ho => ?_)
  simp only [List.getElem?_toArray, List.getElem?_cons_zero, List.getElem?_cons_succ, Option.some.injEq] at ho; subst ho
  refine ⟨_, Or.inl ⟨by kernel_rfl, fun w' hl => Or.inl (run_blk 33 _ rfl b2 rfl (mvA ⟨x, y, 0, 0, true⟩) (HM.out.later hl) _ Tryd.underlying33 rfl sizeMv)⟩, ?_⟩
  simp only [Act.put, List.setIfInBounds_toArray, List.set_cons_zero, List.set_cons_succ]
  refine late_takeD 1 [3, 5, 6] (by kernel_rfl) (by kernel_rfl) (by kernel_rfl) (by kernel_rfl) (by kernel_rfl) (fun _ _ d _ _ h => by cases d <;> exact h) (fun o ho => ?_)
  simp only [List.getElem?_toArray, List.getElem?_cons_zero, List.getElem?_cons_succ, Option.some.injEq] at ho; subst ho
  refine ⟨_, Or.inl ⟨by kernel_rfl, fun w' hl => Or.inl (run_load _ rfl _ rfl (p) (HR.out.later hl))⟩, ?_⟩
  simp only [Act.put, List.setIfInBounds_toArray, List.set_cons_zero, List.set_cons_succ]
  refine late_takeD 2 [3, 5, 6] (by kernel_rfl) (by kernel_rfl) (by kernel_rfl) (by kernel_rfl) (by kernel_rfl) (fun _ _ d _ _ h => by cases d <;> exact h) (fun o ho => ?_)
  simp only [List.getElem?_toArray, List.getElem?_cons_zero, List.getElem?_cons_succ, Option.some.injEq] at ho; subst ho
  refine ⟨_, Or.inl ⟨by kernel_rfl, fun w' hl => Or.inl (run_blk 33 _ rfl b2 rfl (mvA ⟨x, y, 0, 0, true⟩) (HM.out.later hl) _ Tryd.underlying33 rfl sizeMv)⟩, ?_⟩
  simp only [Act.put, List.setIfInBounds_toArray, List.set_cons_zero, List.set_cons_succ]
  refine late_takeD 4 [5, 6] (by kernel_rfl) (by kernel_rfl) (by kernel_rfl) (by kernel_rfl) (by kernel_rfl) (fun _ _ d _ _ h => by cases d <;> exact h) (fun o ho => ?_)
  simp only [List.getElem?_toArray, List.getElem?_cons_zero, List.getElem?_cons_succ, Option.some.injEq] at ho; subst ho
  apply Exists.intro
  refine ⟨Or.inl ⟨by kernel_rfl, fun w' hl => Or.inl ?_⟩, ?_⟩
  · (go_simp; try with_reducible rfl)
  simp only [Act.put, List.setIfInBounds_toArray, List.set_cons_zero, List.set_cons_succ]
  refine late_one 3 (by kernel_rfl) (by kernel_rfl) (fun o ho => ?_)
  simp only [List.getElem?_toArray, List.getElem?_cons_zero, List.getElem?_cons_succ, Option.some.injEq] at ho; subst ho
  refine ⟨by kernel_rfl, fun wn hl K hK => ?_⟩
  have HR := Lib.hid (HR.out.later hl); have HQ := Lib.hid (HQ.out.later hl); have HM := Lib.hid (HM.out.later hl); have HB := Lib.hid (below_on HB.out hl); clear hl
  refine wp_enter _ _ (by go_simp; exact ⟨rfl, rfl⟩) ?_
  refine (csT_any p ⟨x, y, 0, 0, true⟩ _ HFp.out HFv.out HSm.out (HG.out.on HB.out)).mono ?_; rintro e wm ⟨rfl, hb⟩; refine ⟨_, rfl, ?_⟩
  rw [HC.out]
  refine hK.out _ _ hb ?_
  have HR := Lib.hid (HR.out.later hb); have HQ := Lib.hid (HQ.out.later hb); have HM := Lib.hid (HM.out.later hb); have HB := Lib.hid (below_on HB.out hb); clear hb
  clear hK K
  simp only [Act.put, List.setIfInBounds_toArray, List.set_cons_zero, List.set_cons_succ]
  refine late_one 5 (by kernel_rfl) (by kernel_rfl) (fun o ho => ?_)
  simp only [List.getElem?_toArray, List.getElem?_cons_zero, List.getElem?_cons_succ, Option.some.injEq] at ho; subst ho
  refine ⟨by kernel_rfl, fun wn hl K hK => ?_⟩
  have HR := Lib.hid (HR.out.later hl); have HQ := Lib.hid (HQ.out.later hl); have HM := Lib.hid (HM.out.later hl); have HB := Lib.hid (below_on HB.out hl); clear hl
  refine wp_enter _ _ (by go_simp; exact ⟨rfl, rfl⟩) ?_
  rw [← HT.out]
  refine (isW_any c l _).mono ?_; rintro e wm ⟨rfl, rfl⟩; refine ⟨_, rfl, ?_⟩
  rw [HW.out]
  refine hK.out _ _ (Later.refl _) ?_
  clear hK K
  simp only [Act.put, List.setIfInBounds_toArray, List.set_cons_zero, List.set_cons_succ]
  refine late_then 6 (by kernel_rfl) (by kernel_rfl) (fun o ho => ?_)
  simp only [List.getElem?_toArray, List.getElem?_cons_zero, List.getElem?_cons_succ, Option.some.injEq] at ho; subst ho
  refine ⟨by kernel_rfl, fun wn hl K hK => ?_⟩
  have HR := Lib.hid (HR.out.later hl); have HQ := Lib.hid (HQ.out.later hl); have HM := Lib.hid (HM.out.later hl); have HB := Lib.hid (below_on HB.out hl); clear hl
  refine late_blk 33 _ _ rfl b1 rfl (mvA mv0) (mvA ⟨x, y, 0, 0, true⟩) rfl HQ.out rfl (mv_one _) sizeMv ?_; intro wm U R
  have HQ := Lib.hid R; have HB := Lib.hid (HB.out.trans (U.below HG1.out)); clear U R
  refine hK.out _ _ ?_
  clear hK K
  simp only [Act.put, List.setIfInBounds_toArray, List.set_cons_zero, List.set_cons_succ]
  refine any_one 7 (by kernel_rfl) (by kernel_rfl) (fun o ho => ?_)
  simp only [List.getElem?_toArray, List.getElem?_cons_zero, List.getElem?_cons_succ, Option.some.injEq] at ho; subst ho
  refine ⟨by kernel_rfl, fun K hK => ?_⟩
  refine wp_value (by go_simp; try with_reducible rfl) ?_
  refine hK.out _ _ ?_
  clear hK K
  simp only [Act.put, List.setIfInBounds_toArray, List.set_cons_zero, List.set_cons_succ]
  refine any_end (by kernel_rfl) ?_
  go_wp2_with fail
  refine bodyPost_ret (results_mv2 rfl _ _ _ ⟨x, y, 0, 0, true⟩ (.bool wr) rfl rfl HQ.out) rfl ⟨by rw [HS.out, HW2.out], HB.out⟩
set_option maxRecDepth 100000 in
set_option maxHeartbeats 400000 in
theorem cof_std (p : Nat → Int) (l : List UInt8) (w : World) (hl : l.length ≤ 10000) (hp : FitM p) (hs : smB p = true) (hG : TabGo w) (h0 : (p 0 == 1) = false) : Calls Tryd.prog 16 #[.agg (posA p), .string (bz l)] w (MvO (coM p l) (coB p l) w) := by
  have HFp := Lib.hid hp
  have HSm := Lib.hid hs
  have HTn := Lib.hid (smB_turn hs hp.turn.1)
  have HG := Lib.hid hG
  have HB := Lib.hid (Below.refl w.heap.size w)
  have hfit := coM_fit hp hs l
  have HL := Lib.hid hl
  obtain ⟨t, ht⟩ : ∃ t, bz l = t := ⟨_, rfl⟩
  have HT := Lib.hid ht
  obtain ⟨rs, hrs⟩ : ∃ rs, bz (rdE l).2 = rs := ⟨_, rfl⟩
  have hmk := rdE_mk l
  obtain ⟨x, hx⟩ : ∃ x, (rdE l).1.f = x := ⟨_, rfl⟩
  obtain ⟨y, hy⟩ : ∃ y, (rdE l).1.t = y := ⟨_, rfl⟩
  rw [hx, hy] at hmk
  have HE := Lib.hid (show ∀ w, Calls Tryd.prog 29 #[.string t] w (MvS ⟨x, y, 0, 0, false⟩ rs w) from fun w => by rw [← ht, ← hmk, ← hrs]; exact rends_any l w hl)
  obtain ⟨d, hd⟩ : ∃ d, sdN x y = d := ⟨_, rfl⟩
  have HSd := Lib.hid hd
  have hd2 : d < 2 := by rw [← hd]; unfold sdN; cases decide (x < y) <;> decide
  have hd3 : (d : Int) < 2 := by omega
  obtain ⟨k, hk⟩ : ∃ k : Nat, p 78 = (k : Int) := Int.eq_ofNat_of_zero_le hp.turn.1
  have hk2 : k < 2 := by have := smB_turn hs hp.turn.1; omega
  have hk3 : (k : Int) < 2 := by omega
  have HCt := Lib.hid hk
  obtain ⟨r, hr⟩ : ∃ r, p (79 + k * 2 + d) = r := ⟨_, rfl⟩
  have HRr := Lib.hid hr
  obtain ⟨r0, r1⟩ := hp.rook (79 + k * 2 + d) (by omega) (by omega)
  rw [hr] at r0 r1
  have HKr := Lib.hid (show kAt (79 + k * 2 + d) = .i8 by
    have a : k = 0 ∨ k = 1 := by omega
    have b : d = 0 ∨ d = 1 := by omega
    rcases a with rfl | rfl <;> rcases b with rfl | rfl <;> rfl)
  have wr8 : IntKind.i64.wrap r = r := IntWalk.i64_in r (by omega)
  obtain ⟨g, hg⟩ : ∃ g, hmZ p r = g := ⟨_, rfl⟩
  have H5 := Lib.hid hg
  have hS : coM p l = ⟨x, g, 0, 0, true⟩ := by
    unfold coM; rw [h0, hx, hy, hd, show roP p d = r by unfold roP; rw [hk]; exact hr, hg]; rfl
  obtain ⟨c, hc⟩ : ∃ c, csT p ⟨x, g, 0, 0, true⟩ = c := ⟨_, rfl⟩
  have HC := Lib.hid (show bz (csT p ⟨x, g, 0, 0, true⟩) = bz c by rw [hc])
  obtain ⟨wr, hw⟩ : ∃ wr, isW c l = wr := ⟨_, rfl⟩
  have HW := Lib.hid hw
  rw [hS] at hfit
  have HFv := Lib.hid hfit
  have HS := Lib.hid hS
  have HW2 := Lib.hid (show coB p l = wr by unfold coB; rw [hS, hc]; exact hw)
  rw [ht]
  clear ht hrs hmk hx hy hc hw hS hfit hl hp hs hG
  have g0 : (p 0 != 1) = true := by rw [bne, h0]; rfl
  clear h0 hd hk hr hg
  go_enter Tryd.func16, Tryd.ntmps16
  go_wp2_with (first
      | (refine step_box rfl _ rfl p rfl ?_; intro b0 w1 N R; have HB := Lib.hid (HB.out.trans (N.below.mono HB.out.size)); have HR := Lib.hid R; clear N R)
      | (refine blk_alloc rfl 33 rfl (mvA mv0) zeroMv ?_; intro b1 w2 N R; have HG1 := Lib.hid (show w.heap.size ≤ b1 by rw [N.at_]; exact HB.out.size); have HR := Lib.hid (HR.out.later N.below); have HB := Lib.hid (HB.out.trans (N.below.mono HB.out.size)); have HQ := Lib.hid R; clear N R))
  refine (HE.out _).mono ?_; rintro e w3 ⟨rfl, hb⟩; have HR := Lib.hid (HR.out.later hb); have HQ := Lib.hid (HQ.out.later hb); have HB := Lib.hid (below_on HB.out hb); clear hb
  go_wp2_with (first
      | (refine blk_alloc rfl 33 rfl (mvA mv0) zeroMv ?_; intro b2 w4 N R; have HG2 := Lib.hid (show w.heap.size ≤ b2 by rw [N.at_]; exact HB.out.size); have HDR := Lib.hid (show b0 ≠ b2 by rw [N.at_]; exact Nat.ne_of_lt HR.out.lt); have HDQ := Lib.hid (show b1 ≠ b2 by rw [N.at_]; exact Nat.ne_of_lt HQ.out.lt); have HR := Lib.hid (HR.out.later N.below); have HQ := Lib.hid (HQ.out.later N.below); have HB := Lib.hid (HB.out.trans (N.below.mono HB.out.size)); have HM := Lib.hid R; clear N R)
      | (refine blk_store rfl 33 _ _ rfl b2 rfl (mvA mv0) (mvA ⟨x, y, 0, 0, false⟩) rfl ?_ rfl (mv_one _) sizeMv ?_; exact HM.out; intro w5 U R; have HR := Lib.hid (HR.out.apart U HDR.out); have HQ := Lib.hid (HQ.out.apart U HDQ.out); have HB := Lib.hid (HB.out.trans (U.below HG2.out)); have HM := Lib.hid R; clear U R)
      | (refine step_get rfl 5 _ rfl b0 0 rfl Tryd.underlying5 rfl (.int .u8 (p 0)) ?_ ?_; exact HR.out.cell 0 (by decide)))
  refine late_begin 12 (by kernel_rfl) ?_
  refine late_take 0 (by kernel_rfl) (by kernel_rfl) (by kernel_rfl) (by kernel_rfl) (by kernel_rfl) (fun _ _ d _ _ h => by cases d <;> exact h) (fun o ho => ?_)
  simp only [List.getElem?_toArray, List.getElem?_cons_zero, List.getElem?_cons_succ, Option.some.injEq] at ho; subst ho
  refine ⟨_, Or.inl ⟨by kernel_rfl, fun w' hl => Or.inl (run_load _ rfl _ rfl (p) (HR.out.later hl))⟩, ?_⟩
  simp only [Act.put, List.setIfInBounds_toArray, List.set_cons_zero, List.set_cons_succ]
  refine late_take 1 (by kernel_rfl) (by kernel_rfl) (by kernel_rfl) (by kernel_rfl) (by kernel_rfl) (fun _ _ d _ _ h => by cases d <;> exact h) (fun o ho => ?_)
  simp only [List.getElem?_toArray, List.getElem?_cons_zero, List.getElem?_cons_succ, Option.some.injEq] at ho; subst ho
  apply Exists.intro
  refine ⟨Or.inl ⟨by kernel_rfl, fun w' hl => Or.inl ?_⟩, ?_⟩
  · (go_simp; try with_reducible rfl)
  simp only [Act.put, List.setIfInBounds_toArray, List.set_cons_zero, List.set_cons_succ]
  refine late_take 2 (by kernel_rfl) (by kernel_rfl) (by kernel_rfl) (by kernel_rfl) (by kernel_rfl) (fun _ _ d _ _ h => by cases d <;> exact h) (fun o ho => ?_)
  simp only [List.getElem?_toArray, List.getElem?_cons_zero, List.getElem?_cons_succ, Option.some.injEq] at ho; subst ho
  refine ⟨.int .u8 (k : Int), Or.inl ⟨by kernel_rfl, fun w' hl => Or.inl (run_get 5 _ rfl b0 78 rfl Tryd.underlying5 rfl (.int .u8 (k : Int)) (by rw [(HR.out.later hl).cell 78 (by decide), HCt.out]; rfl))⟩, ?_⟩
  simp only [Act.put, List.setIfInBounds_toArray, List.set_cons_zero, List.set_cons_succ]
  refine late_take 3 (by kernel_rfl) (by kernel_rfl) (by kernel_rfl) (by kernel_rfl) (by kernel_rfl) (fun _ _ d _ _ h => by cases d <;> exact h) (fun o ho => ?_)
  simp only [List.getElem?_toArray, List.getElem?_cons_zero, List.getElem?_cons_succ, Option.some.injEq] at ho; subst ho
  refine ⟨_, Or.inl ⟨by kernel_rfl, fun w' hl => Or.inl (run_blk 33 _ rfl b2 rfl (mvA ⟨x, y, 0, 0, false⟩) (HM.out.later hl) _ Tryd.underlying33 rfl sizeMv)⟩, ?_⟩
  simp only [Act.put, List.setIfInBounds_toArray, List.set_cons_zero, List.set_cons_succ]
  refine late_take 5 (by kernel_rfl) (by kernel_rfl) (by kernel_rfl) (by kernel_rfl) (by kernel_rfl) (fun _ _ d _ _ h => by cases d <;> exact h) (fun o ho => ?_)
  simp only [List.getElem?_toArray, List.getElem?_cons_zero, List.getElem?_cons_succ, Option.some.injEq] at ho; subst ho
  apply Exists.intro
  refine ⟨Or.inl ⟨by kernel_rfl, fun w' hl => Or.inl ?_⟩, ?_⟩
  · (go_simp; try with_reducible rfl)
  simp only [Act.put, List.setIfInBounds_toArray, List.set_cons_zero, List.set_cons_succ]
  refine late_take 6 (by kernel_rfl) (by kernel_rfl) (by kernel_rfl) (by kernel_rfl) (by kernel_rfl) (fun _ _ d _ _ h => by cases d <;> exact h) (fun o ho => ?_)
  simp only [List.getElem?_toArray, List.getElem?_cons_zero, List.getElem?_cons_succ, Option.some.injEq] at ho; subst ho
  apply Exists.intro
  refine ⟨Or.inl ⟨by kernel_rfl, fun w' hl => Or.inl ?_⟩, ?_⟩
  · (go_simp; try with_reducible rfl)
  simp only [Act.put, List.setIfInBounds_toArray, List.set_cons_zero, List.set_cons_succ]
  refine late_one 4 (by kernel_rfl) (by kernel_rfl) (fun o ho => ?_)
  simp only [List.getElem?_toArray, List.getElem?_cons_zero, List.getElem?_cons_succ, Option.some.injEq] at ho; subst ho
  refine ⟨by kernel_rfl, fun wn hl K hK => ?_⟩
  have HR := Lib.hid (HR.out.later hl); have HQ := Lib.hid (HQ.out.later hl); have HM := Lib.hid (HM.out.later hl); have HB := Lib.hid (below_on HB.out hl); clear hl
  refine wp_enter _ _ (by go_simp; exact ⟨rfl, rfl⟩) ?_
  refine (side_any ⟨x, y, 0, 0, false⟩ _).mono ?_; rintro e wm ⟨rfl, hb⟩; refine ⟨_, rfl, ?_⟩
  rw [HSd.out]
  refine hK.out _ _ hb ?_
  have HR := Lib.hid (HR.out.later hb); have HQ := Lib.hid (HQ.out.later hb); have HM := Lib.hid (HM.out.later hb); have HB := Lib.hid (below_on HB.out hb); clear hb
  clear hK K
  simp only [Act.put, List.setIfInBounds_toArray, List.set_cons_zero, List.set_cons_succ]
  refine late_take 7 (by kernel_rfl) (by kernel_rfl) (by kernel_rfl) (by kernel_rfl) (by kernel_rfl) (fun _ _ d _ _ h => by cases d <;> exact h) (fun o ho => ?_)
  simp only [List.getElem?_toArray, List.getElem?_cons_zero, List.getElem?_cons_succ, Option.some.injEq] at ho; subst ho
  apply Exists.intro
  refine ⟨Or.inl ⟨by kernel_rfl, fun w' hl => Or.inl ?_⟩, ?_⟩
  · (go_simp; try with_reducible rfl)
  simp only [Act.put, List.setIfInBounds_toArray, List.set_cons_zero, List.set_cons_succ]
  refine late_take 8 (by kernel_rfl) (by kernel_rfl) (by kernel_rfl) (by kernel_rfl) (by kernel_rfl) (fun _ _ d _ _ h => by cases d <;> exact h) (fun o ho => ?_)
  simp only [List.getElem?_toArray, List.getElem?_cons_zero, List.getElem?_cons_succ, Option.some.injEq] at ho; subst ho
  refine ⟨.int .i8 r, Or.inl ⟨by kernel_rfl, fun w' hl => Or.inl (run_get 26 _ rfl b0 (79 + k * 2 + d) rfl Tryd.underlying26 rfl (.int .i8 r) (by rw [(HR.out.later hl).cell (79 + k * 2 + d) (by omega), HKr.out, HRr.out]))⟩, ?_⟩
  simp only [Act.put, List.setIfInBounds_toArray, List.set_cons_zero, List.set_cons_succ]
  refine late_take 9 (by kernel_rfl) (by kernel_rfl) (by kernel_rfl) (by kernel_rfl) (by kernel_rfl) (fun _ _ d _ _ h => by cases d <;> exact h) (fun o ho => ?_)
  simp only [List.getElem?_toArray, List.getElem?_cons_zero, List.getElem?_cons_succ, Option.some.injEq] at ho; subst ho
  refine ⟨.int .i64 r, Or.inl ⟨by kernel_rfl, fun w' hl => Or.inl ?_⟩, ?_⟩
  · (go_simp; try simp [wr8])
  simp only [Act.put, List.setIfInBounds_toArray, List.set_cons_zero, List.set_cons_succ]
  refine late_one 10 (by kernel_rfl) (by kernel_rfl) (fun o ho => ?_)
  simp only [List.getElem?_toArray, List.getElem?_cons_zero, List.getElem?_cons_succ, Option.some.injEq] at ho; subst ho
  refine ⟨by kernel_rfl, fun wn hl K hK => ?_⟩
  have HR := Lib.hid (HR.out.later hl); have HQ := Lib.hid (HQ.out.later hl); have HM := Lib.hid (HM.out.later hl); have HB := Lib.hid (below_on HB.out hl); clear hl
  refine wp_enter _ _ (by go_simp; exact ⟨rfl, rfl⟩) ?_
  refine (home_any p r _ HTn.out).mono ?_; rintro e wm ⟨rfl, hb⟩; refine ⟨_, rfl, ?_⟩
  rw [H5.out]
  refine hK.out _ _ hb ?_
  have HR := Lib.hid (HR.out.later hb); have HQ := Lib.hid (HQ.out.later hb); have HM := Lib.hid (HM.out.later hb); have HB := Lib.hid (below_on HB.out hb); clear hb
  clear hK K
  simp only [Act.put, List.setIfInBounds_toArray, List.set_cons_zero, List.set_cons_succ]
  refine late_take 11 (by kernel_rfl) (by kernel_rfl) (by kernel_rfl) (by kernel_rfl) (by kernel_rfl) (fun _ _ d _ _ h => by cases d <;> exact h) (fun o ho => ?_)
  simp only [List.getElem?_toArray, List.getElem?_cons_zero, List.getElem?_cons_succ, Option.some.injEq] at ho; subst ho
  apply Exists.intro
  refine ⟨Or.inl ⟨by kernel_rfl, fun w' hl => Or.inl ?_⟩, ?_⟩
  · (go_simp; try with_reducible rfl)
  simp only [Act.put, List.setIfInBounds_toArray, List.set_cons_zero, List.set_cons_succ]
  refine late_last 12 (by kernel_rfl) (by kernel_rfl) (by kernel_rfl) (fun o ho => ?_)
  simp only [List.getElem?_toArray, List.getElem?_cons_zero, List.getElem?_cons_succ, Option.some.injEq] at ho; subst ho
  refine ⟨by kernel_rfl, fun wn hl K hK => ?_⟩
  have HR := Lib.hid (HR.out.later hl); have HQ := Lib.hid (HQ.out.later hl); have HM := Lib.hid (HM.out.later hl); have HB := Lib.hid (below_on HB.out hl); clear hl
  refine late_blkc 26 _ _ rfl b2 1 rfl .i8 g rfl 33 (mvA ⟨x, y, 0, 0, false⟩) HM.out (by show 1 < 5; decide) (by kernel_rfl) ?_; intro wm U R
  have R := (show Blk wm b2 33 (mvA ⟨x, g, 0, 0, false⟩) from R); have HR := Lib.hid (HR.out.apart U HDR.out); have HQ := Lib.hid (HQ.out.apart U HDQ.out); have HB := Lib.hid (HB.out.trans (U.below HG2.out)); have HM := Lib.hid R; clear U R
  refine hK.out _ _ ?_
  clear hK K
  simp only [Act.put, List.setIfInBounds_toArray, List.set_cons_zero, List.set_cons_succ]
  go_wp2_with (first
      | (refine blk_yes rfl 4 _ _ rfl b2 4 rfl true rfl 33 (mvA ⟨x, g, 0, 0, false⟩) ?_ (by show 4 < 5; decide) (by kernel_rfl) ?_; exact HM.out; intro w6 U R; have R := (show Blk w6 b2 33 (mvA ⟨x, g, 0, 0, true⟩) from R); have HR := Lib.hid (HR.out.apart U HDR.out); have HQ := Lib.hid (HQ.out.apart U HDQ.out); have HB := Lib.hid (HB.out.trans (U.below HG2.out)); have HM := Lib.hid R; clear U R))
  refine late_begin 6 (by kernel_rfl) ?_
  refine late_take 0 (by kernel_rfl) (by kernel_rfl) (by kernel_rfl) (by kernel_rfl) (by kernel_rfl) (fun _ _ d _ _ h => by cases d <;> exact h) (fun o ho => ?_)
  simp only [List.getElem?_toArray, List.getElem?_cons_zero, List.getElem?_cons_succ, Option.some.injEq] at ho; subst ho
  refine ⟨_, Or.inl ⟨by kernel_rfl, fun w' hl => Or.inl (run_blk 33 _ rfl b2 rfl (mvA ⟨x, g, 0, 0, true⟩) (HM.out.later hl) _ Tryd.underlying33 rfl sizeMv)⟩, ?_⟩
  simp only [Act.put, List.setIfInBounds_toArray, List.set_cons_zero, List.set_cons_succ]
  refine late_takeD 1 [3, 5, 6] (by kernel_rfl) (by kernel_rfl) (by kernel_rfl) (by kernel_rfl) (by kernel_rfl) (fun _ _ d _ _ h => by cases d <;> exact h) (fun o ho => ?_)
  simp only [List.getElem?_toArray, List.getElem?_cons_zero, List.getElem?_cons_succ, Option.some.injEq] at ho; subst ho
  refine ⟨_, Or.inl ⟨by kernel_rfl, fun w' hl => Or.inl (run_load _ rfl _ rfl (p) (HR.out.later hl))⟩, ?_⟩
  simp only [Act.put, List.setIfInBounds_toArray, List.set_cons_zero, List.set_cons_succ]
  refine late_takeD 2 [3, 5, 6] (by kernel_rfl) (by kernel_rfl) (by kernel_rfl) (by kernel_rfl) (by kernel_rfl) (fun _ _ d _ _ h => by cases d <;> exact h) (fun o ho => ?_)
  simp only [List.getElem?_toArray, List.getElem?_cons_zero, List.getElem?_cons_succ, Option.some.injEq] at ho; subst ho
  refine ⟨_, Or.inl ⟨by kernel_rfl, fun w' hl => Or.inl (run_blk 33 _ rfl b2 rfl (mvA ⟨x, g, 0, 0, true⟩) (HM.out.later hl) _ Tryd.underlying33 rfl sizeMv)⟩, ?_⟩
  simp only [Act.put, List.setIfInBounds_toArray, List.set_cons_zero, List.set_cons_succ]
  refine late_takeD 4 [5, 6] (by kernel_rfl) (by kernel_rfl) (by kernel_rfl) (by kernel_rfl) (by kernel_rfl) (fun _ _ d _ _ h => by cases d <;> exact h) (fun o ho => ?_)
  simp only [List.getElem?_toArray, List.getElem?_cons_zero, List.getElem?_cons_succ, Option.some.injEq] at ho; subst ho
  apply Exists.intro
  refine ⟨Or.inl ⟨by kernel_rfl, fun w' hl => Or.inl ?_⟩, ?_⟩
  · (go_simp; try with_reducible rfl)
  simp only [Act.put, List.setIfInBounds_toArray, List.set_cons_zero, List.set_cons_succ]
  refine late_one 3 (by kernel_rfl) (by kernel_rfl) (fun o ho => ?_)
  simp only [List.getElem?_toArray, List.getElem?_cons_zero, List.getElem?_cons_succ, Option.some.injEq] at ho; subst ho
  refine ⟨by kernel_rfl, fun wn hl K hK => ?_⟩
  have HR := Lib.hid (HR.out.later hl); have HQ := Lib.hid (HQ.out.later hl); have HM := Lib.hid (HM.out.later hl); have HB := Lib.hid (below_on HB.out hl); clear hl
  refine wp_enter _ _ (by go_simp; exact ⟨rfl, rfl⟩) ?_
  refine (csT_any p ⟨x, g, 0, 0, true⟩ _ HFp.out HFv.out HSm.out (HG.out.on HB.out)).mono ?_; rintro e wm ⟨rfl, hb⟩; refine ⟨_, rfl, ?_⟩
  rw [HC.out]
  refine hK.out _ _ hb ?_
  have HR := Lib.hid (HR.out.later hb); have HQ := Lib.hid (HQ.out.later hb); have HM := Lib.hid (HM.out.later hb); have HB := Lib.hid (below_on HB.out hb); clear hb
  clear hK K
  simp only [Act.put, List.setIfInBounds_toArray, List.set_cons_zero, List.set_cons_succ]
  refine late_one 5 (by kernel_rfl) (by kernel_rfl) (fun o ho => ?_)
  simp only [List.getElem?_toArray, List.getElem?_cons_zero, List.getElem?_cons_succ, Option.some.injEq] at ho; subst ho
  refine ⟨by kernel_rfl, fun wn hl K hK => ?_⟩
  have HR := Lib.hid (HR.out.later hl); have HQ := Lib.hid (HQ.out.later hl); have HM := Lib.hid (HM.out.later hl); have HB := Lib.hid (below_on HB.out hl); clear hl
  refine wp_enter _ _ (by go_simp; exact ⟨rfl, rfl⟩) ?_
  rw [← HT.out]
  refine (isW_any c l _).mono ?_; rintro e wm ⟨rfl, rfl⟩; refine ⟨_, rfl, ?_⟩
  rw [HW.out]
  refine hK.out _ _ (Later.refl _) ?_
  clear hK K
  simp only [Act.put, List.setIfInBounds_toArray, List.set_cons_zero, List.set_cons_succ]
  refine late_then 6 (by kernel_rfl) (by kernel_rfl) (fun o ho => ?_)
  simp only [List.getElem?_toArray, List.getElem?_cons_zero, List.getElem?_cons_succ, Option.some.injEq] at ho; subst ho
  refine ⟨by kernel_rfl, fun wn hl K hK => ?_⟩
  have HR := Lib.hid (HR.out.later hl); have HQ := Lib.hid (HQ.out.later hl); have HM := Lib.hid (HM.out.later hl); have HB := Lib.hid (below_on HB.out hl); clear hl
  refine late_blk 33 _ _ rfl b1 rfl (mvA mv0) (mvA ⟨x, g, 0, 0, true⟩) rfl HQ.out rfl (mv_one _) sizeMv ?_; intro wm U R
  have HQ := Lib.hid R; have HB := Lib.hid (HB.out.trans (U.below HG1.out)); clear U R
  refine hK.out _ _ ?_
  clear hK K
  simp only [Act.put, List.setIfInBounds_toArray, List.set_cons_zero, List.set_cons_succ]
  refine any_one 7 (by kernel_rfl) (by kernel_rfl) (fun o ho => ?_)
  simp only [List.getElem?_toArray, List.getElem?_cons_zero, List.getElem?_cons_succ, Option.some.injEq] at ho; subst ho
  refine ⟨by kernel_rfl, fun K hK => ?_⟩
  refine wp_value (by go_simp; try with_reducible rfl) ?_
  refine hK.out _ _ ?_
  clear hK K
  simp only [Act.put, List.setIfInBounds_toArray, List.set_cons_zero, List.set_cons_succ]
  refine any_end (by kernel_rfl) ?_
  go_wp2_with fail
  refine bodyPost_ret (results_mv2 rfl _ _ _ ⟨x, g, 0, 0, true⟩ (.bool wr) rfl rfl HQ.out) rfl ⟨by rw [HS.out, HW2.out], HB.out⟩
theorem cof_any (p : Nat → Int) (l : List UInt8) (w : World) (hl : l.length ≤ 10000) (hp : FitM p) (hs : smB p = true) (hG : TabGo w) : Calls Tryd.prog 16 #[.agg (posA p), .string (bz l)] w (MvO (coM p l) (coB p l) w) := by
  cases h0 : (p 0 == 1)
  · exact cof_std p l w hl hp hs hG h0
  · exact cof_960 p l w hl hp hs hG h0
end Go.Proofs.YtnogmogmlilpiaaDoor
