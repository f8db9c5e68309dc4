/-
  The document's own Castling (layer 11): which castling a text is.
-/
import Derived.Test.YtnogmogmlilpiaaDoorMvR
namespace Go.Proofs.YtnogmogmlilpiaaDoor
open Go.RowKit
set_option linter.unusedVariables false
set_option linter.unusedSimpArgs false

/-- The text is that of a castling by these two squares. -/
def hitC (p : Nat → Int) (l : List UInt8) (n u : Nat) : Bool := ((n : Int) != (u : Int)) && isW (csR p n u) l
theorem hit_yes {p : Nat → Int} (hs : smB p = true) (h0 : 0 ≤ p 78) {l : List UInt8} {n u : Nat} (hn : n < 64) (hu : u < 64) (h : hitC p l n u = true) : coB p l = true ∧ coM p l = ⟨(n : Int), (u : Int), 0, 0, true⟩ := by
  unfold hitC at h
  rw [Bool.and_eq_true, bne_iff_ne] at h
  obtain ⟨hne, hw⟩ := h
  obtain ⟨he, hl⟩ := isW_true.1 hw
  have e : csT p ⟨(n : Int), (u : Int), 0, 0, true⟩ = l := by rw [csR_eq hs h0 (sqB_true.2 ⟨by omega, by omega⟩) (sqB_true.2 ⟨by omega, by omega⟩) hne]; exact he
  exact ⟨co_of hs h0 e hl, (co_back hs h0 e hl).1⟩
theorem hit_no {p : Nat → Int} (hs : smB p = true) (h0 : 0 ≤ p 78) {l : List UInt8} (h : ∀ n u : Nat, n < 64 → u < 64 → hitC p l n u = false) : coB p l = false := by
  cases hc : coB p l
  · rfl
  · exfalso
    obtain ⟨e, hl⟩ := co_yes hc
    obtain ⟨hm, _, hb⟩ := co_back hs h0 e hl
    have hb' := hb
    unfold csB at hb'
    rw [Bool.and_eq_true, Bool.and_eq_true] at hb'
    have hq := hb'.1.1
    rw [Bool.and_eq_true, Bool.and_eq_true, bne_iff_ne] at hq
    obtain ⟨⟨hf, ht⟩, hne⟩ := hq
    obtain ⟨f0, f1⟩ := sqB_true.1 hf
    obtain ⟨t0, t1⟩ := sqB_true.1 ht
    obtain ⟨n, hn⟩ := Int.eq_ofNat_of_zero_le f0
    obtain ⟨u, hu⟩ := Int.eq_ofNat_of_zero_le t0
    have := h n u (by omega) (by omega)
    unfold hitC at this
    rw [← hn, ← hu, bne_iff_ne.2 hne, Bool.true_and] at this
    rw [hm] at e
    have e2 := csR_eq hs h0 hf ht hne true
    rw [e] at e2
    rw [← e2, isW_true.2 ⟨rfl, hl⟩] at this
    cases this
set_option maxRecDepth 100000 in
set_option maxHeartbeats 800000 in
theorem castling_any (p : Nat → Int) (l : List UInt8) (w : World) (hp : FitM p) (hs : smB p = true) : Calls Tryd.prog 8 #[.agg (posA p), .string (bz l)] w (MvO (bif coB p l then coM p l else mv0) (coB p l) w) := by
  have HB := Lib.hid (Below.refl w.heap.size w)
  have HFp := Lib.hid hp
  have HSm := Lib.hid hs
  have HT0 := Lib.hid hp.turn.1
  obtain ⟨c, hc⟩ : ∃ c : Nat, p 78 = (c : Int) := Int.eq_ofNat_of_zero_le hp.turn.1
  have hc0 : (0 : Int) ≤ (c : Int) := by omega
  have HC0 := Lib.hid hc0
  have HCt := Lib.hid hc
  obtain ⟨y6, hy6⟩ : ∃ y, mkZ (p 78) 6 = y := ⟨_, rfl⟩
  have HY6 := Lib.hid (show mkZ (c : Int) 6 = y6 by rw [← hc]; exact hy6)
  have HE6 := Lib.hid (show ∀ n : Nat, stB p (n : Int) 6 = (p (1 + n) == y6) from fun n => by rw [← hy6]; rfl)
  obtain ⟨t, ht⟩ : ∃ t, bz l = t := ⟨_, rfl⟩
  have HT := Lib.hid ht
  rw [ht]
  clear ht hp hs hc hy6 hc0
  go_enter Tryd.func8, Tryd.ntmps8
  go_wp2_with (first
      | (refine step_box rfl _ rfl p rfl ?_; intro b0 w1 N R; have HB := Lib.hid (HB.out.trans (N.below.mono HB.out.size)); have HR := Lib.hid R; clear N R)
      | (refine blk_alloc rfl 33 rfl (mvA mv0) zeroMv ?_; intro b4 w2 N R; have HG4 := Lib.hid (show w.heap.size ≤ b4 by rw [N.at_]; exact HB.out.size); have HR := Lib.hid (HR.out.later N.below); have HB := Lib.hid (HB.out.trans (N.below.mono HB.out.size)); have HQ := Lib.hid R; clear N R))
  go_loopw [6] (fun v wr => ∃ n : Nat, n ≤ 64 ∧ v = .int .i8 (n : Int) ∧ (∀ j i : Nat, j < n → i < 64 → hitC p l j i = false) ∧ Row wr b0 p ∧ Blk wr b4 33 (mvA mv0) ∧ Below w.heap.size w wr) (fun v _ => 64 - (intOf v).toNat)
  case atStart => exact ⟨0, by omega, rfl, by intro j i h; omega, HR.out, HQ.out, HB.out⟩
  case round =>
    obtain ⟨n, hn, rfl, hh, hr, hq, hbw⟩ := hrel
    have HR := Lib.hid hr
    have HQ := Lib.hid hq
    have HB := Lib.hid hbw
    have HH := Lib.hid hh
    have HN0 := Lib.hid hn
    clear hr hq hbw hh
    by_cases e64 : n = 64
    · have g1 : decide ((n : Int) < 64) = false := decide_eq_false (by omega)
      have HS := Lib.hid (hit_no (l := l) HSm.out HT0.out (fun j i hj hi => HH.out j i (by omega) hi))
      clear e64 hn
      go_wp2_with (first
        | (refine step_build rfl 33 _ rfl (mvA mv0) (by kernel_rfl) ?_)
        | (refine blk_store rfl 33 _ _ rfl b4 rfl (mvA mv0) (mvA mv0) rfl ?_ rfl (mv_one _) sizeMv ?_; exact HQ.out; intro w8 U R; have HB := Lib.hid (HB.out.trans (U.below HG4.out)); have HQ := Lib.hid R; clear U R))
      refine bodyPost_ret (results_mv2 rfl _ _ _ mv0 (.bool false) rfl rfl HQ.out) rfl ⟨by rw [HS.out]; rfl, HB.out⟩
    · have g1 : decide ((n : Int) < 64) = true := decide_eq_true (by omega)
      have hn1 : n < 64 := by omega
      have HN := Lib.hid hn1
      have n0 : (0 : Int) ≤ (n : Int) := by omega
      have n1 : (n : Int) < 64 := by omega
      have HK1 := Lib.hid (kAt_board (Nat.zero_le _) hn1)
      clear e64 hn
      cases h6 : stB p (n : Int) 6
      · have g6 : (p (1 + n) != y6) = true := by rw [HE6.out] at h6; rw [bne, h6]; rfl
        have HNo := Lib.hid (show ∀ i : Nat, hitC p l n i = false from fun i => by
          unfold hitC
          have : csR p n i = [] := by unfold csR cdB; rw [h6]; rfl
          rw [this, show isW [] l = false from rfl, Bool.and_false])
        clear h6 hn1
        go_wp2_with fail
        refine late_begin 8 (by kernel_rfl) ?_
        refine late_take 0 (by kernel_rfl) (by kernel_rfl) (by kernel_rfl) (by kernel_rfl) (by kernel_rfl) (fun _ _ d _ _ h => by cases d <;> exact h) (fun o ho => ?_)
        simp only [List.getElem?_toArray, List.getElem?_cons_zero, List.getElem?_cons_succ, Option.some.injEq] at ho; subst ho
        apply Exists.intro
        refine ⟨Or.inl ⟨by kernel_rfl, fun w' hl => Or.inl ?_⟩, ?_⟩
        · (go_simp; try with_reducible rfl)
        simp only [Act.put, List.setIfInBounds_toArray, List.set_cons_zero, List.set_cons_succ]
        refine late_take 1 (by kernel_rfl) (by kernel_rfl) (by kernel_rfl) (by kernel_rfl) (by kernel_rfl) (fun _ _ d _ _ h => by cases d <;> exact h) (fun o ho => ?_)
        simp only [List.getElem?_toArray, List.getElem?_cons_zero, List.getElem?_cons_succ, Option.some.injEq] at ho; subst ho
        apply Exists.intro
        refine ⟨Or.inl ⟨by kernel_rfl, fun w' hl => Or.inl ?_⟩, ?_⟩
        · (go_simp; try with_reducible rfl)
        simp only [Act.put, List.setIfInBounds_toArray, List.set_cons_zero, List.set_cons_succ]
        refine late_take 2 (by kernel_rfl) (by kernel_rfl) (by kernel_rfl) (by kernel_rfl) (by kernel_rfl) (fun _ _ d _ _ h => by cases d <;> exact h) (fun o ho => ?_)
        simp only [List.getElem?_toArray, List.getElem?_cons_zero, List.getElem?_cons_succ, Option.some.injEq] at ho; subst ho
        apply Exists.intro
        refine ⟨Or.inl ⟨by kernel_rfl, fun w' hl => Or.inl ?_⟩, ?_⟩
        · (go_simp; try with_reducible rfl)
        simp only [Act.put, List.setIfInBounds_toArray, List.set_cons_zero, List.set_cons_succ]
        refine late_take 3 (by kernel_rfl) (by kernel_rfl) (by kernel_rfl) (by kernel_rfl) (by kernel_rfl) (fun _ _ d _ _ h => by cases d <;> exact h) (fun o ho => ?_)
        simp only [List.getElem?_toArray, List.getElem?_cons_zero, List.getElem?_cons_succ, Option.some.injEq] at ho; subst ho
        refine ⟨.int .u8 (p (1 + n)), Or.inl ⟨by kernel_rfl, fun w' hl => Or.inl (run_get 5 _ rfl b0 (1 + n) rfl Tryd.underlying5 rfl (.int .u8 (p (1 + n))) (((HR.out.later hl).cell (1 + n) (by have := HN.out; omega)).trans (by rw [HK1.out])))⟩, ?_⟩
        simp only [Act.put, List.setIfInBounds_toArray, List.set_cons_zero, List.set_cons_succ]
        refine late_take 4 (by kernel_rfl) (by kernel_rfl) (by kernel_rfl) (by kernel_rfl) (by kernel_rfl) (fun _ _ d _ _ h => by cases d <;> exact h) (fun o ho => ?_)
        simp only [List.getElem?_toArray, List.getElem?_cons_zero, List.getElem?_cons_succ, Option.some.injEq] at ho; subst ho
        apply Exists.intro
        refine ⟨Or.inl ⟨by kernel_rfl, fun w' hl => Or.inl ?_⟩, ?_⟩
        · (go_simp; try with_reducible rfl)
        simp only [Act.put, List.setIfInBounds_toArray, List.set_cons_zero, List.set_cons_succ]
        refine late_take 5 (by kernel_rfl) (by kernel_rfl) (by kernel_rfl) (by kernel_rfl) (by kernel_rfl) (fun _ _ d _ _ h => by cases d <;> exact h) (fun o ho => ?_)
        simp only [List.getElem?_toArray, List.getElem?_cons_zero, List.getElem?_cons_succ, Option.some.injEq] at ho; subst ho
        refine ⟨.int .u8 (c : Int), Or.inl ⟨by kernel_rfl, fun w' hl => Or.inl (run_get 5 _ rfl b0 78 rfl Tryd.underlying5 rfl (.int .u8 (c : Int)) (by rw [(HR.out.later hl).cell 78 (by decide), HCt.out]; rfl))⟩, ?_⟩
        simp only [Act.put, List.setIfInBounds_toArray, List.set_cons_zero, List.set_cons_succ]
        refine late_one 6 (by kernel_rfl) (by kernel_rfl) (fun o ho => ?_)
        simp only [List.getElem?_toArray, List.getElem?_cons_zero, List.getElem?_cons_succ, Option.some.injEq] at ho; subst ho
        refine ⟨by kernel_rfl, fun wn hl K hK => ?_⟩
        have HR := Lib.hid (HR.out.later hl); have HQ := Lib.hid (HQ.out.later hl); have HB := Lib.hid (below_on HB.out hl); clear hl
        refine wp_enter _ _ (by go_simp; exact ⟨rfl, rfl⟩) ?_
        refine (rmk_any (c : Int) 6 _ HC0.out).mono ?_; rintro e wm ⟨rfl, hb⟩; refine ⟨_, rfl, ?_⟩
        rw [HY6.out]
        refine hK.out _ _ hb ?_
        have HR := Lib.hid (HR.out.later hb); have HQ := Lib.hid (HQ.out.later hb); have HB := Lib.hid (below_on HB.out hb); clear hb
        clear hK K
        simp only [Act.put, List.setIfInBounds_toArray, List.set_cons_zero, List.set_cons_succ]
        refine late_take 7 (by kernel_rfl) (by kernel_rfl) (by kernel_rfl) (by kernel_rfl) (by kernel_rfl) (fun _ _ d _ _ h => by cases d <;> exact h) (fun o ho => ?_)
        simp only [List.getElem?_toArray, List.getElem?_cons_zero, List.getElem?_cons_succ, Option.some.injEq] at ho; subst ho
        refine ⟨.bool true, Or.inl ⟨by kernel_rfl, fun w' hl => Or.inl ?_⟩, ?_⟩
        · (go_simp; try simp [g6])
        simp only [Act.put, List.setIfInBounds_toArray, List.set_cons_zero, List.set_cons_succ]
        refine late_end (by kernel_rfl) (fun wn hl => ?_)
        have HR := Lib.hid (HR.out.later hl); have HQ := Lib.hid (HQ.out.later hl); have HB := Lib.hid (below_on HB.out hl); clear hl
        go_wp2_with fail
        go_roundw
        case rel => exact ⟨n + 1, by have := HN.out; omega, by go_num, fun j i hj hi => by
          by_cases e : j < n
          · exact HH.out j i e hi
          · obtain rfl : j = n := by omega
            exact HNo.out i, HR.out, HQ.out, HB.out⟩
        case measure => have := HN.out; simp [intOf]; omega
      · have g6 : (p (1 + n) != y6) = false := by rw [HE6.out] at h6; rw [bne, h6]; rfl
        clear h6 hn1
        go_wp2_with fail
        refine late_begin 8 (by kernel_rfl) ?_
        refine late_take 0 (by kernel_rfl) (by kernel_rfl) (by kernel_rfl) (by kernel_rfl) (by kernel_rfl) (fun _ _ d _ _ h => by cases d <;> exact h) (fun o ho => ?_)
        simp only [List.getElem?_toArray, List.getElem?_cons_zero, List.getElem?_cons_succ, Option.some.injEq] at ho; subst ho
        apply Exists.intro
        refine ⟨Or.inl ⟨by kernel_rfl, fun w' hl => Or.inl ?_⟩, ?_⟩
        · (go_simp; try with_reducible rfl)
        simp only [Act.put, List.setIfInBounds_toArray, List.set_cons_zero, List.set_cons_succ]
        refine late_take 1 (by kernel_rfl) (by kernel_rfl) (by kernel_rfl) (by kernel_rfl) (by kernel_rfl) (fun _ _ d _ _ h => by cases d <;> exact h) (fun o ho => ?_)
        simp only [List.getElem?_toArray, List.getElem?_cons_zero, List.getElem?_cons_succ, Option.some.injEq] at ho; subst ho
        apply Exists.intro
        refine ⟨Or.inl ⟨by kernel_rfl, fun w' hl => Or.inl ?_⟩, ?_⟩
        · (go_simp; try with_reducible rfl)
        simp only [Act.put, List.setIfInBounds_toArray, List.set_cons_zero, List.set_cons_succ]
        refine late_take 2 (by kernel_rfl) (by kernel_rfl) (by kernel_rfl) (by kernel_rfl) (by kernel_rfl) (fun _ _ d _ _ h => by cases d <;> exact h) (fun o ho => ?_)
        simp only [List.getElem?_toArray, List.getElem?_cons_zero, List.getElem?_cons_succ, Option.some.injEq] at ho; subst ho
        apply Exists.intro
        refine ⟨Or.inl ⟨by kernel_rfl, fun w' hl => Or.inl ?_⟩, ?_⟩
        · (go_simp; try with_reducible rfl)
        simp only [Act.put, List.setIfInBounds_toArray, List.set_cons_zero, List.set_cons_succ]
        refine late_take 3 (by kernel_rfl) (by kernel_rfl) (by kernel_rfl) (by kernel_rfl) (by kernel_rfl) (fun _ _ d _ _ h => by cases d <;> exact h) (fun o ho => ?_)
        simp only [List.getElem?_toArray, List.getElem?_cons_zero, List.getElem?_cons_succ, Option.some.injEq] at ho; subst ho
        refine ⟨.int .u8 (p (1 + n)), Or.inl ⟨by kernel_rfl, fun w' hl => Or.inl (run_get 5 _ rfl b0 (1 + n) rfl Tryd.underlying5 rfl (.int .u8 (p (1 + n))) (((HR.out.later hl).cell (1 + n) (by have := HN.out; omega)).trans (by rw [HK1.out])))⟩, ?_⟩
        simp only [Act.put, List.setIfInBounds_toArray, List.set_cons_zero, List.set_cons_succ]
        refine late_take 4 (by kernel_rfl) (by kernel_rfl) (by kernel_rfl) (by kernel_rfl) (by kernel_rfl) (fun _ _ d _ _ h => by cases d <;> exact h) (fun o ho => ?_)
        simp only [List.getElem?_toArray, List.getElem?_cons_zero, List.getElem?_cons_succ, Option.some.injEq] at ho; subst ho
        apply Exists.intro
        refine ⟨Or.inl ⟨by kernel_rfl, fun w' hl => Or.inl ?_⟩, ?_⟩
        · (go_simp; try with_reducible rfl)
        simp only [Act.put, List.setIfInBounds_toArray, List.set_cons_zero, List.set_cons_succ]
        refine late_take 5 (by kernel_rfl) (by kernel_rfl) (by kernel_rfl) (by kernel_rfl) (by kernel_rfl) (fun _ _ d _ _ h => by cases d <;> exact h) (fun o ho => ?_)
        simp only [List.getElem?_toArray, List.getElem?_cons_zero, List.getElem?_cons_succ, Option.some.injEq] at ho; subst ho
        refine ⟨.int .u8 (c : Int), Or.inl ⟨by kernel_rfl, fun w' hl => Or.inl (run_get 5 _ rfl b0 78 rfl Tryd.underlying5 rfl (.int .u8 (c : Int)) (by rw [(HR.out.later hl).cell 78 (by decide), HCt.out]; rfl))⟩, ?_⟩
        simp only [Act.put, List.setIfInBounds_toArray, List.set_cons_zero, List.set_cons_succ]
        refine late_one 6 (by kernel_rfl) (by kernel_rfl) (fun o ho => ?_)
        simp only [List.getElem?_toArray, List.getElem?_cons_zero, List.getElem?_cons_succ, Option.some.injEq] at ho; subst ho
        refine ⟨by kernel_rfl, fun wn hl K hK => ?_⟩
        have HR := Lib.hid (HR.out.later hl); have HQ := Lib.hid (HQ.out.later hl); have HB := Lib.hid (below_on HB.out hl); clear hl
        refine wp_enter _ _ (by go_simp; exact ⟨rfl, rfl⟩) ?_
        refine (rmk_any (c : Int) 6 _ HC0.out).mono ?_; rintro e wm ⟨rfl, hb⟩; refine ⟨_, rfl, ?_⟩
        rw [HY6.out]
        refine hK.out _ _ hb ?_
        have HR := Lib.hid (HR.out.later hb); have HQ := Lib.hid (HQ.out.later hb); have HB := Lib.hid (below_on HB.out hb); clear hb
        clear hK K
        simp only [Act.put, List.setIfInBounds_toArray, List.set_cons_zero, List.set_cons_succ]
        refine late_take 7 (by kernel_rfl) (by kernel_rfl) (by kernel_rfl) (by kernel_rfl) (by kernel_rfl) (fun _ _ d _ _ h => by cases d <;> exact h) (fun o ho => ?_)
        simp only [List.getElem?_toArray, List.getElem?_cons_zero, List.getElem?_cons_succ, Option.some.injEq] at ho; subst ho
        refine ⟨.bool false, Or.inl ⟨by kernel_rfl, fun w' hl => Or.inl ?_⟩, ?_⟩
        · (go_simp; try simp [g6])
        simp only [Act.put, List.setIfInBounds_toArray, List.set_cons_zero, List.set_cons_succ]
        refine late_end (by kernel_rfl) (fun wn hl => ?_)
        have HR := Lib.hid (HR.out.later hl); have HQ := Lib.hid (HQ.out.later hl); have HB := Lib.hid (below_on HB.out hl); clear hl
        go_wp2_with fail
        go_loopw [7] (fun v wr2 => ∃ u : Nat, u ≤ 64 ∧ v = .int .i8 (u : Int) ∧ (∀ i : Nat, i < u → hitC p l n i = false) ∧ Row wr2 b0 p ∧ Blk wr2 b4 33 (mvA mv0) ∧ Below w.heap.size w wr2) (fun v _ => 64 - (intOf v).toNat)
        case atStart => exact ⟨0, by omega, rfl, by intro i h; omega, HR.out, HQ.out, HB.out⟩
        case round =>
          obtain ⟨u, hu, rfl, hhu, hr2, hq2, hb2⟩ := hrel
          have HR := Lib.hid hr2
          have HQ := Lib.hid hq2
          have HB := Lib.hid hb2
          have HHu := Lib.hid hhu
          clear hr2 hq2 hb2 hhu
          by_cases e64 : u = 64
          · have g2 : decide ((u : Int) < 64) = false := decide_eq_false (by omega)
            have HE := Lib.hid e64
            clear e64 hu
            go_wp2_with fail
            go_roundw
            case rel => exact ⟨n + 1, by have := HN.out; omega, by go_num, fun j i hj hi => by
              by_cases e : j < n
              · exact HH.out j i e hi
              · obtain rfl : j = n := by omega
                exact HHu.out i (by have := HE.out; omega), HR.out, HQ.out, HB.out⟩
            case measure => have := HN.out; simp [intOf]; omega
          have g2 : decide ((u : Int) < 64) = true := decide_eq_true (by omega)
          have hu1 : u < 64 := by omega
          have HU := Lib.hid hu1
          have u0 : (0 : Int) ≤ (u : Int) := by omega
          have u1 : (u : Int) < 64 := by omega
          obtain ⟨x, hx⟩ : ∃ x, bz (csR p n u) = x := ⟨_, rfl⟩
          have HX := Lib.hid hx
          have HLive := Lib.hid trivial
          clear e64 hu
          cases hne : ((n : Int) != (u : Int))
          · have HHit := Lib.hid (show hitC p l n u = false by unfold hitC; rw [hne]; rfl)
            clear hx hu1
            go_wp2_with (first
              | (refine blk_alloc rfl 33 rfl (mvA mv0) zeroMv ?_; intro b8 w6 N R; have HG8 := Lib.hid (show w.heap.size ≤ b8 by rw [N.at_]; exact HB.out.size); have HDHR := Lib.hid (show b0 ≠ b8 by rw [N.at_]; exact Nat.ne_of_lt HR.out.lt); have HR := Lib.hid (HR.out.later N.below); have HDHQ := Lib.hid (show b4 ≠ b8 by rw [N.at_]; exact Nat.ne_of_lt HQ.out.lt); have HQ := Lib.hid (HQ.out.later N.below); have HB := Lib.hid (HB.out.trans (N.below.mono HB.out.size)); have HM := Lib.hid R; clear N R)
              | (clear HLive; refine blk_store rfl 33 _ _ rfl b8 rfl (mvA mv0) (mvA ⟨(n : Int), (u : Int), 0, 0, true⟩) rfl ?_ rfl (mv_one _) sizeMv ?_; exact HM.out; intro w7 U R; have HR := Lib.hid (HR.out.apart U HDHR.out); have HQ := Lib.hid (HQ.out.apart U HDHQ.out); have HB := Lib.hid (HB.out.trans (U.below HG8.out)); have HM := Lib.hid R; clear U R))
            go_roundw
            case rel => exact ⟨u + 1, by have := HU.out; omega, by go_num, fun j hj => by
              by_cases e : j < u
              · exact HHu.out j e
              · obtain rfl : j = u := by omega
                exact HHit.out, HR.out, HQ.out, HB.out⟩
            case measure => have := HU.out; simp [intOf]; omega
          cases hxe : x.toList.isEmpty
          · cases hxt : (x.toList == t.toList)
            · have HHit := Lib.hid (show hitC p l n u = false by
                unfold hitC
                rw [hne, Bool.true_and]
                refine isW_false fun e => ?_
                rw [← hx, ← HT.out, bz_toList, bz_toList, e] at hxt
                simp at hxt)
              clear hx hu1
              go_wp2_with (first
                | (refine blk_alloc rfl 33 rfl (mvA mv0) zeroMv ?_; intro b8 w6 N R; have HG8 := Lib.hid (show w.heap.size ≤ b8 by rw [N.at_]; exact HB.out.size); have HDHR := Lib.hid (show b0 ≠ b8 by rw [N.at_]; exact Nat.ne_of_lt HR.out.lt); have HR := Lib.hid (HR.out.later N.below); have HDHQ := Lib.hid (show b4 ≠ b8 by rw [N.at_]; exact Nat.ne_of_lt HQ.out.lt); have HQ := Lib.hid (HQ.out.later N.below); have HB := Lib.hid (HB.out.trans (N.below.mono HB.out.size)); have HM := Lib.hid R; clear N R)
                | (refine blk_store rfl 33 _ _ rfl b8 rfl (mvA mv0) (mvA ⟨(n : Int), (u : Int), 0, 0, true⟩) rfl ?_ rfl (mv_one _) sizeMv ?_; exact HM.out; intro w7 U R; have HR := Lib.hid (HR.out.apart U HDHR.out); have HQ := Lib.hid (HQ.out.apart U HDHQ.out); have HB := Lib.hid (HB.out.trans (U.below HG8.out)); have HM := Lib.hid R; clear U R)
                | (refine step_load rfl _ rfl b0 rfl p ?_ ?_; exact HR.out)
                | (refine blk_load rfl 33 _ rfl b8 rfl (mvA ⟨(n : Int), (u : Int), 0, 0, true⟩) ?_ _ Tryd.underlying33 rfl sizeMv ?_; exact HM.out)
                | (go_at_call 20; refine (rcas_any p n u 0 0 true _ HFp.out HSm.out HN.out HU.out).mono ?_; rintro e w3 ⟨rfl, hb⟩; rw [HX.out]; have HR := Lib.hid (HR.out.later hb); have HQ := Lib.hid (HQ.out.later hb); have HM := Lib.hid (HM.out.later hb); have HB := Lib.hid (below_on HB.out hb); clear hb))
              go_roundw
              case rel => exact ⟨u + 1, by have := HU.out; omega, by go_num, fun j hj => by
                by_cases e : j < u
                · exact HHu.out j e
                · obtain rfl : j = u := by omega
                  exact HHit.out, HR.out, HQ.out, HB.out⟩
              case measure => have := HU.out; simp [intOf]; omega
            · have HHit := Lib.hid (hit_yes (l := l) HSm.out HT0.out HN.out hu1 (show hitC p l n u = true by
                unfold hitC
                rw [hne, Bool.true_and]
                rw [← hx, ← HT.out, bz_toList, bz_toList, beq_iff_eq] at hxt
                rw [← hx, bz_toList] at hxe
                exact isW_true.2 ⟨hxt, by rw [← hxt]; exact List.isEmpty_eq_false_iff.1 hxe⟩))
              clear hx hu1
              go_wp2_with (first
                | (refine blk_alloc rfl 33 rfl (mvA mv0) zeroMv ?_; intro b8 w6 N R; have HG8 := Lib.hid (show w.heap.size ≤ b8 by rw [N.at_]; exact HB.out.size); have HDHR := Lib.hid (show b0 ≠ b8 by rw [N.at_]; exact Nat.ne_of_lt HR.out.lt); have HR := Lib.hid (HR.out.later N.below); have HDHQ := Lib.hid (show b4 ≠ b8 by rw [N.at_]; exact Nat.ne_of_lt HQ.out.lt); have HQ := Lib.hid (HQ.out.later N.below); have HB := Lib.hid (HB.out.trans (N.below.mono HB.out.size)); have HM := Lib.hid R; clear N R)
                | (refine blk_store rfl 33 _ _ rfl b8 rfl (mvA mv0) (mvA ⟨(n : Int), (u : Int), 0, 0, true⟩) rfl ?_ rfl (mv_one _) sizeMv ?_; exact HM.out; intro w7 U R; have HR := Lib.hid (HR.out.apart U HDHR.out); have HQ := Lib.hid (HQ.out.apart U HDHQ.out); have HB := Lib.hid (HB.out.trans (U.below HG8.out)); have HM := Lib.hid R; clear U R)
                | (refine step_load rfl _ rfl b0 rfl p ?_ ?_; exact HR.out)
                | (refine blk_load rfl 33 _ rfl b8 rfl (mvA ⟨(n : Int), (u : Int), 0, 0, true⟩) ?_ _ Tryd.underlying33 rfl sizeMv ?_; exact HM.out)
                | (go_at_call 20; refine (rcas_any p n u 0 0 true _ HFp.out HSm.out HN.out HU.out).mono ?_; rintro e w3 ⟨rfl, hb⟩; rw [HX.out]; have HR := Lib.hid (HR.out.later hb); have HQ := Lib.hid (HQ.out.later hb); have HM := Lib.hid (HM.out.later hb); have HB := Lib.hid (below_on HB.out hb); clear hb)
                | (refine blk_store rfl 33 _ _ rfl b4 rfl (mvA mv0) (mvA ⟨(n : Int), (u : Int), 0, 0, true⟩) rfl ?_ rfl (mv_one _) sizeMv ?_; exact HQ.out; intro w8 U R; have HB := Lib.hid (HB.out.trans (U.below HG4.out)); have HQ := Lib.hid R; clear U R))
              refine bodyPost_ret (results_mv2 rfl _ _ _ ⟨(n : Int), (u : Int), 0, 0, true⟩ (.bool true) rfl rfl HQ.out) rfl ⟨by rw [HHit.out.1, HHit.out.2]; rfl, HB.out⟩
          · have HHit := Lib.hid (show hitC p l n u = false by
              unfold hitC
              rw [hne, Bool.true_and]
              have : csR p n u = [] := by rw [← hx, bz_toList] at hxe; exact List.isEmpty_iff.1 hxe
              rw [this]; rfl)
            clear hx hu1
            go_wp2_with (first
              | (have HL9 := HLive; clear HL9; refine blk_alloc rfl 33 rfl (mvA mv0) zeroMv ?_; intro b8 w6 N R; have HG8 := Lib.hid (show w.heap.size ≤ b8 by rw [N.at_]; exact HB.out.size); have HDHR := Lib.hid (show b0 ≠ b8 by rw [N.at_]; exact Nat.ne_of_lt HR.out.lt); have HR := Lib.hid (HR.out.later N.below); have HDHQ := Lib.hid (show b4 ≠ b8 by rw [N.at_]; exact Nat.ne_of_lt HQ.out.lt); have HQ := Lib.hid (HQ.out.later N.below); have HB := Lib.hid (HB.out.trans (N.below.mono HB.out.size)); have HM := Lib.hid R; clear N R)
              | (have HL9 := HLive; clear HL9; refine blk_store rfl 33 _ _ rfl b8 rfl (mvA mv0) (mvA ⟨(n : Int), (u : Int), 0, 0, true⟩) rfl ?_ rfl (mv_one _) sizeMv ?_; exact HM.out; intro w7 U R; have HR := Lib.hid (HR.out.apart U HDHR.out); have HQ := Lib.hid (HQ.out.apart U HDHQ.out); have HB := Lib.hid (HB.out.trans (U.below HG8.out)); have HM := Lib.hid R; clear U R)
              | (have HL9 := HLive; clear HL9; refine step_load rfl _ rfl b0 rfl p ?_ ?_; exact HR.out)
              | (have HL9 := HLive; clear HL9; refine blk_load rfl 33 _ rfl b8 rfl (mvA ⟨(n : Int), (u : Int), 0, 0, true⟩) ?_ _ Tryd.underlying33 rfl sizeMv ?_; exact HM.out)
              | (clear HLive; go_at_call 20; refine (rcas_any p n u 0 0 true _ HFp.out HSm.out HN.out HU.out).mono ?_; rintro e w3 ⟨rfl, hb⟩; rw [HX.out]; have HR := Lib.hid (HR.out.later hb); have HQ := Lib.hid (HQ.out.later hb); have HM := Lib.hid (HM.out.later hb); have HB := Lib.hid (below_on HB.out hb); clear hb))
            go_roundw
            case rel => exact ⟨u + 1, by have := HU.out; omega, by go_num, fun j hj => by
              by_cases e : j < u
              · exact HHu.out j e
              · obtain rfl : j = u := by omega
                exact HHit.out, HR.out, HQ.out, HB.out⟩
            case measure => have := HU.out; simp [intOf]; omega
end Go.Proofs.YtnogmogmlilpiaaDoor
