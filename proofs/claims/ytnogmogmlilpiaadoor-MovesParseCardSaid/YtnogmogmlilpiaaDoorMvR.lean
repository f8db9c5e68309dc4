/-
  The document's own answer for castlings (layer 11): two, castles.
-/
import Derived.Test.YtnogmogmlilpiaaDoorMvE
import Derived.Test.YtnogmogmlilpiaaDoorPcRefB
import Derived.Test.YtnogmogmlilpiaaDoorSqTextRef
namespace Go.Proofs.YtnogmogmlilpiaaDoor
open Go.RowKit
set_option linter.unusedVariables false
set_option linter.unusedSimpArgs false

def cdB (p : Nat → Int) (f t : Int) : Bool := stB p f 6 && (bif p 0 == 1 then stB p t 4 else (f == 56 * p 78 + 4) && (lnB (roP p (sdN f t)) && (t == 56 * p 78 + roP p (sdN f t))))
/-- What the document's castles answers of two squares. -/
def csR (p : Nat → Int) (f t : Int) : List UInt8 := bif cdB p f t then (bif p 0 == 1 then sqM f ++ sqM t else sqM f ++ sqM (56 * p 78 + goZ (sdN f t))) else []
theorem goZ_ln (d : Nat) : lnB (goZ d) = true := by
  unfold goZ; cases (d == 0) <;> rfl
/-- It is what the program's castlingText answers. -/
theorem csR_eq {p : Nat → Int} (hs : smB p = true) (h0 : 0 ≤ p 78) {f t : Int} (hf : sqB f = true) (ht : sqB t = true) (hne : f ≠ t) (ca : Bool) : csT p ⟨f, t, 0, 0, ca⟩ = csR p f t := by
  have htn := smB_turn hs h0
  have c : (sqB f && sqB t && (f != t)) = true := by rw [hf, ht, bne_iff_ne.2 hne]; rfl
  have h4 : hmZ p 4 = 56 * p 78 + 4 := (hm_sq hs h0 (k := 4) rfl).2
  have hg := hm_sq hs h0 (goZ_ln (sdN f t))
  have e : csB p f t = cdB p f t := by
    unfold csB cdB
    rw [c, Bool.true_and]
    cases (p 0 == 1)
    · show (stB p f 6 && ((f == hmZ p 4) && (t == hmZ p (roP p (sdN f t))))) = (stB p f 6 && ((f == 56 * p 78 + 4) && (lnB (roP p (sdN f t)) && (t == 56 * p 78 + roP p (sdN f t)))))
      rw [h4]
      congr 2
      cases hl : lnB (roP p (sdN f t))
      · have : hmZ p (roP p (sdN f t)) = -1 := by unfold hmZ; rw [hl]; rfl
        rw [this, Bool.false_and, beq_eq_false_iff_ne]
        rw [sqB_true] at ht; omega
      · rw [(hm_sq hs h0 hl).2, Bool.true_and]
    · rfl
  show (bif ((0 : Int) == 0) && csB p f t then csG p f t else []) = _
  rw [e]
  show (bif cdB p f t then csG p f t else []) = _
  unfold csR
  cases hc : cdB p f t
  · rfl
  · show csG p f t = (bif p 0 == 1 then sqM f ++ sqM t else sqM f ++ sqM (56 * p 78 + goZ (sdN f t)))
    unfold csG
    cases hv : (p 0 == 1)
    · show enL f (hmZ p (goZ (sdN f t))) = sqM f ++ sqM (56 * p 78 + goZ (sdN f t))
      have hd := hc
      unfold cdB at hd
      rw [hv] at hd
      have hd : (stB p f 6 && ((f == 56 * p 78 + 4) && (lnB (roP p (sdN f t)) && (t == 56 * p 78 + roP p (sdN f t))))) = true := hd
      simp only [Bool.and_eq_true, beq_iff_eq] at hd
      have hgz : goZ (sdN f t) = 6 ∨ goZ (sdN f t) = 2 := by
        unfold goZ
        cases (sdN f t == 0)
        · exact .inr rfl
        · exact .inl rfl
      have hq : f ≠ hmZ p (goZ (sdN f t)) := by
        intro e
        rw [hg.2] at e
        have := hd.2.1
        rcases hgz with g | g <;> rw [g] at e <;> omega
      rw [enL_yes (by rw [hf, hg.1, bne_iff_ne.2 hq]; rfl), hg.2]
    · exact enL_yes c
set_option maxRecDepth 100000 in
set_option maxHeartbeats 1000000 in
theorem rtwo_any (f t : Int) (w : World) (hf : -128 ≤ f ∧ f ≤ 127) (ht : -128 ≤ t ∧ t ≤ 127) : Calls Tryd.prog 25 #[.int .i8 f, .int .i8 t] w (StL (bz (sqM f ++ sqM t)) w) := by
  have HB := Lib.hid (Below.refl w.heap.size w)
  obtain ⟨x, hx⟩ : ∃ x, textZ f = x := ⟨_, rfl⟩
  obtain ⟨y, hy⟩ : ∃ y, textZ t = y := ⟨_, rfl⟩
  have HX := Lib.hid hx
  have HY := Lib.hid hy
  have wf : IntKind.i64.wrap f = f := IntWalk.i64_in f (by omega)
  have wt : IntKind.i64.wrap t = t := IntWalk.i64_in t (by omega)
  have sx : x.size ≤ 2 := by rw [← hx]; exact sqM_size f
  have sy : y.size ≤ 2 := by rw [← hy]; exact sqM_size t
  have k1 : ¬ (9223372036854775807 < x.size + y.size) := by omega
  have HS := Lib.hid (show bz (sqM f ++ sqM t) = x ++ y by rw [← hx, ← hy, sqM_bz, sqM_bz, bz_app])
  have HOnce := Lib.hid trivial
  rw [HS.out]
  clear hx hy sx sy HS
  go_enter Tryd.func25, Tryd.ntmps25
  go_wp2_with (first
      | (go_at_call 9; clear HOnce; refine (rtext_any f _).mono ?_; rintro e w3 ⟨rfl, hb⟩; rw [HX.out]; have HB := Lib.hid (below_on HB.out hb); clear hb)
      | (go_at_call 9; refine (rtext_any t _).mono ?_; rintro e w3 ⟨rfl, hb⟩; rw [HY.out]; have HB := Lib.hid (below_on HB.out hb); clear hb))
  go_ret
  exact ⟨rfl, HB.out⟩
set_option maxRecDepth 100000 in
set_option maxHeartbeats 1000000 in
theorem rcas_w0 (p : Nat → Int) (n u : Nat) (pr dr : Int) (ca : Bool) (w : World) (hp : FitM p) (hs : smB p = true) (hn : n < 64) (hu : u < 64) (h6 : stB p (n : Int) 6 = false) : Calls Tryd.prog 20 #[.agg (posA p), .agg (mvA ⟨(n : Int), (u : Int), pr, dr, ca⟩)] w (StL (bz (csR p n u)) w) := by
  have HB := Lib.hid (Below.refl w.heap.size w)
  have HT0 := Lib.hid hp.turn.1
  obtain ⟨c, hc⟩ : ∃ c : Nat, p 78 = (c : Int) := Int.eq_ofNat_of_zero_le hp.turn.1
  have hc2 : c < 2 := by have := smB_turn hs hp.turn.1; omega
  have hc3 : (c : Int) < 2 := by omega
  have hc0 : (0 : Int) ≤ (c : Int) := by omega
  have HCt := Lib.hid hc
  have n0 : (0 : Int) ≤ (n : Int) := by omega
  have n1 : (n : Int) < 64 := by omega
  have u0 : (0 : Int) ≤ (u : Int) := by omega
  have u1 : (u : Int) < 64 := by omega
  have HN := Lib.hid hn
  have HU := Lib.hid hu
  have HK1 := Lib.hid (kAt_board (Nat.zero_le _) hn)
  have HK2 := Lib.hid (kAt_board (Nat.zero_le _) hu)
  obtain ⟨y6, hy6⟩ : ∃ y, mkZ (p 78) 6 = y := ⟨_, rfl⟩
  have HY6 := Lib.hid (show mkZ (c : Int) 6 = y6 by rw [← hc]; exact hy6)
  obtain ⟨y4, hy4⟩ : ∃ y, mkZ (p 78) 4 = y := ⟨_, rfl⟩
  have HY4 := Lib.hid (show mkZ (c : Int) 4 = y4 by rw [← hc]; exact hy4)
  have e6 : stB p (n : Int) 6 = (p (1 + n) == y6) := by rw [← hy6]; rfl
  have e4 : stB p (u : Int) 4 = (p (1 + u) == y4) := by rw [← hy4]; rfl
  have HC0 := Lib.hid hc0
  have g6 : (p (1 + n) != y6) = true := by rw [e6] at h6; rw [bne, h6]; rfl
  have HS := Lib.hid (show csR p n u = [] by unfold csR cdB; rw [h6]; rfl)
  clear hp hs hn hu hc hy6 hy4 e6 e4 h6
  go_enter Tryd.func20, Tryd.ntmps20
  go_wp2_with (first
      | (refine step_box rfl _ rfl p rfl ?_; intro b0 w1 N R; have HB := Lib.hid (HB.out.trans (N.below.mono HB.out.size)); have HR := Lib.hid R; clear N R)
      | (refine blk_box rfl 33 _ rfl (mvA ⟨(n : Int), (u : Int), pr, dr, ca⟩) rfl ?_; intro b1 w2 N R; have HR := Lib.hid (HR.out.later N.below); have HB := Lib.hid (HB.out.trans (N.below.mono HB.out.size)); have HM := Lib.hid R; clear N R)
      | (refine step_get rfl 5 _ rfl b0 78 rfl Tryd.underlying5 rfl (.int .u8 (c : Int)) ?_ ?_; exact (HR.out.cell 78 (by decide)).trans (by rw [HCt.out]; rfl)))
  refine late_begin 9 (by kernel_rfl) ?_
  refine late_take 0 (by kernel_rfl) (by kernel_rfl) (by kernel_rfl) (by kernel_rfl) (by kernel_rfl) (fun _ _ d _ _ h => by cases d <;> exact h) (fun o ho => ?_)
  simp only [List.getElem?_toArray, List.getElem?_cons_zero, List.getElem?_cons_succ, Option.some.injEq] at ho; subst ho
  apply Exists.intro
  refine ⟨Or.inl ⟨by kernel_rfl, fun w' hl => Or.inl ?_⟩, ?_⟩
  · (go_simp; try with_reducible rfl)
  simp only [Act.put, List.setIfInBounds_toArray, List.set_cons_zero, List.set_cons_succ]
  refine late_take 1 (by kernel_rfl) (by kernel_rfl) (by kernel_rfl) (by kernel_rfl) (by kernel_rfl) (fun _ _ d _ _ h => by cases d <;> exact h) (fun o ho => ?_)
  simp only [List.getElem?_toArray, List.getElem?_cons_zero, List.getElem?_cons_succ, Option.some.injEq] at ho; subst ho
  refine ⟨_, Or.inl ⟨by kernel_rfl, fun w' hl => Or.inl (run_get 26 _ rfl b1 (0) rfl Tryd.underlying26 rfl (.int .i8 (n : Int)) ((HM.out.later hl).cell 0))⟩, ?_⟩
  simp only [Act.put, List.setIfInBounds_toArray, List.set_cons_zero, List.set_cons_succ]
  refine late_take 2 (by kernel_rfl) (by kernel_rfl) (by kernel_rfl) (by kernel_rfl) (by kernel_rfl) (fun _ _ d _ _ h => by cases d <;> exact h) (fun o ho => ?_)
  simp only [List.getElem?_toArray, List.getElem?_cons_zero, List.getElem?_cons_succ, Option.some.injEq] at ho; subst ho
  apply Exists.intro
  refine ⟨Or.inl ⟨by kernel_rfl, fun w' hl => Or.inl ?_⟩, ?_⟩
  · (go_simp; try with_reducible rfl)
  simp only [Act.put, List.setIfInBounds_toArray, List.set_cons_zero, List.set_cons_succ]
  refine late_take 3 (by kernel_rfl) (by kernel_rfl) (by kernel_rfl) (by kernel_rfl) (by kernel_rfl) (fun _ _ d _ _ h => by cases d <;> exact h) (fun o ho => ?_)
  simp only [List.getElem?_toArray, List.getElem?_cons_zero, List.getElem?_cons_succ, Option.some.injEq] at ho; subst ho
  apply Exists.intro
  refine ⟨Or.inl ⟨by kernel_rfl, fun w' hl => Or.inl ?_⟩, ?_⟩
  · (go_simp; try with_reducible rfl)
  simp only [Act.put, List.setIfInBounds_toArray, List.set_cons_zero, List.set_cons_succ]
  refine late_take 4 (by kernel_rfl) (by kernel_rfl) (by kernel_rfl) (by kernel_rfl) (by kernel_rfl) (fun _ _ d _ _ h => by cases d <;> exact h) (fun o ho => ?_)
  simp only [List.getElem?_toArray, List.getElem?_cons_zero, List.getElem?_cons_succ, Option.some.injEq] at ho; subst ho
  refine ⟨.int .u8 (p (1 + n)), Or.inl ⟨by kernel_rfl, fun w' hl => Or.inl (run_get 5 _ rfl b0 (1 + n) rfl Tryd.underlying5 rfl (.int .u8 (p (1 + n))) (((HR.out.later hl).cell (1 + n) (by have := HN.out; have := HU.out; omega)).trans (by rw [HK1.out])))⟩, ?_⟩
  simp only [Act.put, List.setIfInBounds_toArray, List.set_cons_zero, List.set_cons_succ]
  refine late_take 5 (by kernel_rfl) (by kernel_rfl) (by kernel_rfl) (by kernel_rfl) (by kernel_rfl) (fun _ _ d _ _ h => by cases d <;> exact h) (fun o ho => ?_)
  simp only [List.getElem?_toArray, List.getElem?_cons_zero, List.getElem?_cons_succ, Option.some.injEq] at ho; subst ho
  apply Exists.intro
  refine ⟨Or.inl ⟨by kernel_rfl, fun w' hl => Or.inl ?_⟩, ?_⟩
  · (go_simp; try with_reducible rfl)
  simp only [Act.put, List.setIfInBounds_toArray, List.set_cons_zero, List.set_cons_succ]
  refine late_take 6 (by kernel_rfl) (by kernel_rfl) (by kernel_rfl) (by kernel_rfl) (by kernel_rfl) (fun _ _ d _ _ h => by cases d <;> exact h) (fun o ho => ?_)
  simp only [List.getElem?_toArray, List.getElem?_cons_zero, List.getElem?_cons_succ, Option.some.injEq] at ho; subst ho
  refine ⟨.int .u8 (c : Int), Or.inl ⟨by kernel_rfl, fun w' hl => Or.inl (run_get 5 _ rfl b0 78 rfl Tryd.underlying5 rfl (.int .u8 (c : Int)) (by rw [(HR.out.later hl).cell 78 (by decide), HCt.out]; rfl))⟩, ?_⟩
  simp only [Act.put, List.setIfInBounds_toArray, List.set_cons_zero, List.set_cons_succ]
  refine late_one 7 (by kernel_rfl) (by kernel_rfl) (fun o ho => ?_)
  simp only [List.getElem?_toArray, List.getElem?_cons_zero, List.getElem?_cons_succ, Option.some.injEq] at ho; subst ho
  refine ⟨by kernel_rfl, fun wn hl K hK => ?_⟩
  have HR := Lib.hid (HR.out.later hl); have HM := Lib.hid (HM.out.later hl); have HB := Lib.hid (below_on HB.out hl); clear hl
  refine wp_enter _ _ (by go_simp; exact ⟨rfl, rfl⟩) ?_
  refine (rmk_any (c : Int) 6 _ HC0.out).mono ?_; rintro e wm ⟨rfl, hb⟩; refine ⟨_, rfl, ?_⟩
  rw [HY6.out]
  refine hK.out _ _ hb ?_
  have HR := Lib.hid (HR.out.later hb); have HM := Lib.hid (HM.out.later hb); have HB := Lib.hid (below_on HB.out hb); clear hb
  clear hK K
  simp only [Act.put, List.setIfInBounds_toArray, List.set_cons_zero, List.set_cons_succ]
  refine late_take 8 (by kernel_rfl) (by kernel_rfl) (by kernel_rfl) (by kernel_rfl) (by kernel_rfl) (fun _ _ d _ _ h => by cases d <;> exact h) (fun o ho => ?_)
  simp only [List.getElem?_toArray, List.getElem?_cons_zero, List.getElem?_cons_succ, Option.some.injEq] at ho; subst ho
  refine ⟨.bool true, Or.inl ⟨by kernel_rfl, fun w' hl => Or.inl ?_⟩, ?_⟩
  · (go_simp; try simp [g6])
  simp only [Act.put, List.setIfInBounds_toArray, List.set_cons_zero, List.set_cons_succ]
  refine late_end (by kernel_rfl) (fun wn hl => ?_)
  have HR := Lib.hid (HR.out.later hl); have HM := Lib.hid (HM.out.later hl); have HB := Lib.hid (below_on HB.out hl); clear hl
  go_wp2_with fail
  go_ret
  exact ⟨by rw [HS.out]; rfl, HB.out⟩
set_option maxRecDepth 100000 in
set_option maxHeartbeats 1000000 in
theorem rcas_w1 (p : Nat → Int) (n u : Nat) (pr dr : Int) (ca : Bool) (w : World) (hp : FitM p) (hs : smB p = true) (hn : n < 64) (hu : u < 64) (h6 : stB p (n : Int) 6 = true) (h0 : (p 0 == 1) = true) (h4 : stB p (u : Int) 4 = false) : Calls Tryd.prog 20 #[.agg (posA p), .agg (mvA ⟨(n : Int), (u : Int), pr, dr, ca⟩)] w (StL (bz (csR p n u)) w) := by
  have HB := Lib.hid (Below.refl w.heap.size w)
  have HT0 := Lib.hid hp.turn.1
  obtain ⟨c, hc⟩ : ∃ c : Nat, p 78 = (c : Int) := Int.eq_ofNat_of_zero_le hp.turn.1
  have hc2 : c < 2 := by have := smB_turn hs hp.turn.1; omega
  have hc3 : (c : Int) < 2 := by omega
  have hc0 : (0 : Int) ≤ (c : Int) := by omega
  have HCt := Lib.hid hc
  have n0 : (0 : Int) ≤ (n : Int) := by omega
  have n1 : (n : Int) < 64 := by omega
  have u0 : (0 : Int) ≤ (u : Int) := by omega
  have u1 : (u : Int) < 64 := by omega
  have HN := Lib.hid hn
  have HU := Lib.hid hu
  have HK1 := Lib.hid (kAt_board (Nat.zero_le _) hn)
  have HK2 := Lib.hid (kAt_board (Nat.zero_le _) hu)
  obtain ⟨y6, hy6⟩ : ∃ y, mkZ (p 78) 6 = y := ⟨_, rfl⟩
  have HY6 := Lib.hid (show mkZ (c : Int) 6 = y6 by rw [← hc]; exact hy6)
  obtain ⟨y4, hy4⟩ : ∃ y, mkZ (p 78) 4 = y := ⟨_, rfl⟩
  have HY4 := Lib.hid (show mkZ (c : Int) 4 = y4 by rw [← hc]; exact hy4)
  have e6 : stB p (n : Int) 6 = (p (1 + n) == y6) := by rw [← hy6]; rfl
  have e4 : stB p (u : Int) 4 = (p (1 + u) == y4) := by rw [← hy4]; rfl
  have HC0 := Lib.hid hc0
  have g6 : (p (1 + n) != y6) = false := by rw [e6] at h6; rw [bne, h6]; rfl
  have g4 : (p (1 + u) != y4) = true := by rw [e4] at h4; rw [bne, h4]; rfl
  have HS := Lib.hid (show csR p n u = [] by unfold csR cdB; rw [h6, h0, h4]; rfl)
  clear hp hs hn hu hc hy6 hy4 e6 e4 h6 h4
  go_enter Tryd.func20, Tryd.ntmps20
  go_wp2_with (first
      | (refine step_box rfl _ rfl p rfl ?_; intro b0 w1 N R; have HB := Lib.hid (HB.out.trans (N.below.mono HB.out.size)); have HR := Lib.hid R; clear N R)
      | (refine blk_box rfl 33 _ rfl (mvA ⟨(n : Int), (u : Int), pr, dr, ca⟩) rfl ?_; intro b1 w2 N R; have HR := Lib.hid (HR.out.later N.below); have HB := Lib.hid (HB.out.trans (N.below.mono HB.out.size)); have HM := Lib.hid R; clear N R)
      | (refine step_get rfl 5 _ rfl b0 78 rfl Tryd.underlying5 rfl (.int .u8 (c : Int)) ?_ ?_; exact (HR.out.cell 78 (by decide)).trans (by rw [HCt.out]; rfl)))
  refine late_begin 9 (by kernel_rfl) ?_
  refine late_take 0 (by kernel_rfl) (by kernel_rfl) (by kernel_rfl) (by kernel_rfl) (by kernel_rfl) (fun _ _ d _ _ h => by cases d <;> exact h) (fun o ho => ?_)
  simp only [List.getElem?_toArray, List.getElem?_cons_zero, List.getElem?_cons_succ, Option.some.injEq] at ho; subst ho
  apply Exists.intro
  refine ⟨Or.inl ⟨by kernel_rfl, fun w' hl => Or.inl ?_⟩, ?_⟩
  · (go_simp; try with_reducible rfl)
  simp only [Act.put, List.setIfInBounds_toArray, List.set_cons_zero, List.set_cons_succ]
  refine late_take 1 (by kernel_rfl) (by kernel_rfl) (by kernel_rfl) (by kernel_rfl) (by kernel_rfl) (fun _ _ d _ _ h => by cases d <;> exact h) (fun o ho => ?_)
  simp only [List.getElem?_toArray, List.getElem?_cons_zero, List.getElem?_cons_succ, Option.some.injEq] at ho; subst ho
  refine ⟨_, Or.inl ⟨by kernel_rfl, fun w' hl => Or.inl (run_get 26 _ rfl b1 (0) rfl Tryd.underlying26 rfl (.int .i8 (n : Int)) ((HM.out.later hl).cell 0))⟩, ?_⟩
  simp only [Act.put, List.setIfInBounds_toArray, List.set_cons_zero, List.set_cons_succ]
  refine late_take 2 (by kernel_rfl) (by kernel_rfl) (by kernel_rfl) (by kernel_rfl) (by kernel_rfl) (fun _ _ d _ _ h => by cases d <;> exact h) (fun o ho => ?_)
  simp only [List.getElem?_toArray, List.getElem?_cons_zero, List.getElem?_cons_succ, Option.some.injEq] at ho; subst ho
  apply Exists.intro
  refine ⟨Or.inl ⟨by kernel_rfl, fun w' hl => Or.inl ?_⟩, ?_⟩
  · (go_simp; try with_reducible rfl)
  simp only [Act.put, List.setIfInBounds_toArray, List.set_cons_zero, List.set_cons_succ]
  refine late_take 3 (by kernel_rfl) (by kernel_rfl) (by kernel_rfl) (by kernel_rfl) (by kernel_rfl) (fun _ _ d _ _ h => by cases d <;> exact h) (fun o ho => ?_)
  simp only [List.getElem?_toArray, List.getElem?_cons_zero, List.getElem?_cons_succ, Option.some.injEq] at ho; subst ho
  apply Exists.intro
  refine ⟨Or.inl ⟨by kernel_rfl, fun w' hl => Or.inl ?_⟩, ?_⟩
  · (go_simp; try with_reducible rfl)
  simp only [Act.put, List.setIfInBounds_toArray, List.set_cons_zero, List.set_cons_succ]
  refine late_take 4 (by kernel_rfl) (by kernel_rfl) (by kernel_rfl) (by kernel_rfl) (by kernel_rfl) (fun _ _ d _ _ h => by cases d <;> exact h) (fun o ho => ?_)
  simp only [List.getElem?_toArray, List.getElem?_cons_zero, List.getElem?_cons_succ, Option.some.injEq] at ho; subst ho
  refine ⟨.int .u8 (p (1 + n)), Or.inl ⟨by kernel_rfl, fun w' hl => Or.inl (run_get 5 _ rfl b0 (1 + n) rfl Tryd.underlying5 rfl (.int .u8 (p (1 + n))) (((HR.out.later hl).cell (1 + n) (by have := HN.out; have := HU.out; omega)).trans (by rw [HK1.out])))⟩, ?_⟩
  simp only [Act.put, List.setIfInBounds_toArray, List.set_cons_zero, List.set_cons_succ]
  refine late_take 5 (by kernel_rfl) (by kernel_rfl) (by kernel_rfl) (by kernel_rfl) (by kernel_rfl) (fun _ _ d _ _ h => by cases d <;> exact h) (fun o ho => ?_)
  simp only [List.getElem?_toArray, List.getElem?_cons_zero, List.getElem?_cons_succ, Option.some.injEq] at ho; subst ho
  apply Exists.intro
  refine ⟨Or.inl ⟨by kernel_rfl, fun w' hl => Or.inl ?_⟩, ?_⟩
  · (go_simp; try with_reducible rfl)
  simp only [Act.put, List.setIfInBounds_toArray, List.set_cons_zero, List.set_cons_succ]
  refine late_take 6 (by kernel_rfl) (by kernel_rfl) (by kernel_rfl) (by kernel_rfl) (by kernel_rfl) (fun _ _ d _ _ h => by cases d <;> exact h) (fun o ho => ?_)
  simp only [List.getElem?_toArray, List.getElem?_cons_zero, List.getElem?_cons_succ, Option.some.injEq] at ho; subst ho
  refine ⟨.int .u8 (c : Int), Or.inl ⟨by kernel_rfl, fun w' hl => Or.inl (run_get 5 _ rfl b0 78 rfl Tryd.underlying5 rfl (.int .u8 (c : Int)) (by rw [(HR.out.later hl).cell 78 (by decide), HCt.out]; rfl))⟩, ?_⟩
  simp only [Act.put, List.setIfInBounds_toArray, List.set_cons_zero, List.set_cons_succ]
  refine late_one 7 (by kernel_rfl) (by kernel_rfl) (fun o ho => ?_)
  simp only [List.getElem?_toArray, List.getElem?_cons_zero, List.getElem?_cons_succ, Option.some.injEq] at ho; subst ho
  refine ⟨by kernel_rfl, fun wn hl K hK => ?_⟩
  have HR := Lib.hid (HR.out.later hl); have HM := Lib.hid (HM.out.later hl); have HB := Lib.hid (below_on HB.out hl); clear hl
  refine wp_enter _ _ (by go_simp; exact ⟨rfl, rfl⟩) ?_
  refine (rmk_any (c : Int) 6 _ HC0.out).mono ?_; rintro e wm ⟨rfl, hb⟩; refine ⟨_, rfl, ?_⟩
  rw [HY6.out]
  refine hK.out _ _ hb ?_
  have HR := Lib.hid (HR.out.later hb); have HM := Lib.hid (HM.out.later hb); have HB := Lib.hid (below_on HB.out hb); clear hb
  clear hK K
  simp only [Act.put, List.setIfInBounds_toArray, List.set_cons_zero, List.set_cons_succ]
  refine late_take 8 (by kernel_rfl) (by kernel_rfl) (by kernel_rfl) (by kernel_rfl) (by kernel_rfl) (fun _ _ d _ _ h => by cases d <;> exact h) (fun o ho => ?_)
  simp only [List.getElem?_toArray, List.getElem?_cons_zero, List.getElem?_cons_succ, Option.some.injEq] at ho; subst ho
  refine ⟨.bool false, Or.inl ⟨by kernel_rfl, fun w' hl => Or.inl ?_⟩, ?_⟩
  · (go_simp; try simp [g6])
  simp only [Act.put, List.setIfInBounds_toArray, List.set_cons_zero, List.set_cons_succ]
  refine late_end (by kernel_rfl) (fun wn hl => ?_)
  have HR := Lib.hid (HR.out.later hl); have HM := Lib.hid (HM.out.later hl); have HB := Lib.hid (below_on HB.out hl); clear hl
  go_wp2_with (first
      | (refine step_get rfl 5 _ rfl b0 0 rfl Tryd.underlying5 rfl (.int .u8 (p 0)) ?_ ?_; exact HR.out.cell 0 (by decide)))
  refine late_begin 9 (by kernel_rfl) ?_
  refine late_take 0 (by kernel_rfl) (by kernel_rfl) (by kernel_rfl) (by kernel_rfl) (by kernel_rfl) (fun _ _ d _ _ h => by cases d <;> exact h) (fun o ho => ?_)
  simp only [List.getElem?_toArray, List.getElem?_cons_zero, List.getElem?_cons_succ, Option.some.injEq] at ho; subst ho
  apply Exists.intro
  refine ⟨Or.inl ⟨by kernel_rfl, fun w' hl => Or.inl ?_⟩, ?_⟩
  · (go_simp; try with_reducible rfl)
  simp only [Act.put, List.setIfInBounds_toArray, List.set_cons_zero, List.set_cons_succ]
  refine late_take 1 (by kernel_rfl) (by kernel_rfl) (by kernel_rfl) (by kernel_rfl) (by kernel_rfl) (fun _ _ d _ _ h => by cases d <;> exact h) (fun o ho => ?_)
  simp only [List.getElem?_toArray, List.getElem?_cons_zero, List.getElem?_cons_succ, Option.some.injEq] at ho; subst ho
  refine ⟨_, Or.inl ⟨by kernel_rfl, fun w' hl => Or.inl (run_get 26 _ rfl b1 (1) rfl Tryd.underlying26 rfl (.int .i8 (u : Int)) ((HM.out.later hl).cell 1))⟩, ?_⟩
  simp only [Act.put, List.setIfInBounds_toArray, List.set_cons_zero, List.set_cons_succ]
  refine late_take 2 (by kernel_rfl) (by kernel_rfl) (by kernel_rfl) (by kernel_rfl) (by kernel_rfl) (fun _ _ d _ _ h => by cases d <;> exact h) (fun o ho => ?_)
  simp only [List.getElem?_toArray, List.getElem?_cons_zero, List.getElem?_cons_succ, Option.some.injEq] at ho; subst ho
  apply Exists.intro
  refine ⟨Or.inl ⟨by kernel_rfl, fun w' hl => Or.inl ?_⟩, ?_⟩
  · (go_simp; try with_reducible rfl)
  simp only [Act.put, List.setIfInBounds_toArray, List.set_cons_zero, List.set_cons_succ]
  refine late_take 3 (by kernel_rfl) (by kernel_rfl) (by kernel_rfl) (by kernel_rfl) (by kernel_rfl) (fun _ _ d _ _ h => by cases d <;> exact h) (fun o ho => ?_)
  simp only [List.getElem?_toArray, List.getElem?_cons_zero, List.getElem?_cons_succ, Option.some.injEq] at ho; subst ho
  apply Exists.intro
  refine ⟨Or.inl ⟨by kernel_rfl, fun w' hl => Or.inl ?_⟩, ?_⟩
  · (go_simp; try with_reducible rfl)
  simp only [Act.put, List.setIfInBounds_toArray, List.set_cons_zero, List.set_cons_succ]
  refine late_take 4 (by kernel_rfl) (by kernel_rfl) (by kernel_rfl) (by kernel_rfl) (by kernel_rfl) (fun _ _ d _ _ h => by cases d <;> exact h) (fun o ho => ?_)
  simp only [List.getElem?_toArray, List.getElem?_cons_zero, List.getElem?_cons_succ, Option.some.injEq] at ho; subst ho
  refine ⟨.int .u8 (p (1 + u)), Or.inl ⟨by kernel_rfl, fun w' hl => Or.inl (run_get 5 _ rfl b0 (1 + u) rfl Tryd.underlying5 rfl (.int .u8 (p (1 + u))) (((HR.out.later hl).cell (1 + u) (by have := HN.out; have := HU.out; omega)).trans (by rw [HK2.out])))⟩, ?_⟩
  simp only [Act.put, List.setIfInBounds_toArray, List.set_cons_zero, List.set_cons_succ]
  refine late_take 5 (by kernel_rfl) (by kernel_rfl) (by kernel_rfl) (by kernel_rfl) (by kernel_rfl) (fun _ _ d _ _ h => by cases d <;> exact h) (fun o ho => ?_)
  simp only [List.getElem?_toArray, List.getElem?_cons_zero, List.getElem?_cons_succ, Option.some.injEq] at ho; subst ho
  apply Exists.intro
  refine ⟨Or.inl ⟨by kernel_rfl, fun w' hl => Or.inl ?_⟩, ?_⟩
  · (go_simp; try with_reducible rfl)
  simp only [Act.put, List.setIfInBounds_toArray, List.set_cons_zero, List.set_cons_succ]
  refine late_take 6 (by kernel_rfl) (by kernel_rfl) (by kernel_rfl) (by kernel_rfl) (by kernel_rfl) (fun _ _ d _ _ h => by cases d <;> exact h) (fun o ho => ?_)
  simp only [List.getElem?_toArray, List.getElem?_cons_zero, List.getElem?_cons_succ, Option.some.injEq] at ho; subst ho
  refine ⟨.int .u8 (c : Int), Or.inl ⟨by kernel_rfl, fun w' hl => Or.inl (run_get 5 _ rfl b0 78 rfl Tryd.underlying5 rfl (.int .u8 (c : Int)) (by rw [(HR.out.later hl).cell 78 (by decide), HCt.out]; rfl))⟩, ?_⟩
  simp only [Act.put, List.setIfInBounds_toArray, List.set_cons_zero, List.set_cons_succ]
  refine late_one 7 (by kernel_rfl) (by kernel_rfl) (fun o ho => ?_)
  simp only [List.getElem?_toArray, List.getElem?_cons_zero, List.getElem?_cons_succ, Option.some.injEq] at ho; subst ho
  refine ⟨by kernel_rfl, fun wn hl K hK => ?_⟩
  have HR := Lib.hid (HR.out.later hl); have HM := Lib.hid (HM.out.later hl); have HB := Lib.hid (below_on HB.out hl); clear hl
  refine wp_enter _ _ (by go_simp; exact ⟨rfl, rfl⟩) ?_
  refine (rmk_any (c : Int) 4 _ HC0.out).mono ?_; rintro e wm ⟨rfl, hb⟩; refine ⟨_, rfl, ?_⟩
  rw [HY4.out]
  refine hK.out _ _ hb ?_
  have HR := Lib.hid (HR.out.later hb); have HM := Lib.hid (HM.out.later hb); have HB := Lib.hid (below_on HB.out hb); clear hb
  clear hK K
  simp only [Act.put, List.setIfInBounds_toArray, List.set_cons_zero, List.set_cons_succ]
  refine late_take 8 (by kernel_rfl) (by kernel_rfl) (by kernel_rfl) (by kernel_rfl) (by kernel_rfl) (fun _ _ d _ _ h => by cases d <;> exact h) (fun o ho => ?_)
  simp only [List.getElem?_toArray, List.getElem?_cons_zero, List.getElem?_cons_succ, Option.some.injEq] at ho; subst ho
  refine ⟨.bool true, Or.inl ⟨by kernel_rfl, fun w' hl => Or.inl ?_⟩, ?_⟩
  · (go_simp; try simp [g4])
  simp only [Act.put, List.setIfInBounds_toArray, List.set_cons_zero, List.set_cons_succ]
  refine late_end (by kernel_rfl) (fun wn hl => ?_)
  have HR := Lib.hid (HR.out.later hl); have HM := Lib.hid (HM.out.later hl); have HB := Lib.hid (below_on HB.out hl); clear hl
  go_wp2_with fail
  go_ret
  exact ⟨by rw [HS.out]; rfl, HB.out⟩
set_option maxRecDepth 100000 in
set_option maxHeartbeats 1000000 in
theorem rcas_w2 (p : Nat → Int) (n u : Nat) (pr dr : Int) (ca : Bool) (w : World) (hp : FitM p) (hs : smB p = true) (hn : n < 64) (hu : u < 64) (h6 : stB p (n : Int) 6 = true) (h0 : (p 0 == 1) = true) (h4 : stB p (u : Int) 4 = true) : Calls Tryd.prog 20 #[.agg (posA p), .agg (mvA ⟨(n : Int), (u : Int), pr, dr, ca⟩)] w (StL (bz (csR p n u)) w) := by
  have HB := Lib.hid (Below.refl w.heap.size w)
  have HT0 := Lib.hid hp.turn.1
  obtain ⟨c, hc⟩ : ∃ c : Nat, p 78 = (c : Int) := Int.eq_ofNat_of_zero_le hp.turn.1
  have hc2 : c < 2 := by have := smB_turn hs hp.turn.1; omega
  have hc3 : (c : Int) < 2 := by omega
  have hc0 : (0 : Int) ≤ (c : Int) := by omega
  have HCt := Lib.hid hc
  have n0 : (0 : Int) ≤ (n : Int) := by omega
  have n1 : (n : Int) < 64 := by omega
  have u0 : (0 : Int) ≤ (u : Int) := by omega
  have u1 : (u : Int) < 64 := by omega
  have HN := Lib.hid hn
  have HU := Lib.hid hu
  have HK1 := Lib.hid (kAt_board (Nat.zero_le _) hn)
  have HK2 := Lib.hid (kAt_board (Nat.zero_le _) hu)
  obtain ⟨y6, hy6⟩ : ∃ y, mkZ (p 78) 6 = y := ⟨_, rfl⟩
  have HY6 := Lib.hid (show mkZ (c : Int) 6 = y6 by rw [← hc]; exact hy6)
  obtain ⟨y4, hy4⟩ : ∃ y, mkZ (p 78) 4 = y := ⟨_, rfl⟩
  have HY4 := Lib.hid (show mkZ (c : Int) 4 = y4 by rw [← hc]; exact hy4)
  have e6 : stB p (n : Int) 6 = (p (1 + n) == y6) := by rw [← hy6]; rfl
  have e4 : stB p (u : Int) 4 = (p (1 + u) == y4) := by rw [← hy4]; rfl
  have HC0 := Lib.hid hc0
  have g6 : (p (1 + n) != y6) = false := by rw [e6] at h6; rw [bne, h6]; rfl
  have g4 : (p (1 + u) != y4) = false := by rw [e4] at h4; rw [bne, h4]; rfl
  have HS := Lib.hid (show csR p n u = sqM n ++ sqM u by unfold csR cdB; rw [h6, h0, h4]; rfl)
  clear hp hs hn hu hc hy6 hy4 e6 e4 h6 h4
  go_enter Tryd.func20, Tryd.ntmps20
  go_wp2_with (first
      | (refine step_box rfl _ rfl p rfl ?_; intro b0 w1 N R; have HB := Lib.hid (HB.out.trans (N.below.mono HB.out.size)); have HR := Lib.hid R; clear N R)
      | (refine blk_box rfl 33 _ rfl (mvA ⟨(n : Int), (u : Int), pr, dr, ca⟩) rfl ?_; intro b1 w2 N R; have HR := Lib.hid (HR.out.later N.below); have HB := Lib.hid (HB.out.trans (N.below.mono HB.out.size)); have HM := Lib.hid R; clear N R)
      | (refine step_get rfl 5 _ rfl b0 78 rfl Tryd.underlying5 rfl (.int .u8 (c : Int)) ?_ ?_; exact (HR.out.cell 78 (by decide)).trans (by rw [HCt.out]; rfl)))
  refine late_begin 9 (by kernel_rfl) ?_
  refine late_take 0 (by kernel_rfl) (by kernel_rfl) (by kernel_rfl) (by kernel_rfl) (by kernel_rfl) (fun _ _ d _ _ h => by cases d <;> exact h) (fun o ho => ?_)
  simp only [List.getElem?_toArray, List.getElem?_cons_zero, List.getElem?_cons_succ, Option.some.injEq] at ho; subst ho
  apply Exists.intro
  refine ⟨Or.inl ⟨by kernel_rfl, fun w' hl => Or.inl ?_⟩, ?_⟩
  · (go_simp; try with_reducible rfl)
  simp only [Act.put, List.setIfInBounds_toArray, List.set_cons_zero, List.set_cons_succ]
  refine late_take 1 (by kernel_rfl) (by kernel_rfl) (by kernel_rfl) (by kernel_rfl) (by kernel_rfl) (fun _ _ d _ _ h => by cases d <;> exact h) (fun o ho => ?_)
  simp only [List.getElem?_toArray, List.getElem?_cons_zero, List.getElem?_cons_succ, Option.some.injEq] at ho; subst ho
  refine ⟨_, Or.inl ⟨by kernel_rfl, fun w' hl => Or.inl (run_get 26 _ rfl b1 (0) rfl Tryd.underlying26 rfl (.int .i8 (n : Int)) ((HM.out.later hl).cell 0))⟩, ?_⟩
  simp only [Act.put, List.setIfInBounds_toArray, List.set_cons_zero, List.set_cons_succ]
  refine late_take 2 (by kernel_rfl) (by kernel_rfl) (by kernel_rfl) (by kernel_rfl) (by kernel_rfl) (fun _ _ d _ _ h => by cases d <;> exact h) (fun o ho => ?_)
  simp only [List.getElem?_toArray, List.getElem?_cons_zero, List.getElem?_cons_succ, Option.some.injEq] at ho; subst ho
  apply Exists.intro
  refine ⟨Or.inl ⟨by kernel_rfl, fun w' hl => Or.inl ?_⟩, ?_⟩
  · (go_simp; try with_reducible rfl)
  simp only [Act.put, List.setIfInBounds_toArray, List.set_cons_zero, List.set_cons_succ]
  refine late_take 3 (by kernel_rfl) (by kernel_rfl) (by kernel_rfl) (by kernel_rfl) (by kernel_rfl) (fun _ _ d _ _ h => by cases d <;> exact h) (fun o ho => ?_)
  simp only [List.getElem?_toArray, List.getElem?_cons_zero, List.getElem?_cons_succ, Option.some.injEq] at ho; subst ho
  apply Exists.intro
  refine ⟨Or.inl ⟨by kernel_rfl, fun w' hl => Or.inl ?_⟩, ?_⟩
  · (go_simp; try with_reducible rfl)
  simp only [Act.put, List.setIfInBounds_toArray, List.set_cons_zero, List.set_cons_succ]
  refine late_take 4 (by kernel_rfl) (by kernel_rfl) (by kernel_rfl) (by kernel_rfl) (by kernel_rfl) (fun _ _ d _ _ h => by cases d <;> exact h) (fun o ho => ?_)
  simp only [List.getElem?_toArray, List.getElem?_cons_zero, List.getElem?_cons_succ, Option.some.injEq] at ho; subst ho
  refine ⟨.int .u8 (p (1 + n)), Or.inl ⟨by kernel_rfl, fun w' hl => Or.inl (run_get 5 _ rfl b0 (1 + n) rfl Tryd.underlying5 rfl (.int .u8 (p (1 + n))) (((HR.out.later hl).cell (1 + n) (by have := HN.out; have := HU.out; omega)).trans (by rw [HK1.out])))⟩, ?_⟩
  simp only [Act.put, List.setIfInBounds_toArray, List.set_cons_zero, List.set_cons_succ]
  refine late_take 5 (by kernel_rfl) (by kernel_rfl) (by kernel_rfl) (by kernel_rfl) (by kernel_rfl) (fun _ _ d _ _ h => by cases d <;> exact h) (fun o ho => ?_)
  simp only [List.getElem?_toArray, List.getElem?_cons_zero, List.getElem?_cons_succ, Option.some.injEq] at ho; subst ho
  apply Exists.intro
  refine ⟨Or.inl ⟨by kernel_rfl, fun w' hl => Or.inl ?_⟩, ?_⟩
  · (go_simp; try with_reducible rfl)
  simp only [Act.put, List.setIfInBounds_toArray, List.set_cons_zero, List.set_cons_succ]
  refine late_take 6 (by kernel_rfl) (by kernel_rfl) (by kernel_rfl) (by kernel_rfl) (by kernel_rfl) (fun _ _ d _ _ h => by cases d <;> exact h) (fun o ho => ?_)
  simp only [List.getElem?_toArray, List.getElem?_cons_zero, List.getElem?_cons_succ, Option.some.injEq] at ho; subst ho
  refine ⟨.int .u8 (c : Int), Or.inl ⟨by kernel_rfl, fun w' hl => Or.inl (run_get 5 _ rfl b0 78 rfl Tryd.underlying5 rfl (.int .u8 (c : Int)) (by rw [(HR.out.later hl).cell 78 (by decide), HCt.out]; rfl))⟩, ?_⟩
  simp only [Act.put, List.setIfInBounds_toArray, List.set_cons_zero, List.set_cons_succ]
  refine late_one 7 (by kernel_rfl) (by kernel_rfl) (fun o ho => ?_)
  simp only [List.getElem?_toArray, List.getElem?_cons_zero, List.getElem?_cons_succ, Option.some.injEq] at ho; subst ho
  refine ⟨by kernel_rfl, fun wn hl K hK => ?_⟩
  have HR := Lib.hid (HR.out.later hl); have HM := Lib.hid (HM.out.later hl); have HB := Lib.hid (below_on HB.out hl); clear hl
  refine wp_enter _ _ (by go_simp; exact ⟨rfl, rfl⟩) ?_
  refine (rmk_any (c : Int) 6 _ HC0.out).mono ?_; rintro e wm ⟨rfl, hb⟩; refine ⟨_, rfl, ?_⟩
  rw [HY6.out]
  refine hK.out _ _ hb ?_
  have HR := Lib.hid (HR.out.later hb); have HM := Lib.hid (HM.out.later hb); have HB := Lib.hid (below_on HB.out hb); clear hb
  clear hK K
  simp only [Act.put, List.setIfInBounds_toArray, List.set_cons_zero, List.set_cons_succ]
  refine late_take 8 (by kernel_rfl) (by kernel_rfl) (by kernel_rfl) (by kernel_rfl) (by kernel_rfl) (fun _ _ d _ _ h => by cases d <;> exact h) (fun o ho => ?_)
  simp only [List.getElem?_toArray, List.getElem?_cons_zero, List.getElem?_cons_succ, Option.some.injEq] at ho; subst ho
  refine ⟨.bool false, Or.inl ⟨by kernel_rfl, fun w' hl => Or.inl ?_⟩, ?_⟩
  · (go_simp; try simp [g6])
  simp only [Act.put, List.setIfInBounds_toArray, List.set_cons_zero, List.set_cons_succ]
  refine late_end (by kernel_rfl) (fun wn hl => ?_)
  have HR := Lib.hid (HR.out.later hl); have HM := Lib.hid (HM.out.later hl); have HB := Lib.hid (below_on HB.out hl); clear hl
  go_wp2_with (first
      | (refine step_get rfl 5 _ rfl b0 0 rfl Tryd.underlying5 rfl (.int .u8 (p 0)) ?_ ?_; exact HR.out.cell 0 (by decide)))
  refine late_begin 9 (by kernel_rfl) ?_
  refine late_take 0 (by kernel_rfl) (by kernel_rfl) (by kernel_rfl) (by kernel_rfl) (by kernel_rfl) (fun _ _ d _ _ h => by cases d <;> exact h) (fun o ho => ?_)
  simp only [List.getElem?_toArray, List.getElem?_cons_zero, List.getElem?_cons_succ, Option.some.injEq] at ho; subst ho
  apply Exists.intro
  refine ⟨Or.inl ⟨by kernel_rfl, fun w' hl => Or.inl ?_⟩, ?_⟩
  · (go_simp; try with_reducible rfl)
  simp only [Act.put, List.setIfInBounds_toArray, List.set_cons_zero, List.set_cons_succ]
  refine late_take 1 (by kernel_rfl) (by kernel_rfl) (by kernel_rfl) (by kernel_rfl) (by kernel_rfl) (fun _ _ d _ _ h => by cases d <;> exact h) (fun o ho => ?_)
  simp only [List.getElem?_toArray, List.getElem?_cons_zero, List.getElem?_cons_succ, Option.some.injEq] at ho; subst ho
  refine ⟨_, Or.inl ⟨by kernel_rfl, fun w' hl => Or.inl (run_get 26 _ rfl b1 (1) rfl Tryd.underlying26 rfl (.int .i8 (u : Int)) ((HM.out.later hl).cell 1))⟩, ?_⟩
  simp only [Act.put, List.setIfInBounds_toArray, List.set_cons_zero, List.set_cons_succ]
  refine late_take 2 (by kernel_rfl) (by kernel_rfl) (by kernel_rfl) (by kernel_rfl) (by kernel_rfl) (fun _ _ d _ _ h => by cases d <;> exact h) (fun o ho => ?_)
  simp only [List.getElem?_toArray, List.getElem?_cons_zero, List.getElem?_cons_succ, Option.some.injEq] at ho; subst ho
  apply Exists.intro
  refine ⟨Or.inl ⟨by kernel_rfl, fun w' hl => Or.inl ?_⟩, ?_⟩
  · (go_simp; try with_reducible rfl)
  simp only [Act.put, List.setIfInBounds_toArray, List.set_cons_zero, List.set_cons_succ]
  refine late_take 3 (by kernel_rfl) (by kernel_rfl) (by kernel_rfl) (by kernel_rfl) (by kernel_rfl) (fun _ _ d _ _ h => by cases d <;> exact h) (fun o ho => ?_)
  simp only [List.getElem?_toArray, List.getElem?_cons_zero, List.getElem?_cons_succ, Option.some.injEq] at ho; subst ho
  apply Exists.intro
  refine ⟨Or.inl ⟨by kernel_rfl, fun w' hl => Or.inl ?_⟩, ?_⟩
  · (go_simp; try with_reducible rfl)
  simp only [Act.put, List.setIfInBounds_toArray, List.set_cons_zero, List.set_cons_succ]
  refine late_take 4 (by kernel_rfl) (by kernel_rfl) (by kernel_rfl) (by kernel_rfl) (by kernel_rfl) (fun _ _ d _ _ h => by cases d <;> exact h) (fun o ho => ?_)
  simp only [List.getElem?_toArray, List.getElem?_cons_zero, List.getElem?_cons_succ, Option.some.injEq] at ho; subst ho
  refine ⟨.int .u8 (p (1 + u)), Or.inl ⟨by kernel_rfl, fun w' hl => Or.inl (run_get 5 _ rfl b0 (1 + u) rfl Tryd.underlying5 rfl (.int .u8 (p (1 + u))) (((HR.out.later hl).cell (1 + u) (by have := HN.out; have := HU.out; omega)).trans (by rw [HK2.out])))⟩, ?_⟩
  simp only [Act.put, List.setIfInBounds_toArray, List.set_cons_zero, List.set_cons_succ]
  refine late_take 5 (by kernel_rfl) (by kernel_rfl) (by kernel_rfl) (by kernel_rfl) (by kernel_rfl) (fun _ _ d _ _ h => by cases d <;> exact h) (fun o ho => ?_)
  simp only [List.getElem?_toArray, List.getElem?_cons_zero, List.getElem?_cons_succ, Option.some.injEq] at ho; subst ho
  apply Exists.intro
  refine ⟨Or.inl ⟨by kernel_rfl, fun w' hl => Or.inl ?_⟩, ?_⟩
  · (go_simp; try with_reducible rfl)
  simp only [Act.put, List.setIfInBounds_toArray, List.set_cons_zero, List.set_cons_succ]
  refine late_take 6 (by kernel_rfl) (by kernel_rfl) (by kernel_rfl) (by kernel_rfl) (by kernel_rfl) (fun _ _ d _ _ h => by cases d <;> exact h) (fun o ho => ?_)
  simp only [List.getElem?_toArray, List.getElem?_cons_zero, List.getElem?_cons_succ, Option.some.injEq] at ho; subst ho
  refine ⟨.int .u8 (c : Int), Or.inl ⟨by kernel_rfl, fun w' hl => Or.inl (run_get 5 _ rfl b0 78 rfl Tryd.underlying5 rfl (.int .u8 (c : Int)) (by rw [(HR.out.later hl).cell 78 (by decide), HCt.out]; rfl))⟩, ?_⟩
  simp only [Act.put, List.setIfInBounds_toArray, List.set_cons_zero, List.set_cons_succ]
  refine late_one 7 (by kernel_rfl) (by kernel_rfl) (fun o ho => ?_)
  simp only [List.getElem?_toArray, List.getElem?_cons_zero, List.getElem?_cons_succ, Option.some.injEq] at ho; subst ho
  refine ⟨by kernel_rfl, fun wn hl K hK => ?_⟩
  have HR := Lib.hid (HR.out.later hl); have HM := Lib.hid (HM.out.later hl); have HB := Lib.hid (below_on HB.out hl); clear hl
  refine wp_enter _ _ (by go_simp; exact ⟨rfl, rfl⟩) ?_
  refine (rmk_any (c : Int) 4 _ HC0.out).mono ?_; rintro e wm ⟨rfl, hb⟩; refine ⟨_, rfl, ?_⟩
  rw [HY4.out]
  refine hK.out _ _ hb ?_
  have HR := Lib.hid (HR.out.later hb); have HM := Lib.hid (HM.out.later hb); have HB := Lib.hid (below_on HB.out hb); clear hb
  clear hK K
  simp only [Act.put, List.setIfInBounds_toArray, List.set_cons_zero, List.set_cons_succ]
  refine late_take 8 (by kernel_rfl) (by kernel_rfl) (by kernel_rfl) (by kernel_rfl) (by kernel_rfl) (fun _ _ d _ _ h => by cases d <;> exact h) (fun o ho => ?_)
  simp only [List.getElem?_toArray, List.getElem?_cons_zero, List.getElem?_cons_succ, Option.some.injEq] at ho; subst ho
  refine ⟨.bool false, Or.inl ⟨by kernel_rfl, fun w' hl => Or.inl ?_⟩, ?_⟩
  · (go_simp; try simp [g4])
  simp only [Act.put, List.setIfInBounds_toArray, List.set_cons_zero, List.set_cons_succ]
  refine late_end (by kernel_rfl) (fun wn hl => ?_)
  have HR := Lib.hid (HR.out.later hl); have HM := Lib.hid (HM.out.later hl); have HB := Lib.hid (below_on HB.out hl); clear hl
  go_wp2_with (first
      | (refine step_get rfl 26 _ rfl b1 0 rfl Tryd.underlying26 rfl (.int .i8 (n : Int)) ?_ ?_; exact HM.out.cell 0)
      | (refine step_get rfl 26 _ rfl b1 1 rfl Tryd.underlying26 rfl (.int .i8 (u : Int)) ?_ ?_; exact HM.out.cell 1)
      | (go_at_call 25; refine (rtwo_any (n : Int) (u : Int) _ ⟨by have := HN.out; omega, by have := HN.out; omega⟩ ⟨by have := HU.out; omega, by have := HU.out; omega⟩).mono ?_; rintro e w3 ⟨rfl, hb⟩; have HR := Lib.hid (HR.out.later hb); have HM := Lib.hid (HM.out.later hb); have HB := Lib.hid (below_on HB.out hb); clear hb))
  go_ret
  exact ⟨by rw [HS.out]; rfl, HB.out⟩
set_option maxRecDepth 100000 in
set_option maxHeartbeats 1000000 in
theorem rcas_a0 (p : Nat → Int) (n u : Nat) (pr dr : Int) (ca : Bool) (w : World) (hp : FitM p) (hs : smB p = true) (hn : n < 64) (hu : u < 64) (h6 : stB p (n : Int) 6 = true) (h0 : (p 0 == 1) = false) (hd : decide ((n : Int) < (u : Int)) = true) (q1 : ((n : Int) == 56 * p 78 + 4) = false) : Calls Tryd.prog 20 #[.agg (posA p), .agg (mvA ⟨(n : Int), (u : Int), pr, dr, ca⟩)] w (StL (bz (csR p n u)) w) := by
  have HB := Lib.hid (Below.refl w.heap.size w)
  have HT0 := Lib.hid hp.turn.1
  obtain ⟨c, hc⟩ : ∃ c : Nat, p 78 = (c : Int) := Int.eq_ofNat_of_zero_le hp.turn.1
  have hc2 : c < 2 := by have := smB_turn hs hp.turn.1; omega
  have hc3 : (c : Int) < 2 := by omega
  have hc0 : (0 : Int) ≤ (c : Int) := by omega
  have HCt := Lib.hid hc
  have n0 : (0 : Int) ≤ (n : Int) := by omega
  have n1 : (n : Int) < 64 := by omega
  have u0 : (0 : Int) ≤ (u : Int) := by omega
  have u1 : (u : Int) < 64 := by omega
  have HN := Lib.hid hn
  have HU := Lib.hid hu
  have HK1 := Lib.hid (kAt_board (Nat.zero_le _) hn)
  have HK2 := Lib.hid (kAt_board (Nat.zero_le _) hu)
  obtain ⟨y6, hy6⟩ : ∃ y, mkZ (p 78) 6 = y := ⟨_, rfl⟩
  have HY6 := Lib.hid (show mkZ (c : Int) 6 = y6 by rw [← hc]; exact hy6)
  obtain ⟨y4, hy4⟩ : ∃ y, mkZ (p 78) 4 = y := ⟨_, rfl⟩
  have HY4 := Lib.hid (show mkZ (c : Int) 4 = y4 by rw [← hc]; exact hy4)
  have e6 : stB p (n : Int) 6 = (p (1 + n) == y6) := by rw [← hy6]; rfl
  have e4 : stB p (u : Int) 4 = (p (1 + u) == y4) := by rw [← hy4]; rfl
  have HC0 := Lib.hid hc0
  have g6 : (p (1 + n) != y6) = false := by rw [e6] at h6; rw [bne, h6]; rfl
  have gd : decide ((n : Int) < (u : Int)) = true := hd
  have gd2 : decide (n < u) = true := by rw [← hd, decide_eq_decide]; omega
  have hsd : sdN (n : Int) (u : Int) = 0 := by unfold sdN; rw [hd]; rfl
  obtain ⟨r, hr⟩ : ∃ r, p (79 + c * 2 + 0) = r := ⟨_, rfl⟩
  have hro : roP p (sdN (n : Int) (u : Int)) = r := by rw [hsd]; unfold roP; rw [hc]; exact hr
  obtain ⟨r0, r1⟩ := hp.rook (79 + c * 2 + 0) (by omega) (by omega)
  rw [hr] at r0 r1
  have HRk := Lib.hid (show ∀ (w : World) {b : Nat}, Row w b p → w.cell? ⟨b, 79 + c * 2 + 0, none⟩ = some (.int .i8 r) from fun w b h => by
    rw [h.cell (79 + c * 2 + 0) (by omega), hr]
    have a : c = 0 ∨ c = 1 := by omega
    rcases a with rfl | rfl <;> rfl)
  rw [hc] at q1
  have gq : ((n : Int) != 56 * (c : Int) + 4) = true := by rw [bne, q1]; rfl
  have HS := Lib.hid (show csR p n u = [] by unfold csR cdB; rw [h6, h0, hc, q1]; rfl)
  have HLive := Lib.hid trivial
  have HLive2 := Lib.hid trivial
  clear hp hs hn hu hc hy6 hy4 e6 e4 h6 hd hsd hro hr
  go_enter Tryd.func20, Tryd.ntmps20
  go_wp2_with (first
      | (refine step_box rfl _ rfl p rfl ?_; intro b0 w1 N R; have HB := Lib.hid (HB.out.trans (N.below.mono HB.out.size)); have HR := Lib.hid R; clear N R)
      | (refine blk_box rfl 33 _ rfl (mvA ⟨(n : Int), (u : Int), pr, dr, ca⟩) rfl ?_; intro b1 w2 N R; have HR := Lib.hid (HR.out.later N.below); have HB := Lib.hid (HB.out.trans (N.below.mono HB.out.size)); have HM := Lib.hid R; clear N R)
      | (refine step_get rfl 5 _ rfl b0 78 rfl Tryd.underlying5 rfl (.int .u8 (c : Int)) ?_ ?_; exact (HR.out.cell 78 (by decide)).trans (by rw [HCt.out]; rfl)))
  refine late_begin 9 (by kernel_rfl) ?_
  refine late_take 0 (by kernel_rfl) (by kernel_rfl) (by kernel_rfl) (by kernel_rfl) (by kernel_rfl) (fun _ _ d _ _ h => by cases d <;> exact h) (fun o ho => ?_)
  simp only [List.getElem?_toArray, List.getElem?_cons_zero, List.getElem?_cons_succ, Option.some.injEq] at ho; subst ho
  apply Exists.intro
  refine ⟨Or.inl ⟨by kernel_rfl, fun w' hl => Or.inl ?_⟩, ?_⟩
  · (go_simp; try with_reducible rfl)
  simp only [Act.put, List.setIfInBounds_toArray, List.set_cons_zero, List.set_cons_succ]
  refine late_take 1 (by kernel_rfl) (by kernel_rfl) (by kernel_rfl) (by kernel_rfl) (by kernel_rfl) (fun _ _ d _ _ h => by cases d <;> exact h) (fun o ho => ?_)
  simp only [List.getElem?_toArray, List.getElem?_cons_zero, List.getElem?_cons_succ, Option.some.injEq] at ho; subst ho
  refine ⟨_, Or.inl ⟨by kernel_rfl, fun w' hl => Or.inl (run_get 26 _ rfl b1 (0) rfl Tryd.underlying26 rfl (.int .i8 (n : Int)) ((HM.out.later hl).cell 0))⟩, ?_⟩
  simp only [Act.put, List.setIfInBounds_toArray, List.set_cons_zero, List.set_cons_succ]
  refine late_take 2 (by kernel_rfl) (by kernel_rfl) (by kernel_rfl) (by kernel_rfl) (by kernel_rfl) (fun _ _ d _ _ h => by cases d <;> exact h) (fun o ho => ?_)
  simp only [List.getElem?_toArray, List.getElem?_cons_zero, List.getElem?_cons_succ, Option.some.injEq] at ho; subst ho
  apply Exists.intro
  refine ⟨Or.inl ⟨by kernel_rfl, fun w' hl => Or.inl ?_⟩, ?_⟩
  · (go_simp; try with_reducible rfl)
  simp only [Act.put, List.setIfInBounds_toArray, List.set_cons_zero, List.set_cons_succ]
  refine late_take 3 (by kernel_rfl) (by kernel_rfl) (by kernel_rfl) (by kernel_rfl) (by kernel_rfl) (fun _ _ d _ _ h => by cases d <;> exact h) (fun o ho => ?_)
  simp only [List.getElem?_toArray, List.getElem?_cons_zero, List.getElem?_cons_succ, Option.some.injEq] at ho; subst ho
  apply Exists.intro
  refine ⟨Or.inl ⟨by kernel_rfl, fun w' hl => Or.inl ?_⟩, ?_⟩
  · (go_simp; try with_reducible rfl)
  simp only [Act.put, List.setIfInBounds_toArray, List.set_cons_zero, List.set_cons_succ]
  refine late_take 4 (by kernel_rfl) (by kernel_rfl) (by kernel_rfl) (by kernel_rfl) (by kernel_rfl) (fun _ _ d _ _ h => by cases d <;> exact h) (fun o ho => ?_)
  simp only [List.getElem?_toArray, List.getElem?_cons_zero, List.getElem?_cons_succ, Option.some.injEq] at ho; subst ho
  refine ⟨.int .u8 (p (1 + n)), Or.inl ⟨by kernel_rfl, fun w' hl => Or.inl (run_get 5 _ rfl b0 (1 + n) rfl Tryd.underlying5 rfl (.int .u8 (p (1 + n))) (((HR.out.later hl).cell (1 + n) (by have := HN.out; have := HU.out; omega)).trans (by rw [HK1.out])))⟩, ?_⟩
  simp only [Act.put, List.setIfInBounds_toArray, List.set_cons_zero, List.set_cons_succ]
  refine late_take 5 (by kernel_rfl) (by kernel_rfl) (by kernel_rfl) (by kernel_rfl) (by kernel_rfl) (fun _ _ d _ _ h => by cases d <;> exact h) (fun o ho => ?_)
  simp only [List.getElem?_toArray, List.getElem?_cons_zero, List.getElem?_cons_succ, Option.some.injEq] at ho; subst ho
  apply Exists.intro
  refine ⟨Or.inl ⟨by kernel_rfl, fun w' hl => Or.inl ?_⟩, ?_⟩
  · (go_simp; try with_reducible rfl)
  simp only [Act.put, List.setIfInBounds_toArray, List.set_cons_zero, List.set_cons_succ]
  refine late_take 6 (by kernel_rfl) (by kernel_rfl) (by kernel_rfl) (by kernel_rfl) (by kernel_rfl) (fun _ _ d _ _ h => by cases d <;> exact h) (fun o ho => ?_)
  simp only [List.getElem?_toArray, List.getElem?_cons_zero, List.getElem?_cons_succ, Option.some.injEq] at ho; subst ho
  refine ⟨.int .u8 (c : Int), Or.inl ⟨by kernel_rfl, fun w' hl => Or.inl (run_get 5 _ rfl b0 78 rfl Tryd.underlying5 rfl (.int .u8 (c : Int)) (by rw [(HR.out.later hl).cell 78 (by decide), HCt.out]; rfl))⟩, ?_⟩
  simp only [Act.put, List.setIfInBounds_toArray, List.set_cons_zero, List.set_cons_succ]
  refine late_one 7 (by kernel_rfl) (by kernel_rfl) (fun o ho => ?_)
  simp only [List.getElem?_toArray, List.getElem?_cons_zero, List.getElem?_cons_succ, Option.some.injEq] at ho; subst ho
  refine ⟨by kernel_rfl, fun wn hl K hK => ?_⟩
  have HR := Lib.hid (HR.out.later hl); have HM := Lib.hid (HM.out.later hl); have HB := Lib.hid (below_on HB.out hl); clear hl
  refine wp_enter _ _ (by go_simp; exact ⟨rfl, rfl⟩) ?_
  refine (rmk_any (c : Int) 6 _ HC0.out).mono ?_; rintro e wm ⟨rfl, hb⟩; refine ⟨_, rfl, ?_⟩
  rw [HY6.out]
  refine hK.out _ _ hb ?_
  have HR := Lib.hid (HR.out.later hb); have HM := Lib.hid (HM.out.later hb); have HB := Lib.hid (below_on HB.out hb); clear hb
  clear hK K
  simp only [Act.put, List.setIfInBounds_toArray, List.set_cons_zero, List.set_cons_succ]
  refine late_take 8 (by kernel_rfl) (by kernel_rfl) (by kernel_rfl) (by kernel_rfl) (by kernel_rfl) (fun _ _ d _ _ h => by cases d <;> exact h) (fun o ho => ?_)
  simp only [List.getElem?_toArray, List.getElem?_cons_zero, List.getElem?_cons_succ, Option.some.injEq] at ho; subst ho
  refine ⟨.bool false, Or.inl ⟨by kernel_rfl, fun w' hl => Or.inl ?_⟩, ?_⟩
  · (go_simp; try simp [g6])
  simp only [Act.put, List.setIfInBounds_toArray, List.set_cons_zero, List.set_cons_succ]
  refine late_end (by kernel_rfl) (fun wn hl => ?_)
  have HR := Lib.hid (HR.out.later hl); have HM := Lib.hid (HM.out.later hl); have HB := Lib.hid (below_on HB.out hl); clear hl
  go_wp2_with (first
      | (have HL9 := HLive; clear HL9; refine step_get rfl 5 _ rfl b0 0 rfl Tryd.underlying5 rfl (.int .u8 (p 0)) ?_ ?_; exact HR.out.cell 0 (by decide))
      | (have HL9 := HLive; clear HL9; refine step_get rfl 26 _ rfl b1 0 rfl Tryd.underlying26 rfl (.int .i8 (n : Int)) ?_ ?_; exact HM.out.cell 0)
      | (have HL9 := HLive; clear HL9; refine step_get rfl 26 _ rfl b1 1 rfl Tryd.underlying26 rfl (.int .i8 (u : Int)) ?_ ?_; exact HM.out.cell 1)
      | (have HL9 := HLive; clear HL9; refine step_get rfl 5 _ rfl b0 78 rfl Tryd.underlying5 rfl (.int .u8 (c : Int)) ?_ ?_; exact (HR.out.cell 78 (by decide)).trans (by rw [HCt.out]; rfl))
      | (clear HLive; refine step_get rfl 26 _ rfl b0 (79 + c * 2 + 0) rfl Tryd.underlying26 rfl (.int .i8 r) ?_ ?_; exact HRk.out _ HR.out)
      | (clear HLive2; refine step_get rfl 26 _ rfl b1 0 rfl Tryd.underlying26 rfl (.int .i8 (n : Int)) ?_ ?_; exact HM.out.cell 0))
  go_ret
  exact ⟨by rw [HS.out]; rfl, HB.out⟩
set_option maxRecDepth 100000 in
set_option maxHeartbeats 1000000 in
theorem rcas_b0 (p : Nat → Int) (n u : Nat) (pr dr : Int) (ca : Bool) (w : World) (hp : FitM p) (hs : smB p = true) (hn : n < 64) (hu : u < 64) (h6 : stB p (n : Int) 6 = true) (h0 : (p 0 == 1) = false) (hd : decide ((n : Int) < (u : Int)) = true) (q1 : ((n : Int) == 56 * p 78 + 4) = true) (q2 : decide (roP p (sdN (n : Int) (u : Int)) < 0) = true) : Calls Tryd.prog 20 #[.agg (posA p), .agg (mvA ⟨(n : Int), (u : Int), pr, dr, ca⟩)] w (StL (bz (csR p n u)) w) := by
  have HB := Lib.hid (Below.refl w.heap.size w)
  have HT0 := Lib.hid hp.turn.1
  obtain ⟨c, hc⟩ : ∃ c : Nat, p 78 = (c : Int) := Int.eq_ofNat_of_zero_le hp.turn.1
  have hc2 : c < 2 := by have := smB_turn hs hp.turn.1; omega
  have hc3 : (c : Int) < 2 := by omega
  have hc0 : (0 : Int) ≤ (c : Int) := by omega
  have HCt := Lib.hid hc
  have n0 : (0 : Int) ≤ (n : Int) := by omega
  have n1 : (n : Int) < 64 := by omega
  have u0 : (0 : Int) ≤ (u : Int) := by omega
  have u1 : (u : Int) < 64 := by omega
  have HN := Lib.hid hn
  have HU := Lib.hid hu
  have HK1 := Lib.hid (kAt_board (Nat.zero_le _) hn)
  have HK2 := Lib.hid (kAt_board (Nat.zero_le _) hu)
  obtain ⟨y6, hy6⟩ : ∃ y, mkZ (p 78) 6 = y := ⟨_, rfl⟩
  have HY6 := Lib.hid (show mkZ (c : Int) 6 = y6 by rw [← hc]; exact hy6)
  obtain ⟨y4, hy4⟩ : ∃ y, mkZ (p 78) 4 = y := ⟨_, rfl⟩
  have HY4 := Lib.hid (show mkZ (c : Int) 4 = y4 by rw [← hc]; exact hy4)
  have e6 : stB p (n : Int) 6 = (p (1 + n) == y6) := by rw [← hy6]; rfl
  have e4 : stB p (u : Int) 4 = (p (1 + u) == y4) := by rw [← hy4]; rfl
  have HC0 := Lib.hid hc0
  have g6 : (p (1 + n) != y6) = false := by rw [e6] at h6; rw [bne, h6]; rfl
  have gd : decide ((n : Int) < (u : Int)) = true := hd
  have gd2 : decide (n < u) = true := by rw [← hd, decide_eq_decide]; omega
  have hsd : sdN (n : Int) (u : Int) = 0 := by unfold sdN; rw [hd]; rfl
  obtain ⟨r, hr⟩ : ∃ r, p (79 + c * 2 + 0) = r := ⟨_, rfl⟩
  have hro : roP p (sdN (n : Int) (u : Int)) = r := by rw [hsd]; unfold roP; rw [hc]; exact hr
  obtain ⟨r0, r1⟩ := hp.rook (79 + c * 2 + 0) (by omega) (by omega)
  rw [hr] at r0 r1
  have HRk := Lib.hid (show ∀ (w : World) {b : Nat}, Row w b p → w.cell? ⟨b, 79 + c * 2 + 0, none⟩ = some (.int .i8 r) from fun w b h => by
    rw [h.cell (79 + c * 2 + 0) (by omega), hr]
    have a : c = 0 ∨ c = 1 := by omega
    rcases a with rfl | rfl <;> rfl)
  rw [hro] at q2
  rw [hc] at q1
  have gq : ((n : Int) != 56 * (c : Int) + 4) = false := by rw [bne, q1]; rfl
  have HS := Lib.hid (show csR p n u = [] by unfold csR cdB; rw [h6, h0, hc, q1, hro, show lnB r = false by rw [← Bool.not_eq_true, lnB_true]; intro h; have := of_decide_eq_true q2; omega]; rfl)
  have HLive := Lib.hid trivial
  have HLive2 := Lib.hid trivial
  clear hp hs hn hu hc hy6 hy4 e6 e4 h6 hd hsd hro hr
  go_enter Tryd.func20, Tryd.ntmps20
  go_wp2_with (first
      | (refine step_box rfl _ rfl p rfl ?_; intro b0 w1 N R; have HB := Lib.hid (HB.out.trans (N.below.mono HB.out.size)); have HR := Lib.hid R; clear N R)
      | (refine blk_box rfl 33 _ rfl (mvA ⟨(n : Int), (u : Int), pr, dr, ca⟩) rfl ?_; intro b1 w2 N R; have HR := Lib.hid (HR.out.later N.below); have HB := Lib.hid (HB.out.trans (N.below.mono HB.out.size)); have HM := Lib.hid R; clear N R)
      | (refine step_get rfl 5 _ rfl b0 78 rfl Tryd.underlying5 rfl (.int .u8 (c : Int)) ?_ ?_; exact (HR.out.cell 78 (by decide)).trans (by rw [HCt.out]; rfl)))
  refine late_begin 9 (by kernel_rfl) ?_
  refine late_take 0 (by kernel_rfl) (by kernel_rfl) (by kernel_rfl) (by kernel_rfl) (by kernel_rfl) (fun _ _ d _ _ h => by cases d <;> exact h) (fun o ho => ?_)
  simp only [List.getElem?_toArray, List.getElem?_cons_zero, List.getElem?_cons_succ, Option.some.injEq] at ho; subst ho
  apply Exists.intro
  refine ⟨Or.inl ⟨by kernel_rfl, fun w' hl => Or.inl ?_⟩, ?_⟩
  · (go_simp; try with_reducible rfl)
  simp only [Act.put, List.setIfInBounds_toArray, List.set_cons_zero, List.set_cons_succ]
  refine late_take 1 (by kernel_rfl) (by kernel_rfl) (by kernel_rfl) (by kernel_rfl) (by kernel_rfl) (fun _ _ d _ _ h => by cases d <;> exact h) (fun o ho => ?_)
  simp only [List.getElem?_toArray, List.getElem?_cons_zero, List.getElem?_cons_succ, Option.some.injEq] at ho; subst ho
  refine ⟨_, Or.inl ⟨by kernel_rfl, fun w' hl => Or.inl (run_get 26 _ rfl b1 (0) rfl Tryd.underlying26 rfl (.int .i8 (n : Int)) ((HM.out.later hl).cell 0))⟩, ?_⟩
  simp only [Act.put, List.setIfInBounds_toArray, List.set_cons_zero, List.set_cons_succ]
  refine late_take 2 (by kernel_rfl) (by kernel_rfl) (by kernel_rfl) (by kernel_rfl) (by kernel_rfl) (fun _ _ d _ _ h => by cases d <;> exact h) (fun o ho => ?_)
  simp only [List.getElem?_toArray, List.getElem?_cons_zero, List.getElem?_cons_succ, Option.some.injEq] at ho; subst ho
  apply Exists.intro
  refine ⟨Or.inl ⟨by kernel_rfl, fun w' hl => Or.inl ?_⟩, ?_⟩
  · (go_simp; try with_reducible rfl)
  simp only [Act.put, List.setIfInBounds_toArray, List.set_cons_zero, List.set_cons_succ]
  refine late_take 3 (by kernel_rfl) (by kernel_rfl) (by kernel_rfl) (by kernel_rfl) (by kernel_rfl) (fun _ _ d _ _ h => by cases d <;> exact h) (fun o ho => ?_)
  simp only [List.getElem?_toArray, List.getElem?_cons_zero, List.getElem?_cons_succ, Option.some.injEq] at ho; subst ho
  apply Exists.intro
  refine ⟨Or.inl ⟨by kernel_rfl, fun w' hl => Or.inl ?_⟩, ?_⟩
  · (go_simp; try with_reducible rfl)
  simp only [Act.put, List.setIfInBounds_toArray, List.set_cons_zero, List.set_cons_succ]
  refine late_take 4 (by kernel_rfl) (by kernel_rfl) (by kernel_rfl) (by kernel_rfl) (by kernel_rfl) (fun _ _ d _ _ h => by cases d <;> exact h) (fun o ho => ?_)
  simp only [List.getElem?_toArray, List.getElem?_cons_zero, List.getElem?_cons_succ, Option.some.injEq] at ho; subst ho
  refine ⟨.int .u8 (p (1 + n)), Or.inl ⟨by kernel_rfl, fun w' hl => Or.inl (run_get 5 _ rfl b0 (1 + n) rfl Tryd.underlying5 rfl (.int .u8 (p (1 + n))) (((HR.out.later hl).cell (1 + n) (by have := HN.out; have := HU.out; omega)).trans (by rw [HK1.out])))⟩, ?_⟩
  simp only [Act.put, List.setIfInBounds_toArray, List.set_cons_zero, List.set_cons_succ]
  refine late_take 5 (by kernel_rfl) (by kernel_rfl) (by kernel_rfl) (by kernel_rfl) (by kernel_rfl) (fun _ _ d _ _ h => by cases d <;> exact h) (fun o ho => ?_)
  simp only [List.getElem?_toArray, List.getElem?_cons_zero, List.getElem?_cons_succ, Option.some.injEq] at ho; subst ho
  apply Exists.intro
  refine ⟨Or.inl ⟨by kernel_rfl, fun w' hl => Or.inl ?_⟩, ?_⟩
  · (go_simp; try with_reducible rfl)
  simp only [Act.put, List.setIfInBounds_toArray, List.set_cons_zero, List.set_cons_succ]
  refine late_take 6 (by kernel_rfl) (by kernel_rfl) (by kernel_rfl) (by kernel_rfl) (by kernel_rfl) (fun _ _ d _ _ h => by cases d <;> exact h) (fun o ho => ?_)
  simp only [List.getElem?_toArray, List.getElem?_cons_zero, List.getElem?_cons_succ, Option.some.injEq] at ho; subst ho
  refine ⟨.int .u8 (c : Int), Or.inl ⟨by kernel_rfl, fun w' hl => Or.inl (run_get 5 _ rfl b0 78 rfl Tryd.underlying5 rfl (.int .u8 (c : Int)) (by rw [(HR.out.later hl).cell 78 (by decide), HCt.out]; rfl))⟩, ?_⟩
  simp only [Act.put, List.setIfInBounds_toArray, List.set_cons_zero, List.set_cons_succ]
  refine late_one 7 (by kernel_rfl) (by kernel_rfl) (fun o ho => ?_)
  simp only [List.getElem?_toArray, List.getElem?_cons_zero, List.getElem?_cons_succ, Option.some.injEq] at ho; subst ho
  refine ⟨by kernel_rfl, fun wn hl K hK => ?_⟩
  have HR := Lib.hid (HR.out.later hl); have HM := Lib.hid (HM.out.later hl); have HB := Lib.hid (below_on HB.out hl); clear hl
  refine wp_enter _ _ (by go_simp; exact ⟨rfl, rfl⟩) ?_
  refine (rmk_any (c : Int) 6 _ HC0.out).mono ?_; rintro e wm ⟨rfl, hb⟩; refine ⟨_, rfl, ?_⟩
  rw [HY6.out]
  refine hK.out _ _ hb ?_
  have HR := Lib.hid (HR.out.later hb); have HM := Lib.hid (HM.out.later hb); have HB := Lib.hid (below_on HB.out hb); clear hb
  clear hK K
  simp only [Act.put, List.setIfInBounds_toArray, List.set_cons_zero, List.set_cons_succ]
  refine late_take 8 (by kernel_rfl) (by kernel_rfl) (by kernel_rfl) (by kernel_rfl) (by kernel_rfl) (fun _ _ d _ _ h => by cases d <;> exact h) (fun o ho => ?_)
  simp only [List.getElem?_toArray, List.getElem?_cons_zero, List.getElem?_cons_succ, Option.some.injEq] at ho; subst ho
  refine ⟨.bool false, Or.inl ⟨by kernel_rfl, fun w' hl => Or.inl ?_⟩, ?_⟩
  · (go_simp; try simp [g6])
  simp only [Act.put, List.setIfInBounds_toArray, List.set_cons_zero, List.set_cons_succ]
  refine late_end (by kernel_rfl) (fun wn hl => ?_)
  have HR := Lib.hid (HR.out.later hl); have HM := Lib.hid (HM.out.later hl); have HB := Lib.hid (below_on HB.out hl); clear hl
  go_wp2_with (first
      | (have HL9 := HLive; clear HL9; refine step_get rfl 5 _ rfl b0 0 rfl Tryd.underlying5 rfl (.int .u8 (p 0)) ?_ ?_; exact HR.out.cell 0 (by decide))
      | (have HL9 := HLive; clear HL9; refine step_get rfl 26 _ rfl b1 0 rfl Tryd.underlying26 rfl (.int .i8 (n : Int)) ?_ ?_; exact HM.out.cell 0)
      | (have HL9 := HLive; clear HL9; refine step_get rfl 26 _ rfl b1 1 rfl Tryd.underlying26 rfl (.int .i8 (u : Int)) ?_ ?_; exact HM.out.cell 1)
      | (have HL9 := HLive; clear HL9; refine step_get rfl 5 _ rfl b0 78 rfl Tryd.underlying5 rfl (.int .u8 (c : Int)) ?_ ?_; exact (HR.out.cell 78 (by decide)).trans (by rw [HCt.out]; rfl))
      | (clear HLive; refine step_get rfl 26 _ rfl b0 (79 + c * 2 + 0) rfl Tryd.underlying26 rfl (.int .i8 r) ?_ ?_; exact HRk.out _ HR.out)
      | (clear HLive2; refine step_get rfl 26 _ rfl b1 0 rfl Tryd.underlying26 rfl (.int .i8 (n : Int)) ?_ ?_; exact HM.out.cell 0))
  go_ret
  exact ⟨by rw [HS.out]; rfl, HB.out⟩
set_option maxRecDepth 100000 in
set_option maxHeartbeats 1000000 in
theorem rcas_c0 (p : Nat → Int) (n u : Nat) (pr dr : Int) (ca : Bool) (w : World) (hp : FitM p) (hs : smB p = true) (hn : n < 64) (hu : u < 64) (h6 : stB p (n : Int) 6 = true) (h0 : (p 0 == 1) = false) (hd : decide ((n : Int) < (u : Int)) = true) (q1 : ((n : Int) == 56 * p 78 + 4) = true) (q2 : decide (roP p (sdN (n : Int) (u : Int)) < 0) = false) (q3 : decide (7 < roP p (sdN (n : Int) (u : Int))) = true) : Calls Tryd.prog 20 #[.agg (posA p), .agg (mvA ⟨(n : Int), (u : Int), pr, dr, ca⟩)] w (StL (bz (csR p n u)) w) := by
  have HB := Lib.hid (Below.refl w.heap.size w)
  have HT0 := Lib.hid hp.turn.1
  obtain ⟨c, hc⟩ : ∃ c : Nat, p 78 = (c : Int) := Int.eq_ofNat_of_zero_le hp.turn.1
  have hc2 : c < 2 := by have := smB_turn hs hp.turn.1; omega
  have hc3 : (c : Int) < 2 := by omega
  have hc0 : (0 : Int) ≤ (c : Int) := by omega
  have HCt := Lib.hid hc
  have n0 : (0 : Int) ≤ (n : Int) := by omega
  have n1 : (n : Int) < 64 := by omega
  have u0 : (0 : Int) ≤ (u : Int) := by omega
  have u1 : (u : Int) < 64 := by omega
  have HN := Lib.hid hn
  have HU := Lib.hid hu
  have HK1 := Lib.hid (kAt_board (Nat.zero_le _) hn)
  have HK2 := Lib.hid (kAt_board (Nat.zero_le _) hu)
  obtain ⟨y6, hy6⟩ : ∃ y, mkZ (p 78) 6 = y := ⟨_, rfl⟩
  have HY6 := Lib.hid (show mkZ (c : Int) 6 = y6 by rw [← hc]; exact hy6)
  obtain ⟨y4, hy4⟩ : ∃ y, mkZ (p 78) 4 = y := ⟨_, rfl⟩
  have HY4 := Lib.hid (show mkZ (c : Int) 4 = y4 by rw [← hc]; exact hy4)
  have e6 : stB p (n : Int) 6 = (p (1 + n) == y6) := by rw [← hy6]; rfl
  have e4 : stB p (u : Int) 4 = (p (1 + u) == y4) := by rw [← hy4]; rfl
  have HC0 := Lib.hid hc0
  have g6 : (p (1 + n) != y6) = false := by rw [e6] at h6; rw [bne, h6]; rfl
  have gd : decide ((n : Int) < (u : Int)) = true := hd
  have gd2 : decide (n < u) = true := by rw [← hd, decide_eq_decide]; omega
  have hsd : sdN (n : Int) (u : Int) = 0 := by unfold sdN; rw [hd]; rfl
  obtain ⟨r, hr⟩ : ∃ r, p (79 + c * 2 + 0) = r := ⟨_, rfl⟩
  have hro : roP p (sdN (n : Int) (u : Int)) = r := by rw [hsd]; unfold roP; rw [hc]; exact hr
  obtain ⟨r0, r1⟩ := hp.rook (79 + c * 2 + 0) (by omega) (by omega)
  rw [hr] at r0 r1
  have HRk := Lib.hid (show ∀ (w : World) {b : Nat}, Row w b p → w.cell? ⟨b, 79 + c * 2 + 0, none⟩ = some (.int .i8 r) from fun w b h => by
    rw [h.cell (79 + c * 2 + 0) (by omega), hr]
    have a : c = 0 ∨ c = 1 := by omega
    rcases a with rfl | rfl <;> rfl)
  rw [hro] at q2 q3
  rw [hc] at q1
  have gq : ((n : Int) != 56 * (c : Int) + 4) = false := by rw [bne, q1]; rfl
  have HS := Lib.hid (show csR p n u = [] by unfold csR cdB; rw [h6, h0, hc, q1, hro, show lnB r = false by rw [← Bool.not_eq_true, lnB_true]; intro h; have := of_decide_eq_true q3; omega]; rfl)
  have HLive := Lib.hid trivial
  have HLive2 := Lib.hid trivial
  clear hp hs hn hu hc hy6 hy4 e6 e4 h6 hd hsd hro hr
  go_enter Tryd.func20, Tryd.ntmps20
  go_wp2_with (first
      | (refine step_box rfl _ rfl p rfl ?_; intro b0 w1 N R; have HB := Lib.hid (HB.out.trans (N.below.mono HB.out.size)); have HR := Lib.hid R; clear N R)
      | (refine blk_box rfl 33 _ rfl (mvA ⟨(n : Int), (u : Int), pr, dr, ca⟩) rfl ?_; intro b1 w2 N R; have HR := Lib.hid (HR.out.later N.below); have HB := Lib.hid (HB.out.trans (N.below.mono HB.out.size)); have HM := Lib.hid R; clear N R)
      | (refine step_get rfl 5 _ rfl b0 78 rfl Tryd.underlying5 rfl (.int .u8 (c : Int)) ?_ ?_; exact (HR.out.cell 78 (by decide)).trans (by rw [HCt.out]; rfl)))
  refine late_begin 9 (by kernel_rfl) ?_
  refine late_take 0 (by kernel_rfl) (by kernel_rfl) (by kernel_rfl) (by kernel_rfl) (by kernel_rfl) (fun _ _ d _ _ h => by cases d <;> exact h) (fun o ho => ?_)
  simp only [List.getElem?_toArray, List.getElem?_cons_zero, List.getElem?_cons_succ, Option.some.injEq] at ho; subst ho
  apply Exists.intro
  refine ⟨Or.inl ⟨by kernel_rfl, fun w' hl => Or.inl ?_⟩, ?_⟩
  · (go_simp; try with_reducible rfl)
  simp only [Act.put, List.setIfInBounds_toArray, List.set_cons_zero, List.set_cons_succ]
  refine late_take 1 (by kernel_rfl) (by kernel_rfl) (by kernel_rfl) (by kernel_rfl) (by kernel_rfl) (fun _ _ d _ _ h => by cases d <;> exact h) (fun o ho => ?_)
  simp only [List.getElem?_toArray, List.getElem?_cons_zero, List.getElem?_cons_succ, Option.some.injEq] at ho; subst ho
  refine ⟨_, Or.inl ⟨by kernel_rfl, fun w' hl => Or.inl (run_get 26 _ rfl b1 (0) rfl Tryd.underlying26 rfl (.int .i8 (n : Int)) ((HM.out.later hl).cell 0))⟩, ?_⟩
  simp only [Act.put, List.setIfInBounds_toArray, List.set_cons_zero, List.set_cons_succ]
  refine late_take 2 (by kernel_rfl) (by kernel_rfl) (by kernel_rfl) (by kernel_rfl) (by kernel_rfl) (fun _ _ d _ _ h => by cases d <;> exact h) (fun o ho => ?_)
  simp only [List.getElem?_toArray, List.getElem?_cons_zero, List.getElem?_cons_succ, Option.some.injEq] at ho; subst ho
  apply Exists.intro
  refine ⟨Or.inl ⟨by kernel_rfl, fun w' hl => Or.inl ?_⟩, ?_⟩
  · (go_simp; try with_reducible rfl)
  simp only [Act.put, List.setIfInBounds_toArray, List.set_cons_zero, List.set_cons_succ]
  refine late_take 3 (by kernel_rfl) (by kernel_rfl) (by kernel_rfl) (by kernel_rfl) (by kernel_rfl) (fun _ _ d _ _ h => by cases d <;> exact h) (fun o ho => ?_)
  simp only [List.getElem?_toArray, List.getElem?_cons_zero, List.getElem?_cons_succ, Option.some.injEq] at ho; subst ho
  apply Exists.intro
  refine ⟨Or.inl ⟨by kernel_rfl, fun w' hl => Or.inl ?_⟩, ?_⟩
  · (go_simp; try with_reducible rfl)
  simp only [Act.put, List.setIfInBounds_toArray, List.set_cons_zero, List.set_cons_succ]
  refine late_take 4 (by kernel_rfl) (by kernel_rfl) (by kernel_rfl) (by kernel_rfl) (by kernel_rfl) (fun _ _ d _ _ h => by cases d <;> exact h) (fun o ho => ?_)
  simp only [List.getElem?_toArray, List.getElem?_cons_zero, List.getElem?_cons_succ, Option.some.injEq] at ho; subst ho
  refine ⟨.int .u8 (p (1 + n)), Or.inl ⟨by kernel_rfl, fun w' hl => Or.inl (run_get 5 _ rfl b0 (1 + n) rfl Tryd.underlying5 rfl (.int .u8 (p (1 + n))) (((HR.out.later hl).cell (1 + n) (by have := HN.out; have := HU.out; omega)).trans (by rw [HK1.out])))⟩, ?_⟩
  simp only [Act.put, List.setIfInBounds_toArray, List.set_cons_zero, List.set_cons_succ]
  refine late_take 5 (by kernel_rfl) (by kernel_rfl) (by kernel_rfl) (by kernel_rfl) (by kernel_rfl) (fun _ _ d _ _ h => by cases d <;> exact h) (fun o ho => ?_)
  simp only [List.getElem?_toArray, List.getElem?_cons_zero, List.getElem?_cons_succ, Option.some.injEq] at ho; subst ho
  apply Exists.intro
  refine ⟨Or.inl ⟨by kernel_rfl, fun w' hl => Or.inl ?_⟩, ?_⟩
  · (go_simp; try with_reducible rfl)
  simp only [Act.put, List.setIfInBounds_toArray, List.set_cons_zero, List.set_cons_succ]
  refine late_take 6 (by kernel_rfl) (by kernel_rfl) (by kernel_rfl) (by kernel_rfl) (by kernel_rfl) (fun _ _ d _ _ h => by cases d <;> exact h) (fun o ho => ?_)
  simp only [List.getElem?_toArray, List.getElem?_cons_zero, List.getElem?_cons_succ, Option.some.injEq] at ho; subst ho
  refine ⟨.int .u8 (c : Int), Or.inl ⟨by kernel_rfl, fun w' hl => Or.inl (run_get 5 _ rfl b0 78 rfl Tryd.underlying5 rfl (.int .u8 (c : Int)) (by rw [(HR.out.later hl).cell 78 (by decide), HCt.out]; rfl))⟩, ?_⟩
  simp only [Act.put, List.setIfInBounds_toArray, List.set_cons_zero, List.set_cons_succ]
  refine late_one 7 (by kernel_rfl) (by kernel_rfl) (fun o ho => ?_)
  simp only [List.getElem?_toArray, List.getElem?_cons_zero, List.getElem?_cons_succ, Option.some.injEq] at ho; subst ho
  refine ⟨by kernel_rfl, fun wn hl K hK => ?_⟩
  have HR := Lib.hid (HR.out.later hl); have HM := Lib.hid (HM.out.later hl); have HB := Lib.hid (below_on HB.out hl); clear hl
  refine wp_enter _ _ (by go_simp; exact ⟨rfl, rfl⟩) ?_
  refine (rmk_any (c : Int) 6 _ HC0.out).mono ?_; rintro e wm ⟨rfl, hb⟩; refine ⟨_, rfl, ?_⟩
  rw [HY6.out]
  refine hK.out _ _ hb ?_
  have HR := Lib.hid (HR.out.later hb); have HM := Lib.hid (HM.out.later hb); have HB := Lib.hid (below_on HB.out hb); clear hb
  clear hK K
  simp only [Act.put, List.setIfInBounds_toArray, List.set_cons_zero, List.set_cons_succ]
  refine late_take 8 (by kernel_rfl) (by kernel_rfl) (by kernel_rfl) (by kernel_rfl) (by kernel_rfl) (fun _ _ d _ _ h => by cases d <;> exact h) (fun o ho => ?_)
  simp only [List.getElem?_toArray, List.getElem?_cons_zero, List.getElem?_cons_succ, Option.some.injEq] at ho; subst ho
  refine ⟨.bool false, Or.inl ⟨by kernel_rfl, fun w' hl => Or.inl ?_⟩, ?_⟩
  · (go_simp; try simp [g6])
  simp only [Act.put, List.setIfInBounds_toArray, List.set_cons_zero, List.set_cons_succ]
  refine late_end (by kernel_rfl) (fun wn hl => ?_)
  have HR := Lib.hid (HR.out.later hl); have HM := Lib.hid (HM.out.later hl); have HB := Lib.hid (below_on HB.out hl); clear hl
  go_wp2_with (first
      | (have HL9 := HLive; clear HL9; refine step_get rfl 5 _ rfl b0 0 rfl Tryd.underlying5 rfl (.int .u8 (p 0)) ?_ ?_; exact HR.out.cell 0 (by decide))
      | (have HL9 := HLive; clear HL9; refine step_get rfl 26 _ rfl b1 0 rfl Tryd.underlying26 rfl (.int .i8 (n : Int)) ?_ ?_; exact HM.out.cell 0)
      | (have HL9 := HLive; clear HL9; refine step_get rfl 26 _ rfl b1 1 rfl Tryd.underlying26 rfl (.int .i8 (u : Int)) ?_ ?_; exact HM.out.cell 1)
      | (have HL9 := HLive; clear HL9; refine step_get rfl 5 _ rfl b0 78 rfl Tryd.underlying5 rfl (.int .u8 (c : Int)) ?_ ?_; exact (HR.out.cell 78 (by decide)).trans (by rw [HCt.out]; rfl))
      | (clear HLive; refine step_get rfl 26 _ rfl b0 (79 + c * 2 + 0) rfl Tryd.underlying26 rfl (.int .i8 r) ?_ ?_; exact HRk.out _ HR.out)
      | (clear HLive2; refine step_get rfl 26 _ rfl b1 0 rfl Tryd.underlying26 rfl (.int .i8 (n : Int)) ?_ ?_; exact HM.out.cell 0))
  go_ret
  exact ⟨by rw [HS.out]; rfl, HB.out⟩
set_option maxRecDepth 100000 in
set_option maxHeartbeats 1000000 in
theorem rcas_d0 (p : Nat → Int) (n u : Nat) (pr dr : Int) (ca : Bool) (w : World) (hp : FitM p) (hs : smB p = true) (hn : n < 64) (hu : u < 64) (h6 : stB p (n : Int) 6 = true) (h0 : (p 0 == 1) = false) (hd : decide ((n : Int) < (u : Int)) = true) (q1 : ((n : Int) == 56 * p 78 + 4) = true) (q2 : decide (roP p (sdN (n : Int) (u : Int)) < 0) = false) (q3 : decide (7 < roP p (sdN (n : Int) (u : Int))) = false) (q4 : ((u : Int) == 56 * p 78 + roP p (sdN (n : Int) (u : Int))) = false) : Calls Tryd.prog 20 #[.agg (posA p), .agg (mvA ⟨(n : Int), (u : Int), pr, dr, ca⟩)] w (StL (bz (csR p n u)) w) := by
  have HB := Lib.hid (Below.refl w.heap.size w)
  have HT0 := Lib.hid hp.turn.1
  obtain ⟨c, hc⟩ : ∃ c : Nat, p 78 = (c : Int) := Int.eq_ofNat_of_zero_le hp.turn.1
  have hc2 : c < 2 := by have := smB_turn hs hp.turn.1; omega
  have hc3 : (c : Int) < 2 := by omega
  have hc0 : (0 : Int) ≤ (c : Int) := by omega
  have HCt := Lib.hid hc
  have n0 : (0 : Int) ≤ (n : Int) := by omega
  have n1 : (n : Int) < 64 := by omega
  have u0 : (0 : Int) ≤ (u : Int) := by omega
  have u1 : (u : Int) < 64 := by omega
  have HN := Lib.hid hn
  have HU := Lib.hid hu
  have HK1 := Lib.hid (kAt_board (Nat.zero_le _) hn)
  have HK2 := Lib.hid (kAt_board (Nat.zero_le _) hu)
  obtain ⟨y6, hy6⟩ : ∃ y, mkZ (p 78) 6 = y := ⟨_, rfl⟩
  have HY6 := Lib.hid (show mkZ (c : Int) 6 = y6 by rw [← hc]; exact hy6)
  obtain ⟨y4, hy4⟩ : ∃ y, mkZ (p 78) 4 = y := ⟨_, rfl⟩
  have HY4 := Lib.hid (show mkZ (c : Int) 4 = y4 by rw [← hc]; exact hy4)
  have e6 : stB p (n : Int) 6 = (p (1 + n) == y6) := by rw [← hy6]; rfl
  have e4 : stB p (u : Int) 4 = (p (1 + u) == y4) := by rw [← hy4]; rfl
  have HC0 := Lib.hid hc0
  have g6 : (p (1 + n) != y6) = false := by rw [e6] at h6; rw [bne, h6]; rfl
  have gd : decide ((n : Int) < (u : Int)) = true := hd
  have gd2 : decide (n < u) = true := by rw [← hd, decide_eq_decide]; omega
  have hsd : sdN (n : Int) (u : Int) = 0 := by unfold sdN; rw [hd]; rfl
  obtain ⟨r, hr⟩ : ∃ r, p (79 + c * 2 + 0) = r := ⟨_, rfl⟩
  have hro : roP p (sdN (n : Int) (u : Int)) = r := by rw [hsd]; unfold roP; rw [hc]; exact hr
  obtain ⟨r0, r1⟩ := hp.rook (79 + c * 2 + 0) (by omega) (by omega)
  rw [hr] at r0 r1
  have HRk := Lib.hid (show ∀ (w : World) {b : Nat}, Row w b p → w.cell? ⟨b, 79 + c * 2 + 0, none⟩ = some (.int .i8 r) from fun w b h => by
    rw [h.cell (79 + c * 2 + 0) (by omega), hr]
    have a : c = 0 ∨ c = 1 := by omega
    rcases a with rfl | rfl <;> rfl)
  rw [hro] at q2 q3 q4
  rw [hc] at q1 q4
  have gq : ((n : Int) != 56 * (c : Int) + 4) = false := by rw [bne, q1]; rfl
  have gq4 : ((u : Int) != 56 * (c : Int) + r) = true := by rw [bne, q4]; rfl
  have HS := Lib.hid (show csR p n u = [] by unfold csR cdB; rw [h6, h0, hc, q1, hro, q4, Bool.and_false]; rfl)
  clear hp hs hn hu hc hy6 hy4 e6 e4 h6 hd hsd hro hr
  go_enter Tryd.func20, Tryd.ntmps20
  go_wp2_with (first
      | (refine step_box rfl _ rfl p rfl ?_; intro b0 w1 N R; have HB := Lib.hid (HB.out.trans (N.below.mono HB.out.size)); have HR := Lib.hid R; clear N R)
      | (refine blk_box rfl 33 _ rfl (mvA ⟨(n : Int), (u : Int), pr, dr, ca⟩) rfl ?_; intro b1 w2 N R; have HR := Lib.hid (HR.out.later N.below); have HB := Lib.hid (HB.out.trans (N.below.mono HB.out.size)); have HM := Lib.hid R; clear N R)
      | (refine step_get rfl 5 _ rfl b0 78 rfl Tryd.underlying5 rfl (.int .u8 (c : Int)) ?_ ?_; exact (HR.out.cell 78 (by decide)).trans (by rw [HCt.out]; rfl)))
  refine late_begin 9 (by kernel_rfl) ?_
  refine late_take 0 (by kernel_rfl) (by kernel_rfl) (by kernel_rfl) (by kernel_rfl) (by kernel_rfl) (fun _ _ d _ _ h => by cases d <;> exact h) (fun o ho => ?_)
  simp only [List.getElem?_toArray, List.getElem?_cons_zero, List.getElem?_cons_succ, Option.some.injEq] at ho; subst ho
  apply Exists.intro
  refine ⟨Or.inl ⟨by kernel_rfl, fun w' hl => Or.inl ?_⟩, ?_⟩
  · (go_simp; try with_reducible rfl)
  simp only [Act.put, List.setIfInBounds_toArray, List.set_cons_zero, List.set_cons_succ]
  refine late_take 1 (by kernel_rfl) (by kernel_rfl) (by kernel_rfl) (by kernel_rfl) (by kernel_rfl) (fun _ _ d _ _ h => by cases d <;> exact h) (fun o ho => ?_)
  simp only [List.getElem?_toArray, List.getElem?_cons_zero, List.getElem?_cons_succ, Option.some.injEq] at ho; subst ho
  refine ⟨_, Or.inl ⟨by kernel_rfl, fun w' hl => Or.inl (run_get 26 _ rfl b1 (0) rfl Tryd.underlying26 rfl (.int .i8 (n : Int)) ((HM.out.later hl).cell 0))⟩, ?_⟩
  simp only [Act.put, List.setIfInBounds_toArray, List.set_cons_zero, List.set_cons_succ]
  refine late_take 2 (by kernel_rfl) (by kernel_rfl) (by kernel_rfl) (by kernel_rfl) (by kernel_rfl) (fun _ _ d _ _ h => by cases d <;> exact h) (fun o ho => ?_)
  simp only [List.getElem?_toArray, List.getElem?_cons_zero, List.getElem?_cons_succ, Option.some.injEq] at ho; subst ho
  apply Exists.intro
  refine ⟨Or.inl ⟨by kernel_rfl, fun w' hl => Or.inl ?_⟩, ?_⟩
  · (go_simp; try with_reducible rfl)
  simp only [Act.put, List.setIfInBounds_toArray, List.set_cons_zero, List.set_cons_succ]
  refine late_take 3 (by kernel_rfl) (by kernel_rfl) (by kernel_rfl) (by kernel_rfl) (by kernel_rfl) (fun _ _ d _ _ h => by cases d <;> exact h) (fun o ho => ?_)
  simp only [List.getElem?_toArray, List.getElem?_cons_zero, List.getElem?_cons_succ, Option.some.injEq] at ho; subst ho
  apply Exists.intro
  refine ⟨Or.inl ⟨by kernel_rfl, fun w' hl => Or.inl ?_⟩, ?_⟩
  · (go_simp; try with_reducible rfl)
  simp only [Act.put, List.setIfInBounds_toArray, List.set_cons_zero, List.set_cons_succ]
  refine late_take 4 (by kernel_rfl) (by kernel_rfl) (by kernel_rfl) (by kernel_rfl) (by kernel_rfl) (fun _ _ d _ _ h => by cases d <;> exact h) (fun o ho => ?_)
  simp only [List.getElem?_toArray, List.getElem?_cons_zero, List.getElem?_cons_succ, Option.some.injEq] at ho; subst ho
  refine ⟨.int .u8 (p (1 + n)), Or.inl ⟨by kernel_rfl, fun w' hl => Or.inl (run_get 5 _ rfl b0 (1 + n) rfl Tryd.underlying5 rfl (.int .u8 (p (1 + n))) (((HR.out.later hl).cell (1 + n) (by have := HN.out; have := HU.out; omega)).trans (by rw [HK1.out])))⟩, ?_⟩
  simp only [Act.put, List.setIfInBounds_toArray, List.set_cons_zero, List.set_cons_succ]
  refine late_take 5 (by kernel_rfl) (by kernel_rfl) (by kernel_rfl) (by kernel_rfl) (by kernel_rfl) (fun _ _ d _ _ h => by cases d <;> exact h) (fun o ho => ?_)
  simp only [List.getElem?_toArray, List.getElem?_cons_zero, List.getElem?_cons_succ, Option.some.injEq] at ho; subst ho
  apply Exists.intro
  refine ⟨Or.inl ⟨by kernel_rfl, fun w' hl => Or.inl ?_⟩, ?_⟩
  · (go_simp; try with_reducible rfl)
  simp only [Act.put, List.setIfInBounds_toArray, List.set_cons_zero, List.set_cons_succ]
  refine late_take 6 (by kernel_rfl) (by kernel_rfl) (by kernel_rfl) (by kernel_rfl) (by kernel_rfl) (fun _ _ d _ _ h => by cases d <;> exact h) (fun o ho => ?_)
  simp only [List.getElem?_toArray, List.getElem?_cons_zero, List.getElem?_cons_succ, Option.some.injEq] at ho; subst ho
  refine ⟨.int .u8 (c : Int), Or.inl ⟨by kernel_rfl, fun w' hl => Or.inl (run_get 5 _ rfl b0 78 rfl Tryd.underlying5 rfl (.int .u8 (c : Int)) (by rw [(HR.out.later hl).cell 78 (by decide), HCt.out]; rfl))⟩, ?_⟩
  simp only [Act.put, List.setIfInBounds_toArray, List.set_cons_zero, List.set_cons_succ]
  refine late_one 7 (by kernel_rfl) (by kernel_rfl) (fun o ho => ?_)
  simp only [List.getElem?_toArray, List.getElem?_cons_zero, List.getElem?_cons_succ, Option.some.injEq] at ho; subst ho
  refine ⟨by kernel_rfl, fun wn hl K hK => ?_⟩
  have HR := Lib.hid (HR.out.later hl); have HM := Lib.hid (HM.out.later hl); have HB := Lib.hid (below_on HB.out hl); clear hl
  refine wp_enter _ _ (by go_simp; exact ⟨rfl, rfl⟩) ?_
  refine (rmk_any (c : Int) 6 _ HC0.out).mono ?_; rintro e wm ⟨rfl, hb⟩; refine ⟨_, rfl, ?_⟩
  rw [HY6.out]
  refine hK.out _ _ hb ?_
  have HR := Lib.hid (HR.out.later hb); have HM := Lib.hid (HM.out.later hb); have HB := Lib.hid (below_on HB.out hb); clear hb
  clear hK K
  simp only [Act.put, List.setIfInBounds_toArray, List.set_cons_zero, List.set_cons_succ]
  refine late_take 8 (by kernel_rfl) (by kernel_rfl) (by kernel_rfl) (by kernel_rfl) (by kernel_rfl) (fun _ _ d _ _ h => by cases d <;> exact h) (fun o ho => ?_)
  simp only [List.getElem?_toArray, List.getElem?_cons_zero, List.getElem?_cons_succ, Option.some.injEq] at ho; subst ho
  refine ⟨.bool false, Or.inl ⟨by kernel_rfl, fun w' hl => Or.inl ?_⟩, ?_⟩
  · (go_simp; try simp [g6])
  simp only [Act.put, List.setIfInBounds_toArray, List.set_cons_zero, List.set_cons_succ]
  refine late_end (by kernel_rfl) (fun wn hl => ?_)
  have HR := Lib.hid (HR.out.later hl); have HM := Lib.hid (HM.out.later hl); have HB := Lib.hid (below_on HB.out hl); clear hl
  go_wp2_with (first
      | (refine step_get rfl 5 _ rfl b0 0 rfl Tryd.underlying5 rfl (.int .u8 (p 0)) ?_ ?_; exact HR.out.cell 0 (by decide))
      | (refine step_get rfl 26 _ rfl b1 0 rfl Tryd.underlying26 rfl (.int .i8 (n : Int)) ?_ ?_; exact HM.out.cell 0)
      | (refine step_get rfl 26 _ rfl b1 1 rfl Tryd.underlying26 rfl (.int .i8 (u : Int)) ?_ ?_; exact HM.out.cell 1)
      | (refine step_get rfl 5 _ rfl b0 78 rfl Tryd.underlying5 rfl (.int .u8 (c : Int)) ?_ ?_; exact (HR.out.cell 78 (by decide)).trans (by rw [HCt.out]; rfl))
      | (refine step_get rfl 26 _ rfl b0 (79 + c * 2 + 0) rfl Tryd.underlying26 rfl (.int .i8 r) ?_ ?_; exact HRk.out _ HR.out))
  go_ret
  exact ⟨by rw [HS.out]; rfl, HB.out⟩
set_option maxRecDepth 100000 in
set_option maxHeartbeats 1000000 in
theorem rcas_e0 (p : Nat → Int) (n u : Nat) (pr dr : Int) (ca : Bool) (w : World) (hp : FitM p) (hs : smB p = true) (hn : n < 64) (hu : u < 64) (h6 : stB p (n : Int) 6 = true) (h0 : (p 0 == 1) = false) (hd : decide ((n : Int) < (u : Int)) = true) (q1 : ((n : Int) == 56 * p 78 + 4) = true) (q2 : decide (roP p (sdN (n : Int) (u : Int)) < 0) = false) (q3 : decide (7 < roP p (sdN (n : Int) (u : Int))) = false) (q4 : ((u : Int) == 56 * p 78 + roP p (sdN (n : Int) (u : Int))) = true) : Calls Tryd.prog 20 #[.agg (posA p), .agg (mvA ⟨(n : Int), (u : Int), pr, dr, ca⟩)] w (StL (bz (csR p n u)) w) := by
  have HB := Lib.hid (Below.refl w.heap.size w)
  have HT0 := Lib.hid hp.turn.1
  obtain ⟨c, hc⟩ : ∃ c : Nat, p 78 = (c : Int) := Int.eq_ofNat_of_zero_le hp.turn.1
  have hc2 : c < 2 := by have := smB_turn hs hp.turn.1; omega
  have hc3 : (c : Int) < 2 := by omega
  have hc0 : (0 : Int) ≤ (c : Int) := by omega
  have HCt := Lib.hid hc
  have n0 : (0 : Int) ≤ (n : Int) := by omega
  have n1 : (n : Int) < 64 := by omega
  have u0 : (0 : Int) ≤ (u : Int) := by omega
  have u1 : (u : Int) < 64 := by omega
  have HN := Lib.hid hn
  have HU := Lib.hid hu
  have HK1 := Lib.hid (kAt_board (Nat.zero_le _) hn)
  have HK2 := Lib.hid (kAt_board (Nat.zero_le _) hu)
  obtain ⟨y6, hy6⟩ : ∃ y, mkZ (p 78) 6 = y := ⟨_, rfl⟩
  have HY6 := Lib.hid (show mkZ (c : Int) 6 = y6 by rw [← hc]; exact hy6)
  obtain ⟨y4, hy4⟩ : ∃ y, mkZ (p 78) 4 = y := ⟨_, rfl⟩
  have HY4 := Lib.hid (show mkZ (c : Int) 4 = y4 by rw [← hc]; exact hy4)
  have e6 : stB p (n : Int) 6 = (p (1 + n) == y6) := by rw [← hy6]; rfl
  have e4 : stB p (u : Int) 4 = (p (1 + u) == y4) := by rw [← hy4]; rfl
  have HC0 := Lib.hid hc0
  have g6 : (p (1 + n) != y6) = false := by rw [e6] at h6; rw [bne, h6]; rfl
  have gd : decide ((n : Int) < (u : Int)) = true := hd
  have gd2 : decide (n < u) = true := by rw [← hd, decide_eq_decide]; omega
  have hsd : sdN (n : Int) (u : Int) = 0 := by unfold sdN; rw [hd]; rfl
  obtain ⟨r, hr⟩ : ∃ r, p (79 + c * 2 + 0) = r := ⟨_, rfl⟩
  have hro : roP p (sdN (n : Int) (u : Int)) = r := by rw [hsd]; unfold roP; rw [hc]; exact hr
  obtain ⟨r0, r1⟩ := hp.rook (79 + c * 2 + 0) (by omega) (by omega)
  rw [hr] at r0 r1
  have HRk := Lib.hid (show ∀ (w : World) {b : Nat}, Row w b p → w.cell? ⟨b, 79 + c * 2 + 0, none⟩ = some (.int .i8 r) from fun w b h => by
    rw [h.cell (79 + c * 2 + 0) (by omega), hr]
    have a : c = 0 ∨ c = 1 := by omega
    rcases a with rfl | rfl <;> rfl)
  rw [hro] at q2 q3 q4
  rw [hc] at q1 q4
  have gq : ((n : Int) != 56 * (c : Int) + 4) = false := by rw [bne, q1]; rfl
  have gq4 : ((u : Int) != 56 * (c : Int) + r) = false := by rw [bne, q4]; rfl
  have HS := Lib.hid (show csR p n u = sqM n ++ sqM (56 * (c : Int) + 6) by unfold csR cdB; rw [h6, h0, hc, q1, hro, q4, show lnB r = true by rw [lnB_true]; have := of_decide_eq_false q2; have := of_decide_eq_false q3; omega, hsd]; rfl)
  have w8 : IntKind.i8.wrap (56 * (c : Int) + 6) = 56 * (c : Int) + 6 := IntWalk.i8_in _ (by omega)
  clear hp hs hn hu hc hy6 hy4 e6 e4 h6 hd hsd hro hr
  go_enter Tryd.func20, Tryd.ntmps20
  go_wp2_with (first
      | (refine step_box rfl _ rfl p rfl ?_; intro b0 w1 N R; have HB := Lib.hid (HB.out.trans (N.below.mono HB.out.size)); have HR := Lib.hid R; clear N R)
      | (refine blk_box rfl 33 _ rfl (mvA ⟨(n : Int), (u : Int), pr, dr, ca⟩) rfl ?_; intro b1 w2 N R; have HR := Lib.hid (HR.out.later N.below); have HB := Lib.hid (HB.out.trans (N.below.mono HB.out.size)); have HM := Lib.hid R; clear N R)
      | (refine step_get rfl 5 _ rfl b0 78 rfl Tryd.underlying5 rfl (.int .u8 (c : Int)) ?_ ?_; exact (HR.out.cell 78 (by decide)).trans (by rw [HCt.out]; rfl)))
  refine late_begin 9 (by kernel_rfl) ?_
  refine late_take 0 (by kernel_rfl) (by kernel_rfl) (by kernel_rfl) (by kernel_rfl) (by kernel_rfl) (fun _ _ d _ _ h => by cases d <;> exact h) (fun o ho => ?_)
  simp only [List.getElem?_toArray, List.getElem?_cons_zero, List.getElem?_cons_succ, Option.some.injEq] at ho; subst ho
  apply Exists.intro
  refine ⟨Or.inl ⟨by kernel_rfl, fun w' hl => Or.inl ?_⟩, ?_⟩
  · (go_simp; try with_reducible rfl)
  simp only [Act.put, List.setIfInBounds_toArray, List.set_cons_zero, List.set_cons_succ]
  refine late_take 1 (by kernel_rfl) (by kernel_rfl) (by kernel_rfl) (by kernel_rfl) (by kernel_rfl) (fun _ _ d _ _ h => by cases d <;> exact h) (fun o ho => ?_)
  simp only [List.getElem?_toArray, List.getElem?_cons_zero, List.getElem?_cons_succ, Option.some.injEq] at ho; subst ho
  refine ⟨_, Or.inl ⟨by kernel_rfl, fun w' hl => Or.inl (run_get 26 _ rfl b1 (0) rfl Tryd.underlying26 rfl (.int .i8 (n : Int)) ((HM.out.later hl).cell 0))⟩, ?_⟩
  simp only [Act.put, List.setIfInBounds_toArray, List.set_cons_zero, List.set_cons_succ]
  refine late_take 2 (by kernel_rfl) (by kernel_rfl) (by kernel_rfl) (by kernel_rfl) (by kernel_rfl) (fun _ _ d _ _ h => by cases d <;> exact h) (fun o ho => ?_)
  simp only [List.getElem?_toArray, List.getElem?_cons_zero, List.getElem?_cons_succ, Option.some.injEq] at ho; subst ho
  apply Exists.intro
  refine ⟨Or.inl ⟨by kernel_rfl, fun w' hl => Or.inl ?_⟩, ?_⟩
  · (go_simp; try with_reducible rfl)
  simp only [Act.put, List.setIfInBounds_toArray, List.set_cons_zero, List.set_cons_succ]
  refine late_take 3 (by kernel_rfl) (by kernel_rfl) (by kernel_rfl) (by kernel_rfl) (by kernel_rfl) (fun _ _ d _ _ h => by cases d <;> exact h) (fun o ho => ?_)
  simp only [List.getElem?_toArray, List.getElem?_cons_zero, List.getElem?_cons_succ, Option.some.injEq] at ho; subst ho
  apply Exists.intro
  refine ⟨Or.inl ⟨by kernel_rfl, fun w' hl => Or.inl ?_⟩, ?_⟩
  · (go_simp; try with_reducible rfl)
  simp only [Act.put, List.setIfInBounds_toArray, List.set_cons_zero, List.set_cons_succ]
  refine late_take 4 (by kernel_rfl) (by kernel_rfl) (by kernel_rfl) (by kernel_rfl) (by kernel_rfl) (fun _ _ d _ _ h => by cases d <;> exact h) (fun o ho => ?_)
  simp only [List.getElem?_toArray, List.getElem?_cons_zero, List.getElem?_cons_succ, Option.some.injEq] at ho; subst ho
  refine ⟨.int .u8 (p (1 + n)), Or.inl ⟨by kernel_rfl, fun w' hl => Or.inl (run_get 5 _ rfl b0 (1 + n) rfl Tryd.underlying5 rfl (.int .u8 (p (1 + n))) (((HR.out.later hl).cell (1 + n) (by have := HN.out; have := HU.out; omega)).trans (by rw [HK1.out])))⟩, ?_⟩
  simp only [Act.put, List.setIfInBounds_toArray, List.set_cons_zero, List.set_cons_succ]
  refine late_take 5 (by kernel_rfl) (by kernel_rfl) (by kernel_rfl) (by kernel_rfl) (by kernel_rfl) (fun _ _ d _ _ h => by cases d <;> exact h) (fun o ho => ?_)
  simp only [List.getElem?_toArray, List.getElem?_cons_zero, List.getElem?_cons_succ, Option.some.injEq] at ho; subst ho
  apply Exists.intro
  refine ⟨Or.inl ⟨by kernel_rfl, fun w' hl => Or.inl ?_⟩, ?_⟩
  · (go_simp; try with_reducible rfl)
  simp only [Act.put, List.setIfInBounds_toArray, List.set_cons_zero, List.set_cons_succ]
  refine late_take 6 (by kernel_rfl) (by kernel_rfl) (by kernel_rfl) (by kernel_rfl) (by kernel_rfl) (fun _ _ d _ _ h => by cases d <;> exact h) (fun o ho => ?_)
  simp only [List.getElem?_toArray, List.getElem?_cons_zero, List.getElem?_cons_succ, Option.some.injEq] at ho; subst ho
  refine ⟨.int .u8 (c : Int), Or.inl ⟨by kernel_rfl, fun w' hl => Or.inl (run_get 5 _ rfl b0 78 rfl Tryd.underlying5 rfl (.int .u8 (c : Int)) (by rw [(HR.out.later hl).cell 78 (by decide), HCt.out]; rfl))⟩, ?_⟩
  simp only [Act.put, List.setIfInBounds_toArray, List.set_cons_zero, List.set_cons_succ]
  refine late_one 7 (by kernel_rfl) (by kernel_rfl) (fun o ho => ?_)
  simp only [List.getElem?_toArray, List.getElem?_cons_zero, List.getElem?_cons_succ, Option.some.injEq] at ho; subst ho
  refine ⟨by kernel_rfl, fun wn hl K hK => ?_⟩
  have HR := Lib.hid (HR.out.later hl); have HM := Lib.hid (HM.out.later hl); have HB := Lib.hid (below_on HB.out hl); clear hl
  refine wp_enter _ _ (by go_simp; exact ⟨rfl, rfl⟩) ?_
  refine (rmk_any (c : Int) 6 _ HC0.out).mono ?_; rintro e wm ⟨rfl, hb⟩; refine ⟨_, rfl, ?_⟩
  rw [HY6.out]
  refine hK.out _ _ hb ?_
  have HR := Lib.hid (HR.out.later hb); have HM := Lib.hid (HM.out.later hb); have HB := Lib.hid (below_on HB.out hb); clear hb
  clear hK K
  simp only [Act.put, List.setIfInBounds_toArray, List.set_cons_zero, List.set_cons_succ]
  refine late_take 8 (by kernel_rfl) (by kernel_rfl) (by kernel_rfl) (by kernel_rfl) (by kernel_rfl) (fun _ _ d _ _ h => by cases d <;> exact h) (fun o ho => ?_)
  simp only [List.getElem?_toArray, List.getElem?_cons_zero, List.getElem?_cons_succ, Option.some.injEq] at ho; subst ho
  refine ⟨.bool false, Or.inl ⟨by kernel_rfl, fun w' hl => Or.inl ?_⟩, ?_⟩
  · (go_simp; try simp [g6])
  simp only [Act.put, List.setIfInBounds_toArray, List.set_cons_zero, List.set_cons_succ]
  refine late_end (by kernel_rfl) (fun wn hl => ?_)
  have HR := Lib.hid (HR.out.later hl); have HM := Lib.hid (HM.out.later hl); have HB := Lib.hid (below_on HB.out hl); clear hl
  go_wp2_with (first
      | (refine step_get rfl 5 _ rfl b0 0 rfl Tryd.underlying5 rfl (.int .u8 (p 0)) ?_ ?_; exact HR.out.cell 0 (by decide))
      | (refine step_get rfl 26 _ rfl b1 0 rfl Tryd.underlying26 rfl (.int .i8 (n : Int)) ?_ ?_; exact HM.out.cell 0)
      | (refine step_get rfl 26 _ rfl b1 1 rfl Tryd.underlying26 rfl (.int .i8 (u : Int)) ?_ ?_; exact HM.out.cell 1)
      | (refine step_get rfl 5 _ rfl b0 78 rfl Tryd.underlying5 rfl (.int .u8 (c : Int)) ?_ ?_; exact (HR.out.cell 78 (by decide)).trans (by rw [HCt.out]; rfl))
      | (refine step_get rfl 26 _ rfl b0 (79 + c * 2 + 0) rfl Tryd.underlying26 rfl (.int .i8 r) ?_ ?_; exact HRk.out _ HR.out)
      | (go_at_call 25; refine (rtwo_any (n : Int) (56 * (c : Int) + 6) _ ⟨by have := HN.out; omega, by have := HN.out; omega⟩ ⟨by omega, by omega⟩).mono ?_; rintro e w3 ⟨rfl, hb⟩; have HR := Lib.hid (HR.out.later hb); have HM := Lib.hid (HM.out.later hb); have HB := Lib.hid (below_on HB.out hb); clear hb))
  go_ret
  exact ⟨by rw [HS.out]; rfl, HB.out⟩
set_option maxRecDepth 100000 in
set_option maxHeartbeats 1000000 in
theorem rcas_a1 (p : Nat → Int) (n u : Nat) (pr dr : Int) (ca : Bool) (w : World) (hp : FitM p) (hs : smB p = true) (hn : n < 64) (hu : u < 64) (h6 : stB p (n : Int) 6 = true) (h0 : (p 0 == 1) = false) (hd : decide ((n : Int) < (u : Int)) = false) (q1 : ((n : Int) == 56 * p 78 + 4) = false) : Calls Tryd.prog 20 #[.agg (posA p), .agg (mvA ⟨(n : Int), (u : Int), pr, dr, ca⟩)] w (StL (bz (csR p n u)) w) := by
  have HB := Lib.hid (Below.refl w.heap.size w)
  have HT0 := Lib.hid hp.turn.1
  obtain ⟨c, hc⟩ : ∃ c : Nat, p 78 = (c : Int) := Int.eq_ofNat_of_zero_le hp.turn.1
  have hc2 : c < 2 := by have := smB_turn hs hp.turn.1; omega
  have hc3 : (c : Int) < 2 := by omega
  have hc0 : (0 : Int) ≤ (c : Int) := by omega
  have HCt := Lib.hid hc
  have n0 : (0 : Int) ≤ (n : Int) := by omega
  have n1 : (n : Int) < 64 := by omega
  have u0 : (0 : Int) ≤ (u : Int) := by omega
  have u1 : (u : Int) < 64 := by omega
  have HN := Lib.hid hn
  have HU := Lib.hid hu
  have HK1 := Lib.hid (kAt_board (Nat.zero_le _) hn)
  have HK2 := Lib.hid (kAt_board (Nat.zero_le _) hu)
  obtain ⟨y6, hy6⟩ : ∃ y, mkZ (p 78) 6 = y := ⟨_, rfl⟩
  have HY6 := Lib.hid (show mkZ (c : Int) 6 = y6 by rw [← hc]; exact hy6)
  obtain ⟨y4, hy4⟩ : ∃ y, mkZ (p 78) 4 = y := ⟨_, rfl⟩
  have HY4 := Lib.hid (show mkZ (c : Int) 4 = y4 by rw [← hc]; exact hy4)
  have e6 : stB p (n : Int) 6 = (p (1 + n) == y6) := by rw [← hy6]; rfl
  have e4 : stB p (u : Int) 4 = (p (1 + u) == y4) := by rw [← hy4]; rfl
  have HC0 := Lib.hid hc0
  have g6 : (p (1 + n) != y6) = false := by rw [e6] at h6; rw [bne, h6]; rfl
  have gd : decide ((n : Int) < (u : Int)) = false := hd
  have gd2 : decide (n < u) = false := by rw [← hd, decide_eq_decide]; omega
  have hsd : sdN (n : Int) (u : Int) = 1 := by unfold sdN; rw [hd]; rfl
  obtain ⟨r, hr⟩ : ∃ r, p (79 + c * 2 + 1) = r := ⟨_, rfl⟩
  have hro : roP p (sdN (n : Int) (u : Int)) = r := by rw [hsd]; unfold roP; rw [hc]; exact hr
  obtain ⟨r0, r1⟩ := hp.rook (79 + c * 2 + 1) (by omega) (by omega)
  rw [hr] at r0 r1
  have HRk := Lib.hid (show ∀ (w : World) {b : Nat}, Row w b p → w.cell? ⟨b, 79 + c * 2 + 1, none⟩ = some (.int .i8 r) from fun w b h => by
    rw [h.cell (79 + c * 2 + 1) (by omega), hr]
    have a : c = 0 ∨ c = 1 := by omega
    rcases a with rfl | rfl <;> rfl)
  rw [hc] at q1
  have gq : ((n : Int) != 56 * (c : Int) + 4) = true := by rw [bne, q1]; rfl
  have HS := Lib.hid (show csR p n u = [] by unfold csR cdB; rw [h6, h0, hc, q1]; rfl)
  have HLive := Lib.hid trivial
  have HLive2 := Lib.hid trivial
  clear hp hs hn hu hc hy6 hy4 e6 e4 h6 hd hsd hro hr
  go_enter Tryd.func20, Tryd.ntmps20
  go_wp2_with (first
      | (refine step_box rfl _ rfl p rfl ?_; intro b0 w1 N R; have HB := Lib.hid (HB.out.trans (N.below.mono HB.out.size)); have HR := Lib.hid R; clear N R)
      | (refine blk_box rfl 33 _ rfl (mvA ⟨(n : Int), (u : Int), pr, dr, ca⟩) rfl ?_; intro b1 w2 N R; have HR := Lib.hid (HR.out.later N.below); have HB := Lib.hid (HB.out.trans (N.below.mono HB.out.size)); have HM := Lib.hid R; clear N R)
      | (refine step_get rfl 5 _ rfl b0 78 rfl Tryd.underlying5 rfl (.int .u8 (c : Int)) ?_ ?_; exact (HR.out.cell 78 (by decide)).trans (by rw [HCt.out]; rfl)))
  refine late_begin 9 (by kernel_rfl) ?_
  refine late_take 0 (by kernel_rfl) (by kernel_rfl) (by kernel_rfl) (by kernel_rfl) (by kernel_rfl) (fun _ _ d _ _ h => by cases d <;> exact h) (fun o ho => ?_)
  simp only [List.getElem?_toArray, List.getElem?_cons_zero, List.getElem?_cons_succ, Option.some.injEq] at ho; subst ho
  apply Exists.intro
  refine ⟨Or.inl ⟨by kernel_rfl, fun w' hl => Or.inl ?_⟩, ?_⟩
  · (go_simp; try with_reducible rfl)
  simp only [Act.put, List.setIfInBounds_toArray, List.set_cons_zero, List.set_cons_succ]
  refine late_take 1 (by kernel_rfl) (by kernel_rfl) (by kernel_rfl) (by kernel_rfl) (by kernel_rfl) (fun _ _ d _ _ h => by cases d <;> exact h) (fun o ho => ?_)
  simp only [List.getElem?_toArray, List.getElem?_cons_zero, List.getElem?_cons_succ, Option.some.injEq] at ho; subst ho
  refine ⟨_, Or.inl ⟨by kernel_rfl, fun w' hl => Or.inl (run_get 26 _ rfl b1 (0) rfl Tryd.underlying26 rfl (.int .i8 (n : Int)) ((HM.out.later hl).cell 0))⟩, ?_⟩
  simp only [Act.put, List.setIfInBounds_toArray, List.set_cons_zero, List.set_cons_succ]
  refine late_take 2 (by kernel_rfl) (by kernel_rfl) (by kernel_rfl) (by kernel_rfl) (by kernel_rfl) (fun _ _ d _ _ h => by cases d <;> exact h) (fun o ho => ?_)
  simp only [List.getElem?_toArray, List.getElem?_cons_zero, List.getElem?_cons_succ, Option.some.injEq] at ho; subst ho
  apply Exists.intro
  refine ⟨Or.inl ⟨by kernel_rfl, fun w' hl => Or.inl ?_⟩, ?_⟩
  · (go_simp; try with_reducible rfl)
  simp only [Act.put, List.setIfInBounds_toArray, List.set_cons_zero, List.set_cons_succ]
  refine late_take 3 (by kernel_rfl) (by kernel_rfl) (by kernel_rfl) (by kernel_rfl) (by kernel_rfl) (fun _ _ d _ _ h => by cases d <;> exact h) (fun o ho => ?_)
  simp only [List.getElem?_toArray, List.getElem?_cons_zero, List.getElem?_cons_succ, Option.some.injEq] at ho; subst ho
  apply Exists.intro
  refine ⟨Or.inl ⟨by kernel_rfl, fun w' hl => Or.inl ?_⟩, ?_⟩
  · (go_simp; try with_reducible rfl)
  simp only [Act.put, List.setIfInBounds_toArray, List.set_cons_zero, List.set_cons_succ]
  refine late_take 4 (by kernel_rfl) (by kernel_rfl) (by kernel_rfl) (by kernel_rfl) (by kernel_rfl) (fun _ _ d _ _ h => by cases d <;> exact h) (fun o ho => ?_)
  simp only [List.getElem?_toArray, List.getElem?_cons_zero, List.getElem?_cons_succ, Option.some.injEq] at ho; subst ho
  refine ⟨.int .u8 (p (1 + n)), Or.inl ⟨by kernel_rfl, fun w' hl => Or.inl (run_get 5 _ rfl b0 (1 + n) rfl Tryd.underlying5 rfl (.int .u8 (p (1 + n))) (((HR.out.later hl).cell (1 + n) (by have := HN.out; have := HU.out; omega)).trans (by rw [HK1.out])))⟩, ?_⟩
  simp only [Act.put, List.setIfInBounds_toArray, List.set_cons_zero, List.set_cons_succ]
  refine late_take 5 (by kernel_rfl) (by kernel_rfl) (by kernel_rfl) (by kernel_rfl) (by kernel_rfl) (fun _ _ d _ _ h => by cases d <;> exact h) (fun o ho => ?_)
  simp only [List.getElem?_toArray, List.getElem?_cons_zero, List.getElem?_cons_succ, Option.some.injEq] at ho; subst ho
  apply Exists.intro
  refine ⟨Or.inl ⟨by kernel_rfl, fun w' hl => Or.inl ?_⟩, ?_⟩
  · (go_simp; try with_reducible rfl)
  simp only [Act.put, List.setIfInBounds_toArray, List.set_cons_zero, List.set_cons_succ]
  refine late_take 6 (by kernel_rfl) (by kernel_rfl) (by kernel_rfl) (by kernel_rfl) (by kernel_rfl) (fun _ _ d _ _ h => by cases d <;> exact h) (fun o ho => ?_)
  simp only [List.getElem?_toArray, List.getElem?_cons_zero, List.getElem?_cons_succ, Option.some.injEq] at ho; subst ho
  refine ⟨.int .u8 (c : Int), Or.inl ⟨by kernel_rfl, fun w' hl => Or.inl (run_get 5 _ rfl b0 78 rfl Tryd.underlying5 rfl (.int .u8 (c : Int)) (by rw [(HR.out.later hl).cell 78 (by decide), HCt.out]; rfl))⟩, ?_⟩
  simp only [Act.put, List.setIfInBounds_toArray, List.set_cons_zero, List.set_cons_succ]
  refine late_one 7 (by kernel_rfl) (by kernel_rfl) (fun o ho => ?_)
  simp only [List.getElem?_toArray, List.getElem?_cons_zero, List.getElem?_cons_succ, Option.some.injEq] at ho; subst ho
  refine ⟨by kernel_rfl, fun wn hl K hK => ?_⟩
  have HR := Lib.hid (HR.out.later hl); have HM := Lib.hid (HM.out.later hl); have HB := Lib.hid (below_on HB.out hl); clear hl
  refine wp_enter _ _ (by go_simp; exact ⟨rfl, rfl⟩) ?_
  refine (rmk_any (c : Int) 6 _ HC0.out).mono ?_; rintro e wm ⟨rfl, hb⟩; refine ⟨_, rfl, ?_⟩
  rw [HY6.out]
  refine hK.out _ _ hb ?_
  have HR := Lib.hid (HR.out.later hb); have HM := Lib.hid (HM.out.later hb); have HB := Lib.hid (below_on HB.out hb); clear hb
  clear hK K
  simp only [Act.put, List.setIfInBounds_toArray, List.set_cons_zero, List.set_cons_succ]
  refine late_take 8 (by kernel_rfl) (by kernel_rfl) (by kernel_rfl) (by kernel_rfl) (by kernel_rfl) (fun _ _ d _ _ h => by cases d <;> exact h) (fun o ho => ?_)
  simp only [List.getElem?_toArray, List.getElem?_cons_zero, List.getElem?_cons_succ, Option.some.injEq] at ho; subst ho
  refine ⟨.bool false, Or.inl ⟨by kernel_rfl, fun w' hl => Or.inl ?_⟩, ?_⟩
  · (go_simp; try simp [g6])
  simp only [Act.put, List.setIfInBounds_toArray, List.set_cons_zero, List.set_cons_succ]
  refine late_end (by kernel_rfl) (fun wn hl => ?_)
  have HR := Lib.hid (HR.out.later hl); have HM := Lib.hid (HM.out.later hl); have HB := Lib.hid (below_on HB.out hl); clear hl
  go_wp2_with (first
      | (have HL9 := HLive; clear HL9; refine step_get rfl 5 _ rfl b0 0 rfl Tryd.underlying5 rfl (.int .u8 (p 0)) ?_ ?_; exact HR.out.cell 0 (by decide))
      | (have HL9 := HLive; clear HL9; refine step_get rfl 26 _ rfl b1 0 rfl Tryd.underlying26 rfl (.int .i8 (n : Int)) ?_ ?_; exact HM.out.cell 0)
      | (have HL9 := HLive; clear HL9; refine step_get rfl 26 _ rfl b1 1 rfl Tryd.underlying26 rfl (.int .i8 (u : Int)) ?_ ?_; exact HM.out.cell 1)
      | (have HL9 := HLive; clear HL9; refine step_get rfl 5 _ rfl b0 78 rfl Tryd.underlying5 rfl (.int .u8 (c : Int)) ?_ ?_; exact (HR.out.cell 78 (by decide)).trans (by rw [HCt.out]; rfl))
      | (clear HLive; refine step_get rfl 26 _ rfl b0 (79 + c * 2 + 1) rfl Tryd.underlying26 rfl (.int .i8 r) ?_ ?_; exact HRk.out _ HR.out)
      | (clear HLive2; refine step_get rfl 26 _ rfl b1 0 rfl Tryd.underlying26 rfl (.int .i8 (n : Int)) ?_ ?_; exact HM.out.cell 0))
  go_ret
  exact ⟨by rw [HS.out]; rfl, HB.out⟩
set_option maxRecDepth 100000 in
set_option maxHeartbeats 1000000 in
theorem rcas_b1 (p : Nat → Int) (n u : Nat) (pr dr : Int) (ca : Bool) (w : World) (hp : FitM p) (hs : smB p = true) (hn : n < 64) (hu : u < 64) (h6 : stB p (n : Int) 6 = true) (h0 : (p 0 == 1) = false) (hd : decide ((n : Int) < (u : Int)) = false) (q1 : ((n : Int) == 56 * p 78 + 4) = true) (q2 : decide (roP p (sdN (n : Int) (u : Int)) < 0) = true) : Calls Tryd.prog 20 #[.agg (posA p), .agg (mvA ⟨(n : Int), (u : Int), pr, dr, ca⟩)] w (StL (bz (csR p n u)) w) := by
  have HB := Lib.hid (Below.refl w.heap.size w)
  have HT0 := Lib.hid hp.turn.1
  obtain ⟨c, hc⟩ : ∃ c : Nat, p 78 = (c : Int) := Int.eq_ofNat_of_zero_le hp.turn.1
  have hc2 : c < 2 := by have := smB_turn hs hp.turn.1; omega
  have hc3 : (c : Int) < 2 := by omega
  have hc0 : (0 : Int) ≤ (c : Int) := by omega
  have HCt := Lib.hid hc
  have n0 : (0 : Int) ≤ (n : Int) := by omega
  have n1 : (n : Int) < 64 := by omega
  have u0 : (0 : Int) ≤ (u : Int) := by omega
  have u1 : (u : Int) < 64 := by omega
  have HN := Lib.hid hn
  have HU := Lib.hid hu
  have HK1 := Lib.hid (kAt_board (Nat.zero_le _) hn)
  have HK2 := Lib.hid (kAt_board (Nat.zero_le _) hu)
  obtain ⟨y6, hy6⟩ : ∃ y, mkZ (p 78) 6 = y := ⟨_, rfl⟩
  have HY6 := Lib.hid (show mkZ (c : Int) 6 = y6 by rw [← hc]; exact hy6)
  obtain ⟨y4, hy4⟩ : ∃ y, mkZ (p 78) 4 = y := ⟨_, rfl⟩
  have HY4 := Lib.hid (show mkZ (c : Int) 4 = y4 by rw [← hc]; exact hy4)
  have e6 : stB p (n : Int) 6 = (p (1 + n) == y6) := by rw [← hy6]; rfl
  have e4 : stB p (u : Int) 4 = (p (1 + u) == y4) := by rw [← hy4]; rfl
  have HC0 := Lib.hid hc0
  have g6 : (p (1 + n) != y6) = false := by rw [e6] at h6; rw [bne, h6]; rfl
  have gd : decide ((n : Int) < (u : Int)) = false := hd
  have gd2 : decide (n < u) = false := by rw [← hd, decide_eq_decide]; omega
  have hsd : sdN (n : Int) (u : Int) = 1 := by unfold sdN; rw [hd]; rfl
  obtain ⟨r, hr⟩ : ∃ r, p (79 + c * 2 + 1) = r := ⟨_, rfl⟩
  have hro : roP p (sdN (n : Int) (u : Int)) = r := by rw [hsd]; unfold roP; rw [hc]; exact hr
  obtain ⟨r0, r1⟩ := hp.rook (79 + c * 2 + 1) (by omega) (by omega)
  rw [hr] at r0 r1
  have HRk := Lib.hid (show ∀ (w : World) {b : Nat}, Row w b p → w.cell? ⟨b, 79 + c * 2 + 1, none⟩ = some (.int .i8 r) from fun w b h => by
    rw [h.cell (79 + c * 2 + 1) (by omega), hr]
    have a : c = 0 ∨ c = 1 := by omega
    rcases a with rfl | rfl <;> rfl)
  rw [hro] at q2
  rw [hc] at q1
  have gq : ((n : Int) != 56 * (c : Int) + 4) = false := by rw [bne, q1]; rfl
  have HS := Lib.hid (show csR p n u = [] by unfold csR cdB; rw [h6, h0, hc, q1, hro, show lnB r = false by rw [← Bool.not_eq_true, lnB_true]; intro h; have := of_decide_eq_true q2; omega]; rfl)
  have HLive := Lib.hid trivial
  have HLive2 := Lib.hid trivial
  clear hp hs hn hu hc hy6 hy4 e6 e4 h6 hd hsd hro hr
  go_enter Tryd.func20, Tryd.ntmps20
  go_wp2_with (first
      | (refine step_box rfl _ rfl p rfl ?_; intro b0 w1 N R; have HB := Lib.hid (HB.out.trans (N.below.mono HB.out.size)); have HR := Lib.hid R; clear N R)
      | (refine blk_box rfl 33 _ rfl (mvA ⟨(n : Int), (u : Int), pr, dr, ca⟩) rfl ?_; intro b1 w2 N R; have HR := Lib.hid (HR.out.later N.below); have HB := Lib.hid (HB.out.trans (N.below.mono HB.out.size)); have HM := Lib.hid R; clear N R)
      | (refine step_get rfl 5 _ rfl b0 78 rfl Tryd.underlying5 rfl (.int .u8 (c : Int)) ?_ ?_; exact (HR.out.cell 78 (by decide)).trans (by rw [HCt.out]; rfl)))
  refine late_begin 9 (by kernel_rfl) ?_
  refine late_take 0 (by kernel_rfl) (by kernel_rfl) (by kernel_rfl) (by kernel_rfl) (by kernel_rfl) (fun _ _ d _ _ h => by cases d <;> exact h) (fun o ho => ?_)
  simp only [List.getElem?_toArray, List.getElem?_cons_zero, List.getElem?_cons_succ, Option.some.injEq] at ho; subst ho
  apply Exists.intro
  refine ⟨Or.inl ⟨by kernel_rfl, fun w' hl => Or.inl ?_⟩, ?_⟩
  · (go_simp; try with_reducible rfl)
  simp only [Act.put, List.setIfInBounds_toArray, List.set_cons_zero, List.set_cons_succ]
  refine late_take 1 (by kernel_rfl) (by kernel_rfl) (by kernel_rfl) (by kernel_rfl) (by kernel_rfl) (fun _ _ d _ _ h => by cases d <;> exact h) (fun o ho => ?_)
  simp only [List.getElem?_toArray, List.getElem?_cons_zero, List.getElem?_cons_succ, Option.some.injEq] at ho; subst ho
  refine ⟨_, Or.inl ⟨by kernel_rfl, fun w' hl => Or.inl (run_get 26 _ rfl b1 (0) rfl Tryd.underlying26 rfl (.int .i8 (n : Int)) ((HM.out.later hl).cell 0))⟩, ?_⟩
  simp only [Act.put, List.setIfInBounds_toArray, List.set_cons_zero, List.set_cons_succ]
  refine late_take 2 (by kernel_rfl) (by kernel_rfl) (by kernel_rfl) (by kernel_rfl) (by kernel_rfl) (fun _ _ d _ _ h => by cases d <;> exact h) (fun o ho => ?_)
  simp only [List.getElem?_toArray, List.getElem?_cons_zero, List.getElem?_cons_succ, Option.some.injEq] at ho; subst ho
  apply Exists.intro
  refine ⟨Or.inl ⟨by kernel_rfl, fun w' hl => Or.inl ?_⟩, ?_⟩
  · (go_simp; try with_reducible rfl)
  simp only [Act.put, List.setIfInBounds_toArray, List.set_cons_zero, List.set_cons_succ]
  refine late_take 3 (by kernel_rfl) (by kernel_rfl) (by kernel_rfl) (by kernel_rfl) (by kernel_rfl) (fun _ _ d _ _ h => by cases d <;> exact h) (fun o ho => ?_)
  simp only [List.getElem?_toArray, List.getElem?_cons_zero, List.getElem?_cons_succ, Option.some.injEq] at ho; subst ho
  apply Exists.intro
  refine ⟨Or.inl ⟨by kernel_rfl, fun w' hl => Or.inl ?_⟩, ?_⟩
  · (go_simp; try with_reducible rfl)
  simp only [Act.put, List.setIfInBounds_toArray, List.set_cons_zero, List.set_cons_succ]
  refine late_take 4 (by kernel_rfl) (by kernel_rfl) (by kernel_rfl) (by kernel_rfl) (by kernel_rfl) (fun _ _ d _ _ h => by cases d <;> exact h) (fun o ho => ?_)
  simp only [List.getElem?_toArray, List.getElem?_cons_zero, List.getElem?_cons_succ, Option.some.injEq] at ho; subst ho
  refine ⟨.int .u8 (p (1 + n)), Or.inl ⟨by kernel_rfl, fun w' hl => Or.inl (run_get 5 _ rfl b0 (1 + n) rfl Tryd.underlying5 rfl (.int .u8 (p (1 + n))) (((HR.out.later hl).cell (1 + n) (by have := HN.out; have := HU.out; omega)).trans (by rw [HK1.out])))⟩, ?_⟩
  simp only [Act.put, List.setIfInBounds_toArray, List.set_cons_zero, List.set_cons_succ]
  refine late_take 5 (by kernel_rfl) (by kernel_rfl) (by kernel_rfl) (by kernel_rfl) (by kernel_rfl) (fun _ _ d _ _ h => by cases d <;> exact h) (fun o ho => ?_)
  simp only [List.getElem?_toArray, List.getElem?_cons_zero, List.getElem?_cons_succ, Option.some.injEq] at ho; subst ho
  apply Exists.intro
  refine ⟨Or.inl ⟨by kernel_rfl, fun w' hl => Or.inl ?_⟩, ?_⟩
  · (go_simp; try with_reducible rfl)
  simp only [Act.put, List.setIfInBounds_toArray, List.set_cons_zero, List.set_cons_succ]
  refine late_take 6 (by kernel_rfl) (by kernel_rfl) (by kernel_rfl) (by kernel_rfl) (by kernel_rfl) (fun _ _ d _ _ h => by cases d <;> exact h) (fun o ho => ?_)
  simp only [List.getElem?_toArray, List.getElem?_cons_zero, List.getElem?_cons_succ, Option.some.injEq] at ho; subst ho
  refine ⟨.int .u8 (c : Int), Or.inl ⟨by kernel_rfl, fun w' hl => Or.inl (run_get 5 _ rfl b0 78 rfl Tryd.underlying5 rfl (.int .u8 (c : Int)) (by rw [(HR.out.later hl).cell 78 (by decide), HCt.out]; rfl))⟩, ?_⟩
  simp only [Act.put, List.setIfInBounds_toArray, List.set_cons_zero, List.set_cons_succ]
  refine late_one 7 (by kernel_rfl) (by kernel_rfl) (fun o ho => ?_)
  simp only [List.getElem?_toArray, List.getElem?_cons_zero, List.getElem?_cons_succ, Option.some.injEq] at ho; subst ho
  refine ⟨by kernel_rfl, fun wn hl K hK => ?_⟩
  have HR := Lib.hid (HR.out.later hl); have HM := Lib.hid (HM.out.later hl); have HB := Lib.hid (below_on HB.out hl); clear hl
  refine wp_enter _ _ (by go_simp; exact ⟨rfl, rfl⟩) ?_
  refine (rmk_any (c : Int) 6 _ HC0.out).mono ?_; rintro e wm ⟨rfl, hb⟩; refine ⟨_, rfl, ?_⟩
  rw [HY6.out]
  refine hK.out _ _ hb ?_
  have HR := Lib.hid (HR.out.later hb); have HM := Lib.hid (HM.out.later hb); have HB := Lib.hid (below_on HB.out hb); clear hb
  clear hK K
  simp only [Act.put, List.setIfInBounds_toArray, List.set_cons_zero, List.set_cons_succ]
  refine late_take 8 (by kernel_rfl) (by kernel_rfl) (by kernel_rfl) (by kernel_rfl) (by kernel_rfl) (fun _ _ d _ _ h => by cases d <;> exact h) (fun o ho => ?_)
  simp only [List.getElem?_toArray, List.getElem?_cons_zero, List.getElem?_cons_succ, Option.some.injEq] at ho; subst ho
  refine ⟨.bool false, Or.inl ⟨by kernel_rfl, fun w' hl => Or.inl ?_⟩, ?_⟩
  · (go_simp; try simp [g6])
  simp only [Act.put, List.setIfInBounds_toArray, List.set_cons_zero, List.set_cons_succ]
  refine late_end (by kernel_rfl) (fun wn hl => ?_)
  have HR := Lib.hid (HR.out.later hl); have HM := Lib.hid (HM.out.later hl); have HB := Lib.hid (below_on HB.out hl); clear hl
  go_wp2_with (first
      | (have HL9 := HLive; clear HL9; refine step_get rfl 5 _ rfl b0 0 rfl Tryd.underlying5 rfl (.int .u8 (p 0)) ?_ ?_; exact HR.out.cell 0 (by decide))
      | (have HL9 := HLive; clear HL9; refine step_get rfl 26 _ rfl b1 0 rfl Tryd.underlying26 rfl (.int .i8 (n : Int)) ?_ ?_; exact HM.out.cell 0)
      | (have HL9 := HLive; clear HL9; refine step_get rfl 26 _ rfl b1 1 rfl Tryd.underlying26 rfl (.int .i8 (u : Int)) ?_ ?_; exact HM.out.cell 1)
      | (have HL9 := HLive; clear HL9; refine step_get rfl 5 _ rfl b0 78 rfl Tryd.underlying5 rfl (.int .u8 (c : Int)) ?_ ?_; exact (HR.out.cell 78 (by decide)).trans (by rw [HCt.out]; rfl))
      | (clear HLive; refine step_get rfl 26 _ rfl b0 (79 + c * 2 + 1) rfl Tryd.underlying26 rfl (.int .i8 r) ?_ ?_; exact HRk.out _ HR.out)
      | (clear HLive2; refine step_get rfl 26 _ rfl b1 0 rfl Tryd.underlying26 rfl (.int .i8 (n : Int)) ?_ ?_; exact HM.out.cell 0))
  go_ret
  exact ⟨by rw [HS.out]; rfl, HB.out⟩
set_option maxRecDepth 100000 in
set_option maxHeartbeats 1000000 in
theorem rcas_c1 (p : Nat → Int) (n u : Nat) (pr dr : Int) (ca : Bool) (w : World) (hp : FitM p) (hs : smB p = true) (hn : n < 64) (hu : u < 64) (h6 : stB p (n : Int) 6 = true) (h0 : (p 0 == 1) = false) (hd : decide ((n : Int) < (u : Int)) = false) (q1 : ((n : Int) == 56 * p 78 + 4) = true) (q2 : decide (roP p (sdN (n : Int) (u : Int)) < 0) = false) (q3 : decide (7 < roP p (sdN (n : Int) (u : Int))) = true) : Calls Tryd.prog 20 #[.agg (posA p), .agg (mvA ⟨(n : Int), (u : Int), pr, dr, ca⟩)] w (StL (bz (csR p n u)) w) := by
  have HB := Lib.hid (Below.refl w.heap.size w)
  have HT0 := Lib.hid hp.turn.1
  obtain ⟨c, hc⟩ : ∃ c : Nat, p 78 = (c : Int) := Int.eq_ofNat_of_zero_le hp.turn.1
  have hc2 : c < 2 := by have := smB_turn hs hp.turn.1; omega
  have hc3 : (c : Int) < 2 := by omega
  have hc0 : (0 : Int) ≤ (c : Int) := by omega
  have HCt := Lib.hid hc
  have n0 : (0 : Int) ≤ (n : Int) := by omega
  have n1 : (n : Int) < 64 := by omega
  have u0 : (0 : Int) ≤ (u : Int) := by omega
  have u1 : (u : Int) < 64 := by omega
  have HN := Lib.hid hn
  have HU := Lib.hid hu
  have HK1 := Lib.hid (kAt_board (Nat.zero_le _) hn)
  have HK2 := Lib.hid (kAt_board (Nat.zero_le _) hu)
  obtain ⟨y6, hy6⟩ : ∃ y, mkZ (p 78) 6 = y := ⟨_, rfl⟩
  have HY6 := Lib.hid (show mkZ (c : Int) 6 = y6 by rw [← hc]; exact hy6)
  obtain ⟨y4, hy4⟩ : ∃ y, mkZ (p 78) 4 = y := ⟨_, rfl⟩
  have HY4 := Lib.hid (show mkZ (c : Int) 4 = y4 by rw [← hc]; exact hy4)
  have e6 : stB p (n : Int) 6 = (p (1 + n) == y6) := by rw [← hy6]; rfl
  have e4 : stB p (u : Int) 4 = (p (1 + u) == y4) := by rw [← hy4]; rfl
  have HC0 := Lib.hid hc0
  have g6 : (p (1 + n) != y6) = false := by rw [e6] at h6; rw [bne, h6]; rfl
  have gd : decide ((n : Int) < (u : Int)) = false := hd
  have gd2 : decide (n < u) = false := by rw [← hd, decide_eq_decide]; omega
  have hsd : sdN (n : Int) (u : Int) = 1 := by unfold sdN; rw [hd]; rfl
  obtain ⟨r, hr⟩ : ∃ r, p (79 + c * 2 + 1) = r := ⟨_, rfl⟩
  have hro : roP p (sdN (n : Int) (u : Int)) = r := by rw [hsd]; unfold roP; rw [hc]; exact hr
  obtain ⟨r0, r1⟩ := hp.rook (79 + c * 2 + 1) (by omega) (by omega)
  rw [hr] at r0 r1
  have HRk := Lib.hid (show ∀ (w : World) {b : Nat}, Row w b p → w.cell? ⟨b, 79 + c * 2 + 1, none⟩ = some (.int .i8 r) from fun w b h => by
    rw [h.cell (79 + c * 2 + 1) (by omega), hr]
    have a : c = 0 ∨ c = 1 := by omega
    rcases a with rfl | rfl <;> rfl)
  rw [hro] at q2 q3
  rw [hc] at q1
  have gq : ((n : Int) != 56 * (c : Int) + 4) = false := by rw [bne, q1]; rfl
  have HS := Lib.hid (show csR p n u = [] by unfold csR cdB; rw [h6, h0, hc, q1, hro, show lnB r = false by rw [← Bool.not_eq_true, lnB_true]; intro h; have := of_decide_eq_true q3; omega]; rfl)
  have HLive := Lib.hid trivial
  have HLive2 := Lib.hid trivial
  clear hp hs hn hu hc hy6 hy4 e6 e4 h6 hd hsd hro hr
  go_enter Tryd.func20, Tryd.ntmps20
  go_wp2_with (first
      | (refine step_box rfl _ rfl p rfl ?_; intro b0 w1 N R; have HB := Lib.hid (HB.out.trans (N.below.mono HB.out.size)); have HR := Lib.hid R; clear N R)
      | (refine blk_box rfl 33 _ rfl (mvA ⟨(n : Int), (u : Int), pr, dr, ca⟩) rfl ?_; intro b1 w2 N R; have HR := Lib.hid (HR.out.later N.below); have HB := Lib.hid (HB.out.trans (N.below.mono HB.out.size)); have HM := Lib.hid R; clear N R)
      | (refine step_get rfl 5 _ rfl b0 78 rfl Tryd.underlying5 rfl (.int .u8 (c : Int)) ?_ ?_; exact (HR.out.cell 78 (by decide)).trans (by rw [HCt.out]; rfl)))
  refine late_begin 9 (by kernel_rfl) ?_
  refine late_take 0 (by kernel_rfl) (by kernel_rfl) (by kernel_rfl) (by kernel_rfl) (by kernel_rfl) (fun _ _ d _ _ h => by cases d <;> exact h) (fun o ho => ?_)
  simp only [List.getElem?_toArray, List.getElem?_cons_zero, List.getElem?_cons_succ, Option.some.injEq] at ho; subst ho
  apply Exists.intro
  refine ⟨Or.inl ⟨by kernel_rfl, fun w' hl => Or.inl ?_⟩, ?_⟩
  · (go_simp; try with_reducible rfl)
  simp only [Act.put, List.setIfInBounds_toArray, List.set_cons_zero, List.set_cons_succ]
  refine late_take 1 (by kernel_rfl) (by kernel_rfl) (by kernel_rfl) (by kernel_rfl) (by kernel_rfl) (fun _ _ d _ _ h => by cases d <;> exact h) (fun o ho => ?_)
  simp only [List.getElem?_toArray, List.getElem?_cons_zero, List.getElem?_cons_succ, Option.some.injEq] at ho; subst ho
  refine ⟨_, Or.inl ⟨by kernel_rfl, fun w' hl => Or.inl (run_get 26 _ rfl b1 (0) rfl Tryd.underlying26 rfl (.int .i8 (n : Int)) ((HM.out.later hl).cell 0))⟩, ?_⟩
  simp only [Act.put, List.setIfInBounds_toArray, List.set_cons_zero, List.set_cons_succ]
  refine late_take 2 (by kernel_rfl) (by kernel_rfl) (by kernel_rfl) (by kernel_rfl) (by kernel_rfl) (fun _ _ d _ _ h => by cases d <;> exact h) (fun o ho => ?_)
  simp only [List.getElem?_toArray, List.getElem?_cons_zero, List.getElem?_cons_succ, Option.some.injEq] at ho; subst ho
  apply Exists.intro
  refine ⟨Or.inl ⟨by kernel_rfl, fun w' hl => Or.inl ?_⟩, ?_⟩
  · (go_simp; try with_reducible rfl)
  simp only [Act.put, List.setIfInBounds_toArray, List.set_cons_zero, List.set_cons_succ]
  refine late_take 3 (by kernel_rfl) (by kernel_rfl) (by kernel_rfl) (by kernel_rfl) (by kernel_rfl) (fun _ _ d _ _ h => by cases d <;> exact h) (fun o ho => ?_)
  simp only [List.getElem?_toArray, List.getElem?_cons_zero, List.getElem?_cons_succ, Option.some.injEq] at ho; subst ho
  apply Exists.intro
  refine ⟨Or.inl ⟨by kernel_rfl, fun w' hl => Or.inl ?_⟩, ?_⟩
  · (go_simp; try with_reducible rfl)
  simp only [Act.put, List.setIfInBounds_toArray, List.set_cons_zero, List.set_cons_succ]
  refine late_take 4 (by kernel_rfl) (by kernel_rfl) (by kernel_rfl) (by kernel_rfl) (by kernel_rfl) (fun _ _ d _ _ h => by cases d <;> exact h) (fun o ho => ?_)
  simp only [List.getElem?_toArray, List.getElem?_cons_zero, List.getElem?_cons_succ, Option.some.injEq] at ho; subst ho
  refine ⟨.int .u8 (p (1 + n)), Or.inl ⟨by kernel_rfl, fun w' hl => Or.inl (run_get 5 _ rfl b0 (1 + n) rfl Tryd.underlying5 rfl (.int .u8 (p (1 + n))) (((HR.out.later hl).cell (1 + n) (by have := HN.out; have := HU.out; omega)).trans (by rw [HK1.out])))⟩, ?_⟩
  simp only [Act.put, List.setIfInBounds_toArray, List.set_cons_zero, List.set_cons_succ]
  refine late_take 5 (by kernel_rfl) (by kernel_rfl) (by kernel_rfl) (by kernel_rfl) (by kernel_rfl) (fun _ _ d _ _ h => by cases d <;> exact h) (fun o ho => ?_)
  simp only [List.getElem?_toArray, List.getElem?_cons_zero, List.getElem?_cons_succ, Option.some.injEq] at ho; subst ho
  apply Exists.intro
  refine ⟨Or.inl ⟨by kernel_rfl, fun w' hl => Or.inl ?_⟩, ?_⟩
  · (go_simp; try with_reducible rfl)
  simp only [Act.put, List.setIfInBounds_toArray, List.set_cons_zero, List.set_cons_succ]
  refine late_take 6 (by kernel_rfl) (by kernel_rfl) (by kernel_rfl) (by kernel_rfl) (by kernel_rfl) (fun _ _ d _ _ h => by cases d <;> exact h) (fun o ho => ?_)
  simp only [List.getElem?_toArray, List.getElem?_cons_zero, List.getElem?_cons_succ, Option.some.injEq] at ho; subst ho
  refine ⟨.int .u8 (c : Int), Or.inl ⟨by kernel_rfl, fun w' hl => Or.inl (run_get 5 _ rfl b0 78 rfl Tryd.underlying5 rfl (.int .u8 (c : Int)) (by rw [(HR.out.later hl).cell 78 (by decide), HCt.out]; rfl))⟩, ?_⟩
  simp only [Act.put, List.setIfInBounds_toArray, List.set_cons_zero, List.set_cons_succ]
  refine late_one 7 (by kernel_rfl) (by kernel_rfl) (fun o ho => ?_)
  simp only [List.getElem?_toArray, List.getElem?_cons_zero, List.getElem?_cons_succ, Option.some.injEq] at ho; subst ho
  refine ⟨by kernel_rfl, fun wn hl K hK => ?_⟩
  have HR := Lib.hid (HR.out.later hl); have HM := Lib.hid (HM.out.later hl); have HB := Lib.hid (below_on HB.out hl); clear hl
  refine wp_enter _ _ (by go_simp; exact ⟨rfl, rfl⟩) ?_
  refine (rmk_any (c : Int) 6 _ HC0.out).mono ?_; rintro e wm ⟨rfl, hb⟩; refine ⟨_, rfl, ?_⟩
  rw [HY6.out]
  refine hK.out _ _ hb ?_
  have HR := Lib.hid (HR.out.later hb); have HM := Lib.hid (HM.out.later hb); have HB := Lib.hid (below_on HB.out hb); clear hb
  clear hK K
  simp only [Act.put, List.setIfInBounds_toArray, List.set_cons_zero, List.set_cons_succ]
  refine late_take 8 (by kernel_rfl) (by kernel_rfl) (by kernel_rfl) (by kernel_rfl) (by kernel_rfl) (fun _ _ d _ _ h => by cases d <;> exact h) (fun o ho => ?_)
  simp only [List.getElem?_toArray, List.getElem?_cons_zero, List.getElem?_cons_succ, Option.some.injEq] at ho; subst ho
  refine ⟨.bool false, Or.inl ⟨by kernel_rfl, fun w' hl => Or.inl ?_⟩, ?_⟩
  · (go_simp; try simp [g6])
  simp only [Act.put, List.setIfInBounds_toArray, List.set_cons_zero, List.set_cons_succ]
  refine late_end (by kernel_rfl) (fun wn hl => ?_)
  have HR := Lib.hid (HR.out.later hl); have HM := Lib.hid (HM.out.later hl); have HB := Lib.hid (below_on HB.out hl); clear hl
  go_wp2_with (first
      | (have HL9 := HLive; clear HL9; refine step_get rfl 5 _ rfl b0 0 rfl Tryd.underlying5 rfl (.int .u8 (p 0)) ?_ ?_; exact HR.out.cell 0 (by decide))
      | (have HL9 := HLive; clear HL9; refine step_get rfl 26 _ rfl b1 0 rfl Tryd.underlying26 rfl (.int .i8 (n : Int)) ?_ ?_; exact HM.out.cell 0)
      | (have HL9 := HLive; clear HL9; refine step_get rfl 26 _ rfl b1 1 rfl Tryd.underlying26 rfl (.int .i8 (u : Int)) ?_ ?_; exact HM.out.cell 1)
      | (have HL9 := HLive; clear HL9; refine step_get rfl 5 _ rfl b0 78 rfl Tryd.underlying5 rfl (.int .u8 (c : Int)) ?_ ?_; exact (HR.out.cell 78 (by decide)).trans (by rw [HCt.out]; rfl))
      | (clear HLive; refine step_get rfl 26 _ rfl b0 (79 + c * 2 + 1) rfl Tryd.underlying26 rfl (.int .i8 r) ?_ ?_; exact HRk.out _ HR.out)
      | (clear HLive2; refine step_get rfl 26 _ rfl b1 0 rfl Tryd.underlying26 rfl (.int .i8 (n : Int)) ?_ ?_; exact HM.out.cell 0))
  go_ret
  exact ⟨by rw [HS.out]; rfl, HB.out⟩
set_option maxRecDepth 100000 in
set_option maxHeartbeats 1000000 in
theorem rcas_d1 (p : Nat → Int) (n u : Nat) (pr dr : Int) (ca : Bool) (w : World) (hp : FitM p) (hs : smB p = true) (hn : n < 64) (hu : u < 64) (h6 : stB p (n : Int) 6 = true) (h0 : (p 0 == 1) = false) (hd : decide ((n : Int) < (u : Int)) = false) (q1 : ((n : Int) == 56 * p 78 + 4) = true) (q2 : decide (roP p (sdN (n : Int) (u : Int)) < 0) = false) (q3 : decide (7 < roP p (sdN (n : Int) (u : Int))) = false) (q4 : ((u : Int) == 56 * p 78 + roP p (sdN (n : Int) (u : Int))) = false) : Calls Tryd.prog 20 #[.agg (posA p), .agg (mvA ⟨(n : Int), (u : Int), pr, dr, ca⟩)] w (StL (bz (csR p n u)) w) := by
  have HB := Lib.hid (Below.refl w.heap.size w)
  have HT0 := Lib.hid hp.turn.1
  obtain ⟨c, hc⟩ : ∃ c : Nat, p 78 = (c : Int) := Int.eq_ofNat_of_zero_le hp.turn.1
  have hc2 : c < 2 := by have := smB_turn hs hp.turn.1; omega
  have hc3 : (c : Int) < 2 := by omega
  have hc0 : (0 : Int) ≤ (c : Int) := by omega
  have HCt := Lib.hid hc
  have n0 : (0 : Int) ≤ (n : Int) := by omega
  have n1 : (n : Int) < 64 := by omega
  have u0 : (0 : Int) ≤ (u : Int) := by omega
  have u1 : (u : Int) < 64 := by omega
  have HN := Lib.hid hn
  have HU := Lib.hid hu
  have HK1 := Lib.hid (kAt_board (Nat.zero_le _) hn)
  have HK2 := Lib.hid (kAt_board (Nat.zero_le _) hu)
  obtain ⟨y6, hy6⟩ : ∃ y, mkZ (p 78) 6 = y := ⟨_, rfl⟩
  have HY6 := Lib.hid (show mkZ (c : Int) 6 = y6 by rw [← hc]; exact hy6)
  obtain ⟨y4, hy4⟩ : ∃ y, mkZ (p 78) 4 = y := ⟨_, rfl⟩
  have HY4 := Lib.hid (show mkZ (c : Int) 4 = y4 by rw [← hc]; exact hy4)
  have e6 : stB p (n : Int) 6 = (p (1 + n) == y6) := by rw [← hy6]; rfl
  have e4 : stB p (u : Int) 4 = (p (1 + u) == y4) := by rw [← hy4]; rfl
  have HC0 := Lib.hid hc0
  have g6 : (p (1 + n) != y6) = false := by rw [e6] at h6; rw [bne, h6]; rfl
  have gd : decide ((n : Int) < (u : Int)) = false := hd
  have gd2 : decide (n < u) = false := by rw [← hd, decide_eq_decide]; omega
  have hsd : sdN (n : Int) (u : Int) = 1 := by unfold sdN; rw [hd]; rfl
  obtain ⟨r, hr⟩ : ∃ r, p (79 + c * 2 + 1) = r := ⟨_, rfl⟩
  have hro : roP p (sdN (n : Int) (u : Int)) = r := by rw [hsd]; unfold roP; rw [hc]; exact hr
  obtain ⟨r0, r1⟩ := hp.rook (79 + c * 2 + 1) (by omega) (by omega)
  rw [hr] at r0 r1
  have HRk := Lib.hid (show ∀ (w : World) {b : Nat}, Row w b p → w.cell? ⟨b, 79 + c * 2 + 1, none⟩ = some (.int .i8 r) from fun w b h => by
    rw [h.cell (79 + c * 2 + 1) (by omega), hr]
    have a : c = 0 ∨ c = 1 := by omega
    rcases a with rfl | rfl <;> rfl)
  rw [hro] at q2 q3 q4
  rw [hc] at q1 q4
  have gq : ((n : Int) != 56 * (c : Int) + 4) = false := by rw [bne, q1]; rfl
  have gq4 : ((u : Int) != 56 * (c : Int) + r) = true := by rw [bne, q4]; rfl
  have HS := Lib.hid (show csR p n u = [] by unfold csR cdB; rw [h6, h0, hc, q1, hro, q4, Bool.and_false]; rfl)
  clear hp hs hn hu hc hy6 hy4 e6 e4 h6 hd hsd hro hr
  go_enter Tryd.func20, Tryd.ntmps20
  go_wp2_with (first
      | (refine step_box rfl _ rfl p rfl ?_; intro b0 w1 N R; have HB := Lib.hid (HB.out.trans (N.below.mono HB.out.size)); have HR := Lib.hid R; clear N R)
      | (refine blk_box rfl 33 _ rfl (mvA ⟨(n : Int), (u : Int), pr, dr, ca⟩) rfl ?_; intro b1 w2 N R; have HR := Lib.hid (HR.out.later N.below); have HB := Lib.hid (HB.out.trans (N.below.mono HB.out.size)); have HM := Lib.hid R; clear N R)
      | (refine step_get rfl 5 _ rfl b0 78 rfl Tryd.underlying5 rfl (.int .u8 (c : Int)) ?_ ?_; exact (HR.out.cell 78 (by decide)).trans (by rw [HCt.out]; rfl)))
  refine late_begin 9 (by kernel_rfl) ?_
  refine late_take 0 (by kernel_rfl) (by kernel_rfl) (by kernel_rfl) (by kernel_rfl) (by kernel_rfl) (fun _ _ d _ _ h => by cases d <;> exact h) (fun o ho => ?_)
  simp only [List.getElem?_toArray, List.getElem?_cons_zero, List.getElem?_cons_succ, Option.some.injEq] at ho; subst ho
  apply Exists.intro
  refine ⟨Or.inl ⟨by kernel_rfl, fun w' hl => Or.inl ?_⟩, ?_⟩
  · (go_simp; try with_reducible rfl)
  simp only [Act.put, List.setIfInBounds_toArray, List.set_cons_zero, List.set_cons_succ]
  refine late_take 1 (by kernel_rfl) (by kernel_rfl) (by kernel_rfl) (by kernel_rfl) (by kernel_rfl) (fun _ _ d _ _ h => by cases d <;> exact h) (fun o ho => ?_)
  simp only [List.getElem?_toArray, List.getElem?_cons_zero, List.getElem?_cons_succ, Option.some.injEq] at ho; subst ho
  refine ⟨_, Or.inl ⟨by kernel_rfl, fun w' hl => Or.inl (run_get 26 _ rfl b1 (0) rfl Tryd.underlying26 rfl (.int .i8 (n : Int)) ((HM.out.later hl).cell 0))⟩, ?_⟩
  simp only [Act.put, List.setIfInBounds_toArray, List.set_cons_zero, List.set_cons_succ]
  refine late_take 2 (by kernel_rfl) (by kernel_rfl) (by kernel_rfl) (by kernel_rfl) (by kernel_rfl) (fun _ _ d _ _ h => by cases d <;> exact h) (fun o ho => ?_)
  simp only [List.getElem?_toArray, List.getElem?_cons_zero, List.getElem?_cons_succ, Option.some.injEq] at ho; subst ho
  apply Exists.intro
  refine ⟨Or.inl ⟨by kernel_rfl, fun w' hl => Or.inl ?_⟩, ?_⟩
  · (go_simp; try with_reducible rfl)
  simp only [Act.put, List.setIfInBounds_toArray, List.set_cons_zero, List.set_cons_succ]
  refine late_take 3 (by kernel_rfl) (by kernel_rfl) (by kernel_rfl) (by kernel_rfl) (by kernel_rfl) (fun _ _ d _ _ h => by cases d <;> exact h) (fun o ho => ?_)
  simp only [List.getElem?_toArray, List.getElem?_cons_zero, List.getElem?_cons_succ, Option.some.injEq] at ho; subst ho
  apply Exists.intro
  refine ⟨Or.inl ⟨by kernel_rfl, fun w' hl => Or.inl ?_⟩, ?_⟩
  · (go_simp; try with_reducible rfl)
  simp only [Act.put, List.setIfInBounds_toArray, List.set_cons_zero, List.set_cons_succ]
  refine late_take 4 (by kernel_rfl) (by kernel_rfl) (by kernel_rfl) (by kernel_rfl) (by kernel_rfl) (fun _ _ d _ _ h => by cases d <;> exact h) (fun o ho => ?_)
  simp only [List.getElem?_toArray, List.getElem?_cons_zero, List.getElem?_cons_succ, Option.some.injEq] at ho; subst ho
  refine ⟨.int .u8 (p (1 + n)), Or.inl ⟨by kernel_rfl, fun w' hl => Or.inl (run_get 5 _ rfl b0 (1 + n) rfl Tryd.underlying5 rfl (.int .u8 (p (1 + n))) (((HR.out.later hl).cell (1 + n) (by have := HN.out; have := HU.out; omega)).trans (by rw [HK1.out])))⟩, ?_⟩
  simp only [Act.put, List.setIfInBounds_toArray, List.set_cons_zero, List.set_cons_succ]
  refine late_take 5 (by kernel_rfl) (by kernel_rfl) (by kernel_rfl) (by kernel_rfl) (by kernel_rfl) (fun _ _ d _ _ h => by cases d <;> exact h) (fun o ho => ?_)
  simp only [List.getElem?_toArray, List.getElem?_cons_zero, List.getElem?_cons_succ, Option.some.injEq] at ho; subst ho
  apply Exists.intro
  refine ⟨Or.inl ⟨by kernel_rfl, fun w' hl => Or.inl ?_⟩, ?_⟩
  · (go_simp; try with_reducible rfl)
  simp only [Act.put, List.setIfInBounds_toArray, List.set_cons_zero, List.set_cons_succ]
  refine late_take 6 (by kernel_rfl) (by kernel_rfl) (by kernel_rfl) (by kernel_rfl) (by kernel_rfl) (fun _ _ d _ _ h => by cases d <;> exact h) (fun o ho => ?_)
  simp only [List.getElem?_toArray, List.getElem?_cons_zero, List.getElem?_cons_succ, Option.some.injEq] at ho; subst ho
  refine ⟨.int .u8 (c : Int), Or.inl ⟨by kernel_rfl, fun w' hl => Or.inl (run_get 5 _ rfl b0 78 rfl Tryd.underlying5 rfl (.int .u8 (c : Int)) (by rw [(HR.out.later hl).cell 78 (by decide), HCt.out]; rfl))⟩, ?_⟩
  simp only [Act.put, List.setIfInBounds_toArray, List.set_cons_zero, List.set_cons_succ]
  refine late_one 7 (by kernel_rfl) (by kernel_rfl) (fun o ho => ?_)
  simp only [List.getElem?_toArray, List.getElem?_cons_zero, List.getElem?_cons_succ, Option.some.injEq] at ho; subst ho
  refine ⟨by kernel_rfl, fun wn hl K hK => ?_⟩
  have HR := Lib.hid (HR.out.later hl); have HM := Lib.hid (HM.out.later hl); have HB := Lib.hid (below_on HB.out hl); clear hl
  refine wp_enter _ _ (by go_simp; exact ⟨rfl, rfl⟩) ?_
  refine (rmk_any (c : Int) 6 _ HC0.out).mono ?_; rintro e wm ⟨rfl, hb⟩; refine ⟨_, rfl, ?_⟩
  rw [HY6.out]
  refine hK.out _ _ hb ?_
  have HR := Lib.hid (HR.out.later hb); have HM := Lib.hid (HM.out.later hb); have HB := Lib.hid (below_on HB.out hb); clear hb
  clear hK K
  simp only [Act.put, List.setIfInBounds_toArray, List.set_cons_zero, List.set_cons_succ]
  refine late_take 8 (by kernel_rfl) (by kernel_rfl) (by kernel_rfl) (by kernel_rfl) (by kernel_rfl) (fun _ _ d _ _ h => by cases d <;> exact h) (fun o ho => ?_)
  simp only [List.getElem?_toArray, List.getElem?_cons_zero, List.getElem?_cons_succ, Option.some.injEq] at ho; subst ho
  refine ⟨.bool false, Or.inl ⟨by kernel_rfl, fun w' hl => Or.inl ?_⟩, ?_⟩
  · (go_simp; try simp [g6])
  simp only [Act.put, List.setIfInBounds_toArray, List.set_cons_zero, List.set_cons_succ]
  refine late_end (by kernel_rfl) (fun wn hl => ?_)
  have HR := Lib.hid (HR.out.later hl); have HM := Lib.hid (HM.out.later hl); have HB := Lib.hid (below_on HB.out hl); clear hl
  go_wp2_with (first
      | (refine step_get rfl 5 _ rfl b0 0 rfl Tryd.underlying5 rfl (.int .u8 (p 0)) ?_ ?_; exact HR.out.cell 0 (by decide))
      | (refine step_get rfl 26 _ rfl b1 0 rfl Tryd.underlying26 rfl (.int .i8 (n : Int)) ?_ ?_; exact HM.out.cell 0)
      | (refine step_get rfl 26 _ rfl b1 1 rfl Tryd.underlying26 rfl (.int .i8 (u : Int)) ?_ ?_; exact HM.out.cell 1)
      | (refine step_get rfl 5 _ rfl b0 78 rfl Tryd.underlying5 rfl (.int .u8 (c : Int)) ?_ ?_; exact (HR.out.cell 78 (by decide)).trans (by rw [HCt.out]; rfl))
      | (refine step_get rfl 26 _ rfl b0 (79 + c * 2 + 1) rfl Tryd.underlying26 rfl (.int .i8 r) ?_ ?_; exact HRk.out _ HR.out))
  go_ret
  exact ⟨by rw [HS.out]; rfl, HB.out⟩
set_option maxRecDepth 100000 in
set_option maxHeartbeats 1000000 in
theorem rcas_e1 (p : Nat → Int) (n u : Nat) (pr dr : Int) (ca : Bool) (w : World) (hp : FitM p) (hs : smB p = true) (hn : n < 64) (hu : u < 64) (h6 : stB p (n : Int) 6 = true) (h0 : (p 0 == 1) = false) (hd : decide ((n : Int) < (u : Int)) = false) (q1 : ((n : Int) == 56 * p 78 + 4) = true) (q2 : decide (roP p (sdN (n : Int) (u : Int)) < 0) = false) (q3 : decide (7 < roP p (sdN (n : Int) (u : Int))) = false) (q4 : ((u : Int) == 56 * p 78 + roP p (sdN (n : Int) (u : Int))) = true) : Calls Tryd.prog 20 #[.agg (posA p), .agg (mvA ⟨(n : Int), (u : Int), pr, dr, ca⟩)] w (StL (bz (csR p n u)) w) := by
  have HB := Lib.hid (Below.refl w.heap.size w)
  have HT0 := Lib.hid hp.turn.1
  obtain ⟨c, hc⟩ : ∃ c : Nat, p 78 = (c : Int) := Int.eq_ofNat_of_zero_le hp.turn.1
  have hc2 : c < 2 := by have := smB_turn hs hp.turn.1; omega
  have hc3 : (c : Int) < 2 := by omega
  have hc0 : (0 : Int) ≤ (c : Int) := by omega
  have HCt := Lib.hid hc
  have n0 : (0 : Int) ≤ (n : Int) := by omega
  have n1 : (n : Int) < 64 := by omega
  have u0 : (0 : Int) ≤ (u : Int) := by omega
  have u1 : (u : Int) < 64 := by omega
  have HN := Lib.hid hn
  have HU := Lib.hid hu
  have HK1 := Lib.hid (kAt_board (Nat.zero_le _) hn)
  have HK2 := Lib.hid (kAt_board (Nat.zero_le _) hu)
  obtain ⟨y6, hy6⟩ : ∃ y, mkZ (p 78) 6 = y := ⟨_, rfl⟩
  have HY6 := Lib.hid (show mkZ (c : Int) 6 = y6 by rw [← hc]; exact hy6)
  obtain ⟨y4, hy4⟩ : ∃ y, mkZ (p 78) 4 = y := ⟨_, rfl⟩
  have HY4 := Lib.hid (show mkZ (c : Int) 4 = y4 by rw [← hc]; exact hy4)
  have e6 : stB p (n : Int) 6 = (p (1 + n) == y6) := by rw [← hy6]; rfl
  have e4 : stB p (u : Int) 4 = (p (1 + u) == y4) := by rw [← hy4]; rfl
  have HC0 := Lib.hid hc0
  have g6 : (p (1 + n) != y6) = false := by rw [e6] at h6; rw [bne, h6]; rfl
  have gd : decide ((n : Int) < (u : Int)) = false := hd
  have gd2 : decide (n < u) = false := by rw [← hd, decide_eq_decide]; omega
  have hsd : sdN (n : Int) (u : Int) = 1 := by unfold sdN; rw [hd]; rfl
  obtain ⟨r, hr⟩ : ∃ r, p (79 + c * 2 + 1) = r := ⟨_, rfl⟩
  have hro : roP p (sdN (n : Int) (u : Int)) = r := by rw [hsd]; unfold roP; rw [hc]; exact hr
  obtain ⟨r0, r1⟩ := hp.rook (79 + c * 2 + 1) (by omega) (by omega)
  rw [hr] at r0 r1
  have HRk := Lib.hid (show ∀ (w : World) {b : Nat}, Row w b p → w.cell? ⟨b, 79 + c * 2 + 1, none⟩ = some (.int .i8 r) from fun w b h => by
    rw [h.cell (79 + c * 2 + 1) (by omega), hr]
    have a : c = 0 ∨ c = 1 := by omega
    rcases a with rfl | rfl <;> rfl)
  rw [hro] at q2 q3 q4
  rw [hc] at q1 q4
  have gq : ((n : Int) != 56 * (c : Int) + 4) = false := by rw [bne, q1]; rfl
  have gq4 : ((u : Int) != 56 * (c : Int) + r) = false := by rw [bne, q4]; rfl
  have HS := Lib.hid (show csR p n u = sqM n ++ sqM (56 * (c : Int) + 2) by unfold csR cdB; rw [h6, h0, hc, q1, hro, q4, show lnB r = true by rw [lnB_true]; have := of_decide_eq_false q2; have := of_decide_eq_false q3; omega, hsd]; rfl)
  have w8 : IntKind.i8.wrap (56 * (c : Int) + 2) = 56 * (c : Int) + 2 := IntWalk.i8_in _ (by omega)
  clear hp hs hn hu hc hy6 hy4 e6 e4 h6 hd hsd hro hr
  go_enter Tryd.func20, Tryd.ntmps20
  go_wp2_with (first
      | (refine step_box rfl _ rfl p rfl ?_; intro b0 w1 N R; have HB := Lib.hid (HB.out.trans (N.below.mono HB.out.size)); have HR := Lib.hid R; clear N R)
      | (refine blk_box rfl 33 _ rfl (mvA ⟨(n : Int), (u : Int), pr, dr, ca⟩) rfl ?_; intro b1 w2 N R; have HR := Lib.hid (HR.out.later N.below); have HB := Lib.hid (HB.out.trans (N.below.mono HB.out.size)); have HM := Lib.hid R; clear N R)
      | (refine step_get rfl 5 _ rfl b0 78 rfl Tryd.underlying5 rfl (.int .u8 (c : Int)) ?_ ?_; exact (HR.out.cell 78 (by decide)).trans (by rw [HCt.out]; rfl)))
  refine late_begin 9 (by kernel_rfl) ?_
  refine late_take 0 (by kernel_rfl) (by kernel_rfl) (by kernel_rfl) (by kernel_rfl) (by kernel_rfl) (fun _ _ d _ _ h => by cases d <;> exact h) (fun o ho => ?_)
  simp only [List.getElem?_toArray, List.getElem?_cons_zero, List.getElem?_cons_succ, Option.some.injEq] at ho; subst ho
  apply Exists.intro
  refine ⟨Or.inl ⟨by kernel_rfl, fun w' hl => Or.inl ?_⟩, ?_⟩
  · (go_simp; try with_reducible rfl)
  simp only [Act.put, List.setIfInBounds_toArray, List.set_cons_zero, List.set_cons_succ]
  refine late_take 1 (by kernel_rfl) (by kernel_rfl) (by kernel_rfl) (by kernel_rfl) (by kernel_rfl) (fun _ _ d _ _ h => by cases d <;> exact h) (fun o ho => ?_)
  simp only [List.getElem?_toArray, List.getElem?_cons_zero, List.getElem?_cons_succ, Option.some.injEq] at ho; subst ho
  refine ⟨_, Or.inl ⟨by kernel_rfl, fun w' hl => Or.inl (run_get 26 _ rfl b1 (0) rfl Tryd.underlying26 rfl (.int .i8 (n : Int)) ((HM.out.later hl).cell 0))⟩, ?_⟩
  simp only [Act.put, List.setIfInBounds_toArray, List.set_cons_zero, List.set_cons_succ]
  refine late_take 2 (by kernel_rfl) (by kernel_rfl) (by kernel_rfl) (by kernel_rfl) (by kernel_rfl) (fun _ _ d _ _ h => by cases d <;> exact h) (fun o ho => ?_)
  simp only [List.getElem?_toArray, List.getElem?_cons_zero, List.getElem?_cons_succ, Option.some.injEq] at ho; subst ho
  apply Exists.intro
  refine ⟨Or.inl ⟨by kernel_rfl, fun w' hl => Or.inl ?_⟩, ?_⟩
  · (go_simp; try with_reducible rfl)
  simp only [Act.put, List.setIfInBounds_toArray, List.set_cons_zero, List.set_cons_succ]
  refine late_take 3 (by kernel_rfl) (by kernel_rfl) (by kernel_rfl) (by kernel_rfl) (by kernel_rfl) (fun _ _ d _ _ h => by cases d <;> exact h) (fun o ho => ?_)
  simp only [List.getElem?_toArray, List.getElem?_cons_zero, List.getElem?_cons_succ, Option.some.injEq] at ho; subst ho
  apply Exists.intro
  refine ⟨Or.inl ⟨by kernel_rfl, fun w' hl => Or.inl ?_⟩, ?_⟩
  · (go_simp; try with_reducible rfl)
  simp only [Act.put, List.setIfInBounds_toArray, List.set_cons_zero, List.set_cons_succ]
  refine late_take 4 (by kernel_rfl) (by kernel_rfl) (by kernel_rfl) (by kernel_rfl) (by kernel_rfl) (fun _ _ d _ _ h => by cases d <;> exact h) (fun o ho => ?_)
  simp only [List.getElem?_toArray, List.getElem?_cons_zero, List.getElem?_cons_succ, Option.some.injEq] at ho; subst ho
  refine ⟨.int .u8 (p (1 + n)), Or.inl ⟨by kernel_rfl, fun w' hl => Or.inl (run_get 5 _ rfl b0 (1 + n) rfl Tryd.underlying5 rfl (.int .u8 (p (1 + n))) (((HR.out.later hl).cell (1 + n) (by have := HN.out; have := HU.out; omega)).trans (by rw [HK1.out])))⟩, ?_⟩
  simp only [Act.put, List.setIfInBounds_toArray, List.set_cons_zero, List.set_cons_succ]
  refine late_take 5 (by kernel_rfl) (by kernel_rfl) (by kernel_rfl) (by kernel_rfl) (by kernel_rfl) (fun _ _ d _ _ h => by cases d <;> exact h) (fun o ho => ?_)
  simp only [List.getElem?_toArray, List.getElem?_cons_zero, List.getElem?_cons_succ, Option.some.injEq] at ho; subst ho
  apply Exists.intro
  refine ⟨Or.inl ⟨by kernel_rfl, fun w' hl => Or.inl ?_⟩, ?_⟩
  · (go_simp; try with_reducible rfl)
  simp only [Act.put, List.setIfInBounds_toArray, List.set_cons_zero, List.set_cons_succ]
  refine late_take 6 (by kernel_rfl) (by kernel_rfl) (by kernel_rfl) (by kernel_rfl) (by kernel_rfl) (fun _ _ d _ _ h => by cases d <;> exact h) (fun o ho => ?_)
  simp only [List.getElem?_toArray, List.getElem?_cons_zero, List.getElem?_cons_succ, Option.some.injEq] at ho; subst ho
  refine ⟨.int .u8 (c : Int), Or.inl ⟨by kernel_rfl, fun w' hl => Or.inl (run_get 5 _ rfl b0 78 rfl Tryd.underlying5 rfl (.int .u8 (c : Int)) (by rw [(HR.out.later hl).cell 78 (by decide), HCt.out]; rfl))⟩, ?_⟩
  simp only [Act.put, List.setIfInBounds_toArray, List.set_cons_zero, List.set_cons_succ]
  refine late_one 7 (by kernel_rfl) (by kernel_rfl) (fun o ho => ?_)
  simp only [List.getElem?_toArray, List.getElem?_cons_zero, List.getElem?_cons_succ, Option.some.injEq] at ho; subst ho
  refine ⟨by kernel_rfl, fun wn hl K hK => ?_⟩
  have HR := Lib.hid (HR.out.later hl); have HM := Lib.hid (HM.out.later hl); have HB := Lib.hid (below_on HB.out hl); clear hl
  refine wp_enter _ _ (by go_simp; exact ⟨rfl, rfl⟩) ?_
  refine (rmk_any (c : Int) 6 _ HC0.out).mono ?_; rintro e wm ⟨rfl, hb⟩; refine ⟨_, rfl, ?_⟩
  rw [HY6.out]
  refine hK.out _ _ hb ?_
  have HR := Lib.hid (HR.out.later hb); have HM := Lib.hid (HM.out.later hb); have HB := Lib.hid (below_on HB.out hb); clear hb
  clear hK K
  simp only [Act.put, List.setIfInBounds_toArray, List.set_cons_zero, List.set_cons_succ]
  refine late_take 8 (by kernel_rfl) (by kernel_rfl) (by kernel_rfl) (by kernel_rfl) (by kernel_rfl) (fun _ _ d _ _ h => by cases d <;> exact h) (fun o ho => ?_)
  simp only [List.getElem?_toArray, List.getElem?_cons_zero, List.getElem?_cons_succ, Option.some.injEq] at ho; subst ho
  refine ⟨.bool false, Or.inl ⟨by kernel_rfl, fun w' hl => Or.inl ?_⟩, ?_⟩
  · (go_simp; try simp [g6])
  simp only [Act.put, List.setIfInBounds_toArray, List.set_cons_zero, List.set_cons_succ]
  refine late_end (by kernel_rfl) (fun wn hl => ?_)
  have HR := Lib.hid (HR.out.later hl); have HM := Lib.hid (HM.out.later hl); have HB := Lib.hid (below_on HB.out hl); clear hl
  go_wp2_with (first
      | (refine step_get rfl 5 _ rfl b0 0 rfl Tryd.underlying5 rfl (.int .u8 (p 0)) ?_ ?_; exact HR.out.cell 0 (by decide))
      | (refine step_get rfl 26 _ rfl b1 0 rfl Tryd.underlying26 rfl (.int .i8 (n : Int)) ?_ ?_; exact HM.out.cell 0)
      | (refine step_get rfl 26 _ rfl b1 1 rfl Tryd.underlying26 rfl (.int .i8 (u : Int)) ?_ ?_; exact HM.out.cell 1)
      | (refine step_get rfl 5 _ rfl b0 78 rfl Tryd.underlying5 rfl (.int .u8 (c : Int)) ?_ ?_; exact (HR.out.cell 78 (by decide)).trans (by rw [HCt.out]; rfl))
      | (refine step_get rfl 26 _ rfl b0 (79 + c * 2 + 1) rfl Tryd.underlying26 rfl (.int .i8 r) ?_ ?_; exact HRk.out _ HR.out)
      | (go_at_call 25; refine (rtwo_any (n : Int) (56 * (c : Int) + 2) _ ⟨by have := HN.out; omega, by have := HN.out; omega⟩ ⟨by omega, by omega⟩).mono ?_; rintro e w3 ⟨rfl, hb⟩; have HR := Lib.hid (HR.out.later hb); have HM := Lib.hid (HM.out.later hb); have HB := Lib.hid (below_on HB.out hb); clear hb))
  go_ret
  exact ⟨by rw [HS.out]; rfl, HB.out⟩
theorem rcas_any (p : Nat → Int) (n u : Nat) (pr dr : Int) (ca : Bool) (w : World) (hp : FitM p) (hs : smB p = true) (hn : n < 64) (hu : u < 64) : Calls Tryd.prog 20 #[.agg (posA p), .agg (mvA ⟨(n : Int), (u : Int), pr, dr, ca⟩)] w (StL (bz (csR p n u)) w) := by
  cases h6 : stB p (n : Int) 6
  · exact rcas_w0 p n u pr dr ca w hp hs hn hu h6
  · cases h0 : (p 0 == 1)
    · cases hd : decide ((n : Int) < (u : Int))
      all_goals (
        cases q1 : ((n : Int) == 56 * p 78 + 4)
        · first | exact rcas_a0 p n u pr dr ca w hp hs hn hu h6 h0 hd q1 | exact rcas_a1 p n u pr dr ca w hp hs hn hu h6 h0 hd q1
        · cases q2 : decide (roP p (sdN (n : Int) (u : Int)) < 0)
          · cases q3 : decide (7 < roP p (sdN (n : Int) (u : Int)))
            · cases q4 : ((u : Int) == 56 * p 78 + roP p (sdN (n : Int) (u : Int)))
              · first | exact rcas_d0 p n u pr dr ca w hp hs hn hu h6 h0 hd q1 q2 q3 q4 | exact rcas_d1 p n u pr dr ca w hp hs hn hu h6 h0 hd q1 q2 q3 q4
              · first | exact rcas_e0 p n u pr dr ca w hp hs hn hu h6 h0 hd q1 q2 q3 q4 | exact rcas_e1 p n u pr dr ca w hp hs hn hu h6 h0 hd q1 q2 q3 q4
            · first | exact rcas_c0 p n u pr dr ca w hp hs hn hu h6 h0 hd q1 q2 q3 | exact rcas_c1 p n u pr dr ca w hp hs hn hu h6 h0 hd q1 q2 q3
          · first | exact rcas_b0 p n u pr dr ca w hp hs hn hu h6 h0 hd q1 q2 | exact rcas_b1 p n u pr dr ca w hp hs hn hu h6 h0 hd q1 q2)
    · cases h4 : stB p (u : Int) 4
      · exact rcas_w1 p n u pr dr ca w hp hs hn hu h6 h0 h4
      · exact rcas_w2 p n u pr dr ca w hp hs hn hu h6 h0 h4
end Go.Proofs.YtnogmogmlilpiaaDoor
