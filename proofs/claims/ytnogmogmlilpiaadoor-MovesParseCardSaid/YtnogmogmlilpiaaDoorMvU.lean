/-
  The document's own Parse (layer 11): a text is looked for among all moves.
-/
import Derived.Test.YtnogmogmlilpiaaDoorMvT
import Derived.Test.YtnogmogmlilpiaaDoorMvF
import Derived.Test.YtnogmogmlilpiaaDoorMvLaid
namespace Go.Proofs.YtnogmogmlilpiaaDoor
open Go.RowKit
set_option linter.unusedVariables false
set_option linter.unusedSimpArgs false

def hdD (p : Nat → Int) (l : List UInt8) (j k : Nat) : Bool := isW (mvT p ⟨(j : Int), (j : Int), 0, (k : Int), false⟩) l
def hdP (p : Nat → Int) (l : List UInt8) (i j k : Nat) : Bool := isW (mvT p ⟨(i : Int), (j : Int), (k : Int), 0, false⟩) l
theorem hdD_parts {p : Nat → Int} {l : List UInt8} {j k : Nat} (h : hdD p l j k = true) : (l.take 4).drop 2 = sqM (j : Int) ∧ l.length = 4 := by
  obtain ⟨e, hl⟩ := isW_true.1 h
  unfold mvT at e
  cases hs : smB p
  · rw [hs] at e; exact absurd e.symm hl
  · rw [hs] at e
    have e : (bif ((k : Int) != 0) then drT ⟨(j : Int), (j : Int), 0, (k : Int), false⟩ else plT p ⟨(j : Int), (j : Int), 0, (k : Int), false⟩) = l := e
    cases hk : ((k : Int) != 0)
    · rw [hk] at e
      have e : plT p ⟨(j : Int), (j : Int), 0, (k : Int), false⟩ = l := e
      have := (pl_parts e hl).1
      simp at this
    · rw [hk] at e
      have e : drT ⟨(j : Int), (j : Int), 0, (k : Int), false⟩ = l := e
      obtain ⟨c1, c2, c3, c4, c5, c6, el⟩ := dr_parts e hl
      obtain ⟨x, e1, _⟩ := dr_let c5 c6
      obtain ⟨y, z, e2, _⟩ := sqM_two c1
      rw [e1] at el
      have e2 : sqM (j : Int) = [y, z] := e2
      have el : l = x :: 64 :: sqM (j : Int) := el
      rw [el, e2]
      exact ⟨rfl, rfl⟩
theorem hdP_parts {p : Nat → Int} {l : List UInt8} {i j k : Nat} (h : hdP p l i j k = true) : (l.take 4).drop 2 = sqM (j : Int) ∧ l.take 2 = sqM (i : Int) ∧ 4 ≤ l.length ∧ l.length ≤ 5 := by
  obtain ⟨e, hl⟩ := isW_true.1 h
  unfold mvT at e
  cases hs : smB p
  · rw [hs] at e; exact absurd e.symm hl
  · rw [hs] at e
    have e : plT p ⟨(i : Int), (j : Int), (k : Int), 0, false⟩ = l := e
    obtain ⟨c1, c2, c3, c4, c5⟩ := pl_parts e hl
    rw [enL_yes c1] at c5
    simp only [Bool.and_eq_true] at c1
    obtain ⟨x, y, e1, _⟩ := sqM_two c1.1.1
    obtain ⟨z, u, e2, _⟩ := sqM_two c1.1.2
    have e1 : sqM (i : Int) = [x, y] := e1
    have e2 : sqM (j : Int) = [z, u] := e2
    have c5 : l = sqM (i : Int) ++ sqM (j : Int) ++ leF (mkZ 1 (k : Int)) := c5
    have hn := leF_len (mkZ 1 (k : Int))
    rw [e1, e2] at c5
    rw [c5, e1, e2]
    refine ⟨rfl, rfl, ?_, ?_⟩ <;> simp <;> omega
/-- What is read is among the moves that are looked at. -/
theorem mvP_among {p : Nat → Int} (hp : FitM p) {l : List UInt8} (hc : coB p l = false) {m : Mv} (h : mvP p l = some m) : (∃ j k : Nat, j < 64 ∧ k < 7 ∧ hdD p l j k = true) ∨ (∃ i j k : Nat, i < 64 ∧ j < 64 ∧ k < 7 ∧ hdP p l i j k = true) := by
  obtain ⟨e, hl, hs⟩ := mv_text h
  have hf := mvP_fit hp h
  obtain ⟨f, t, pr, dr, ca⟩ := m
  have e0 := e
  unfold mvT at e
  rw [hs] at e
  have e : (bif (dr != 0) then drT ⟨f, t, pr, dr, ca⟩ else bif ca then csT p ⟨f, t, pr, dr, ca⟩ else plT p ⟨f, t, pr, dr, ca⟩) = l := e
  cases hd : (dr != 0)
  · rw [hd] at e
    have hdr : dr = 0 := by simpa using hd
    have e : (bif ca then csT p ⟨f, t, pr, dr, ca⟩ else plT p ⟨f, t, pr, dr, ca⟩) = l := e
    cases hca : ca
    · rw [hca] at e
      have e : plT p ⟨f, t, pr, dr, false⟩ = l := e
      obtain ⟨c1, c2, c3, c4, c5⟩ := pl_parts e hl
      simp only [Bool.and_eq_true] at c1
      obtain ⟨f0, f1⟩ := sqB_true.1 c1.1.1
      obtain ⟨t0, t1⟩ := sqB_true.1 c1.1.2
      have p0 := hf.pr.1
      obtain ⟨i, hi⟩ := Int.eq_ofNat_of_zero_le (show 0 ≤ f from f0)
      obtain ⟨j, hj⟩ := Int.eq_ofNat_of_zero_le (show 0 ≤ t from t0)
      obtain ⟨k, hk⟩ := Int.eq_ofNat_of_zero_le (show 0 ≤ pr from p0)
      have c3 : pr ≤ 6 := c3
      have f1 : f < 64 := f1
      have t1 : t < 64 := t1
      refine Or.inr ⟨i, j, k, by omega, by omega, by omega, isW_true.2 ⟨?_, hl⟩⟩
      rw [hca, hdr, hi, hj, hk] at e0
      exact e0
    · rw [hca] at e
      have e : csT p ⟨f, t, pr, dr, true⟩ = l := e
      rw [co_of hs hp.turn.1 e hl] at hc; cases hc
  · rw [hd] at e
    have e : drT ⟨f, t, pr, dr, ca⟩ = l := e
    obtain ⟨c1, c2, c3, c4, c5, c6, el⟩ := dr_parts e hl
    have c2 : t = f := c2
    have c3 : pr = 0 := c3
    have c4 : ca = false := c4
    have c5 : 1 ≤ dr := c5
    have c6 : dr ≤ 5 := c6
    obtain ⟨f0, f1⟩ := sqB_true.1 c1
    have f1 : f < 64 := f1
    obtain ⟨j, hj⟩ := Int.eq_ofNat_of_zero_le (show 0 ≤ f from f0)
    obtain ⟨k, hk⟩ := Int.eq_ofNat_of_zero_le (show 0 ≤ dr by omega)
    refine Or.inl ⟨j, k, by omega, by omega, isW_true.2 ⟨?_, hl⟩⟩
    rw [c4, c3, c2, hj, hk] at e0
    exact e0
def noH (p : Nat → Int) (l : List UInt8) (n k : Nat) : Prop := hdD p l n k = false ∧ ∀ i : Nat, i < 64 → hdP p l i n k = false
theorem mvP_none {p : Nat → Int} (hp : FitM p) {l : List UInt8} (hc : coB p l = false) (h : ∀ j k : Nat, j < 64 → k < 7 → noH p l j k) : mvP p l = none := by
  cases e : mvP p l with
  | none => rfl
  | some m =>
    rcases mvP_among hp hc e with ⟨j, k, hj, hk, x⟩ | ⟨i, j, k, hi, hj, hk, x⟩
    · rw [(h j k hj hk).1] at x; cases x
    · rw [(h j k hj hk).2 i hi] at x; cases x
theorem mvP_short {p : Nat → Int} (hp : FitM p) {l : List UInt8} (hc : coB p l = false) (h : l.length < 4 ∨ 5 < l.length) : mvP p l = none := by
  cases e : mvP p l with
  | none => rfl
  | some m =>
    exfalso
    rcases mvP_among hp hc e with ⟨j, k, hj, hk, x⟩ | ⟨i, j, k, hi, hj, hk, x⟩
    · have := (hdD_parts x).2; omega
    · have := (hdP_parts x).2.2; omega
theorem mvP_co {p : Nat → Int} {l : List UInt8} (hs : smB p = true) (hc : coB p l = true) : mvP p l = some (coM p l) := by
  unfold mvP; rw [hs]; exact mvR_0 hc
theorem mvP_D {p : Nat → Int} (hp : FitM p) {l : List UInt8} {j k : Nat} (h : hdD p l j k = true) : mvP p l = some ⟨(j : Int), (j : Int), 0, (k : Int), false⟩ := by
  obtain ⟨e, hl⟩ := isW_true.1 h
  exact mv_back hp.turn.1 (Int.le_refl 0) e hl
theorem mvP_P {p : Nat → Int} (hp : FitM p) {l : List UInt8} {i j k : Nat} (h : hdP p l i j k = true) : mvP p l = some ⟨(i : Int), (j : Int), (k : Int), 0, false⟩ := by
  obtain ⟨e, hl⟩ := isW_true.1 h
  exact mv_back hp.turn.1 (show (0 : Int) ≤ (k : Int) by omega) e hl
theorem noH_off {p : Nat → Int} {l : List UInt8} {n : Nat} (h : sqM (n : Int) ≠ (l.take 4).drop 2) (k : Nat) : noH p l n k := by
  refine ⟨?_, fun i _ => ?_⟩
  · cases e : hdD p l n k
    · rfl
    · exact absurd (hdD_parts e).1.symm h
  · cases e : hdP p l i n k
    · rfl
    · exact absurd (hdP_parts e).1.symm h
theorem hdP_off {p : Nat → Int} {l : List UInt8} {i : Nat} (h : sqM (i : Int) ≠ l.take 2) (n k : Nat) : hdP p l i n k = false := by
  cases e : hdP p l i n k
  · rfl
  · exact absurd (hdP_parts e).2.1.symm h
set_option maxRecDepth 100000 in
set_option maxHeartbeats 1000000 in
theorem rpar_v (p : Nat → Int) (l : List UInt8) (w : World) (hp : FitM p) (h1 : decide (8 < p 0) = true) : Calls Tryd.prog 5 #[.agg (posA p), .string (bz l)] w (MvN (pmO (mvP p l)) (enO p (mvP p l)) w) := by
  have HB := Lib.hid (Below.refl w.heap.size w)
  have HFp := Lib.hid hp
  have HOnce := Lib.hid trivial
  have hs : smB p = false := by
    unfold smB
    rw [show decide (p 0 < 9) = false from decide_eq_false (by have := of_decide_eq_true h1; omega)]; rfl
  have hm : mvP p l = none := by unfold mvP; rw [hs]; rfl
  have HS := Lib.hid (show pmO (mvP p l) = mv0 by rw [hm]; rfl)
  have HE := Lib.hid (show enO p (mvP p l) = 2 by rw [hm]; show (bif smB p then (5 : Int) else 2) = 2; rw [hs]; rfl)
  clear hs hm hp
  go_enter Tryd.func5, Tryd.ntmps5
  go_wp2_with (first
      | (refine step_box rfl _ rfl p rfl ?_; intro b0 w1 N R; have HB := Lib.hid (HB.out.trans (N.below.mono HB.out.size)); have HR := Lib.hid R; clear N R)
      | (clear HOnce; refine blk_alloc rfl 33 rfl (mvA mv0) zeroMv ?_; intro b4 w2 N R; have HG4 := Lib.hid (show w.heap.size ≤ b4 by rw [N.at_]; exact HB.out.size); have HR := Lib.hid (HR.out.later N.below); have HB := Lib.hid (HB.out.trans (N.below.mono HB.out.size)); have HQ := Lib.hid R; clear N R)
      | (refine step_get rfl 5 _ rfl b0 0 rfl Tryd.underlying5 rfl (.int .u8 (p 0)) ?_ ?_; exact HR.out.cell 0 (by decide))
      | (refine step_build rfl 33 _ rfl (mvA mv0) (by kernel_rfl) ?_)
      | (refine blk_store rfl 33 _ _ rfl b4 rfl (mvA mv0) (mvA mv0) rfl ?_ rfl (mv_one _) sizeMv ?_; exact HQ.out; intro w8 U R; have HB := Lib.hid (HB.out.trans (U.below HG4.out)); have HQ := Lib.hid R; clear U R))
  refine bodyPost_ret (results_mv2 rfl _ _ _ mv0 (.int .i64 2) rfl rfl HQ.out) rfl ⟨by (rw [HS.out, HE.out]; try rfl), HB.out⟩
set_option maxRecDepth 100000 in
set_option maxHeartbeats 1000000 in
theorem rpar_t (p : Nat → Int) (l : List UInt8) (w : World) (hp : FitM p) (h1 : decide (8 < p 0) = false) (h2 : decide (1 < p 78) = true) : Calls Tryd.prog 5 #[.agg (posA p), .string (bz l)] w (MvN (pmO (mvP p l)) (enO p (mvP p l)) w) := by
  have HB := Lib.hid (Below.refl w.heap.size w)
  have HFp := Lib.hid hp
  have HOnce := Lib.hid trivial
  have hs : smB p = false := by
    unfold smB
    rw [show decide (p 78 ≤ 1) = false from decide_eq_false (by have := of_decide_eq_true h2; omega), Bool.and_false]
  have hm : mvP p l = none := by unfold mvP; rw [hs]; rfl
  have HS := Lib.hid (show pmO (mvP p l) = mv0 by rw [hm]; rfl)
  have HE := Lib.hid (show enO p (mvP p l) = 2 by rw [hm]; show (bif smB p then (5 : Int) else 2) = 2; rw [hs]; rfl)
  clear hs hm hp
  go_enter Tryd.func5, Tryd.ntmps5
  go_wp2_with (first
      | (refine step_box rfl _ rfl p rfl ?_; intro b0 w1 N R; have HB := Lib.hid (HB.out.trans (N.below.mono HB.out.size)); have HR := Lib.hid R; clear N R)
      | (clear HOnce; refine blk_alloc rfl 33 rfl (mvA mv0) zeroMv ?_; intro b4 w2 N R; have HG4 := Lib.hid (show w.heap.size ≤ b4 by rw [N.at_]; exact HB.out.size); have HR := Lib.hid (HR.out.later N.below); have HB := Lib.hid (HB.out.trans (N.below.mono HB.out.size)); have HQ := Lib.hid R; clear N R)
      | (refine step_get rfl 5 _ rfl b0 0 rfl Tryd.underlying5 rfl (.int .u8 (p 0)) ?_ ?_; exact HR.out.cell 0 (by decide))
      | (refine step_get rfl 5 _ rfl b0 78 rfl Tryd.underlying5 rfl (.int .u8 (p 78)) ?_ ?_; exact HR.out.cell 78 (by decide))
      | (refine step_build rfl 33 _ rfl (mvA mv0) (by kernel_rfl) ?_)
      | (refine blk_store rfl 33 _ _ rfl b4 rfl (mvA mv0) (mvA mv0) rfl ?_ rfl (mv_one _) sizeMv ?_; exact HQ.out; intro w8 U R; have HB := Lib.hid (HB.out.trans (U.below HG4.out)); have HQ := Lib.hid R; clear U R))
  refine bodyPost_ret (results_mv2 rfl _ _ _ mv0 (.int .i64 2) rfl rfl HQ.out) rfl ⟨by (rw [HS.out, HE.out]; try rfl), HB.out⟩
set_option maxRecDepth 100000 in
set_option maxHeartbeats 1000000 in
theorem rpar_c (p : Nat → Int) (l : List UInt8) (w : World) (hp : FitM p) (h1 : decide (8 < p 0) = false) (h2 : decide (1 < p 78) = false) (hc : coB p l = true) : Calls Tryd.prog 5 #[.agg (posA p), .string (bz l)] w (MvN (pmO (mvP p l)) (enO p (mvP p l)) w) := by
  have HB := Lib.hid (Below.refl w.heap.size w)
  have HFp := Lib.hid hp
  have HOnce := Lib.hid trivial
  have hs : smB p = true := by
    unfold smB
    rw [Bool.and_eq_true, decide_eq_true_eq, decide_eq_true_eq]
    have := of_decide_eq_false h1
    have := of_decide_eq_false h2
    omega
  have HSm := Lib.hid hs
  have HC := Lib.hid hc
  obtain ⟨cm, hcm⟩ : ∃ cm, (bif true then coM p l else mv0) = cm := ⟨_, rfl⟩
  have HCm := Lib.hid hcm
  obtain ⟨t, ht⟩ : ∃ t, bz l = t := ⟨_, rfl⟩
  have HT := Lib.hid ht
  have hm := mvP_co hs hc
  have HS := Lib.hid (show pmO (mvP p l) = cm by rw [hm, ← hcm]; rfl)
  have HE := Lib.hid (show enO p (mvP p l) = 0 by rw [hm]; rfl)
  rw [ht]
  clear hs hm hp hc hcm ht
  go_enter Tryd.func5, Tryd.ntmps5
  go_wp2_with (first
      | (refine step_box rfl _ rfl p rfl ?_; intro b0 w1 N R; have HB := Lib.hid (HB.out.trans (N.below.mono HB.out.size)); have HR := Lib.hid R; clear N R)
      | (clear HOnce; refine blk_alloc rfl 33 rfl (mvA mv0) zeroMv ?_; intro b4 w2 N R; have HG4 := Lib.hid (show w.heap.size ≤ b4 by rw [N.at_]; exact HB.out.size); have HR := Lib.hid (HR.out.later N.below); have HB := Lib.hid (HB.out.trans (N.below.mono HB.out.size)); have HQ := Lib.hid R; clear N R)
      | (refine step_get rfl 5 _ rfl b0 0 rfl Tryd.underlying5 rfl (.int .u8 (p 0)) ?_ ?_; exact HR.out.cell 0 (by decide))
      | (refine step_get rfl 5 _ rfl b0 78 rfl Tryd.underlying5 rfl (.int .u8 (p 78)) ?_ ?_; exact HR.out.cell 78 (by decide))
      | (refine step_load rfl _ rfl b0 rfl p ?_ ?_; exact HR.out)
      | (go_at_call 8; rw [← HT.out]; refine (castling_any p l _ HFp.out HSm.out).mono ?_; rintro e w3 ⟨rfl, hb⟩; rw [HC.out, HCm.out, HT.out]; have HR := Lib.hid (HR.out.later hb); have HQ := Lib.hid (HQ.out.later hb); have HB := Lib.hid (below_on HB.out hb); clear hb)
      | (refine blk_alloc rfl 33 rfl (mvA mv0) zeroMv ?_; intro b6 w6 N R; have HGHM := Lib.hid (show w.heap.size ≤ b6 by rw [N.at_]; exact HB.out.size); have HHMHR := Lib.hid (show b0 ≠ b6 by rw [N.at_]; exact Nat.ne_of_lt HR.out.lt); have HR := Lib.hid (HR.out.later N.below); have HHMHQ := Lib.hid (show b4 ≠ b6 by rw [N.at_]; exact Nat.ne_of_lt HQ.out.lt); have HQ := Lib.hid (HQ.out.later N.below); have HB := Lib.hid (HB.out.trans (N.below.mono HB.out.size)); have HM := Lib.hid R; clear N R)
      | (refine blk_store rfl 33 _ _ rfl b6 rfl (mvA mv0) (mvA cm) rfl ?_ rfl (mv_one _) sizeMv ?_; exact HM.out; intro w7 U R; have HR := Lib.hid (HR.out.apart U HHMHR.out); have HQ := Lib.hid (HQ.out.apart U HHMHQ.out); have HB := Lib.hid (HB.out.trans (U.below HGHM.out)); have HM := Lib.hid R; clear U R)
      | (refine blk_load rfl 33 _ rfl b6 rfl (mvA cm) ?_ _ Tryd.underlying33 rfl sizeMv ?_; exact HM.out)
      | (refine blk_store rfl 33 _ _ rfl b4 rfl (mvA mv0) (mvA cm) rfl ?_ rfl (mv_one _) sizeMv ?_; exact HQ.out; intro w8 U R; have HB := Lib.hid (HB.out.trans (U.below HG4.out)); have HQ := Lib.hid R; clear U R))
  refine bodyPost_ret (results_mv2 rfl _ _ _ cm (.int .i64 0) rfl rfl HQ.out) rfl ⟨by (rw [HS.out, HE.out]; try rfl), HB.out⟩
set_option maxRecDepth 100000 in
set_option maxHeartbeats 1000000 in
theorem rpar_s (p : Nat → Int) (l : List UInt8) (w : World) (hp : FitM p) (h1 : decide (8 < p 0) = false) (h2 : decide (1 < p 78) = false) (hc : coB p l = false) (hl : l.length < 4) : Calls Tryd.prog 5 #[.agg (posA p), .string (bz l)] w (MvN (pmO (mvP p l)) (enO p (mvP p l)) w) := by
  have HB := Lib.hid (Below.refl w.heap.size w)
  have HFp := Lib.hid hp
  have HOnce := Lib.hid trivial
  have hs : smB p = true := by
    unfold smB
    rw [Bool.and_eq_true, decide_eq_true_eq, decide_eq_true_eq]
    have := of_decide_eq_false h1
    have := of_decide_eq_false h2
    omega
  have HSm := Lib.hid hs
  have HC := Lib.hid hc
  obtain ⟨cm, hcm⟩ : ∃ cm, (bif false then coM p l else mv0) = cm := ⟨_, rfl⟩
  have HCm := Lib.hid hcm
  obtain ⟨t, ht⟩ : ∃ t, bz l = t := ⟨_, rfl⟩
  have HT := Lib.hid ht
  have hm := mvP_short hp hc (Or.inl hl)
  have HS := Lib.hid (show pmO (mvP p l) = mv0 by rw [hm]; rfl)
  have HE := Lib.hid (show enO p (mvP p l) = 5 by rw [hm]; show (bif smB p then (5 : Int) else 2) = 5; rw [hs]; rfl)
  have hts : t.size = l.length := by rw [← ht, bz_size]
  have g4 : decide ((t.size : Int) < 4) = true := decide_eq_true (by omega)
  rw [ht]
  clear hs hm hp hc hcm ht hl hts
  go_enter Tryd.func5, Tryd.ntmps5
  go_wp2_with (first
      | (refine step_box rfl _ rfl p rfl ?_; intro b0 w1 N R; have HB := Lib.hid (HB.out.trans (N.below.mono HB.out.size)); have HR := Lib.hid R; clear N R)
      | (clear HOnce; refine blk_alloc rfl 33 rfl (mvA mv0) zeroMv ?_; intro b4 w2 N R; have HG4 := Lib.hid (show w.heap.size ≤ b4 by rw [N.at_]; exact HB.out.size); have HR := Lib.hid (HR.out.later N.below); have HB := Lib.hid (HB.out.trans (N.below.mono HB.out.size)); have HQ := Lib.hid R; clear N R)
      | (refine step_get rfl 5 _ rfl b0 0 rfl Tryd.underlying5 rfl (.int .u8 (p 0)) ?_ ?_; exact HR.out.cell 0 (by decide))
      | (refine step_get rfl 5 _ rfl b0 78 rfl Tryd.underlying5 rfl (.int .u8 (p 78)) ?_ ?_; exact HR.out.cell 78 (by decide))
      | (refine step_load rfl _ rfl b0 rfl p ?_ ?_; exact HR.out)
      | (go_at_call 8; rw [← HT.out]; refine (castling_any p l _ HFp.out HSm.out).mono ?_; rintro e w3 ⟨rfl, hb⟩; rw [HC.out, HCm.out, HT.out]; have HR := Lib.hid (HR.out.later hb); have HQ := Lib.hid (HQ.out.later hb); have HB := Lib.hid (below_on HB.out hb); clear hb)
      | (refine blk_alloc rfl 33 rfl (mvA mv0) zeroMv ?_; intro b6 w6 N R; have HGHM := Lib.hid (show w.heap.size ≤ b6 by rw [N.at_]; exact HB.out.size); have HHMHR := Lib.hid (show b0 ≠ b6 by rw [N.at_]; exact Nat.ne_of_lt HR.out.lt); have HR := Lib.hid (HR.out.later N.below); have HHMHQ := Lib.hid (show b4 ≠ b6 by rw [N.at_]; exact Nat.ne_of_lt HQ.out.lt); have HQ := Lib.hid (HQ.out.later N.below); have HB := Lib.hid (HB.out.trans (N.below.mono HB.out.size)); have HM := Lib.hid R; clear N R)
      | (refine blk_store rfl 33 _ _ rfl b6 rfl (mvA mv0) (mvA cm) rfl ?_ rfl (mv_one _) sizeMv ?_; exact HM.out; intro w7 U R; have HR := Lib.hid (HR.out.apart U HHMHR.out); have HQ := Lib.hid (HQ.out.apart U HHMHQ.out); have HB := Lib.hid (HB.out.trans (U.below HGHM.out)); have HM := Lib.hid R; clear U R)
      | (refine step_build rfl 33 _ rfl (mvA mv0) (by kernel_rfl) ?_)
      | (refine blk_store rfl 33 _ _ rfl b4 rfl (mvA mv0) (mvA mv0) rfl ?_ rfl (mv_one _) sizeMv ?_; exact HQ.out; intro w8 U R; have HB := Lib.hid (HB.out.trans (U.below HG4.out)); have HQ := Lib.hid R; clear U R))
  refine bodyPost_ret (results_mv2 rfl _ _ _ mv0 (.int .i64 5) rfl rfl HQ.out) rfl ⟨by (rw [HS.out, HE.out]; try rfl), HB.out⟩
set_option maxRecDepth 100000 in
set_option maxHeartbeats 1000000 in
theorem rpar_g (p : Nat → Int) (l : List UInt8) (w : World) (hp : FitM p) (h1 : decide (8 < p 0) = false) (h2 : decide (1 < p 78) = false) (hc : coB p l = false) (hl : 5 < l.length) : Calls Tryd.prog 5 #[.agg (posA p), .string (bz l)] w (MvN (pmO (mvP p l)) (enO p (mvP p l)) w) := by
  have HB := Lib.hid (Below.refl w.heap.size w)
  have HFp := Lib.hid hp
  have HOnce := Lib.hid trivial
  have hs : smB p = true := by
    unfold smB
    rw [Bool.and_eq_true, decide_eq_true_eq, decide_eq_true_eq]
    have := of_decide_eq_false h1
    have := of_decide_eq_false h2
    omega
  have HSm := Lib.hid hs
  have HC := Lib.hid hc
  obtain ⟨cm, hcm⟩ : ∃ cm, (bif false then coM p l else mv0) = cm := ⟨_, rfl⟩
  have HCm := Lib.hid hcm
  obtain ⟨t, ht⟩ : ∃ t, bz l = t := ⟨_, rfl⟩
  have HT := Lib.hid ht
  have hm := mvP_short hp hc (Or.inr hl)
  have HS := Lib.hid (show pmO (mvP p l) = mv0 by rw [hm]; rfl)
  have HE := Lib.hid (show enO p (mvP p l) = 5 by rw [hm]; show (bif smB p then (5 : Int) else 2) = 5; rw [hs]; rfl)
  have hts : t.size = l.length := by rw [← ht, bz_size]
  have g4 : decide ((t.size : Int) < 4) = false := decide_eq_false (by omega)
  have g5 : decide ((5 : Int) < (t.size : Int)) = true := decide_eq_true (by omega)
  rw [ht]
  clear hs hm hp hc hcm ht hl hts
  go_enter Tryd.func5, Tryd.ntmps5
  go_wp2_with (first
      | (refine step_box rfl _ rfl p rfl ?_; intro b0 w1 N R; have HB := Lib.hid (HB.out.trans (N.below.mono HB.out.size)); have HR := Lib.hid R; clear N R)
      | (clear HOnce; refine blk_alloc rfl 33 rfl (mvA mv0) zeroMv ?_; intro b4 w2 N R; have HG4 := Lib.hid (show w.heap.size ≤ b4 by rw [N.at_]; exact HB.out.size); have HR := Lib.hid (HR.out.later N.below); have HB := Lib.hid (HB.out.trans (N.below.mono HB.out.size)); have HQ := Lib.hid R; clear N R)
      | (refine step_get rfl 5 _ rfl b0 0 rfl Tryd.underlying5 rfl (.int .u8 (p 0)) ?_ ?_; exact HR.out.cell 0 (by decide))
      | (refine step_get rfl 5 _ rfl b0 78 rfl Tryd.underlying5 rfl (.int .u8 (p 78)) ?_ ?_; exact HR.out.cell 78 (by decide))
      | (refine step_load rfl _ rfl b0 rfl p ?_ ?_; exact HR.out)
      | (go_at_call 8; rw [← HT.out]; refine (castling_any p l _ HFp.out HSm.out).mono ?_; rintro e w3 ⟨rfl, hb⟩; rw [HC.out, HCm.out, HT.out]; have HR := Lib.hid (HR.out.later hb); have HQ := Lib.hid (HQ.out.later hb); have HB := Lib.hid (below_on HB.out hb); clear hb)
      | (refine blk_alloc rfl 33 rfl (mvA mv0) zeroMv ?_; intro b6 w6 N R; have HGHM := Lib.hid (show w.heap.size ≤ b6 by rw [N.at_]; exact HB.out.size); have HHMHR := Lib.hid (show b0 ≠ b6 by rw [N.at_]; exact Nat.ne_of_lt HR.out.lt); have HR := Lib.hid (HR.out.later N.below); have HHMHQ := Lib.hid (show b4 ≠ b6 by rw [N.at_]; exact Nat.ne_of_lt HQ.out.lt); have HQ := Lib.hid (HQ.out.later N.below); have HB := Lib.hid (HB.out.trans (N.below.mono HB.out.size)); have HM := Lib.hid R; clear N R)
      | (refine blk_store rfl 33 _ _ rfl b6 rfl (mvA mv0) (mvA cm) rfl ?_ rfl (mv_one _) sizeMv ?_; exact HM.out; intro w7 U R; have HR := Lib.hid (HR.out.apart U HHMHR.out); have HQ := Lib.hid (HQ.out.apart U HHMHQ.out); have HB := Lib.hid (HB.out.trans (U.below HGHM.out)); have HM := Lib.hid R; clear U R)
      | (refine step_build rfl 33 _ rfl (mvA mv0) (by kernel_rfl) ?_)
      | (refine blk_store rfl 33 _ _ rfl b4 rfl (mvA mv0) (mvA mv0) rfl ?_ rfl (mv_one _) sizeMv ?_; exact HQ.out; intro w8 U R; have HB := Lib.hid (HB.out.trans (U.below HG4.out)); have HQ := Lib.hid R; clear U R))
  refine bodyPost_ret (results_mv2 rfl _ _ _ mv0 (.int .i64 5) rfl rfl HQ.out) rfl ⟨by (rw [HS.out, HE.out]; try rfl), HB.out⟩
set_option maxRecDepth 100000 in
set_option maxHeartbeats 1000000 in
theorem rpar_m (p : Nat → Int) (l : List UInt8) (w : World) (hp : FitM p) (h1 : decide (8 < p 0) = false) (h2 : decide (1 < p 78) = false) (hc : coB p l = false) (hl4 : 4 ≤ l.length) (hl5 : l.length ≤ 5) : Calls Tryd.prog 5 #[.agg (posA p), .string (bz l)] w (MvN (pmO (mvP p l)) (enO p (mvP p l)) w) := by
  have HB := Lib.hid (Below.refl w.heap.size w)
  have HFp := Lib.hid hp
  have HOnce := Lib.hid trivial
  have hs : smB p = true := by
    unfold smB
    rw [Bool.and_eq_true, decide_eq_true_eq, decide_eq_true_eq]
    have := of_decide_eq_false h1
    have := of_decide_eq_false h2
    omega
  have HSm := Lib.hid hs
  have HC := Lib.hid hc
  obtain ⟨cm, hcm⟩ : ∃ cm, (bif false then coM p l else mv0) = cm := ⟨_, rfl⟩
  have HCm := Lib.hid hcm
  obtain ⟨t, ht⟩ : ∃ t, bz l = t := ⟨_, rfl⟩
  have HT := Lib.hid ht
  have hts : t.size = l.length := by rw [← ht, bz_size]
  have g4 : decide ((t.size : Int) < 4) = false := decide_eq_false (by omega)
  have g5 : decide ((5 : Int) < (t.size : Int)) = false := decide_eq_false (by omega)
  have k4 : (4 : Int) ≤ (t.size : Int) := by omega
  have k2 : (2 : Int) ≤ (t.size : Int) := by omega
  obtain ⟨z, hz⟩ : ∃ z, bz ((l.take 4).drop 2) = z := ⟨_, rfl⟩
  obtain ⟨u, hu⟩ : ∃ u, bz (l.take 2) = u := ⟨_, rfl⟩
  have sz : t.extract 2 4 = z := by rw [← ht, ← hz, extract_bz]
  have su : t.extract 0 2 = u := by rw [← ht, ← hu, extract_bz]; rfl
  have HZ := Lib.hid hz
  have HU := Lib.hid hu
  have HLn := Lib.hid (show l ≠ [] by intro e; rw [e] at hl4; simp at hl4)
  have HCo := Lib.hid hc
  rw [ht]
  clear hs hp hc hcm ht hl4 hl5 hts hz hu
  go_enter Tryd.func5, Tryd.ntmps5
  go_wp2_with (first
      | (refine step_box rfl _ rfl p rfl ?_; intro b0 w1 N R; have HB := Lib.hid (HB.out.trans (N.below.mono HB.out.size)); have HR := Lib.hid R; clear N R)
      | (clear HOnce; refine blk_alloc rfl 33 rfl (mvA mv0) zeroMv ?_; intro b4 w2 N R; have HG4 := Lib.hid (show w.heap.size ≤ b4 by rw [N.at_]; exact HB.out.size); have HR := Lib.hid (HR.out.later N.below); have HB := Lib.hid (HB.out.trans (N.below.mono HB.out.size)); have HQ := Lib.hid R; clear N R)
      | (refine step_get rfl 5 _ rfl b0 0 rfl Tryd.underlying5 rfl (.int .u8 (p 0)) ?_ ?_; exact HR.out.cell 0 (by decide))
      | (refine step_get rfl 5 _ rfl b0 78 rfl Tryd.underlying5 rfl (.int .u8 (p 78)) ?_ ?_; exact HR.out.cell 78 (by decide))
      | (refine step_load rfl _ rfl b0 rfl p ?_ ?_; exact HR.out)
      | (go_at_call 8; rw [← HT.out]; refine (castling_any p l _ HFp.out HSm.out).mono ?_; rintro e w3 ⟨rfl, hb⟩; rw [HC.out, HCm.out, HT.out]; have HR := Lib.hid (HR.out.later hb); have HQ := Lib.hid (HQ.out.later hb); have HB := Lib.hid (below_on HB.out hb); clear hb)
      | (refine blk_alloc rfl 33 rfl (mvA mv0) zeroMv ?_; intro b6 w6 N R; have HGHM := Lib.hid (show w.heap.size ≤ b6 by rw [N.at_]; exact HB.out.size); have HHMHR := Lib.hid (show b0 ≠ b6 by rw [N.at_]; exact Nat.ne_of_lt HR.out.lt); have HR := Lib.hid (HR.out.later N.below); have HHMHQ := Lib.hid (show b4 ≠ b6 by rw [N.at_]; exact Nat.ne_of_lt HQ.out.lt); have HQ := Lib.hid (HQ.out.later N.below); have HB := Lib.hid (HB.out.trans (N.below.mono HB.out.size)); have HM := Lib.hid R; clear N R)
      | (refine blk_store rfl 33 _ _ rfl b6 rfl (mvA mv0) (mvA cm) rfl ?_ rfl (mv_one _) sizeMv ?_; exact HM.out; intro w7 U R; have HR := Lib.hid (HR.out.apart U HHMHR.out); have HQ := Lib.hid (HQ.out.apart U HHMHQ.out); have HB := Lib.hid (HB.out.trans (U.below HGHM.out)); have HM := Lib.hid R; clear U R))
  go_loopw [8] (fun v wr => ∃ n : Nat, n ≤ 64 ∧ v = .int .i8 (n : Int) ∧ (∀ j k : Nat, j < n → k < 7 → noH p l j k) ∧ Row wr b0 p ∧ Blk wr b4 33 (mvA mv0) ∧ Below w.heap.size w wr) (fun v _ => 64 - (intOf v).toNat)
  case atStart => exact ⟨0, by omega, rfl, by intro j i h; omega, HR.out, HQ.out, HB.out⟩
  case round =>
    obtain ⟨n, hn, rfl, hh, hr, hq, hbw⟩ := hrel
    have HR := Lib.hid hr
    have HQ := Lib.hid hq
    have HB := Lib.hid hbw
    have HH := Lib.hid hh
    clear hr hq hbw hh
    by_cases e64 : n = 64
    · have g1 : decide ((n : Int) < 64) = false := decide_eq_false (by omega)
      have hm := mvP_none HFp.out HCo.out (fun j k hj hk => HH.out j k (by omega) hk)
      have hs := HSm.out
      have HS := Lib.hid (show pmO (mvP p l) = mv0 by rw [hm]; rfl)
      have HE := Lib.hid (show enO p (mvP p l) = 5 by rw [hm]; show (bif smB p then (5 : Int) else 2) = 5; rw [hs]; rfl)
      clear e64 hn hm hs
      go_wp2_with (first
        | (refine step_build rfl 33 _ rfl (mvA mv0) (by kernel_rfl) ?_)
        | (refine blk_store rfl 33 _ _ rfl b4 rfl (mvA mv0) (mvA mv0) rfl ?_ rfl (mv_one _) sizeMv ?_; exact HQ.out; intro w8 U R; have HB := Lib.hid (HB.out.trans (U.below HG4.out)); have HQ := Lib.hid R; clear U R))
      refine bodyPost_ret (results_mv2 rfl _ _ _ mv0 (.int .i64 5) rfl rfl HQ.out) rfl ⟨by (rw [HS.out, HE.out]; try rfl), HB.out⟩
    · have g1 : decide ((n : Int) < 64) = true := decide_eq_true (by omega)
      have hn1 : n < 64 := by omega
      have HN := Lib.hid hn1
      have n0 : (0 : Int) ≤ (n : Int) := by omega
      have n1 : (n : Int) < 64 := by omega
      have wn : IntKind.i64.wrap (n : Int) = (n : Int) := IntWalk.i64_in _ (by omega)
      obtain ⟨y, hy⟩ : ∃ y, textZ (n : Int) = y := ⟨_, rfl⟩
      have HY := Lib.hid hy
      clear e64 hn
      cases gz : (y.toList == z.toList)
      · have HNo := Lib.hid (show ∀ k : Nat, noH p l n k from fun k => noH_off (fun e => by
          rw [← hy, ← HZ.out, sqM_bz, e] at gz
          simp at gz) k)
        clear hy hn1
        go_wp2_with fail
        refine late_begin 6 (by kernel_rfl) ?_
        refine late_take 0 (by kernel_rfl) (by kernel_rfl) (by kernel_rfl) (by kernel_rfl) (by kernel_rfl) (fun _ _ d _ _ h => by cases d <;> exact h) (fun o ho => ?_)
        simp only [List.getElem?_toArray, List.getElem?_cons_zero, List.getElem?_cons_succ, Option.some.injEq] at ho; subst ho
        apply Exists.intro
        refine ⟨Or.inl ⟨by kernel_rfl, fun w' hl => Or.inl ?_⟩, ?_⟩
        · (go_simp; try with_reducible rfl)
        simp only [Act.put, List.setIfInBounds_toArray, List.set_cons_zero, List.set_cons_succ]
        refine late_take 1 (by kernel_rfl) (by kernel_rfl) (by kernel_rfl) (by kernel_rfl) (by kernel_rfl) (fun _ _ d _ _ h => by cases d <;> exact h) (fun o ho => ?_)
        simp only [List.getElem?_toArray, List.getElem?_cons_zero, List.getElem?_cons_succ, Option.some.injEq] at ho; subst ho
        refine ⟨.int .i64 (n : Int), Or.inl ⟨by kernel_rfl, fun w' hl => Or.inl ?_⟩, ?_⟩
        · (go_simp; try simp [wn])
        simp only [Act.put, List.setIfInBounds_toArray, List.set_cons_zero, List.set_cons_succ]
        refine late_take 3 (by kernel_rfl) (by kernel_rfl) (by kernel_rfl) (by kernel_rfl) (by kernel_rfl) (fun _ _ d _ _ h => by cases d <;> exact h) (fun o ho => ?_)
        simp only [List.getElem?_toArray, List.getElem?_cons_zero, List.getElem?_cons_succ, Option.some.injEq] at ho; subst ho
        apply Exists.intro
        refine ⟨Or.inl ⟨by kernel_rfl, fun w' hl => Or.inl ?_⟩, ?_⟩
        · (go_simp; try with_reducible rfl)
        simp only [Act.put, List.setIfInBounds_toArray, List.set_cons_zero, List.set_cons_succ]
        refine late_take 4 (by kernel_rfl) (by kernel_rfl) (by kernel_rfl) (by kernel_rfl) (by kernel_rfl) (fun _ _ d _ _ h => by cases d <;> exact h) (fun o ho => ?_)
        simp only [List.getElem?_toArray, List.getElem?_cons_zero, List.getElem?_cons_succ, Option.some.injEq] at ho; subst ho
        refine ⟨.string z, Or.inl ⟨by kernel_rfl, fun w' hl => Or.inl ?_⟩, ?_⟩
        · (go_simp; try simp [sz])
        simp only [Act.put, List.setIfInBounds_toArray, List.set_cons_zero, List.set_cons_succ]
        refine late_one 2 (by kernel_rfl) (by kernel_rfl) (fun o ho => ?_)
        simp only [List.getElem?_toArray, List.getElem?_cons_zero, List.getElem?_cons_succ, Option.some.injEq] at ho; subst ho
        refine ⟨by kernel_rfl, fun wn hl K hK => ?_⟩
        have HR := Lib.hid (HR.out.later hl); have HQ := Lib.hid (HQ.out.later hl); have HB := Lib.hid (below_on HB.out hl); clear hl
        refine wp_enter _ _ (by go_simp; exact ⟨rfl, rfl⟩) ?_
        refine (rtext_any (n : Int) _).mono ?_; rintro e wm ⟨rfl, hb⟩; refine ⟨_, rfl, ?_⟩
        rw [HY.out]
        refine hK.out _ _ hb ?_
        have HR := Lib.hid (HR.out.later hb); have HQ := Lib.hid (HQ.out.later hb); have HB := Lib.hid (below_on HB.out hb); clear hb
        clear hK K
        simp only [Act.put, List.setIfInBounds_toArray, List.set_cons_zero, List.set_cons_succ]
        refine late_take 5 (by kernel_rfl) (by kernel_rfl) (by kernel_rfl) (by kernel_rfl) (by kernel_rfl) (fun _ _ d _ _ h => by cases d <;> exact h) (fun o ho => ?_)
        simp only [List.getElem?_toArray, List.getElem?_cons_zero, List.getElem?_cons_succ, Option.some.injEq] at ho; subst ho
        refine ⟨.bool true, Or.inl ⟨by kernel_rfl, fun w' hl => Or.inl ?_⟩, ?_⟩
        · (go_simp; try simp [gz])
        simp only [Act.put, List.setIfInBounds_toArray, List.set_cons_zero, List.set_cons_succ]
        refine late_end (by kernel_rfl) (fun wn hl => ?_)
        have HR := Lib.hid (HR.out.later hl); have HQ := Lib.hid (HQ.out.later hl); have HB := Lib.hid (below_on HB.out hl); clear hl
        go_wp2_with fail
        go_roundw
        case rel => exact ⟨n + 1, by have := HN.out; omega, by go_num, fun j k hj hk => by
          by_cases e : j < n
          · exact HH.out j k e hk
          · obtain rfl : j = n := by omega
            exact HNo.out k, HR.out, HQ.out, HB.out⟩
        case measure => have := HN.out; simp [intOf]; omega
      · clear hy hn1
        go_wp2_with fail
        refine late_begin 6 (by kernel_rfl) ?_
        refine late_take 0 (by kernel_rfl) (by kernel_rfl) (by kernel_rfl) (by kernel_rfl) (by kernel_rfl) (fun _ _ d _ _ h => by cases d <;> exact h) (fun o ho => ?_)
        simp only [List.getElem?_toArray, List.getElem?_cons_zero, List.getElem?_cons_succ, Option.some.injEq] at ho; subst ho
        apply Exists.intro
        refine ⟨Or.inl ⟨by kernel_rfl, fun w' hl => Or.inl ?_⟩, ?_⟩
        · (go_simp; try with_reducible rfl)
        simp only [Act.put, List.setIfInBounds_toArray, List.set_cons_zero, List.set_cons_succ]
        refine late_take 1 (by kernel_rfl) (by kernel_rfl) (by kernel_rfl) (by kernel_rfl) (by kernel_rfl) (fun _ _ d _ _ h => by cases d <;> exact h) (fun o ho => ?_)
        simp only [List.getElem?_toArray, List.getElem?_cons_zero, List.getElem?_cons_succ, Option.some.injEq] at ho; subst ho
        refine ⟨.int .i64 (n : Int), Or.inl ⟨by kernel_rfl, fun w' hl => Or.inl ?_⟩, ?_⟩
        · (go_simp; try simp [wn])
        simp only [Act.put, List.setIfInBounds_toArray, List.set_cons_zero, List.set_cons_succ]
        refine late_take 3 (by kernel_rfl) (by kernel_rfl) (by kernel_rfl) (by kernel_rfl) (by kernel_rfl) (fun _ _ d _ _ h => by cases d <;> exact h) (fun o ho => ?_)
        simp only [List.getElem?_toArray, List.getElem?_cons_zero, List.getElem?_cons_succ, Option.some.injEq] at ho; subst ho
        apply Exists.intro
        refine ⟨Or.inl ⟨by kernel_rfl, fun w' hl => Or.inl ?_⟩, ?_⟩
        · (go_simp; try with_reducible rfl)
        simp only [Act.put, List.setIfInBounds_toArray, List.set_cons_zero, List.set_cons_succ]
        refine late_take 4 (by kernel_rfl) (by kernel_rfl) (by kernel_rfl) (by kernel_rfl) (by kernel_rfl) (fun _ _ d _ _ h => by cases d <;> exact h) (fun o ho => ?_)
        simp only [List.getElem?_toArray, List.getElem?_cons_zero, List.getElem?_cons_succ, Option.some.injEq] at ho; subst ho
        refine ⟨.string z, Or.inl ⟨by kernel_rfl, fun w' hl => Or.inl ?_⟩, ?_⟩
        · (go_simp; try simp [sz])
        simp only [Act.put, List.setIfInBounds_toArray, List.set_cons_zero, List.set_cons_succ]
        refine late_one 2 (by kernel_rfl) (by kernel_rfl) (fun o ho => ?_)
        simp only [List.getElem?_toArray, List.getElem?_cons_zero, List.getElem?_cons_succ, Option.some.injEq] at ho; subst ho
        refine ⟨by kernel_rfl, fun wn hl K hK => ?_⟩
        have HR := Lib.hid (HR.out.later hl); have HQ := Lib.hid (HQ.out.later hl); have HB := Lib.hid (below_on HB.out hl); clear hl
        refine wp_enter _ _ (by go_simp; exact ⟨rfl, rfl⟩) ?_
        refine (rtext_any (n : Int) _).mono ?_; rintro e wm ⟨rfl, hb⟩; refine ⟨_, rfl, ?_⟩
        rw [HY.out]
        refine hK.out _ _ hb ?_
        have HR := Lib.hid (HR.out.later hb); have HQ := Lib.hid (HQ.out.later hb); have HB := Lib.hid (below_on HB.out hb); clear hb
        clear hK K
        simp only [Act.put, List.setIfInBounds_toArray, List.set_cons_zero, List.set_cons_succ]
        refine late_take 5 (by kernel_rfl) (by kernel_rfl) (by kernel_rfl) (by kernel_rfl) (by kernel_rfl) (fun _ _ d _ _ h => by cases d <;> exact h) (fun o ho => ?_)
        simp only [List.getElem?_toArray, List.getElem?_cons_zero, List.getElem?_cons_succ, Option.some.injEq] at ho; subst ho
        refine ⟨.bool false, Or.inl ⟨by kernel_rfl, fun w' hl => Or.inl ?_⟩, ?_⟩
        · (go_simp; try simp [gz])
        simp only [Act.put, List.setIfInBounds_toArray, List.set_cons_zero, List.set_cons_succ]
        refine late_end (by kernel_rfl) (fun wn hl => ?_)
        have HR := Lib.hid (HR.out.later hl); have HQ := Lib.hid (HQ.out.later hl); have HB := Lib.hid (below_on HB.out hl); clear hl
        go_wp2_with fail
        go_loopw [9] (fun v wr2 => ∃ k : Nat, k ≤ 7 ∧ v = .int .u8 (k : Int) ∧ (∀ j : Nat, j < k → noH p l n j) ∧ Row wr2 b0 p ∧ Blk wr2 b4 33 (mvA mv0) ∧ Below w.heap.size w wr2) (fun v _ => 7 - (intOf v).toNat)
        case atStart => exact ⟨0, by omega, rfl, by intro i h; omega, HR.out, HQ.out, HB.out⟩
        case round =>
          obtain ⟨k, hk, rfl, hhk, hr2, hq2, hb2⟩ := hrel
          have HR := Lib.hid hr2
          have HQ := Lib.hid hq2
          have HB := Lib.hid hb2
          have HHk := Lib.hid hhk
          clear hr2 hq2 hb2 hhk
          by_cases e7 : k = 7
          · have g2 : decide ((k : Int) < 7) = false := decide_eq_false (by omega)
            have HE7 := Lib.hid e7
            clear e7 hk
            go_wp2_with fail
            go_roundw
            case rel => exact ⟨n + 1, by have := HN.out; omega, by go_num, fun j k' hj hk => by
              by_cases e : j < n
              · exact HH.out j k' e hk
              · obtain rfl : j = n := by omega
                exact HHk.out k' (by have := HE7.out; omega), HR.out, HQ.out, HB.out⟩
            case measure => have := HN.out; simp [intOf]; omega
          have g2 : decide ((k : Int) < 7) = true := decide_eq_true (by omega)
          have hk1 : k < 7 := by omega
          have HKK := Lib.hid hk1
          have k0 : (0 : Int) ≤ (k : Int) := by omega
          have k1 : (k : Int) < 7 := by omega
          obtain ⟨x, hx⟩ : ∃ x, bz (mvT p ⟨(n : Int), (n : Int), 0, (k : Int), false⟩) = x := ⟨_, rfl⟩
          have HX := Lib.hid hx
          have HFd := Lib.hid (show FitV ⟨(n : Int), (n : Int), 0, (k : Int), false⟩ from ⟨⟨by show -128 ≤ (n : Int); omega, by show (n : Int) ≤ 127; omega⟩, ⟨by show -128 ≤ (n : Int); omega, by show (n : Int) ≤ 127; omega⟩, ⟨by show (0 : Int) ≤ 0; decide, by show (0 : Int) ≤ 255; decide⟩, ⟨by show 0 ≤ (k : Int); omega, by show (k : Int) ≤ 255; omega⟩⟩)
          clear e7 hk
          cases gx : (x.toList == t.toList)
          · have HDn := Lib.hid (show hdD p l n k = false from isW_false (fun e => by
              rw [← hx, ← HT.out, e] at gx
              simp at gx))
            clear hx hk1
            go_wp2_with (first
              | (refine blk_alloc rfl 33 rfl (mvA mv0) zeroMv ?_; intro b10 w6 N R; have HGHD := Lib.hid (show w.heap.size ≤ b10 by rw [N.at_]; exact HB.out.size); have HHDHR := Lib.hid (show b0 ≠ b10 by rw [N.at_]; exact Nat.ne_of_lt HR.out.lt); have HR := Lib.hid (HR.out.later N.below); have HHDHQ := Lib.hid (show b4 ≠ b10 by rw [N.at_]; exact Nat.ne_of_lt HQ.out.lt); have HQ := Lib.hid (HQ.out.later N.below); have HB := Lib.hid (HB.out.trans (N.below.mono HB.out.size)); have HD := Lib.hid R; clear N R)
              | (refine blk_store rfl 33 _ _ rfl b10 rfl (mvA mv0) (mvA ⟨(n : Int), (n : Int), 0, (k : Int), false⟩) rfl ?_ rfl (mv_one _) sizeMv ?_; exact HD.out; intro w7 U R; have HR := Lib.hid (HR.out.apart U HHDHR.out); have HQ := Lib.hid (HQ.out.apart U HHDHQ.out); have HB := Lib.hid (HB.out.trans (U.below HGHD.out)); have HD := Lib.hid R; clear U R)
              | (refine step_load rfl _ rfl b0 rfl p ?_ ?_; exact HR.out)
              | (refine blk_load rfl 33 _ rfl b10 rfl (mvA ⟨(n : Int), (n : Int), 0, (k : Int), false⟩) ?_ _ Tryd.underlying33 rfl sizeMv ?_; exact HD.out)
              | (go_at_call 10; refine (rText_any p ⟨(n : Int), (n : Int), 0, (k : Int), false⟩ _ HFp.out HFd.out).mono ?_; rintro e w3 ⟨rfl, hb⟩; rw [HX.out]; have HR := Lib.hid (HR.out.later hb); have HQ := Lib.hid (HQ.out.later hb); have HD := Lib.hid (HD.out.later hb); have HB := Lib.hid (below_on HB.out hb); clear hb))
            go_loopw [11] (fun v wr3 => ∃ i : Nat, i ≤ 64 ∧ v = .int .i8 (i : Int) ∧ (∀ j : Nat, j < i → hdP p l j n k = false) ∧ Row wr3 b0 p ∧ Blk wr3 b4 33 (mvA mv0) ∧ Below w.heap.size w wr3) (fun v _ => 64 - (intOf v).toNat)
            case atStart => exact ⟨0, by omega, rfl, by intro i h; omega, HR.out, HQ.out, HB.out⟩
            case round =>
              obtain ⟨i, hi, rfl, hhi, hr3, hq3, hb3⟩ := hrel
              have HR := Lib.hid hr3
              have HQ := Lib.hid hq3
              have HB := Lib.hid hb3
              have HHi := Lib.hid hhi
              clear hr3 hq3 hb3 hhi
              by_cases e64 : i = 64
              · have g3 : decide ((i : Int) < 64) = false := decide_eq_false (by omega)
                have HE6 := Lib.hid e64
                clear e64 hi
                go_wp2_with fail
                go_roundw
                case rel => exact ⟨k + 1, by have := HKK.out; omega, by go_num, fun j hj => by
                  by_cases e : j < k
                  · exact HHk.out j e
                  · obtain rfl : j = k := by omega
                    exact ⟨HDn.out, fun i' hi' => HHi.out i' (by have := HE6.out; omega)⟩, HR.out, HQ.out, HB.out⟩
                case measure => have := HKK.out; simp [intOf]; omega
              have g3 : decide ((i : Int) < 64) = true := decide_eq_true (by omega)
              have hi1 : i < 64 := by omega
              have HI := Lib.hid hi1
              have i0 : (0 : Int) ≤ (i : Int) := by omega
              have i1 : (i : Int) < 64 := by omega
              have wi : IntKind.i64.wrap (i : Int) = (i : Int) := IntWalk.i64_in _ (by omega)
              obtain ⟨v, hv⟩ : ∃ v, textZ (i : Int) = v := ⟨_, rfl⟩
              have HV := Lib.hid hv
              clear e64 hi
              cases gu : (v.toList == u.toList)
              · have HPn := Lib.hid (show hdP p l i n k = false from hdP_off (fun e => by
                  rw [← hv, ← HU.out, sqM_bz, e] at gu
                  simp at gu) n k)
                clear hv hi1
                go_wp2_with (first
                  | (refine blk_alloc rfl 33 rfl (mvA mv0) zeroMv ?_; intro b12 w6 N R; have HGHW := Lib.hid (show w.heap.size ≤ b12 by rw [N.at_]; exact HB.out.size); have HHWHR := Lib.hid (show b0 ≠ b12 by rw [N.at_]; exact Nat.ne_of_lt HR.out.lt); have HR := Lib.hid (HR.out.later N.below); have HHWHQ := Lib.hid (show b4 ≠ b12 by rw [N.at_]; exact Nat.ne_of_lt HQ.out.lt); have HQ := Lib.hid (HQ.out.later N.below); have HB := Lib.hid (HB.out.trans (N.below.mono HB.out.size)); have HW := Lib.hid R; clear N R)
                  | (refine blk_store rfl 33 _ _ rfl b12 rfl (mvA mv0) (mvA ⟨(i : Int), (n : Int), (k : Int), 0, false⟩) rfl ?_ rfl (mv_one _) sizeMv ?_; exact HW.out; intro w7 U R; have HR := Lib.hid (HR.out.apart U HHWHR.out); have HQ := Lib.hid (HQ.out.apart U HHWHQ.out); have HB := Lib.hid (HB.out.trans (U.below HGHW.out)); have HW := Lib.hid R; clear U R))
                refine late_begin 13 (by kernel_rfl) ?_
                refine late_take 0 (by kernel_rfl) (by kernel_rfl) (by kernel_rfl) (by kernel_rfl) (by kernel_rfl) (fun _ _ d _ _ h => by cases d <;> exact h) (fun o ho => ?_)
                simp only [List.getElem?_toArray, List.getElem?_cons_zero, List.getElem?_cons_succ, Option.some.injEq] at ho; subst ho
                apply Exists.intro
                refine ⟨Or.inl ⟨by kernel_rfl, fun w' hl => Or.inl ?_⟩, ?_⟩
                · (go_simp; try with_reducible rfl)
                simp only [Act.put, List.setIfInBounds_toArray, List.set_cons_zero, List.set_cons_succ]
                refine late_take 1 (by kernel_rfl) (by kernel_rfl) (by kernel_rfl) (by kernel_rfl) (by kernel_rfl) (fun _ _ d _ _ h => by cases d <;> exact h) (fun o ho => ?_)
                simp only [List.getElem?_toArray, List.getElem?_cons_zero, List.getElem?_cons_succ, Option.some.injEq] at ho; subst ho
                refine ⟨.int .i64 (i : Int), Or.inl ⟨by kernel_rfl, fun w' hl => Or.inl ?_⟩, ?_⟩
                · (go_simp; try simp [wi])
                simp only [Act.put, List.setIfInBounds_toArray, List.set_cons_zero, List.set_cons_succ]
                refine late_take 3 (by kernel_rfl) (by kernel_rfl) (by kernel_rfl) (by kernel_rfl) (by kernel_rfl) (fun _ _ d _ _ h => by cases d <;> exact h) (fun o ho => ?_)
                simp only [List.getElem?_toArray, List.getElem?_cons_zero, List.getElem?_cons_succ, Option.some.injEq] at ho; subst ho
                apply Exists.intro
                refine ⟨Or.inl ⟨by kernel_rfl, fun w' hl => Or.inl ?_⟩, ?_⟩
                · (go_simp; try with_reducible rfl)
                simp only [Act.put, List.setIfInBounds_toArray, List.set_cons_zero, List.set_cons_succ]
                refine late_take 4 (by kernel_rfl) (by kernel_rfl) (by kernel_rfl) (by kernel_rfl) (by kernel_rfl) (fun _ _ d _ _ h => by cases d <;> exact h) (fun o ho => ?_)
                simp only [List.getElem?_toArray, List.getElem?_cons_zero, List.getElem?_cons_succ, Option.some.injEq] at ho; subst ho
                refine ⟨.string u, Or.inl ⟨by kernel_rfl, fun w' hl => Or.inl ?_⟩, ?_⟩
                · (go_simp; try simp [su])
                simp only [Act.put, List.setIfInBounds_toArray, List.set_cons_zero, List.set_cons_succ]
                refine late_one 2 (by kernel_rfl) (by kernel_rfl) (fun o ho => ?_)
                simp only [List.getElem?_toArray, List.getElem?_cons_zero, List.getElem?_cons_succ, Option.some.injEq] at ho; subst ho
                refine ⟨by kernel_rfl, fun wn hl K hK => ?_⟩
                have HR := Lib.hid (HR.out.later hl); have HQ := Lib.hid (HQ.out.later hl); have HW := Lib.hid (HW.out.later hl); have HB := Lib.hid (below_on HB.out hl); clear hl
                refine wp_enter _ _ (by go_simp; exact ⟨rfl, rfl⟩) ?_
                refine (rtext_any (i : Int) _).mono ?_; rintro e wm ⟨rfl, hb⟩; refine ⟨_, rfl, ?_⟩
                rw [HV.out]
                refine hK.out _ _ hb ?_
                have HR := Lib.hid (HR.out.later hb); have HQ := Lib.hid (HQ.out.later hb); have HW := Lib.hid (HW.out.later hb); have HB := Lib.hid (below_on HB.out hb); clear hb
                clear hK K
                simp only [Act.put, List.setIfInBounds_toArray, List.set_cons_zero, List.set_cons_succ]
                refine late_take 5 (by kernel_rfl) (by kernel_rfl) (by kernel_rfl) (by kernel_rfl) (by kernel_rfl) (fun _ _ d _ _ h => by cases d <;> exact h) (fun o ho => ?_)
                simp only [List.getElem?_toArray, List.getElem?_cons_zero, List.getElem?_cons_succ, Option.some.injEq] at ho; subst ho
                refine ⟨.bool false, Or.inl ⟨by kernel_rfl, fun w' hl => Or.inl ?_⟩, ?_⟩
                · (go_simp; try simp [gu])
                simp only [Act.put, List.setIfInBounds_toArray, List.set_cons_zero, List.set_cons_succ]
                refine late_take 6 (by kernel_rfl) (by kernel_rfl) (by kernel_rfl) (by kernel_rfl) (by kernel_rfl) (fun _ _ d _ _ h => by cases d <;> exact h) (fun o ho => ?_)
                simp only [List.getElem?_toArray, List.getElem?_cons_zero, List.getElem?_cons_succ, Option.some.injEq] at ho; subst ho
                apply Exists.intro
                refine ⟨Or.inl ⟨by kernel_rfl, fun w' hl => Or.inl ?_⟩, ?_⟩
                · (go_simp; try with_reducible rfl)
                simp only [Act.put, List.setIfInBounds_toArray, List.set_cons_zero, List.set_cons_succ]
                refine late_take 7 (by kernel_rfl) (by kernel_rfl) (by kernel_rfl) (by kernel_rfl) (by kernel_rfl) (fun _ _ d _ _ h => by cases d <;> exact h) (fun o ho => ?_)
                simp only [List.getElem?_toArray, List.getElem?_cons_zero, List.getElem?_cons_succ, Option.some.injEq] at ho; subst ho
                refine ⟨_, Or.inr ⟨by kernel_rfl, rfl⟩, ?_⟩
                simp only [Act.put, List.setIfInBounds_toArray, List.set_cons_zero, List.set_cons_succ]
                refine late_take 8 (by kernel_rfl) (by kernel_rfl) (by kernel_rfl) (by kernel_rfl) (by kernel_rfl) (fun _ _ d _ _ h => by cases d <;> exact h) (fun o ho => ?_)
                simp only [List.getElem?_toArray, List.getElem?_cons_zero, List.getElem?_cons_succ, Option.some.injEq] at ho; subst ho
                refine ⟨_, Or.inr ⟨by kernel_rfl, rfl⟩, ?_⟩
                simp only [Act.put, List.setIfInBounds_toArray, List.set_cons_zero, List.set_cons_succ]
                refine late_take 9 (by kernel_rfl) (by kernel_rfl) (by kernel_rfl) (by kernel_rfl) (by kernel_rfl) (fun _ _ d _ _ h => by cases d <;> exact h) (fun o ho => ?_)
                simp only [List.getElem?_toArray, List.getElem?_cons_zero, List.getElem?_cons_succ, Option.some.injEq] at ho; subst ho
                refine ⟨_, Or.inr ⟨by kernel_rfl, rfl⟩, ?_⟩
                simp only [Act.put, List.setIfInBounds_toArray, List.set_cons_zero, List.set_cons_succ]
                refine late_take 10 (by kernel_rfl) (by kernel_rfl) (by kernel_rfl) (by kernel_rfl) (by kernel_rfl) (fun _ _ d _ _ h => by cases d <;> exact h) (fun o ho => ?_)
                simp only [List.getElem?_toArray, List.getElem?_cons_zero, List.getElem?_cons_succ, Option.some.injEq] at ho; subst ho
                refine ⟨_, Or.inr ⟨by kernel_rfl, rfl⟩, ?_⟩
                simp only [Act.put, List.setIfInBounds_toArray, List.set_cons_zero, List.set_cons_succ]
                refine late_take 11 (by kernel_rfl) (by kernel_rfl) (by kernel_rfl) (by kernel_rfl) (by kernel_rfl) (fun _ _ d _ _ h => by cases d <;> exact h) (fun o ho => ?_)
                simp only [List.getElem?_toArray, List.getElem?_cons_zero, List.getElem?_cons_succ, Option.some.injEq] at ho; subst ho
                refine ⟨_, Or.inr ⟨by kernel_rfl, rfl⟩, ?_⟩
                simp only [Act.put, List.setIfInBounds_toArray, List.set_cons_zero, List.set_cons_succ]
                refine late_take 12 (by kernel_rfl) (by kernel_rfl) (by kernel_rfl) (by kernel_rfl) (by kernel_rfl) (fun _ _ d _ _ h => by cases d <;> exact h) (fun o ho => ?_)
                simp only [List.getElem?_toArray, List.getElem?_cons_zero, List.getElem?_cons_succ, Option.some.injEq] at ho; subst ho
                apply Exists.intro
                refine ⟨Or.inl ⟨by kernel_rfl, fun w' hl => Or.inl ?_⟩, ?_⟩
                · (go_simp; try with_reducible rfl)
                simp only [Act.put, List.setIfInBounds_toArray, List.set_cons_zero, List.set_cons_succ]
                refine late_end (by kernel_rfl) (fun wn hl => ?_)
                have HR := Lib.hid (HR.out.later hl); have HQ := Lib.hid (HQ.out.later hl); have HW := Lib.hid (HW.out.later hl); have HB := Lib.hid (below_on HB.out hl); clear hl
                go_wp2_with fail
                go_roundw
                case rel => exact ⟨i + 1, by have := HI.out; omega, by go_num, fun j hj => by
                  by_cases e : j < i
                  · exact HHi.out j e
                  · obtain rfl : j = i := by omega
                    exact HPn.out, HR.out, HQ.out, HB.out⟩
                case measure => have := HI.out; simp [intOf]; omega
              · clear hv
                obtain ⟨x2, hx2⟩ : ∃ x2, bz (mvT p ⟨(i : Int), (n : Int), (k : Int), 0, false⟩) = x2 := ⟨_, rfl⟩
                have HX2 := Lib.hid hx2
                have HFw := Lib.hid (show FitV ⟨(i : Int), (n : Int), (k : Int), 0, false⟩ from ⟨⟨by show -128 ≤ (i : Int); omega, by show (i : Int) ≤ 127; omega⟩, ⟨by show -128 ≤ (n : Int); omega, by show (n : Int) ≤ 127; omega⟩, ⟨by show 0 ≤ (k : Int); omega, by show (k : Int) ≤ 255; omega⟩, ⟨by show (0 : Int) ≤ 0; decide, by show (0 : Int) ≤ 255; decide⟩⟩)
                clear gx
                cases gx : (x2.toList == t.toList)
                · have HPn := Lib.hid (show hdP p l i n k = false from isW_false (fun e => by
                    rw [← hx2, ← HT.out, e] at gx
                    simp at gx))
                  clear hx2 hi1
                  go_wp2_with (first
                    | (refine blk_alloc rfl 33 rfl (mvA mv0) zeroMv ?_; intro b12 w6 N R; have HGHW := Lib.hid (show w.heap.size ≤ b12 by rw [N.at_]; exact HB.out.size); have HHWHR := Lib.hid (show b0 ≠ b12 by rw [N.at_]; exact Nat.ne_of_lt HR.out.lt); have HR := Lib.hid (HR.out.later N.below); have HHWHQ := Lib.hid (show b4 ≠ b12 by rw [N.at_]; exact Nat.ne_of_lt HQ.out.lt); have HQ := Lib.hid (HQ.out.later N.below); have HB := Lib.hid (HB.out.trans (N.below.mono HB.out.size)); have HW := Lib.hid R; clear N R)
                    | (refine blk_store rfl 33 _ _ rfl b12 rfl (mvA mv0) (mvA ⟨(i : Int), (n : Int), (k : Int), 0, false⟩) rfl ?_ rfl (mv_one _) sizeMv ?_; exact HW.out; intro w7 U R; have HR := Lib.hid (HR.out.apart U HHWHR.out); have HQ := Lib.hid (HQ.out.apart U HHWHQ.out); have HB := Lib.hid (HB.out.trans (U.below HGHW.out)); have HW := Lib.hid R; clear U R))
                  refine late_begin 13 (by kernel_rfl) ?_
                  refine late_take 0 (by kernel_rfl) (by kernel_rfl) (by kernel_rfl) (by kernel_rfl) (by kernel_rfl) (fun _ _ d _ _ h => by cases d <;> exact h) (fun o ho => ?_)
                  simp only [List.getElem?_toArray, List.getElem?_cons_zero, List.getElem?_cons_succ, Option.some.injEq] at ho; subst ho
                  apply Exists.intro
                  refine ⟨Or.inl ⟨by kernel_rfl, fun w' hl => Or.inl ?_⟩, ?_⟩
                  · (go_simp; try with_reducible rfl)
                  simp only [Act.put, List.setIfInBounds_toArray, List.set_cons_zero, List.set_cons_succ]
                  refine late_take 1 (by kernel_rfl) (by kernel_rfl) (by kernel_rfl) (by kernel_rfl) (by kernel_rfl) (fun _ _ d _ _ h => by cases d <;> exact h) (fun o ho => ?_)
                  simp only [List.getElem?_toArray, List.getElem?_cons_zero, List.getElem?_cons_succ, Option.some.injEq] at ho; subst ho
                  refine ⟨.int .i64 (i : Int), Or.inl ⟨by kernel_rfl, fun w' hl => Or.inl ?_⟩, ?_⟩
                  · (go_simp; try simp [wi])
                  simp only [Act.put, List.setIfInBounds_toArray, List.set_cons_zero, List.set_cons_succ]
                  refine late_take 3 (by kernel_rfl) (by kernel_rfl) (by kernel_rfl) (by kernel_rfl) (by kernel_rfl) (fun _ _ d _ _ h => by cases d <;> exact h) (fun o ho => ?_)
                  simp only [List.getElem?_toArray, List.getElem?_cons_zero, List.getElem?_cons_succ, Option.some.injEq] at ho; subst ho
                  apply Exists.intro
                  refine ⟨Or.inl ⟨by kernel_rfl, fun w' hl => Or.inl ?_⟩, ?_⟩
                  · (go_simp; try with_reducible rfl)
                  simp only [Act.put, List.setIfInBounds_toArray, List.set_cons_zero, List.set_cons_succ]
                  refine late_take 4 (by kernel_rfl) (by kernel_rfl) (by kernel_rfl) (by kernel_rfl) (by kernel_rfl) (fun _ _ d _ _ h => by cases d <;> exact h) (fun o ho => ?_)
                  simp only [List.getElem?_toArray, List.getElem?_cons_zero, List.getElem?_cons_succ, Option.some.injEq] at ho; subst ho
                  refine ⟨.string u, Or.inl ⟨by kernel_rfl, fun w' hl => Or.inl ?_⟩, ?_⟩
                  · (go_simp; try simp [su])
                  simp only [Act.put, List.setIfInBounds_toArray, List.set_cons_zero, List.set_cons_succ]
                  refine late_one 2 (by kernel_rfl) (by kernel_rfl) (fun o ho => ?_)
                  simp only [List.getElem?_toArray, List.getElem?_cons_zero, List.getElem?_cons_succ, Option.some.injEq] at ho; subst ho
                  refine ⟨by kernel_rfl, fun wn hl K hK => ?_⟩
                  have HR := Lib.hid (HR.out.later hl); have HQ := Lib.hid (HQ.out.later hl); have HW := Lib.hid (HW.out.later hl); have HB := Lib.hid (below_on HB.out hl); clear hl
                  refine wp_enter _ _ (by go_simp; exact ⟨rfl, rfl⟩) ?_
                  refine (rtext_any (i : Int) _).mono ?_; rintro e wm ⟨rfl, hb⟩; refine ⟨_, rfl, ?_⟩
                  rw [HV.out]
                  refine hK.out _ _ hb ?_
                  have HR := Lib.hid (HR.out.later hb); have HQ := Lib.hid (HQ.out.later hb); have HW := Lib.hid (HW.out.later hb); have HB := Lib.hid (below_on HB.out hb); clear hb
                  clear hK K
                  simp only [Act.put, List.setIfInBounds_toArray, List.set_cons_zero, List.set_cons_succ]
                  refine late_take 5 (by kernel_rfl) (by kernel_rfl) (by kernel_rfl) (by kernel_rfl) (by kernel_rfl) (fun _ _ d _ _ h => by cases d <;> exact h) (fun o ho => ?_)
                  simp only [List.getElem?_toArray, List.getElem?_cons_zero, List.getElem?_cons_succ, Option.some.injEq] at ho; subst ho
                  refine ⟨.bool true, Or.inl ⟨by kernel_rfl, fun w' hl => Or.inl ?_⟩, ?_⟩
                  · (go_simp; try simp [gu])
                  simp only [Act.put, List.setIfInBounds_toArray, List.set_cons_zero, List.set_cons_succ]
                  refine late_take 6 (by kernel_rfl) (by kernel_rfl) (by kernel_rfl) (by kernel_rfl) (by kernel_rfl) (fun _ _ d _ _ h => by cases d <;> exact h) (fun o ho => ?_)
                  simp only [List.getElem?_toArray, List.getElem?_cons_zero, List.getElem?_cons_succ, Option.some.injEq] at ho; subst ho
                  apply Exists.intro
                  refine ⟨Or.inl ⟨by kernel_rfl, fun w' hl => Or.inl ?_⟩, ?_⟩
                  · (go_simp; try with_reducible rfl)
                  simp only [Act.put, List.setIfInBounds_toArray, List.set_cons_zero, List.set_cons_succ]
                  refine late_take 7 (by kernel_rfl) (by kernel_rfl) (by kernel_rfl) (by kernel_rfl) (by kernel_rfl) (fun _ _ d _ _ h => by cases d <;> exact h) (fun o ho => ?_)
                  simp only [List.getElem?_toArray, List.getElem?_cons_zero, List.getElem?_cons_succ, Option.some.injEq] at ho; subst ho
                  refine ⟨_, Or.inl ⟨by kernel_rfl, fun w' hl => Or.inl (run_load _ rfl _ rfl (p) (HR.out.later hl))⟩, ?_⟩
                  simp only [Act.put, List.setIfInBounds_toArray, List.set_cons_zero, List.set_cons_succ]
                  refine late_take 8 (by kernel_rfl) (by kernel_rfl) (by kernel_rfl) (by kernel_rfl) (by kernel_rfl) (fun _ _ d _ _ h => by cases d <;> exact h) (fun o ho => ?_)
                  simp only [List.getElem?_toArray, List.getElem?_cons_zero, List.getElem?_cons_succ, Option.some.injEq] at ho; subst ho
                  refine ⟨_, Or.inl ⟨by kernel_rfl, fun w' hl => Or.inl (run_blk 33 _ rfl b12 rfl (mvA ⟨(i : Int), (n : Int), (k : Int), 0, false⟩) (HW.out.later hl) _ Tryd.underlying33 rfl sizeMv)⟩, ?_⟩
                  simp only [Act.put, List.setIfInBounds_toArray, List.set_cons_zero, List.set_cons_succ]
                  refine late_take 10 (by kernel_rfl) (by kernel_rfl) (by kernel_rfl) (by kernel_rfl) (by kernel_rfl) (fun _ _ d _ _ h => by cases d <;> exact h) (fun o ho => ?_)
                  simp only [List.getElem?_toArray, List.getElem?_cons_zero, List.getElem?_cons_succ, Option.some.injEq] at ho; subst ho
                  apply Exists.intro
                  refine ⟨Or.inl ⟨by kernel_rfl, fun w' hl => Or.inl ?_⟩, ?_⟩
                  · (go_simp; try with_reducible rfl)
                  simp only [Act.put, List.setIfInBounds_toArray, List.set_cons_zero, List.set_cons_succ]
                  refine late_one 9 (by kernel_rfl) (by kernel_rfl) (fun o ho => ?_)
                  simp only [List.getElem?_toArray, List.getElem?_cons_zero, List.getElem?_cons_succ, Option.some.injEq] at ho; subst ho
                  refine ⟨by kernel_rfl, fun wn hl K hK => ?_⟩
                  have HR := Lib.hid (HR.out.later hl); have HQ := Lib.hid (HQ.out.later hl); have HW := Lib.hid (HW.out.later hl); have HB := Lib.hid (below_on HB.out hl); clear hl
                  refine wp_enter _ _ (by go_simp; exact ⟨rfl, rfl⟩) ?_
                  refine (rText_any p ⟨(i : Int), (n : Int), (k : Int), 0, false⟩ _ HFp.out HFw.out).mono ?_; rintro e wm ⟨rfl, hb⟩; refine ⟨_, rfl, ?_⟩
                  rw [HX2.out]
                  refine hK.out _ _ hb ?_
                  have HR := Lib.hid (HR.out.later hb); have HQ := Lib.hid (HQ.out.later hb); have HW := Lib.hid (HW.out.later hb); have HB := Lib.hid (below_on HB.out hb); clear hb
                  clear hK K
                  simp only [Act.put, List.setIfInBounds_toArray, List.set_cons_zero, List.set_cons_succ]
                  refine late_take 11 (by kernel_rfl) (by kernel_rfl) (by kernel_rfl) (by kernel_rfl) (by kernel_rfl) (fun _ _ d _ _ h => by cases d <;> exact h) (fun o ho => ?_)
                  simp only [List.getElem?_toArray, List.getElem?_cons_zero, List.getElem?_cons_succ, Option.some.injEq] at ho; subst ho
                  refine ⟨.bool false, Or.inl ⟨by kernel_rfl, fun w' hl => Or.inl ?_⟩, ?_⟩
                  · (go_simp; try simp [gx])
                  simp only [Act.put, List.setIfInBounds_toArray, List.set_cons_zero, List.set_cons_succ]
                  refine late_take 12 (by kernel_rfl) (by kernel_rfl) (by kernel_rfl) (by kernel_rfl) (by kernel_rfl) (fun _ _ d _ _ h => by cases d <;> exact h) (fun o ho => ?_)
                  simp only [List.getElem?_toArray, List.getElem?_cons_zero, List.getElem?_cons_succ, Option.some.injEq] at ho; subst ho
                  apply Exists.intro
                  refine ⟨Or.inl ⟨by kernel_rfl, fun w' hl => Or.inl ?_⟩, ?_⟩
                  · (go_simp; try with_reducible rfl)
                  simp only [Act.put, List.setIfInBounds_toArray, List.set_cons_zero, List.set_cons_succ]
                  refine late_end (by kernel_rfl) (fun wn hl => ?_)
                  have HR := Lib.hid (HR.out.later hl); have HQ := Lib.hid (HQ.out.later hl); have HW := Lib.hid (HW.out.later hl); have HB := Lib.hid (below_on HB.out hl); clear hl
                  go_wp2_with fail
                  go_roundw
                  case rel => exact ⟨i + 1, by have := HI.out; omega, by go_num, fun j hj => by
                    by_cases e : j < i
                    · exact HHi.out j e
                    · obtain rfl : j = i := by omega
                      exact HPn.out, HR.out, HQ.out, HB.out⟩
                  case measure => have := HI.out; simp [intOf]; omega
                · have hm := mvP_P HFp.out (show hdP p l i n k = true from isW_true.2 ⟨by
                    rw [← hx2, ← HT.out, bz_toList, bz_toList, beq_iff_eq] at gx; exact gx, HLn.out⟩)
                  have HS := Lib.hid (show pmO (mvP p l) = ⟨(i : Int), (n : Int), (k : Int), 0, false⟩ by rw [hm]; rfl)
                  have HE := Lib.hid (show enO p (mvP p l) = 0 by rw [hm]; rfl)
                  clear hx2 hi1 hm
                  go_wp2_with (first
                    | (refine blk_alloc rfl 33 rfl (mvA mv0) zeroMv ?_; intro b12 w6 N R; have HGHW := Lib.hid (show w.heap.size ≤ b12 by rw [N.at_]; exact HB.out.size); have HHWHR := Lib.hid (show b0 ≠ b12 by rw [N.at_]; exact Nat.ne_of_lt HR.out.lt); have HR := Lib.hid (HR.out.later N.below); have HHWHQ := Lib.hid (show b4 ≠ b12 by rw [N.at_]; exact Nat.ne_of_lt HQ.out.lt); have HQ := Lib.hid (HQ.out.later N.below); have HB := Lib.hid (HB.out.trans (N.below.mono HB.out.size)); have HW := Lib.hid R; clear N R)
                    | (refine blk_store rfl 33 _ _ rfl b12 rfl (mvA mv0) (mvA ⟨(i : Int), (n : Int), (k : Int), 0, false⟩) rfl ?_ rfl (mv_one _) sizeMv ?_; exact HW.out; intro w7 U R; have HR := Lib.hid (HR.out.apart U HHWHR.out); have HQ := Lib.hid (HQ.out.apart U HHWHQ.out); have HB := Lib.hid (HB.out.trans (U.below HGHW.out)); have HW := Lib.hid R; clear U R))
                  refine late_begin 13 (by kernel_rfl) ?_
                  refine late_take 0 (by kernel_rfl) (by kernel_rfl) (by kernel_rfl) (by kernel_rfl) (by kernel_rfl) (fun _ _ d _ _ h => by cases d <;> exact h) (fun o ho => ?_)
                  simp only [List.getElem?_toArray, List.getElem?_cons_zero, List.getElem?_cons_succ, Option.some.injEq] at ho; subst ho
                  apply Exists.intro
                  refine ⟨Or.inl ⟨by kernel_rfl, fun w' hl => Or.inl ?_⟩, ?_⟩
                  · (go_simp; try with_reducible rfl)
                  simp only [Act.put, List.setIfInBounds_toArray, List.set_cons_zero, List.set_cons_succ]
                  refine late_take 1 (by kernel_rfl) (by kernel_rfl) (by kernel_rfl) (by kernel_rfl) (by kernel_rfl) (fun _ _ d _ _ h => by cases d <;> exact h) (fun o ho => ?_)
                  simp only [List.getElem?_toArray, List.getElem?_cons_zero, List.getElem?_cons_succ, Option.some.injEq] at ho; subst ho
                  refine ⟨.int .i64 (i : Int), Or.inl ⟨by kernel_rfl, fun w' hl => Or.inl ?_⟩, ?_⟩
                  · (go_simp; try simp [wi])
                  simp only [Act.put, List.setIfInBounds_toArray, List.set_cons_zero, List.set_cons_succ]
                  refine late_take 3 (by kernel_rfl) (by kernel_rfl) (by kernel_rfl) (by kernel_rfl) (by kernel_rfl) (fun _ _ d _ _ h => by cases d <;> exact h) (fun o ho => ?_)
                  simp only [List.getElem?_toArray, List.getElem?_cons_zero, List.getElem?_cons_succ, Option.some.injEq] at ho; subst ho
                  apply Exists.intro
                  refine ⟨Or.inl ⟨by kernel_rfl, fun w' hl => Or.inl ?_⟩, ?_⟩
                  · (go_simp; try with_reducible rfl)
                  simp only [Act.put, List.setIfInBounds_toArray, List.set_cons_zero, List.set_cons_succ]
                  refine late_take 4 (by kernel_rfl) (by kernel_rfl) (by kernel_rfl) (by kernel_rfl) (by kernel_rfl) (fun _ _ d _ _ h => by cases d <;> exact h) (fun o ho => ?_)
                  simp only [List.getElem?_toArray, List.getElem?_cons_zero, List.getElem?_cons_succ, Option.some.injEq] at ho; subst ho
                  refine ⟨.string u, Or.inl ⟨by kernel_rfl, fun w' hl => Or.inl ?_⟩, ?_⟩
                  · (go_simp; try simp [su])
                  simp only [Act.put, List.setIfInBounds_toArray, List.set_cons_zero, List.set_cons_succ]
                  refine late_one 2 (by kernel_rfl) (by kernel_rfl) (fun o ho => ?_)
                  simp only [List.getElem?_toArray, List.getElem?_cons_zero, List.getElem?_cons_succ, Option.some.injEq] at ho; subst ho
                  refine ⟨by kernel_rfl, fun wn hl K hK => ?_⟩
                  have HR := Lib.hid (HR.out.later hl); have HQ := Lib.hid (HQ.out.later hl); have HW := Lib.hid (HW.out.later hl); have HB := Lib.hid (below_on HB.out hl); clear hl
                  refine wp_enter _ _ (by go_simp; exact ⟨rfl, rfl⟩) ?_
                  refine (rtext_any (i : Int) _).mono ?_; rintro e wm ⟨rfl, hb⟩; refine ⟨_, rfl, ?_⟩
                  rw [HV.out]
                  refine hK.out _ _ hb ?_
                  have HR := Lib.hid (HR.out.later hb); have HQ := Lib.hid (HQ.out.later hb); have HW := Lib.hid (HW.out.later hb); have HB := Lib.hid (below_on HB.out hb); clear hb
                  clear hK K
                  simp only [Act.put, List.setIfInBounds_toArray, List.set_cons_zero, List.set_cons_succ]
                  refine late_take 5 (by kernel_rfl) (by kernel_rfl) (by kernel_rfl) (by kernel_rfl) (by kernel_rfl) (fun _ _ d _ _ h => by cases d <;> exact h) (fun o ho => ?_)
                  simp only [List.getElem?_toArray, List.getElem?_cons_zero, List.getElem?_cons_succ, Option.some.injEq] at ho; subst ho
                  refine ⟨.bool true, Or.inl ⟨by kernel_rfl, fun w' hl => Or.inl ?_⟩, ?_⟩
                  · (go_simp; try simp [gu])
                  simp only [Act.put, List.setIfInBounds_toArray, List.set_cons_zero, List.set_cons_succ]
                  refine late_take 6 (by kernel_rfl) (by kernel_rfl) (by kernel_rfl) (by kernel_rfl) (by kernel_rfl) (fun _ _ d _ _ h => by cases d <;> exact h) (fun o ho => ?_)
                  simp only [List.getElem?_toArray, List.getElem?_cons_zero, List.getElem?_cons_succ, Option.some.injEq] at ho; subst ho
                  apply Exists.intro
                  refine ⟨Or.inl ⟨by kernel_rfl, fun w' hl => Or.inl ?_⟩, ?_⟩
                  · (go_simp; try with_reducible rfl)
                  simp only [Act.put, List.setIfInBounds_toArray, List.set_cons_zero, List.set_cons_succ]
                  refine late_take 7 (by kernel_rfl) (by kernel_rfl) (by kernel_rfl) (by kernel_rfl) (by kernel_rfl) (fun _ _ d _ _ h => by cases d <;> exact h) (fun o ho => ?_)
                  simp only [List.getElem?_toArray, List.getElem?_cons_zero, List.getElem?_cons_succ, Option.some.injEq] at ho; subst ho
                  refine ⟨_, Or.inl ⟨by kernel_rfl, fun w' hl => Or.inl (run_load _ rfl _ rfl (p) (HR.out.later hl))⟩, ?_⟩
                  simp only [Act.put, List.setIfInBounds_toArray, List.set_cons_zero, List.set_cons_succ]
                  refine late_take 8 (by kernel_rfl) (by kernel_rfl) (by kernel_rfl) (by kernel_rfl) (by kernel_rfl) (fun _ _ d _ _ h => by cases d <;> exact h) (fun o ho => ?_)
                  simp only [List.getElem?_toArray, List.getElem?_cons_zero, List.getElem?_cons_succ, Option.some.injEq] at ho; subst ho
                  refine ⟨_, Or.inl ⟨by kernel_rfl, fun w' hl => Or.inl (run_blk 33 _ rfl b12 rfl (mvA ⟨(i : Int), (n : Int), (k : Int), 0, false⟩) (HW.out.later hl) _ Tryd.underlying33 rfl sizeMv)⟩, ?_⟩
                  simp only [Act.put, List.setIfInBounds_toArray, List.set_cons_zero, List.set_cons_succ]
                  refine late_take 10 (by kernel_rfl) (by kernel_rfl) (by kernel_rfl) (by kernel_rfl) (by kernel_rfl) (fun _ _ d _ _ h => by cases d <;> exact h) (fun o ho => ?_)
                  simp only [List.getElem?_toArray, List.getElem?_cons_zero, List.getElem?_cons_succ, Option.some.injEq] at ho; subst ho
                  apply Exists.intro
                  refine ⟨Or.inl ⟨by kernel_rfl, fun w' hl => Or.inl ?_⟩, ?_⟩
                  · (go_simp; try with_reducible rfl)
                  simp only [Act.put, List.setIfInBounds_toArray, List.set_cons_zero, List.set_cons_succ]
                  refine late_one 9 (by kernel_rfl) (by kernel_rfl) (fun o ho => ?_)
                  simp only [List.getElem?_toArray, List.getElem?_cons_zero, List.getElem?_cons_succ, Option.some.injEq] at ho; subst ho
                  refine ⟨by kernel_rfl, fun wn hl K hK => ?_⟩
                  have HR := Lib.hid (HR.out.later hl); have HQ := Lib.hid (HQ.out.later hl); have HW := Lib.hid (HW.out.later hl); have HB := Lib.hid (below_on HB.out hl); clear hl
                  refine wp_enter _ _ (by go_simp; exact ⟨rfl, rfl⟩) ?_
                  refine (rText_any p ⟨(i : Int), (n : Int), (k : Int), 0, false⟩ _ HFp.out HFw.out).mono ?_; rintro e wm ⟨rfl, hb⟩; refine ⟨_, rfl, ?_⟩
                  rw [HX2.out]
                  refine hK.out _ _ hb ?_
                  have HR := Lib.hid (HR.out.later hb); have HQ := Lib.hid (HQ.out.later hb); have HW := Lib.hid (HW.out.later hb); have HB := Lib.hid (below_on HB.out hb); clear hb
                  clear hK K
                  simp only [Act.put, List.setIfInBounds_toArray, List.set_cons_zero, List.set_cons_succ]
                  refine late_take 11 (by kernel_rfl) (by kernel_rfl) (by kernel_rfl) (by kernel_rfl) (by kernel_rfl) (fun _ _ d _ _ h => by cases d <;> exact h) (fun o ho => ?_)
                  simp only [List.getElem?_toArray, List.getElem?_cons_zero, List.getElem?_cons_succ, Option.some.injEq] at ho; subst ho
                  refine ⟨.bool true, Or.inl ⟨by kernel_rfl, fun w' hl => Or.inl ?_⟩, ?_⟩
                  · (go_simp; try simp [gx])
                  simp only [Act.put, List.setIfInBounds_toArray, List.set_cons_zero, List.set_cons_succ]
                  refine late_take 12 (by kernel_rfl) (by kernel_rfl) (by kernel_rfl) (by kernel_rfl) (by kernel_rfl) (fun _ _ d _ _ h => by cases d <;> exact h) (fun o ho => ?_)
                  simp only [List.getElem?_toArray, List.getElem?_cons_zero, List.getElem?_cons_succ, Option.some.injEq] at ho; subst ho
                  apply Exists.intro
                  refine ⟨Or.inl ⟨by kernel_rfl, fun w' hl => Or.inl ?_⟩, ?_⟩
                  · (go_simp; try with_reducible rfl)
                  simp only [Act.put, List.setIfInBounds_toArray, List.set_cons_zero, List.set_cons_succ]
                  refine late_end (by kernel_rfl) (fun wn hl => ?_)
                  have HR := Lib.hid (HR.out.later hl); have HQ := Lib.hid (HQ.out.later hl); have HW := Lib.hid (HW.out.later hl); have HB := Lib.hid (below_on HB.out hl); clear hl
                  go_wp2_with (first
                    | (refine blk_load rfl 33 _ rfl b12 rfl (mvA ⟨(i : Int), (n : Int), (k : Int), 0, false⟩) ?_ _ Tryd.underlying33 rfl sizeMv ?_; exact HW.out)
                    | (refine blk_store rfl 33 _ _ rfl b4 rfl (mvA mv0) (mvA ⟨(i : Int), (n : Int), (k : Int), 0, false⟩) rfl ?_ rfl (mv_one _) sizeMv ?_; exact HQ.out; intro w8 U R; have HB := Lib.hid (HB.out.trans (U.below HG4.out)); have HQ := Lib.hid R; clear U R))
                  refine bodyPost_ret (results_mv2 rfl _ _ _ ⟨(i : Int), (n : Int), (k : Int), 0, false⟩ (.int .i64 0) rfl rfl HQ.out) rfl ⟨by (rw [HS.out, HE.out]; try rfl), HB.out⟩
          · have hm := mvP_D HFp.out (show hdD p l n k = true from isW_true.2 ⟨by
              rw [← hx, ← HT.out, bz_toList, bz_toList, beq_iff_eq] at gx; exact gx, HLn.out⟩)
            have HS := Lib.hid (show pmO (mvP p l) = ⟨(n : Int), (n : Int), 0, (k : Int), false⟩ by rw [hm]; rfl)
            have HE := Lib.hid (show enO p (mvP p l) = 0 by rw [hm]; rfl)
            clear hx hk1 hm
            go_wp2_with (first
              | (refine blk_alloc rfl 33 rfl (mvA mv0) zeroMv ?_; intro b10 w6 N R; have HGHD := Lib.hid (show w.heap.size ≤ b10 by rw [N.at_]; exact HB.out.size); have HHDHR := Lib.hid (show b0 ≠ b10 by rw [N.at_]; exact Nat.ne_of_lt HR.out.lt); have HR := Lib.hid (HR.out.later N.below); have HHDHQ := Lib.hid (show b4 ≠ b10 by rw [N.at_]; exact Nat.ne_of_lt HQ.out.lt); have HQ := Lib.hid (HQ.out.later N.below); have HB := Lib.hid (HB.out.trans (N.below.mono HB.out.size)); have HD := Lib.hid R; clear N R)
              | (refine blk_store rfl 33 _ _ rfl b10 rfl (mvA mv0) (mvA ⟨(n : Int), (n : Int), 0, (k : Int), false⟩) rfl ?_ rfl (mv_one _) sizeMv ?_; exact HD.out; intro w7 U R; have HR := Lib.hid (HR.out.apart U HHDHR.out); have HQ := Lib.hid (HQ.out.apart U HHDHQ.out); have HB := Lib.hid (HB.out.trans (U.below HGHD.out)); have HD := Lib.hid R; clear U R)
              | (refine step_load rfl _ rfl b0 rfl p ?_ ?_; exact HR.out)
              | (refine blk_load rfl 33 _ rfl b10 rfl (mvA ⟨(n : Int), (n : Int), 0, (k : Int), false⟩) ?_ _ Tryd.underlying33 rfl sizeMv ?_; exact HD.out)
              | (go_at_call 10; refine (rText_any p ⟨(n : Int), (n : Int), 0, (k : Int), false⟩ _ HFp.out HFd.out).mono ?_; rintro e w3 ⟨rfl, hb⟩; rw [HX.out]; have HR := Lib.hid (HR.out.later hb); have HQ := Lib.hid (HQ.out.later hb); have HD := Lib.hid (HD.out.later hb); have HB := Lib.hid (below_on HB.out hb); clear hb)
              | (refine blk_store rfl 33 _ _ rfl b4 rfl (mvA mv0) (mvA ⟨(n : Int), (n : Int), 0, (k : Int), false⟩) rfl ?_ rfl (mv_one _) sizeMv ?_; exact HQ.out; intro w8 U R; have HB := Lib.hid (HB.out.trans (U.below HG4.out)); have HQ := Lib.hid R; clear U R))
            refine bodyPost_ret (results_mv2 rfl _ _ _ ⟨(n : Int), (n : Int), 0, (k : Int), false⟩ (.int .i64 0) rfl rfl HQ.out) rfl ⟨by (rw [HS.out, HE.out]; try rfl), HB.out⟩
theorem rParse_any (p : Nat → Int) (l : List UInt8) (w : World) (hp : FitM p) : Calls Tryd.prog 5 #[.agg (posA p), .string (bz l)] w (MvN (pmO (mvP p l)) (enO p (mvP p l)) w) := by
  cases h1 : decide (8 < p 0)
  case true => exact rpar_v p l w hp h1
  cases h2 : decide (1 < p 78)
  case true => exact rpar_t p l w hp h1 h2
  cases hc : coB p l
  case true => exact rpar_c p l w hp h1 h2 hc
  by_cases h4 : l.length < 4
  · exact rpar_s p l w hp h1 h2 hc h4
  by_cases h5 : 5 < l.length
  · exact rpar_g p l w hp h1 h2 hc h5
  exact rpar_m p l w hp h1 h2 hc (by omega) (by omega)
end Go.Proofs.YtnogmogmlilpiaaDoor
