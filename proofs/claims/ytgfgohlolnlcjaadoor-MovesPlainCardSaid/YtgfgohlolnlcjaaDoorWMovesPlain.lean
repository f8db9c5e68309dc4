/-
  The walk of MovesPlain.
-/
import Derived.Test.YtgfgohlolnlcjaaDoorMvG
import Derived.Test.YtgfgohlolnlcjaaDoorMvLaid
import Derived.IntWalk
import Derived.WalkKit
import Derived.OpenShut
namespace Go.Proofs.YtgfgohlolnlcjaaDoor.movesPlain
open Go.RowKit
set_option linter.unusedVariables false
set_option linter.unusedSimpArgs false
/-- Kings taken off the first k squares. -/
def clrP (p : Nat → Int) (k i : Nat) : Int := bif decide (1 ≤ i) && decide (i < 1 + k) && ((p i == 6) || (p i == 14)) then 0 else p i
theorem clrP_0 (p : Nat → Int) : clrP p 0 = p := by
  funext i
  unfold clrP
  have : (decide (1 ≤ i) && decide (i < 1 + 0)) = false := by
    cases h : decide (1 ≤ i)
    · rfl
    · have := of_decide_eq_true h
      rw [decide_eq_false (show ¬ i < 1 + 0 by omega)]; rfl
  rw [this]; rfl
theorem clrP_at (p : Nat → Int) {k j : Nat} (h : k ≤ j) : clrP p k (1 + j) = p (1 + j) := by
  unfold clrP
  rw [decide_eq_false (show ¬ 1 + j < 1 + k by omega), Bool.and_false, Bool.false_and]; rfl
theorem clrP_out (p : Nat → Int) {i : Nat} (h : i = 0 ∨ 65 ≤ i) : clrP p 64 i = p i := by
  unfold clrP
  have : (decide (1 ≤ i) && decide (i < 1 + 64)) = false := by
    rcases h with rfl | h
    · rfl
    · rw [decide_eq_false (show ¬ i < 1 + 64 by omega), Bool.and_false]
  rw [this]; rfl
theorem clrP_yes {p : Nat → Int} {k : Nat} (h : ((p (1 + k) == 6) || (p (1 + k) == 14)) = true) : upd (clrP p k) (1 + k) 0 = clrP p (k + 1) := by
  funext i
  by_cases e : i = 1 + k
  · subst e
    rw [upd_same]
    unfold clrP
    rw [h, decide_eq_true (show 1 ≤ 1 + k by omega), decide_eq_true (show 1 + k < 1 + (k + 1) by omega)]; rfl
  · rw [upd_other _ _ _ _ e]
    unfold clrP
    have : decide (i < 1 + k) = decide (i < 1 + (k + 1)) := by
      rw [decide_eq_decide]; omega
    rw [this]
theorem clrP_no {p : Nat → Int} {k : Nat} (h : ((p (1 + k) == 6) || (p (1 + k) == 14)) = false) : clrP p k = clrP p (k + 1) := by
  funext i
  by_cases e : i = 1 + k
  · subst e
    unfold clrP
    rw [h, Bool.and_false, Bool.and_false]
  · unfold clrP
    have : decide (i < 1 + k) = decide (i < 1 + (k + 1)) := by
      rw [decide_eq_decide]; omega
    rw [this]
theorem clr_fit {p : Nat → Int} (h : FitM p) : FitM (clrP p 64) :=
  ⟨by rw [clrP_out p (.inl rfl)]; exact h.var, by rw [clrP_out p (.inr (by omega))]; exact h.turn, fun i h1 h2 => by rw [clrP_out p (.inr (by omega))]; exact h.rook i h1 h2⟩
theorem clr_sm (p : Nat → Int) : smB (clrP p 64) = smB p := by
  unfold smB; rw [clrP_out p (.inl rfl), clrP_out p (i := 78) (.inr (by omega))]
theorem clr_st {p : Nat → Int} (ht : p 78 = 0 ∨ p 78 = 1) {f : Int} (hf : sqB f = true) : stB (clrP p 64) f 6 = false := by
  obtain ⟨h0, h1⟩ := sqB_true.1 hf
  obtain ⟨n, rfl⟩ := Int.eq_ofNat_of_zero_le h0
  unfold stB
  rw [clrP_out p (i := 78) (.inr (by omega)), beq_eq_false_iff_ne]
  show clrP p 64 (1 + n) ≠ mkZ (p 78) 6
  unfold clrP
  rw [decide_eq_true (show 1 ≤ 1 + n by omega), decide_eq_true (show 1 + n < 1 + 64 by omega)]
  have e : mkZ (p 78) 6 = 6 ∨ mkZ (p 78) 6 = 14 := by
    rcases ht with h | h <;> rw [h]
    · exact .inl rfl
    · exact .inr rfl
  cases hc : ((p (1 + n) == 6) || (p (1 + n) == 14))
  · show p (1 + n) ≠ _
    rw [Bool.or_eq_false_iff, beq_eq_false_iff_ne, beq_eq_false_iff_ne] at hc
    rcases e with e | e <;> rw [e]
    · exact hc.1
    · exact hc.2
  · show (0 : Int) ≠ _
    rcases e with e | e <;> rw [e] <;> decide
theorem clr_cs {p : Nat → Int} (ht : p 78 = 0 ∨ p 78 = 1) (m : Mv) : csT (clrP p 64) m = [] := by
  unfold csT csB
  cases h : (sqB m.f && sqB m.t && (m.f != m.t))
  · rw [Bool.false_and, Bool.false_and, Bool.and_false]; rfl
  · have h' := h
    simp only [Bool.and_eq_true] at h'
    rw [clr_st ht h'.1.1, Bool.and_false, Bool.false_and, Bool.and_false]; rfl
theorem clr_co {p : Nat → Int} (ht : p 78 = 0 ∨ p 78 = 1) (l : List UInt8) : coB (clrP p 64) l = false := by
  unfold coB; rw [clr_cs ht]; rfl
theorem plain_text {p : Nat → Int} (hs : smB p = true) (ht : p 78 = 0 ∨ p 78 = 1) {f t k : Int} (hf : sqB f = true) (hg : sqB t = true) (hne : f ≠ t) (h1 : k ≠ 1) (h6 : k ≤ 6) : mvT (clrP p 64) ⟨f, t, k, 0, false⟩ = sqM f ++ sqM t ++ leF (mkZ 1 k) := by
  unfold mvT
  rw [clr_sm, hs]
  show plT (clrP p 64) ⟨f, t, k, 0, false⟩ = _
  have c : (sqB f && sqB t && (f != t)) = true := by rw [hf, hg, bne_iff_ne.2 hne]; rfl
  unfold plT
  show (bif (sqB f && sqB t && (f != t)) && !((k == 1) || decide (6 < k)) then (bif coB (clrP p 64) (enL f t ++ leF (mkZ 1 k)) then [] else enL f t ++ leF (mkZ 1 k)) else []) = _
  rw [c, show (k == 1) = false by rw [beq_eq_false_iff_ne]; exact h1, decide_eq_false (show ¬ 6 < k by omega), clr_co ht, enL_yes c]
  rfl
theorem plain_same {p : Nat → Int} (ht : p 78 = 0 ∨ p 78 = 1) {s : Int} (hq : sqB s = true) (r : List UInt8) : mvP (clrP p 64) (sqM s ++ sqM s ++ r) = none := by
  cases h : mvP (clrP p 64) (sqM s ++ sqM s ++ r) with
  | none => rfl
  | some m =>
    exfalso
    obtain ⟨hl, hne, hsm⟩ := mv_text h
    unfold mvT at hl
    rw [hsm] at hl
    have hl : (bif m.dr != 0 then drT m else bif m.ca then csT (clrP p 64) m else plT (clrP p 64) m) = sqM s ++ sqM s ++ r := hl
    obtain ⟨a, b, e1, b1, b2, b3, b4⟩ := sqM_two hq
    cases hd : (m.dr != 0)
    · rw [hd] at hl
      have hl : (bif m.ca then csT (clrP p 64) m else plT (clrP p 64) m) = sqM s ++ sqM s ++ r := hl
      cases hc : m.ca
      · rw [hc] at hl
        obtain ⟨c1, c2, c3, c4, c5⟩ := pl_parts hl hne
        have c1' := c1
        simp only [Bool.and_eq_true] at c1'
        have x1 := rdE_sq (r := r) hq hq
        have x2 := rdE_sq (r := leF (mkZ 1 m.pr)) c1'.1.1 c1'.1.2
        rw [enL_yes c1] at c5
        rw [c5, x2] at x1
        have y1 := congrArg (fun z => z.1.f) x1
        have y2 := congrArg (fun z => z.1.t) x1
        have y1 : m.f = s := y1
        have y2 : m.t = s := y2
        rw [y1, y2] at c1'
        simp at c1'
      · rw [hc] at hl
        have hl : csT (clrP p 64) m = _ := hl
        rw [clr_cs ht] at hl
        exact hne hl.symm
    · rw [hd] at hl
      obtain ⟨d1, x, r', e, hx⟩ := dr_back (show drT m = _ from hl) hne
      rw [e1] at e
      have h2 := List.head_eq_of_cons_eq (List.tail_eq_of_cons_eq e)
      have : b.toNat = 64 := by rw [h2]; rfl
      omega
theorem plain_long {p : Nat → Int} {l : List UInt8} (h : 5 < l.length) : mvP p l = none := by
  cases e : mvP p l with
  | none => rfl
  | some m =>
    exfalso
    have h1 := (mv_text e).1
    have h2 := mvT_len p m
    rw [h1] at h2; omega
theorem le_len {k : Int} (h2 : 2 ≤ k) (h6 : k ≤ 6) : (leF (mkZ 1 k)).length = 1 := by
  have : k = 2 ∨ k = 3 ∨ k = 4 ∨ k = 5 ∨ k = 6 := by omega
  rcases this with rfl | rfl | rfl | rfl | rfl <;> decide +kernel
theorem sqM_len2 {s : Int} (h : sqB s = true) : (sqM s).length = 2 := by
  obtain ⟨x, y, e, _⟩ := sqM_two h
  rw [e]; rfl
theorem cut_prom (n : Nat) (w : World) (h1 : 2 ≤ n) (h : n ≤ 6) :
    (Instr.slice 9 (.string ⟨#[63, 63, 110, 98, 114, 113, 107]⟩) (some (.int .u8 (n : Int))) (some (.int .u8 ((n : Int) + 1))) none).run Tryd.prog w = .ok (.string (bz (leF (mkZ 1 (n : Int))))) w := by
  rw [run_slice_string _ _ _ _ _ _ _ Tryd.underlying9 (by omega) (by omega) (by show (n : Int) + 1 ≤ ((7 : Nat) : Int); omega)]
  rw [show ((n : Int) + 1).toNat = n + 1 by omega, ← leF_bz]
  have key : ∀ n : Nat, n < 7 → 2 ≤ n → (⟨#[63, 63, 110, 98, 114, 113, 107]⟩ : ByteArray).extract n (n + 1) = letZ (mkZ 1 (n : Int)) := by decide +kernel
  rw [show ((n : Int)).toNat = n from rfl, key n (by omega) h1]
theorem fit_mv0 : FitV mv0 := fitV_of rfl
set_option maxRecDepth 100000 in
set_option maxHeartbeats 1000000 in
theorem pl_out0 (p : Nat → Int) (f t k : Int) (w : World) (hp : FitM p) (hf : -128 ≤ f ∧ f ≤ 127) (ht : -128 ≤ t ∧ t ≤ 127) (hk : 0 ≤ k ∧ k ≤ 255) (h1 : decide (f < 0) = true) (hG : TabGo w) (hM : TabMv w) (hV : TabVar w) (hK : TabKn w) : Calls Tryd.prog 7 #[.agg (posA p), .int .i8 f, .int .i8 t, .int .u8 k] w (BoL true w) := by
  have HG := Lib.hid hG
  have HMx := Lib.hid hM
  have HV := Lib.hid hV
  have HK := Lib.hid hK
  have HB := Lib.hid (Below.refl w.heap.size w)
  have HFp := Lib.hid hp
  clear hG hM hV hK hp hf ht hk
  go_enter Tryd.func7, Tryd.ntmps7
  go_wp2_with (first
      | (refine step_box rfl _ rfl p rfl ?_; intro b0 w1 N R; have HG0 := Lib.hid (show w.heap.size ≤ b0 from Nat.le_of_eq N.at_.symm); have HB := Lib.hid (HB.out.trans (N.below.mono HB.out.size)); have HR := Lib.hid R; clear N R)
      | (go_at_call 13; refine (mawake_any _ (HG.out.on HB.out) (HMx.out.on HB.out) (HV.out.on HB.out) (HK.out.on HB.out)).mono ?_; rintro e w3 ⟨rfl, hb⟩; have HR := Lib.hid (HR.out.later hb); have HB := Lib.hid (below_on HB.out hb); clear hb)
      | (refine step_get rfl 5 _ rfl b0 0 rfl Tryd.underlying5 rfl (.int .u8 (p 0)) ?_ ?_; exact HR.out.cell 0 (by decide))
      | (refine step_get rfl 5 _ rfl b0 78 rfl Tryd.underlying5 rfl (.int .u8 (p 78)) ?_ ?_; exact HR.out.cell 78 (by decide)))
  exact bodyPost_ret (results_tmp rfl _ _ _) rfl ⟨rfl, HB.out⟩
set_option maxRecDepth 100000 in
set_option maxHeartbeats 1000000 in
theorem pl_out1 (p : Nat → Int) (f t k : Int) (w : World) (hp : FitM p) (hf : -128 ≤ f ∧ f ≤ 127) (ht : -128 ≤ t ∧ t ≤ 127) (hk : 0 ≤ k ∧ k ≤ 255) (h1 : decide (f < 0) = false) (h2 : decide (63 < f) = true) (hG : TabGo w) (hM : TabMv w) (hV : TabVar w) (hK : TabKn w) : Calls Tryd.prog 7 #[.agg (posA p), .int .i8 f, .int .i8 t, .int .u8 k] w (BoL true w) := by
  have HG := Lib.hid hG
  have HMx := Lib.hid hM
  have HV := Lib.hid hV
  have HK := Lib.hid hK
  have HB := Lib.hid (Below.refl w.heap.size w)
  have HFp := Lib.hid hp
  clear hG hM hV hK hp hf ht hk
  go_enter Tryd.func7, Tryd.ntmps7
  go_wp2_with (first
      | (refine step_box rfl _ rfl p rfl ?_; intro b0 w1 N R; have HG0 := Lib.hid (show w.heap.size ≤ b0 from Nat.le_of_eq N.at_.symm); have HB := Lib.hid (HB.out.trans (N.below.mono HB.out.size)); have HR := Lib.hid R; clear N R)
      | (go_at_call 13; refine (mawake_any _ (HG.out.on HB.out) (HMx.out.on HB.out) (HV.out.on HB.out) (HK.out.on HB.out)).mono ?_; rintro e w3 ⟨rfl, hb⟩; have HR := Lib.hid (HR.out.later hb); have HB := Lib.hid (below_on HB.out hb); clear hb)
      | (refine step_get rfl 5 _ rfl b0 0 rfl Tryd.underlying5 rfl (.int .u8 (p 0)) ?_ ?_; exact HR.out.cell 0 (by decide))
      | (refine step_get rfl 5 _ rfl b0 78 rfl Tryd.underlying5 rfl (.int .u8 (p 78)) ?_ ?_; exact HR.out.cell 78 (by decide)))
  exact bodyPost_ret (results_tmp rfl _ _ _) rfl ⟨rfl, HB.out⟩
set_option maxRecDepth 100000 in
set_option maxHeartbeats 1000000 in
theorem pl_out2 (p : Nat → Int) (f t k : Int) (w : World) (hp : FitM p) (hf : -128 ≤ f ∧ f ≤ 127) (ht : -128 ≤ t ∧ t ≤ 127) (hk : 0 ≤ k ∧ k ≤ 255) (h1 : decide (f < 0) = false) (h2 : decide (63 < f) = false) (h3 : decide (t < 0) = true) (hG : TabGo w) (hM : TabMv w) (hV : TabVar w) (hK : TabKn w) : Calls Tryd.prog 7 #[.agg (posA p), .int .i8 f, .int .i8 t, .int .u8 k] w (BoL true w) := by
  have HG := Lib.hid hG
  have HMx := Lib.hid hM
  have HV := Lib.hid hV
  have HK := Lib.hid hK
  have HB := Lib.hid (Below.refl w.heap.size w)
  have HFp := Lib.hid hp
  clear hG hM hV hK hp hf ht hk
  go_enter Tryd.func7, Tryd.ntmps7
  go_wp2_with (first
      | (refine step_box rfl _ rfl p rfl ?_; intro b0 w1 N R; have HG0 := Lib.hid (show w.heap.size ≤ b0 from Nat.le_of_eq N.at_.symm); have HB := Lib.hid (HB.out.trans (N.below.mono HB.out.size)); have HR := Lib.hid R; clear N R)
      | (go_at_call 13; refine (mawake_any _ (HG.out.on HB.out) (HMx.out.on HB.out) (HV.out.on HB.out) (HK.out.on HB.out)).mono ?_; rintro e w3 ⟨rfl, hb⟩; have HR := Lib.hid (HR.out.later hb); have HB := Lib.hid (below_on HB.out hb); clear hb)
      | (refine step_get rfl 5 _ rfl b0 0 rfl Tryd.underlying5 rfl (.int .u8 (p 0)) ?_ ?_; exact HR.out.cell 0 (by decide))
      | (refine step_get rfl 5 _ rfl b0 78 rfl Tryd.underlying5 rfl (.int .u8 (p 78)) ?_ ?_; exact HR.out.cell 78 (by decide)))
  exact bodyPost_ret (results_tmp rfl _ _ _) rfl ⟨rfl, HB.out⟩
set_option maxRecDepth 100000 in
set_option maxHeartbeats 1000000 in
theorem pl_out3 (p : Nat → Int) (f t k : Int) (w : World) (hp : FitM p) (hf : -128 ≤ f ∧ f ≤ 127) (ht : -128 ≤ t ∧ t ≤ 127) (hk : 0 ≤ k ∧ k ≤ 255) (h1 : decide (f < 0) = false) (h2 : decide (63 < f) = false) (h3 : decide (t < 0) = false) (h4 : decide (63 < t) = true) (hG : TabGo w) (hM : TabMv w) (hV : TabVar w) (hK : TabKn w) : Calls Tryd.prog 7 #[.agg (posA p), .int .i8 f, .int .i8 t, .int .u8 k] w (BoL true w) := by
  have HG := Lib.hid hG
  have HMx := Lib.hid hM
  have HV := Lib.hid hV
  have HK := Lib.hid hK
  have HB := Lib.hid (Below.refl w.heap.size w)
  have HFp := Lib.hid hp
  clear hG hM hV hK hp hf ht hk
  go_enter Tryd.func7, Tryd.ntmps7
  go_wp2_with (first
      | (refine step_box rfl _ rfl p rfl ?_; intro b0 w1 N R; have HG0 := Lib.hid (show w.heap.size ≤ b0 from Nat.le_of_eq N.at_.symm); have HB := Lib.hid (HB.out.trans (N.below.mono HB.out.size)); have HR := Lib.hid R; clear N R)
      | (go_at_call 13; refine (mawake_any _ (HG.out.on HB.out) (HMx.out.on HB.out) (HV.out.on HB.out) (HK.out.on HB.out)).mono ?_; rintro e w3 ⟨rfl, hb⟩; have HR := Lib.hid (HR.out.later hb); have HB := Lib.hid (below_on HB.out hb); clear hb)
      | (refine step_get rfl 5 _ rfl b0 0 rfl Tryd.underlying5 rfl (.int .u8 (p 0)) ?_ ?_; exact HR.out.cell 0 (by decide))
      | (refine step_get rfl 5 _ rfl b0 78 rfl Tryd.underlying5 rfl (.int .u8 (p 78)) ?_ ?_; exact HR.out.cell 78 (by decide)))
  exact bodyPost_ret (results_tmp rfl _ _ _) rfl ⟨rfl, HB.out⟩
set_option maxRecDepth 100000 in
set_option maxHeartbeats 1000000 in
theorem pl_out4 (p : Nat → Int) (f t k : Int) (w : World) (hp : FitM p) (hf : -128 ≤ f ∧ f ≤ 127) (ht : -128 ≤ t ∧ t ≤ 127) (hk : 0 ≤ k ∧ k ≤ 255) (h1 : decide (f < 0) = false) (h2 : decide (63 < f) = false) (h3 : decide (t < 0) = false) (h4 : decide (63 < t) = false) (h5 : decide (9 ≤ p 0) = true) (hG : TabGo w) (hM : TabMv w) (hV : TabVar w) (hK : TabKn w) : Calls Tryd.prog 7 #[.agg (posA p), .int .i8 f, .int .i8 t, .int .u8 k] w (BoL true w) := by
  have HG := Lib.hid hG
  have HMx := Lib.hid hM
  have HV := Lib.hid hV
  have HK := Lib.hid hK
  have HB := Lib.hid (Below.refl w.heap.size w)
  have HFp := Lib.hid hp
  clear hG hM hV hK hp hf ht hk
  go_enter Tryd.func7, Tryd.ntmps7
  go_wp2_with (first
      | (refine step_box rfl _ rfl p rfl ?_; intro b0 w1 N R; have HG0 := Lib.hid (show w.heap.size ≤ b0 from Nat.le_of_eq N.at_.symm); have HB := Lib.hid (HB.out.trans (N.below.mono HB.out.size)); have HR := Lib.hid R; clear N R)
      | (go_at_call 13; refine (mawake_any _ (HG.out.on HB.out) (HMx.out.on HB.out) (HV.out.on HB.out) (HK.out.on HB.out)).mono ?_; rintro e w3 ⟨rfl, hb⟩; have HR := Lib.hid (HR.out.later hb); have HB := Lib.hid (below_on HB.out hb); clear hb)
      | (refine step_get rfl 5 _ rfl b0 0 rfl Tryd.underlying5 rfl (.int .u8 (p 0)) ?_ ?_; exact HR.out.cell 0 (by decide))
      | (refine step_get rfl 5 _ rfl b0 78 rfl Tryd.underlying5 rfl (.int .u8 (p 78)) ?_ ?_; exact HR.out.cell 78 (by decide)))
  exact bodyPost_ret (results_tmp rfl _ _ _) rfl ⟨rfl, HB.out⟩
set_option maxRecDepth 100000 in
set_option maxHeartbeats 1000000 in
theorem pl_out5 (p : Nat → Int) (f t k : Int) (w : World) (hp : FitM p) (hf : -128 ≤ f ∧ f ≤ 127) (ht : -128 ≤ t ∧ t ≤ 127) (hk : 0 ≤ k ∧ k ≤ 255) (h1 : decide (f < 0) = false) (h2 : decide (63 < f) = false) (h3 : decide (t < 0) = false) (h4 : decide (63 < t) = false) (h5 : decide (9 ≤ p 0) = false) (h6 : decide (1 < p 78) = true) (hG : TabGo w) (hM : TabMv w) (hV : TabVar w) (hK : TabKn w) : Calls Tryd.prog 7 #[.agg (posA p), .int .i8 f, .int .i8 t, .int .u8 k] w (BoL true w) := by
  have HG := Lib.hid hG
  have HMx := Lib.hid hM
  have HV := Lib.hid hV
  have HK := Lib.hid hK
  have HB := Lib.hid (Below.refl w.heap.size w)
  have HFp := Lib.hid hp
  clear hG hM hV hK hp hf ht hk
  go_enter Tryd.func7, Tryd.ntmps7
  go_wp2_with (first
      | (refine step_box rfl _ rfl p rfl ?_; intro b0 w1 N R; have HG0 := Lib.hid (show w.heap.size ≤ b0 from Nat.le_of_eq N.at_.symm); have HB := Lib.hid (HB.out.trans (N.below.mono HB.out.size)); have HR := Lib.hid R; clear N R)
      | (go_at_call 13; refine (mawake_any _ (HG.out.on HB.out) (HMx.out.on HB.out) (HV.out.on HB.out) (HK.out.on HB.out)).mono ?_; rintro e w3 ⟨rfl, hb⟩; have HR := Lib.hid (HR.out.later hb); have HB := Lib.hid (below_on HB.out hb); clear hb)
      | (refine step_get rfl 5 _ rfl b0 0 rfl Tryd.underlying5 rfl (.int .u8 (p 0)) ?_ ?_; exact HR.out.cell 0 (by decide))
      | (refine step_get rfl 5 _ rfl b0 78 rfl Tryd.underlying5 rfl (.int .u8 (p 78)) ?_ ?_; exact HR.out.cell 78 (by decide)))
  exact bodyPost_ret (results_tmp rfl _ _ _) rfl ⟨rfl, HB.out⟩
set_option maxRecDepth 100000 in
set_option maxHeartbeats 1000000 in
theorem pl_eq_lo (p : Nat → Int) (f t k : Int) (w : World) (hp : FitM p) (hf : -128 ≤ f ∧ f ≤ 127) (ht : -128 ≤ t ∧ t ≤ 127) (hk : 0 ≤ k ∧ k ≤ 255) (h1 : decide (f < 0) = false) (h2 : decide (63 < f) = false) (h3 : decide (t < 0) = false) (h4 : decide (63 < t) = false) (h5 : decide (9 ≤ p 0) = false) (h6 : decide (1 < p 78) = false) (he : (f == t) = true) (hk2 : decide (2 ≤ k) = false) (hG : TabGo w) (hM : TabMv w) (hV : TabVar w) (hK : TabKn w) : Calls Tryd.prog 7 #[.agg (posA p), .int .i8 f, .int .i8 t, .int .u8 k] w (BoL true w) := by
  have HG := Lib.hid hG
  have HMx := Lib.hid hM
  have HV := Lib.hid hV
  have HK := Lib.hid hK
  have HB := Lib.hid (Below.refl w.heap.size w)
  have HFp := Lib.hid hp
  have hsm : smB p = true := by
    unfold smB
    rw [Bool.and_eq_true, decide_eq_true_eq, decide_eq_true_eq]
    have a := of_decide_eq_false h5
    have c := of_decide_eq_false h6
    omega
  have htn := smB_turn hsm hp.turn.1
  have hq : sqB f = true := by
    rw [sqB_true]
    have a := of_decide_eq_false h1
    have c := of_decide_eq_false h2
    omega
  have hr : sqB t = true := by
    rw [sqB_true]
    have a := of_decide_eq_false h3
    have c := of_decide_eq_false h4
    omega
  have wf : IntKind.i64.wrap f = f := IntWalk.i64_in f (by omega)
  have wt : IntKind.i64.wrap t = t := IntWalk.i64_in t (by omega)
  obtain ⟨a, ha⟩ : ∃ a, textZ f = a := ⟨_, rfl⟩
  have HA := Lib.hid ha
  obtain ⟨b, hb⟩ : ∃ b, textZ t = b := ⟨_, rfl⟩
  have HBt := Lib.hid hb
  have sza : a.size = 2 := by rw [← ha, sqM_bz, bz_size]; exact sqM_len2 hq
  have szb : b.size = 2 := by rw [← hb, sqM_bz, bz_size]; exact sqM_len2 hr
  have kab : ¬ (9223372036854775807 < a.size + b.size) := by omega
  have HP0 := Lib.hid hp
  have HFq := Lib.hid (clr_fit hp)
  obtain ⟨z, hz⟩ : ∃ z, bz (leF (mkZ 1 0)) = z := ⟨_, rfl⟩
  have zs : z = ⟨#[]⟩ := by rw [← hz]; rfl
  have kq : ¬ (9223372036854775807 < a.size + b.size + 1) := by omega
  obtain ⟨l, hl⟩ : ∃ l, sqM f ++ sqM t ++ leF (mkZ 1 0) = l := ⟨_, rfl⟩
  have hlt : bz l = (a ++ b) := by
    rw [← hl, ← bz_app, ← bz_app, hz, ← sqM_bz, ← sqM_bz, ha, hb]; rw [zs]; exact ByteArray.append_empty
  have HLt := Lib.hid hlt
  have HLq := Lib.hid (show bz (l ++ [113]) = (a ++ b) ++ ⟨#[113]⟩ by rw [← bz_app, hlt]; rfl)
  have hll : l.length ≤ 5 := by
    rw [← hl]
    have x1 := sqM_len f
    have x2 := sqM_len t
    have x3 := leF_len (mkZ 1 0)
    simp only [List.length_append]; omega
  have HLn := Lib.hid (show l.length ≤ 10000 by omega)
  have HLm := Lib.hid (show (l ++ [113]).length ≤ 10000 by simp only [List.length_append, List.length_cons, List.length_nil]; omega)
  have hft : t = f := by have : f = t := by simpa using he
                         exact this.symm
  have hp1 : mvP (clrP p 64) l = none := by rw [← hl, hft]; exact plain_same htn hq _
  have hp2 : mvP (clrP p 64) (l ++ [113]) = none := by rw [← hl, hft, List.append_assoc]; exact plain_same htn hq _
  have hsc : smB (clrP p 64) = true := by rw [clr_sm]; exact hsm
  have hca : mvT (clrP p 64) ⟨f, t, 0, 0, true⟩ = [] := by
    unfold mvT; rw [hsc]; exact clr_cs htn _
  have hpl : mvT (clrP p 64) ⟨f, t, 0, 0, false⟩ = [] := by
    unfold mvT; rw [hsc, hft]
    show plT (clrP p 64) ⟨f, f, 0, 0, false⟩ = []
    cases h9 : plT (clrP p 64) ⟨f, f, 0, 0, false⟩ with
    | nil => rfl
    | cons x r =>
      exfalso
      have c := (pl_parts h9 (by simp)).1
      simp at c
  obtain ⟨u, hu⟩ : ∃ u, bz (mvT (clrP p 64) ⟨f, t, 0, 0, false⟩) = u := ⟨_, rfl⟩
  have hue : u.toList.isEmpty = true := by rw [← hu, bz_toList, hpl]; rfl
  obtain ⟨v, hv⟩ : ∃ v, bz (mvT (clrP p 64) ⟨f, t, 0, 0, true⟩) = v := ⟨_, rfl⟩
  have hve : v.toList.isEmpty = true := by rw [← hv, bz_toList, hca]; rfl
  obtain ⟨q, hqd⟩ : ∃ q, clrP p 64 = q := ⟨_, rfl⟩
  have HQ := Lib.hid hqd
  rw [hqd] at hp1 hp2 hu hv hsc HFq
  have HU := Lib.hid hu
  have HVv := Lib.hid hv
  have HP1 := Lib.hid (show pmO (mvP q l) = mv0 by rw [hp1]; rfl)
  have HE1 := Lib.hid (show enO q (mvP q l) = 5 by rw [hp1]; show (bif smB q then (5 : Int) else 2) = 5; rw [hsc]; rfl)
  have HP2 := Lib.hid (show pmO (mvP q (l ++ [113])) = mv0 by rw [hp2]; rfl)
  have HE2 := Lib.hid (show enO q (mvP q (l ++ [113])) = 5 by rw [hp2]; show (bif smB q then (5 : Int) else 2) = 5; rw [hsc]; rfl)
  have HFa := Lib.hid (show FitV ⟨f, t, 0, 0, false⟩ from ⟨hf, ht, (by show (0 : Int) ≤ 0 ∧ 0 ≤ 255; omega), (by show (0 : Int) ≤ 0 ∧ (0 : Int) ≤ 255; decide)⟩)
  have HFb := Lib.hid (show FitV ⟨f, t, 0, 0, true⟩ from ⟨hf, ht, (by show (0 : Int) ≤ 0 ∧ 0 ≤ 255; omega), (by show (0 : Int) ≤ 0 ∧ (0 : Int) ≤ 255; decide)⟩)
  have HOnce := Lib.hid trivial
  have HOnceP := Lib.hid trivial
  have HOnceA := Lib.hid trivial
  clear hG hM hV hK hp hf ht hsm htn hq hr ha hb sza szb hz zs hl hlt hll hp1 hp2 hsc hca hu hv hqd hft hpl
  go_enter Tryd.func7, Tryd.ntmps7
  go_wp2_with (first
      | (refine step_box rfl _ rfl p rfl ?_; intro b0 w1 N R; have HG0 := Lib.hid (show w.heap.size ≤ b0 from Nat.le_of_eq N.at_.symm); have HB := Lib.hid (HB.out.trans (N.below.mono HB.out.size)); have HR := Lib.hid R; clear N R)
      | (go_at_call 13; refine (mawake_any _ (HG.out.on HB.out) (HMx.out.on HB.out) (HV.out.on HB.out) (HK.out.on HB.out)).mono ?_; rintro e w3 ⟨rfl, hb⟩; have HR := Lib.hid (HR.out.later hb); have HB := Lib.hid (below_on HB.out hb); clear hb)
      | (refine step_get rfl 5 _ rfl b0 0 rfl Tryd.underlying5 rfl (.int .u8 (p 0)) ?_ ?_; exact HR.out.cell 0 (by decide))
      | (refine step_get rfl 5 _ rfl b0 78 rfl Tryd.underlying5 rfl (.int .u8 (p 78)) ?_ ?_; exact HR.out.cell 78 (by decide)))
  go_loopw [9] (fun v wr => ∃ j : Nat, j ≤ 64 ∧ v = .int .i64 (j : Int) ∧ Row wr b0 (clrP p j) ∧ Below w.heap.size w wr) (fun v _ => 64 - (intOf v).toNat)
  case atStart => exact ⟨0, by omega, rfl, by rw [clrP_0]; exact HR.out, HB.out⟩
  case round =>
    obtain ⟨j, hj, rfl, hr, hbw⟩ := hrel
    have HR := Lib.hid hr
    have HB := Lib.hid hbw
    have HJ := Lib.hid hj
    clear hr hbw
    by_cases e64 : j = 64
    · have gj : decide ((j : Int) < 64) = false := decide_eq_false (by omega)
      have gj2 : decide (j < 64) = false := decide_eq_false (by omega)
      have HR := Lib.hid (show Row wr b0 q by have := HR.out; rw [e64, HQ.out] at this; exact this)
      clear e64 hj
      go_wp2_with (first
        | (go_at_call 14; clear HOnce; refine (text_any f _).mono ?_; rintro e w3 ⟨rfl, hb⟩; rw [HA.out]; have HR := Lib.hid (HR.out.later hb); have HB := Lib.hid (below_on HB.out hb); clear hb)
        | (go_at_call 14; refine (text_any t _).mono ?_; rintro e w3 ⟨rfl, hb⟩; rw [HBt.out]; have HR := Lib.hid (HR.out.later hb); have HB := Lib.hid (below_on HB.out hb); clear hb)
        | (clear HOnceA; refine blk_alloc rfl 33 rfl (mvA mv0) zeroMv ?_; intro b11 w6 N R; have HGb11 := Lib.hid (show w.heap.size ≤ b11 by rw [N.at_]; exact HB.out.size); have HDHRb11 := Lib.hid (show b0 ≠ b11 by rw [N.at_]; exact Nat.ne_of_lt HR.out.lt); have HR := Lib.hid (HR.out.later N.below); have HB := Lib.hid (HB.out.trans (N.below.mono HB.out.size)); have HM := Lib.hid R; clear N R)
        | (refine blk_store rfl 33 _ _ rfl b11 rfl (mvA mv0) (mvA ⟨f, t, 0, 0, false⟩) rfl ?_ rfl (mv_one _) sizeMv ?_; exact HM.out; intro w7 U R; have HR := Lib.hid (HR.out.apart U HDHRb11.out); have HB := Lib.hid (HB.out.trans (U.below HGb11.out)); have HM := Lib.hid R; clear U R)
        | (refine step_load rfl _ rfl b0 rfl q ?_ ?_; exact HR.out)
        | (go_at_call 11; clear HOnceP; rw [← HLt.out]; refine (mvParse_any q l _ HLn.out HFq.out (HG.out.on HB.out) (HMx.out.on HB.out)).mono ?_; rintro e w5 ⟨rfl, hb⟩; rw [HP1.out, HE1.out, HLt.out]; have HR := Lib.hid (HR.out.later hb); have HM := Lib.hid (HM.out.later hb); have HB := Lib.hid (below_on HB.out hb); clear hb)
        | (refine blk_alloc rfl 33 rfl (mvA mv0) zeroMv ?_; intro b12 w6 N R; have HGb12 := Lib.hid (show w.heap.size ≤ b12 by rw [N.at_]; exact HB.out.size); have HDHRb12 := Lib.hid (show b0 ≠ b12 by rw [N.at_]; exact Nat.ne_of_lt HR.out.lt); have HR := Lib.hid (HR.out.later N.below); have HDHMb12 := Lib.hid (show b11 ≠ b12 by rw [N.at_]; exact Nat.ne_of_lt HM.out.lt); have HM := Lib.hid (HM.out.later N.below); have HB := Lib.hid (HB.out.trans (N.below.mono HB.out.size)); have HW := Lib.hid R; clear N R)
        | (refine blk_store rfl 33 _ _ rfl b12 rfl (mvA mv0) (mvA mv0) rfl ?_ rfl (mv_one _) sizeMv ?_; exact HW.out; intro w7 U R; have HR := Lib.hid (HR.out.apart U HDHRb12.out); have HM := Lib.hid (HM.out.apart U HDHMb12.out); have HB := Lib.hid (HB.out.trans (U.below HGb12.out)); have HW := Lib.hid R; clear U R))
      rw [← HLq.out]
      refine (mvParse_any q (l ++ [113]) _ HLm.out HFq.out (HG.out.on HB.out) (HMx.out.on HB.out)).mono ?_; rintro e w5 ⟨rfl, hb⟩; rw [HP2.out, HE2.out, HLq.out]; have HR := Lib.hid (HR.out.later hb); have HM := Lib.hid (HM.out.later hb); have HW := Lib.hid (HW.out.later hb); have HB := Lib.hid (below_on HB.out hb); clear hb
      go_wp2_with (first
        | (refine blk_alloc rfl 33 rfl (mvA mv0) zeroMv ?_; intro b14 w6 N R; have HGb14 := Lib.hid (show w.heap.size ≤ b14 by rw [N.at_]; exact HB.out.size); have HDHRb14 := Lib.hid (show b0 ≠ b14 by rw [N.at_]; exact Nat.ne_of_lt HR.out.lt); have HR := Lib.hid (HR.out.later N.below); have HDHMb14 := Lib.hid (show b11 ≠ b14 by rw [N.at_]; exact Nat.ne_of_lt HM.out.lt); have HM := Lib.hid (HM.out.later N.below); have HDHWb14 := Lib.hid (show b12 ≠ b14 by rw [N.at_]; exact Nat.ne_of_lt HW.out.lt); have HW := Lib.hid (HW.out.later N.below); have HB := Lib.hid (HB.out.trans (N.below.mono HB.out.size)); have HC := Lib.hid R; clear N R)
        | (refine blk_store rfl 33 _ _ rfl b14 rfl (mvA mv0) (mvA mv0) rfl ?_ rfl (mv_one _) sizeMv ?_; exact HC.out; intro w7 U R; have HEW := Lib.hid (show b12 ≠ b11 from Ne.symm HDHMb12.out); have HEC := Lib.hid (show b14 ≠ b11 from Ne.symm HDHMb14.out); have HR := Lib.hid (HR.out.apart U HDHRb14.out); have HM := Lib.hid (HM.out.apart U HDHMb14.out); have HW := Lib.hid (HW.out.apart U HDHWb14.out); have HB := Lib.hid (HB.out.trans (U.below HGb14.out)); have HC := Lib.hid R; clear U R)
        | (refine blk_yes rfl 4 _ _ rfl b11 4 rfl true rfl 33 (mvA ⟨f, t, 0, 0, false⟩) ?_ (by show 4 < 5; decide) (by kernel_rfl) ?_; exact HM.out; intro w7 U R; have R := (show Blk w7 b11 33 (mvA ⟨f, t, 0, 0, true⟩) from R); have HR := Lib.hid (HR.out.apart U HDHRb11.out); have HW := Lib.hid (HW.out.apart U HEW.out); have HC := Lib.hid (HC.out.apart U HEC.out); have HB := Lib.hid (HB.out.trans (U.below HGb11.out)); have HM := Lib.hid R; clear U R)
        | (refine step_load rfl _ rfl b0 rfl q ?_ ?_; exact HR.out)
        | (refine blk_load rfl 33 _ rfl b11 rfl (mvA ⟨f, t, 0, 0, true⟩) ?_ _ Tryd.underlying33 rfl sizeMv ?_; exact HM.out))
      refine (mvText_any q ⟨f, t, 0, 0, true⟩ _ HFq.out HFb.out (HG.out.on HB.out)).mono ?_; rintro e w4 ⟨rfl, hb⟩; rw [HVv.out]; have HR := Lib.hid (HR.out.later hb); have HM := Lib.hid (HM.out.later hb); have HW := Lib.hid (HW.out.later hb); have HC := Lib.hid (HC.out.later hb); have HB := Lib.hid (below_on HB.out hb); clear hb
      go_wp2_with (first
        | (refine blk_yes rfl 4 _ _ rfl b11 4 rfl false rfl 33 (mvA ⟨f, t, 0, 0, true⟩) ?_ (by show 4 < 5; decide) (by kernel_rfl) ?_; exact HM.out; intro w7 U R; have R := (show Blk w7 b11 33 (mvA ⟨f, t, 0, 0, false⟩) from R); have HR := Lib.hid (HR.out.apart U HDHRb11.out); have HW := Lib.hid (HW.out.apart U HEW.out); have HC := Lib.hid (HC.out.apart U HEC.out); have HB := Lib.hid (HB.out.trans (U.below HGb11.out)); have HM := Lib.hid R; clear U R)
        | (refine step_load rfl _ rfl b0 rfl q ?_ ?_; exact HR.out)
        | (refine blk_load rfl 33 _ rfl b11 rfl (mvA ⟨f, t, 0, 0, false⟩) ?_ _ Tryd.underlying33 rfl sizeMv ?_; exact HM.out)
        | (go_at_call 9; refine (mvText_any q ⟨f, t, 0, 0, false⟩ _ HFq.out HFa.out (HG.out.on HB.out)).mono ?_; rintro e w4 ⟨rfl, hb⟩; rw [HU.out]; have HR := Lib.hid (HR.out.later hb); have HM := Lib.hid (HM.out.later hb); have HW := Lib.hid (HW.out.later hb); have HC := Lib.hid (HC.out.later hb); have HB := Lib.hid (below_on HB.out hb); clear hb))
      exact bodyPost_ret (results_tmp rfl _ _ _) rfl ⟨by simp, HB.out⟩
    · have gj : decide ((j : Int) < 64) = true := decide_eq_true (by omega)
      have gj2 : decide (j < 64) = true := decide_eq_true (by omega)
      have j0 : (0 : Int) ≤ (j : Int) := by omega
      have j1 : (j : Int) < 64 := by omega
      have hj1 : j < 64 := by omega
      have HJ1 := Lib.hid hj1
      obtain ⟨x, hx⟩ : ∃ x, p (1 + j) = x := ⟨_, rfl⟩
      have HC := Lib.hid (show wr.cell? ⟨b0, 1 + j, none⟩ = some (.int .u8 x) by
        rw [HR.out.cell (1 + j) (by omega), kAt_board (Nat.zero_le _) hj1, clrP_at p (Nat.le_refl j), hx])
      have HX := Lib.hid hx
      clear e64 hj hx hj1
      cases x6 : (x == 6)
      · have HX6 := Lib.hid x6
        cases x14 : (x == 14)
        · have HX14 := Lib.hid x14
          go_wp2_with (first
            | (refine step_get rfl 5 _ rfl b0 (1 + j) rfl Tryd.underlying5 rfl (.int .u8 x) ?_ ?_; exact HC.out))
          go_roundw
          case rel => exact ⟨j + 1, by have := HJ1.out; omega, by go_num, by rw [← clrP_no (p := p) (k := j) (by rw [HX.out, HX6.out, HX14.out]; rfl)]; exact HR.out, HB.out⟩
          case measure => have := HJ1.out; simp [intOf]; omega
        · have HX14 := Lib.hid x14
          go_wp2_with (first
            | (refine step_get rfl 5 _ rfl b0 (1 + j) rfl Tryd.underlying5 rfl (.int .u8 x) ?_ ?_; exact HC.out)
            | (refine step_cell rfl 5 _ _ rfl b0 (1 + j) rfl .u8 0 rfl (clrP p j) ?_ (by have := HJ1.out; omega) (kAt_board (Nat.zero_le _) HJ1.out) (by kernel_rfl) ?_; exact HR.out; intro w7 U R; have HR := Lib.hid R; have HB := Lib.hid (HB.out.trans (U.below HG0.out)); clear U R))
          go_roundw
          case rel => exact ⟨j + 1, by have := HJ1.out; omega, by go_num, by rw [← clrP_yes (p := p) (k := j) (by rw [HX.out, HX6.out, HX14.out]; rfl)]; exact HR.out, HB.out⟩
          case measure => have := HJ1.out; simp [intOf]; omega
      · have HX6 := Lib.hid x6
        go_wp2_with (first
          | (refine step_get rfl 5 _ rfl b0 (1 + j) rfl Tryd.underlying5 rfl (.int .u8 x) ?_ ?_; exact HC.out)
          | (refine step_cell rfl 5 _ _ rfl b0 (1 + j) rfl .u8 0 rfl (clrP p j) ?_ (by have := HJ1.out; omega) (kAt_board (Nat.zero_le _) HJ1.out) (by kernel_rfl) ?_; exact HR.out; intro w7 U R; have HR := Lib.hid R; have HB := Lib.hid (HB.out.trans (U.below HG0.out)); clear U R))
        go_roundw
        case rel => exact ⟨j + 1, by have := HJ1.out; omega, by go_num, by rw [← clrP_yes (p := p) (k := j) (by rw [HX.out, HX6.out]; rfl)]; exact HR.out, HB.out⟩
        case measure => have := HJ1.out; simp [intOf]; omega
set_option maxRecDepth 100000 in
set_option maxHeartbeats 1000000 in
theorem pl_eq_hi (p : Nat → Int) (f t k : Int) (w : World) (hp : FitM p) (hf : -128 ≤ f ∧ f ≤ 127) (ht : -128 ≤ t ∧ t ≤ 127) (hk : 0 ≤ k ∧ k ≤ 255) (h1 : decide (f < 0) = false) (h2 : decide (63 < f) = false) (h3 : decide (t < 0) = false) (h4 : decide (63 < t) = false) (h5 : decide (9 ≤ p 0) = false) (h6 : decide (1 < p 78) = false) (he : (f == t) = true) (hk2 : decide (2 ≤ k) = true) (hk6 : decide (k ≤ 6) = false) (hG : TabGo w) (hM : TabMv w) (hV : TabVar w) (hK : TabKn w) : Calls Tryd.prog 7 #[.agg (posA p), .int .i8 f, .int .i8 t, .int .u8 k] w (BoL true w) := by
  have HG := Lib.hid hG
  have HMx := Lib.hid hM
  have HV := Lib.hid hV
  have HK := Lib.hid hK
  have HB := Lib.hid (Below.refl w.heap.size w)
  have HFp := Lib.hid hp
  have hsm : smB p = true := by
    unfold smB
    rw [Bool.and_eq_true, decide_eq_true_eq, decide_eq_true_eq]
    have a := of_decide_eq_false h5
    have c := of_decide_eq_false h6
    omega
  have htn := smB_turn hsm hp.turn.1
  have hq : sqB f = true := by
    rw [sqB_true]
    have a := of_decide_eq_false h1
    have c := of_decide_eq_false h2
    omega
  have hr : sqB t = true := by
    rw [sqB_true]
    have a := of_decide_eq_false h3
    have c := of_decide_eq_false h4
    omega
  have wf : IntKind.i64.wrap f = f := IntWalk.i64_in f (by omega)
  have wt : IntKind.i64.wrap t = t := IntWalk.i64_in t (by omega)
  obtain ⟨a, ha⟩ : ∃ a, textZ f = a := ⟨_, rfl⟩
  have HA := Lib.hid ha
  obtain ⟨b, hb⟩ : ∃ b, textZ t = b := ⟨_, rfl⟩
  have HBt := Lib.hid hb
  have sza : a.size = 2 := by rw [← ha, sqM_bz, bz_size]; exact sqM_len2 hq
  have szb : b.size = 2 := by rw [← hb, sqM_bz, bz_size]; exact sqM_len2 hr
  have kab : ¬ (9223372036854775807 < a.size + b.size) := by omega
  have HP0 := Lib.hid hp
  have HFq := Lib.hid (clr_fit hp)
  obtain ⟨z, hz⟩ : ∃ z, bz (leF (mkZ 1 0)) = z := ⟨_, rfl⟩
  have zs : z = ⟨#[]⟩ := by rw [← hz]; rfl
  have kq : ¬ (9223372036854775807 < a.size + b.size + 1) := by omega
  obtain ⟨l, hl⟩ : ∃ l, sqM f ++ sqM t ++ leF (mkZ 1 0) = l := ⟨_, rfl⟩
  have hlt : bz l = (a ++ b) := by
    rw [← hl, ← bz_app, ← bz_app, hz, ← sqM_bz, ← sqM_bz, ha, hb]; rw [zs]; exact ByteArray.append_empty
  have HLt := Lib.hid hlt
  have HLq := Lib.hid (show bz (l ++ [113]) = (a ++ b) ++ ⟨#[113]⟩ by rw [← bz_app, hlt]; rfl)
  have hll : l.length ≤ 5 := by
    rw [← hl]
    have x1 := sqM_len f
    have x2 := sqM_len t
    have x3 := leF_len (mkZ 1 0)
    simp only [List.length_append]; omega
  have HLn := Lib.hid (show l.length ≤ 10000 by omega)
  have HLm := Lib.hid (show (l ++ [113]).length ≤ 10000 by simp only [List.length_append, List.length_cons, List.length_nil]; omega)
  have hft : t = f := by have : f = t := by simpa using he
                         exact this.symm
  have hp1 : mvP (clrP p 64) l = none := by rw [← hl, hft]; exact plain_same htn hq _
  have hp2 : mvP (clrP p 64) (l ++ [113]) = none := by rw [← hl, hft, List.append_assoc]; exact plain_same htn hq _
  have hsc : smB (clrP p 64) = true := by rw [clr_sm]; exact hsm
  have hca : mvT (clrP p 64) ⟨f, t, 0, 0, true⟩ = [] := by
    unfold mvT; rw [hsc]; exact clr_cs htn _
  have hpl : mvT (clrP p 64) ⟨f, t, 0, 0, false⟩ = [] := by
    unfold mvT; rw [hsc, hft]
    show plT (clrP p 64) ⟨f, f, 0, 0, false⟩ = []
    cases h9 : plT (clrP p 64) ⟨f, f, 0, 0, false⟩ with
    | nil => rfl
    | cons x r =>
      exfalso
      have c := (pl_parts h9 (by simp)).1
      simp at c
  obtain ⟨u, hu⟩ : ∃ u, bz (mvT (clrP p 64) ⟨f, t, 0, 0, false⟩) = u := ⟨_, rfl⟩
  have hue : u.toList.isEmpty = true := by rw [← hu, bz_toList, hpl]; rfl
  obtain ⟨v, hv⟩ : ∃ v, bz (mvT (clrP p 64) ⟨f, t, 0, 0, true⟩) = v := ⟨_, rfl⟩
  have hve : v.toList.isEmpty = true := by rw [← hv, bz_toList, hca]; rfl
  obtain ⟨q, hqd⟩ : ∃ q, clrP p 64 = q := ⟨_, rfl⟩
  have HQ := Lib.hid hqd
  rw [hqd] at hp1 hp2 hu hv hsc HFq
  have HU := Lib.hid hu
  have HVv := Lib.hid hv
  have HP1 := Lib.hid (show pmO (mvP q l) = mv0 by rw [hp1]; rfl)
  have HE1 := Lib.hid (show enO q (mvP q l) = 5 by rw [hp1]; show (bif smB q then (5 : Int) else 2) = 5; rw [hsc]; rfl)
  have HP2 := Lib.hid (show pmO (mvP q (l ++ [113])) = mv0 by rw [hp2]; rfl)
  have HE2 := Lib.hid (show enO q (mvP q (l ++ [113])) = 5 by rw [hp2]; show (bif smB q then (5 : Int) else 2) = 5; rw [hsc]; rfl)
  have HFa := Lib.hid (show FitV ⟨f, t, 0, 0, false⟩ from ⟨hf, ht, (by show (0 : Int) ≤ 0 ∧ 0 ≤ 255; omega), (by show (0 : Int) ≤ 0 ∧ (0 : Int) ≤ 255; decide)⟩)
  have HFb := Lib.hid (show FitV ⟨f, t, 0, 0, true⟩ from ⟨hf, ht, (by show (0 : Int) ≤ 0 ∧ 0 ≤ 255; omega), (by show (0 : Int) ≤ 0 ∧ (0 : Int) ≤ 255; decide)⟩)
  have HOnce := Lib.hid trivial
  have HOnceP := Lib.hid trivial
  have HOnceA := Lib.hid trivial
  clear hG hM hV hK hp hf ht hsm htn hq hr ha hb sza szb hz zs hl hlt hll hp1 hp2 hsc hca hu hv hqd hft hpl
  go_enter Tryd.func7, Tryd.ntmps7
  go_wp2_with (first
      | (refine step_box rfl _ rfl p rfl ?_; intro b0 w1 N R; have HG0 := Lib.hid (show w.heap.size ≤ b0 from Nat.le_of_eq N.at_.symm); have HB := Lib.hid (HB.out.trans (N.below.mono HB.out.size)); have HR := Lib.hid R; clear N R)
      | (go_at_call 13; refine (mawake_any _ (HG.out.on HB.out) (HMx.out.on HB.out) (HV.out.on HB.out) (HK.out.on HB.out)).mono ?_; rintro e w3 ⟨rfl, hb⟩; have HR := Lib.hid (HR.out.later hb); have HB := Lib.hid (below_on HB.out hb); clear hb)
      | (refine step_get rfl 5 _ rfl b0 0 rfl Tryd.underlying5 rfl (.int .u8 (p 0)) ?_ ?_; exact HR.out.cell 0 (by decide))
      | (refine step_get rfl 5 _ rfl b0 78 rfl Tryd.underlying5 rfl (.int .u8 (p 78)) ?_ ?_; exact HR.out.cell 78 (by decide)))
  go_loopw [9] (fun v wr => ∃ j : Nat, j ≤ 64 ∧ v = .int .i64 (j : Int) ∧ Row wr b0 (clrP p j) ∧ Below w.heap.size w wr) (fun v _ => 64 - (intOf v).toNat)
  case atStart => exact ⟨0, by omega, rfl, by rw [clrP_0]; exact HR.out, HB.out⟩
  case round =>
    obtain ⟨j, hj, rfl, hr, hbw⟩ := hrel
    have HR := Lib.hid hr
    have HB := Lib.hid hbw
    have HJ := Lib.hid hj
    clear hr hbw
    by_cases e64 : j = 64
    · have gj : decide ((j : Int) < 64) = false := decide_eq_false (by omega)
      have gj2 : decide (j < 64) = false := decide_eq_false (by omega)
      have HR := Lib.hid (show Row wr b0 q by have := HR.out; rw [e64, HQ.out] at this; exact this)
      clear e64 hj
      go_wp2_with (first
        | (go_at_call 14; clear HOnce; refine (text_any f _).mono ?_; rintro e w3 ⟨rfl, hb⟩; rw [HA.out]; have HR := Lib.hid (HR.out.later hb); have HB := Lib.hid (below_on HB.out hb); clear hb)
        | (go_at_call 14; refine (text_any t _).mono ?_; rintro e w3 ⟨rfl, hb⟩; rw [HBt.out]; have HR := Lib.hid (HR.out.later hb); have HB := Lib.hid (below_on HB.out hb); clear hb)
        | (clear HOnceA; refine blk_alloc rfl 33 rfl (mvA mv0) zeroMv ?_; intro b11 w6 N R; have HGb11 := Lib.hid (show w.heap.size ≤ b11 by rw [N.at_]; exact HB.out.size); have HDHRb11 := Lib.hid (show b0 ≠ b11 by rw [N.at_]; exact Nat.ne_of_lt HR.out.lt); have HR := Lib.hid (HR.out.later N.below); have HB := Lib.hid (HB.out.trans (N.below.mono HB.out.size)); have HM := Lib.hid R; clear N R)
        | (refine blk_store rfl 33 _ _ rfl b11 rfl (mvA mv0) (mvA ⟨f, t, 0, 0, false⟩) rfl ?_ rfl (mv_one _) sizeMv ?_; exact HM.out; intro w7 U R; have HR := Lib.hid (HR.out.apart U HDHRb11.out); have HB := Lib.hid (HB.out.trans (U.below HGb11.out)); have HM := Lib.hid R; clear U R)
        | (refine step_load rfl _ rfl b0 rfl q ?_ ?_; exact HR.out)
        | (go_at_call 11; clear HOnceP; rw [← HLt.out]; refine (mvParse_any q l _ HLn.out HFq.out (HG.out.on HB.out) (HMx.out.on HB.out)).mono ?_; rintro e w5 ⟨rfl, hb⟩; rw [HP1.out, HE1.out, HLt.out]; have HR := Lib.hid (HR.out.later hb); have HM := Lib.hid (HM.out.later hb); have HB := Lib.hid (below_on HB.out hb); clear hb)
        | (refine blk_alloc rfl 33 rfl (mvA mv0) zeroMv ?_; intro b12 w6 N R; have HGb12 := Lib.hid (show w.heap.size ≤ b12 by rw [N.at_]; exact HB.out.size); have HDHRb12 := Lib.hid (show b0 ≠ b12 by rw [N.at_]; exact Nat.ne_of_lt HR.out.lt); have HR := Lib.hid (HR.out.later N.below); have HDHMb12 := Lib.hid (show b11 ≠ b12 by rw [N.at_]; exact Nat.ne_of_lt HM.out.lt); have HM := Lib.hid (HM.out.later N.below); have HB := Lib.hid (HB.out.trans (N.below.mono HB.out.size)); have HW := Lib.hid R; clear N R)
        | (refine blk_store rfl 33 _ _ rfl b12 rfl (mvA mv0) (mvA mv0) rfl ?_ rfl (mv_one _) sizeMv ?_; exact HW.out; intro w7 U R; have HR := Lib.hid (HR.out.apart U HDHRb12.out); have HM := Lib.hid (HM.out.apart U HDHMb12.out); have HB := Lib.hid (HB.out.trans (U.below HGb12.out)); have HW := Lib.hid R; clear U R))
      rw [← HLq.out]
      refine (mvParse_any q (l ++ [113]) _ HLm.out HFq.out (HG.out.on HB.out) (HMx.out.on HB.out)).mono ?_; rintro e w5 ⟨rfl, hb⟩; rw [HP2.out, HE2.out, HLq.out]; have HR := Lib.hid (HR.out.later hb); have HM := Lib.hid (HM.out.later hb); have HW := Lib.hid (HW.out.later hb); have HB := Lib.hid (below_on HB.out hb); clear hb
      go_wp2_with (first
        | (refine blk_alloc rfl 33 rfl (mvA mv0) zeroMv ?_; intro b14 w6 N R; have HGb14 := Lib.hid (show w.heap.size ≤ b14 by rw [N.at_]; exact HB.out.size); have HDHRb14 := Lib.hid (show b0 ≠ b14 by rw [N.at_]; exact Nat.ne_of_lt HR.out.lt); have HR := Lib.hid (HR.out.later N.below); have HDHMb14 := Lib.hid (show b11 ≠ b14 by rw [N.at_]; exact Nat.ne_of_lt HM.out.lt); have HM := Lib.hid (HM.out.later N.below); have HDHWb14 := Lib.hid (show b12 ≠ b14 by rw [N.at_]; exact Nat.ne_of_lt HW.out.lt); have HW := Lib.hid (HW.out.later N.below); have HB := Lib.hid (HB.out.trans (N.below.mono HB.out.size)); have HC := Lib.hid R; clear N R)
        | (refine blk_store rfl 33 _ _ rfl b14 rfl (mvA mv0) (mvA mv0) rfl ?_ rfl (mv_one _) sizeMv ?_; exact HC.out; intro w7 U R; have HEW := Lib.hid (show b12 ≠ b11 from Ne.symm HDHMb12.out); have HEC := Lib.hid (show b14 ≠ b11 from Ne.symm HDHMb14.out); have HR := Lib.hid (HR.out.apart U HDHRb14.out); have HM := Lib.hid (HM.out.apart U HDHMb14.out); have HW := Lib.hid (HW.out.apart U HDHWb14.out); have HB := Lib.hid (HB.out.trans (U.below HGb14.out)); have HC := Lib.hid R; clear U R)
        | (refine blk_yes rfl 4 _ _ rfl b11 4 rfl true rfl 33 (mvA ⟨f, t, 0, 0, false⟩) ?_ (by show 4 < 5; decide) (by kernel_rfl) ?_; exact HM.out; intro w7 U R; have R := (show Blk w7 b11 33 (mvA ⟨f, t, 0, 0, true⟩) from R); have HR := Lib.hid (HR.out.apart U HDHRb11.out); have HW := Lib.hid (HW.out.apart U HEW.out); have HC := Lib.hid (HC.out.apart U HEC.out); have HB := Lib.hid (HB.out.trans (U.below HGb11.out)); have HM := Lib.hid R; clear U R)
        | (refine step_load rfl _ rfl b0 rfl q ?_ ?_; exact HR.out)
        | (refine blk_load rfl 33 _ rfl b11 rfl (mvA ⟨f, t, 0, 0, true⟩) ?_ _ Tryd.underlying33 rfl sizeMv ?_; exact HM.out))
      refine (mvText_any q ⟨f, t, 0, 0, true⟩ _ HFq.out HFb.out (HG.out.on HB.out)).mono ?_; rintro e w4 ⟨rfl, hb⟩; rw [HVv.out]; have HR := Lib.hid (HR.out.later hb); have HM := Lib.hid (HM.out.later hb); have HW := Lib.hid (HW.out.later hb); have HC := Lib.hid (HC.out.later hb); have HB := Lib.hid (below_on HB.out hb); clear hb
      go_wp2_with (first
        | (refine blk_yes rfl 4 _ _ rfl b11 4 rfl false rfl 33 (mvA ⟨f, t, 0, 0, true⟩) ?_ (by show 4 < 5; decide) (by kernel_rfl) ?_; exact HM.out; intro w7 U R; have R := (show Blk w7 b11 33 (mvA ⟨f, t, 0, 0, false⟩) from R); have HR := Lib.hid (HR.out.apart U HDHRb11.out); have HW := Lib.hid (HW.out.apart U HEW.out); have HC := Lib.hid (HC.out.apart U HEC.out); have HB := Lib.hid (HB.out.trans (U.below HGb11.out)); have HM := Lib.hid R; clear U R)
        | (refine step_load rfl _ rfl b0 rfl q ?_ ?_; exact HR.out)
        | (refine blk_load rfl 33 _ rfl b11 rfl (mvA ⟨f, t, 0, 0, false⟩) ?_ _ Tryd.underlying33 rfl sizeMv ?_; exact HM.out)
        | (go_at_call 9; refine (mvText_any q ⟨f, t, 0, 0, false⟩ _ HFq.out HFa.out (HG.out.on HB.out)).mono ?_; rintro e w4 ⟨rfl, hb⟩; rw [HU.out]; have HR := Lib.hid (HR.out.later hb); have HM := Lib.hid (HM.out.later hb); have HW := Lib.hid (HW.out.later hb); have HC := Lib.hid (HC.out.later hb); have HB := Lib.hid (below_on HB.out hb); clear hb))
      exact bodyPost_ret (results_tmp rfl _ _ _) rfl ⟨by simp, HB.out⟩
    · have gj : decide ((j : Int) < 64) = true := decide_eq_true (by omega)
      have gj2 : decide (j < 64) = true := decide_eq_true (by omega)
      have j0 : (0 : Int) ≤ (j : Int) := by omega
      have j1 : (j : Int) < 64 := by omega
      have hj1 : j < 64 := by omega
      have HJ1 := Lib.hid hj1
      obtain ⟨x, hx⟩ : ∃ x, p (1 + j) = x := ⟨_, rfl⟩
      have HC := Lib.hid (show wr.cell? ⟨b0, 1 + j, none⟩ = some (.int .u8 x) by
        rw [HR.out.cell (1 + j) (by omega), kAt_board (Nat.zero_le _) hj1, clrP_at p (Nat.le_refl j), hx])
      have HX := Lib.hid hx
      clear e64 hj hx hj1
      cases x6 : (x == 6)
      · have HX6 := Lib.hid x6
        cases x14 : (x == 14)
        · have HX14 := Lib.hid x14
          go_wp2_with (first
            | (refine step_get rfl 5 _ rfl b0 (1 + j) rfl Tryd.underlying5 rfl (.int .u8 x) ?_ ?_; exact HC.out))
          go_roundw
          case rel => exact ⟨j + 1, by have := HJ1.out; omega, by go_num, by rw [← clrP_no (p := p) (k := j) (by rw [HX.out, HX6.out, HX14.out]; rfl)]; exact HR.out, HB.out⟩
          case measure => have := HJ1.out; simp [intOf]; omega
        · have HX14 := Lib.hid x14
          go_wp2_with (first
            | (refine step_get rfl 5 _ rfl b0 (1 + j) rfl Tryd.underlying5 rfl (.int .u8 x) ?_ ?_; exact HC.out)
            | (refine step_cell rfl 5 _ _ rfl b0 (1 + j) rfl .u8 0 rfl (clrP p j) ?_ (by have := HJ1.out; omega) (kAt_board (Nat.zero_le _) HJ1.out) (by kernel_rfl) ?_; exact HR.out; intro w7 U R; have HR := Lib.hid R; have HB := Lib.hid (HB.out.trans (U.below HG0.out)); clear U R))
          go_roundw
          case rel => exact ⟨j + 1, by have := HJ1.out; omega, by go_num, by rw [← clrP_yes (p := p) (k := j) (by rw [HX.out, HX6.out, HX14.out]; rfl)]; exact HR.out, HB.out⟩
          case measure => have := HJ1.out; simp [intOf]; omega
      · have HX6 := Lib.hid x6
        go_wp2_with (first
          | (refine step_get rfl 5 _ rfl b0 (1 + j) rfl Tryd.underlying5 rfl (.int .u8 x) ?_ ?_; exact HC.out)
          | (refine step_cell rfl 5 _ _ rfl b0 (1 + j) rfl .u8 0 rfl (clrP p j) ?_ (by have := HJ1.out; omega) (kAt_board (Nat.zero_le _) HJ1.out) (by kernel_rfl) ?_; exact HR.out; intro w7 U R; have HR := Lib.hid R; have HB := Lib.hid (HB.out.trans (U.below HG0.out)); clear U R))
        go_roundw
        case rel => exact ⟨j + 1, by have := HJ1.out; omega, by go_num, by rw [← clrP_yes (p := p) (k := j) (by rw [HX.out, HX6.out]; rfl)]; exact HR.out, HB.out⟩
        case measure => have := HJ1.out; simp [intOf]; omega
set_option maxRecDepth 100000 in
set_option maxHeartbeats 1000000 in
theorem pl_eq_in (p : Nat → Int) (f t k : Int) (w : World) (hp : FitM p) (hf : -128 ≤ f ∧ f ≤ 127) (ht : -128 ≤ t ∧ t ≤ 127) (hk : 0 ≤ k ∧ k ≤ 255) (h1 : decide (f < 0) = false) (h2 : decide (63 < f) = false) (h3 : decide (t < 0) = false) (h4 : decide (63 < t) = false) (h5 : decide (9 ≤ p 0) = false) (h6 : decide (1 < p 78) = false) (he : (f == t) = true) (hk2 : decide (2 ≤ k) = true) (hk6 : decide (k ≤ 6) = true) (hG : TabGo w) (hM : TabMv w) (hV : TabVar w) (hK : TabKn w) : Calls Tryd.prog 7 #[.agg (posA p), .int .i8 f, .int .i8 t, .int .u8 k] w (BoL true w) := by
  have HG := Lib.hid hG
  have HMx := Lib.hid hM
  have HV := Lib.hid hV
  have HK := Lib.hid hK
  have HB := Lib.hid (Below.refl w.heap.size w)
  have HFp := Lib.hid hp
  have hsm : smB p = true := by
    unfold smB
    rw [Bool.and_eq_true, decide_eq_true_eq, decide_eq_true_eq]
    have a := of_decide_eq_false h5
    have c := of_decide_eq_false h6
    omega
  have htn := smB_turn hsm hp.turn.1
  have hq : sqB f = true := by
    rw [sqB_true]
    have a := of_decide_eq_false h1
    have c := of_decide_eq_false h2
    omega
  have hr : sqB t = true := by
    rw [sqB_true]
    have a := of_decide_eq_false h3
    have c := of_decide_eq_false h4
    omega
  have wf : IntKind.i64.wrap f = f := IntWalk.i64_in f (by omega)
  have wt : IntKind.i64.wrap t = t := IntWalk.i64_in t (by omega)
  obtain ⟨a, ha⟩ : ∃ a, textZ f = a := ⟨_, rfl⟩
  have HA := Lib.hid ha
  obtain ⟨b, hb⟩ : ∃ b, textZ t = b := ⟨_, rfl⟩
  have HBt := Lib.hid hb
  have sza : a.size = 2 := by rw [← ha, sqM_bz, bz_size]; exact sqM_len2 hq
  have szb : b.size = 2 := by rw [← hb, sqM_bz, bz_size]; exact sqM_len2 hr
  have kab : ¬ (9223372036854775807 < a.size + b.size) := by omega
  have HP0 := Lib.hid hp
  have HFq := Lib.hid (clr_fit hp)
  have c2 : 2 ≤ k := of_decide_eq_true hk2
  have c6 : k ≤ 6 := of_decide_eq_true hk6
  obtain ⟨n, rfl⟩ := Int.eq_ofNat_of_zero_le hk.1
  obtain ⟨z, hz⟩ : ∃ z, bz (leF (mkZ 1 (n : Int))) = z := ⟨_, rfl⟩
  have rc : ∀ w, (Instr.slice 9 (.string ⟨#[63, 63, 110, 98, 114, 113, 107]⟩) (some (.int .u8 (n : Int))) (some (.int .u8 ((n : Int) + 1))) none).run Tryd.prog w = .ok (.string z) w := fun w => by rw [← hz]; exact cut_prom n w (by omega) (by omega)
  have zs : z.size = 1 := by rw [← hz, bz_size]; exact le_len c2 c6
  have kz : ¬ (9223372036854775807 < a.size + b.size + z.size) := by omega
  have gn : ((n : Int) == 0) = false := by rw [beq_eq_false_iff_ne]; omega
  have kq : ¬ (9223372036854775807 < a.size + b.size + z.size + 1) := by omega
  obtain ⟨l, hl⟩ : ∃ l, sqM f ++ sqM t ++ leF (mkZ 1 (n : Int)) = l := ⟨_, rfl⟩
  have hlt : bz l = (a ++ b ++ z) := by
    rw [← hl, ← bz_app, ← bz_app, hz, ← sqM_bz, ← sqM_bz, ha, hb]
  have HLt := Lib.hid hlt
  have HLq := Lib.hid (show bz (l ++ [113]) = (a ++ b ++ z) ++ ⟨#[113]⟩ by rw [← bz_app, hlt]; rfl)
  have hll : l.length ≤ 5 := by
    rw [← hl]
    have x1 := sqM_len f
    have x2 := sqM_len t
    have x3 := leF_len (mkZ 1 (n : Int))
    simp only [List.length_append]; omega
  have HLn := Lib.hid (show l.length ≤ 10000 by omega)
  have HLm := Lib.hid (show (l ++ [113]).length ≤ 10000 by simp only [List.length_append, List.length_cons, List.length_nil]; omega)
  have hft : t = f := by have : f = t := by simpa using he
                         exact this.symm
  have hp1 : mvP (clrP p 64) l = none := by rw [← hl, hft]; exact plain_same htn hq _
  have hp2 : mvP (clrP p 64) (l ++ [113]) = none := by rw [← hl, hft, List.append_assoc]; exact plain_same htn hq _
  have hsc : smB (clrP p 64) = true := by rw [clr_sm]; exact hsm
  have hca : mvT (clrP p 64) ⟨f, t, (n : Int), 0, true⟩ = [] := by
    unfold mvT; rw [hsc]; exact clr_cs htn _
  have hpl : mvT (clrP p 64) ⟨f, t, (n : Int), 0, false⟩ = [] := by
    unfold mvT; rw [hsc, hft]
    show plT (clrP p 64) ⟨f, f, (n : Int), 0, false⟩ = []
    cases h9 : plT (clrP p 64) ⟨f, f, (n : Int), 0, false⟩ with
    | nil => rfl
    | cons x r =>
      exfalso
      have c := (pl_parts h9 (by simp)).1
      simp at c
  obtain ⟨u, hu⟩ : ∃ u, bz (mvT (clrP p 64) ⟨f, t, (n : Int), 0, false⟩) = u := ⟨_, rfl⟩
  have hue : u.toList.isEmpty = true := by rw [← hu, bz_toList, hpl]; rfl
  obtain ⟨v, hv⟩ : ∃ v, bz (mvT (clrP p 64) ⟨f, t, (n : Int), 0, true⟩) = v := ⟨_, rfl⟩
  have hve : v.toList.isEmpty = true := by rw [← hv, bz_toList, hca]; rfl
  obtain ⟨q, hqd⟩ : ∃ q, clrP p 64 = q := ⟨_, rfl⟩
  have HQ := Lib.hid hqd
  rw [hqd] at hp1 hp2 hu hv hsc HFq
  have HU := Lib.hid hu
  have HVv := Lib.hid hv
  have HP1 := Lib.hid (show pmO (mvP q l) = mv0 by rw [hp1]; rfl)
  have HE1 := Lib.hid (show enO q (mvP q l) = 5 by rw [hp1]; show (bif smB q then (5 : Int) else 2) = 5; rw [hsc]; rfl)
  have HP2 := Lib.hid (show pmO (mvP q (l ++ [113])) = mv0 by rw [hp2]; rfl)
  have HE2 := Lib.hid (show enO q (mvP q (l ++ [113])) = 5 by rw [hp2]; show (bif smB q then (5 : Int) else 2) = 5; rw [hsc]; rfl)
  have HFa := Lib.hid (show FitV ⟨f, t, (n : Int), 0, false⟩ from ⟨hf, ht, (by show (0 : Int) ≤ (n : Int) ∧ (n : Int) ≤ 255; omega), (by show (0 : Int) ≤ 0 ∧ (0 : Int) ≤ 255; decide)⟩)
  have HFb := Lib.hid (show FitV ⟨f, t, (n : Int), 0, true⟩ from ⟨hf, ht, (by show (0 : Int) ≤ (n : Int) ∧ (n : Int) ≤ 255; omega), (by show (0 : Int) ≤ 0 ∧ (0 : Int) ≤ 255; decide)⟩)
  have HOnce := Lib.hid trivial
  have HOnceP := Lib.hid trivial
  have HOnceA := Lib.hid trivial
  clear hG hM hV hK hp hf ht hsm htn hq hr ha hb sza szb hz zs hl hlt hll hp1 hp2 hsc hca hu hv hqd hft hpl
  go_enter Tryd.func7, Tryd.ntmps7
  go_wp2_with (first
      | (refine step_box rfl _ rfl p rfl ?_; intro b0 w1 N R; have HG0 := Lib.hid (show w.heap.size ≤ b0 from Nat.le_of_eq N.at_.symm); have HB := Lib.hid (HB.out.trans (N.below.mono HB.out.size)); have HR := Lib.hid R; clear N R)
      | (go_at_call 13; refine (mawake_any _ (HG.out.on HB.out) (HMx.out.on HB.out) (HV.out.on HB.out) (HK.out.on HB.out)).mono ?_; rintro e w3 ⟨rfl, hb⟩; have HR := Lib.hid (HR.out.later hb); have HB := Lib.hid (below_on HB.out hb); clear hb)
      | (refine step_get rfl 5 _ rfl b0 0 rfl Tryd.underlying5 rfl (.int .u8 (p 0)) ?_ ?_; exact HR.out.cell 0 (by decide))
      | (refine step_get rfl 5 _ rfl b0 78 rfl Tryd.underlying5 rfl (.int .u8 (p 78)) ?_ ?_; exact HR.out.cell 78 (by decide)))
  go_loopw [9] (fun v wr => ∃ j : Nat, j ≤ 64 ∧ v = .int .i64 (j : Int) ∧ Row wr b0 (clrP p j) ∧ Below w.heap.size w wr) (fun v _ => 64 - (intOf v).toNat)
  case atStart => exact ⟨0, by omega, rfl, by rw [clrP_0]; exact HR.out, HB.out⟩
  case round =>
    obtain ⟨j, hj, rfl, hr, hbw⟩ := hrel
    have HR := Lib.hid hr
    have HB := Lib.hid hbw
    have HJ := Lib.hid hj
    clear hr hbw
    by_cases e64 : j = 64
    · have gj : decide ((j : Int) < 64) = false := decide_eq_false (by omega)
      have gj2 : decide (j < 64) = false := decide_eq_false (by omega)
      have HR := Lib.hid (show Row wr b0 q by have := HR.out; rw [e64, HQ.out] at this; exact this)
      clear e64 hj
      go_wp2_with (first
        | (go_at_call 14; clear HOnce; refine (text_any f _).mono ?_; rintro e w3 ⟨rfl, hb⟩; rw [HA.out]; have HR := Lib.hid (HR.out.later hb); have HB := Lib.hid (below_on HB.out hb); clear hb)
        | (go_at_call 14; refine (text_any t _).mono ?_; rintro e w3 ⟨rfl, hb⟩; rw [HBt.out]; have HR := Lib.hid (HR.out.later hb); have HB := Lib.hid (below_on HB.out hb); clear hb)
        | (clear HOnceA; refine blk_alloc rfl 33 rfl (mvA mv0) zeroMv ?_; intro b11 w6 N R; have HGb11 := Lib.hid (show w.heap.size ≤ b11 by rw [N.at_]; exact HB.out.size); have HDHRb11 := Lib.hid (show b0 ≠ b11 by rw [N.at_]; exact Nat.ne_of_lt HR.out.lt); have HR := Lib.hid (HR.out.later N.below); have HB := Lib.hid (HB.out.trans (N.below.mono HB.out.size)); have HM := Lib.hid R; clear N R)
        | (refine blk_store rfl 33 _ _ rfl b11 rfl (mvA mv0) (mvA ⟨f, t, 0, 0, false⟩) rfl ?_ rfl (mv_one _) sizeMv ?_; exact HM.out; intro w7 U R; have HR := Lib.hid (HR.out.apart U HDHRb11.out); have HB := Lib.hid (HB.out.trans (U.below HGb11.out)); have HM := Lib.hid R; clear U R)
        | (refine blk_cell rfl 5 _ _ rfl b11 2 rfl .u8 (n : Int) rfl 33 (mvA ⟨f, t, 0, 0, false⟩) ?_ (by show 2 < 5; decide) (by kernel_rfl) ?_; exact HM.out; intro w7 U R; have R := (show Blk w7 b11 33 (mvA ⟨f, t, (n : Int), 0, false⟩) from R); have HR := Lib.hid (HR.out.apart U HDHRb11.out); have HB := Lib.hid (HB.out.trans (U.below HGb11.out)); have HM := Lib.hid R; clear U R)
        | (refine step_load rfl _ rfl b0 rfl q ?_ ?_; exact HR.out)
        | (go_at_call 11; clear HOnceP; rw [← HLt.out]; refine (mvParse_any q l _ HLn.out HFq.out (HG.out.on HB.out) (HMx.out.on HB.out)).mono ?_; rintro e w5 ⟨rfl, hb⟩; rw [HP1.out, HE1.out, HLt.out]; have HR := Lib.hid (HR.out.later hb); have HM := Lib.hid (HM.out.later hb); have HB := Lib.hid (below_on HB.out hb); clear hb)
        | (refine blk_alloc rfl 33 rfl (mvA mv0) zeroMv ?_; intro b12 w6 N R; have HGb12 := Lib.hid (show w.heap.size ≤ b12 by rw [N.at_]; exact HB.out.size); have HDHRb12 := Lib.hid (show b0 ≠ b12 by rw [N.at_]; exact Nat.ne_of_lt HR.out.lt); have HR := Lib.hid (HR.out.later N.below); have HDHMb12 := Lib.hid (show b11 ≠ b12 by rw [N.at_]; exact Nat.ne_of_lt HM.out.lt); have HM := Lib.hid (HM.out.later N.below); have HB := Lib.hid (HB.out.trans (N.below.mono HB.out.size)); have HW := Lib.hid R; clear N R)
        | (refine blk_store rfl 33 _ _ rfl b12 rfl (mvA mv0) (mvA mv0) rfl ?_ rfl (mv_one _) sizeMv ?_; exact HW.out; intro w7 U R; have HR := Lib.hid (HR.out.apart U HDHRb12.out); have HM := Lib.hid (HM.out.apart U HDHMb12.out); have HB := Lib.hid (HB.out.trans (U.below HGb12.out)); have HW := Lib.hid R; clear U R))
      rw [← HLq.out]
      refine (mvParse_any q (l ++ [113]) _ HLm.out HFq.out (HG.out.on HB.out) (HMx.out.on HB.out)).mono ?_; rintro e w5 ⟨rfl, hb⟩; rw [HP2.out, HE2.out, HLq.out]; have HR := Lib.hid (HR.out.later hb); have HM := Lib.hid (HM.out.later hb); have HW := Lib.hid (HW.out.later hb); have HB := Lib.hid (below_on HB.out hb); clear hb
      go_wp2_with (first
        | (refine blk_alloc rfl 33 rfl (mvA mv0) zeroMv ?_; intro b14 w6 N R; have HGb14 := Lib.hid (show w.heap.size ≤ b14 by rw [N.at_]; exact HB.out.size); have HDHRb14 := Lib.hid (show b0 ≠ b14 by rw [N.at_]; exact Nat.ne_of_lt HR.out.lt); have HR := Lib.hid (HR.out.later N.below); have HDHMb14 := Lib.hid (show b11 ≠ b14 by rw [N.at_]; exact Nat.ne_of_lt HM.out.lt); have HM := Lib.hid (HM.out.later N.below); have HDHWb14 := Lib.hid (show b12 ≠ b14 by rw [N.at_]; exact Nat.ne_of_lt HW.out.lt); have HW := Lib.hid (HW.out.later N.below); have HB := Lib.hid (HB.out.trans (N.below.mono HB.out.size)); have HC := Lib.hid R; clear N R)
        | (refine blk_store rfl 33 _ _ rfl b14 rfl (mvA mv0) (mvA mv0) rfl ?_ rfl (mv_one _) sizeMv ?_; exact HC.out; intro w7 U R; have HEW := Lib.hid (show b12 ≠ b11 from Ne.symm HDHMb12.out); have HEC := Lib.hid (show b14 ≠ b11 from Ne.symm HDHMb14.out); have HR := Lib.hid (HR.out.apart U HDHRb14.out); have HM := Lib.hid (HM.out.apart U HDHMb14.out); have HW := Lib.hid (HW.out.apart U HDHWb14.out); have HB := Lib.hid (HB.out.trans (U.below HGb14.out)); have HC := Lib.hid R; clear U R)
        | (refine blk_yes rfl 4 _ _ rfl b11 4 rfl true rfl 33 (mvA ⟨f, t, (n : Int), 0, false⟩) ?_ (by show 4 < 5; decide) (by kernel_rfl) ?_; exact HM.out; intro w7 U R; have R := (show Blk w7 b11 33 (mvA ⟨f, t, (n : Int), 0, true⟩) from R); have HR := Lib.hid (HR.out.apart U HDHRb11.out); have HW := Lib.hid (HW.out.apart U HEW.out); have HC := Lib.hid (HC.out.apart U HEC.out); have HB := Lib.hid (HB.out.trans (U.below HGb11.out)); have HM := Lib.hid R; clear U R)
        | (refine step_load rfl _ rfl b0 rfl q ?_ ?_; exact HR.out)
        | (refine blk_load rfl 33 _ rfl b11 rfl (mvA ⟨f, t, (n : Int), 0, true⟩) ?_ _ Tryd.underlying33 rfl sizeMv ?_; exact HM.out))
      refine (mvText_any q ⟨f, t, (n : Int), 0, true⟩ _ HFq.out HFb.out (HG.out.on HB.out)).mono ?_; rintro e w4 ⟨rfl, hb⟩; rw [HVv.out]; have HR := Lib.hid (HR.out.later hb); have HM := Lib.hid (HM.out.later hb); have HW := Lib.hid (HW.out.later hb); have HC := Lib.hid (HC.out.later hb); have HB := Lib.hid (below_on HB.out hb); clear hb
      go_wp2_with (first
        | (refine blk_yes rfl 4 _ _ rfl b11 4 rfl false rfl 33 (mvA ⟨f, t, (n : Int), 0, true⟩) ?_ (by show 4 < 5; decide) (by kernel_rfl) ?_; exact HM.out; intro w7 U R; have R := (show Blk w7 b11 33 (mvA ⟨f, t, (n : Int), 0, false⟩) from R); have HR := Lib.hid (HR.out.apart U HDHRb11.out); have HW := Lib.hid (HW.out.apart U HEW.out); have HC := Lib.hid (HC.out.apart U HEC.out); have HB := Lib.hid (HB.out.trans (U.below HGb11.out)); have HM := Lib.hid R; clear U R)
        | (refine step_load rfl _ rfl b0 rfl q ?_ ?_; exact HR.out)
        | (refine blk_load rfl 33 _ rfl b11 rfl (mvA ⟨f, t, (n : Int), 0, false⟩) ?_ _ Tryd.underlying33 rfl sizeMv ?_; exact HM.out)
        | (go_at_call 9; refine (mvText_any q ⟨f, t, (n : Int), 0, false⟩ _ HFq.out HFa.out (HG.out.on HB.out)).mono ?_; rintro e w4 ⟨rfl, hb⟩; rw [HU.out]; have HR := Lib.hid (HR.out.later hb); have HM := Lib.hid (HM.out.later hb); have HW := Lib.hid (HW.out.later hb); have HC := Lib.hid (HC.out.later hb); have HB := Lib.hid (below_on HB.out hb); clear hb))
      exact bodyPost_ret (results_tmp rfl _ _ _) rfl ⟨by simp, HB.out⟩
    · have gj : decide ((j : Int) < 64) = true := decide_eq_true (by omega)
      have gj2 : decide (j < 64) = true := decide_eq_true (by omega)
      have j0 : (0 : Int) ≤ (j : Int) := by omega
      have j1 : (j : Int) < 64 := by omega
      have hj1 : j < 64 := by omega
      have HJ1 := Lib.hid hj1
      obtain ⟨x, hx⟩ : ∃ x, p (1 + j) = x := ⟨_, rfl⟩
      have HC := Lib.hid (show wr.cell? ⟨b0, 1 + j, none⟩ = some (.int .u8 x) by
        rw [HR.out.cell (1 + j) (by omega), kAt_board (Nat.zero_le _) hj1, clrP_at p (Nat.le_refl j), hx])
      have HX := Lib.hid hx
      clear e64 hj hx hj1
      cases x6 : (x == 6)
      · have HX6 := Lib.hid x6
        cases x14 : (x == 14)
        · have HX14 := Lib.hid x14
          go_wp2_with (first
            | (refine step_get rfl 5 _ rfl b0 (1 + j) rfl Tryd.underlying5 rfl (.int .u8 x) ?_ ?_; exact HC.out))
          go_roundw
          case rel => exact ⟨j + 1, by have := HJ1.out; omega, by go_num, by rw [← clrP_no (p := p) (k := j) (by rw [HX.out, HX6.out, HX14.out]; rfl)]; exact HR.out, HB.out⟩
          case measure => have := HJ1.out; simp [intOf]; omega
        · have HX14 := Lib.hid x14
          go_wp2_with (first
            | (refine step_get rfl 5 _ rfl b0 (1 + j) rfl Tryd.underlying5 rfl (.int .u8 x) ?_ ?_; exact HC.out)
            | (refine step_cell rfl 5 _ _ rfl b0 (1 + j) rfl .u8 0 rfl (clrP p j) ?_ (by have := HJ1.out; omega) (kAt_board (Nat.zero_le _) HJ1.out) (by kernel_rfl) ?_; exact HR.out; intro w7 U R; have HR := Lib.hid R; have HB := Lib.hid (HB.out.trans (U.below HG0.out)); clear U R))
          go_roundw
          case rel => exact ⟨j + 1, by have := HJ1.out; omega, by go_num, by rw [← clrP_yes (p := p) (k := j) (by rw [HX.out, HX6.out, HX14.out]; rfl)]; exact HR.out, HB.out⟩
          case measure => have := HJ1.out; simp [intOf]; omega
      · have HX6 := Lib.hid x6
        go_wp2_with (first
          | (refine step_get rfl 5 _ rfl b0 (1 + j) rfl Tryd.underlying5 rfl (.int .u8 x) ?_ ?_; exact HC.out)
          | (refine step_cell rfl 5 _ _ rfl b0 (1 + j) rfl .u8 0 rfl (clrP p j) ?_ (by have := HJ1.out; omega) (kAt_board (Nat.zero_le _) HJ1.out) (by kernel_rfl) ?_; exact HR.out; intro w7 U R; have HR := Lib.hid R; have HB := Lib.hid (HB.out.trans (U.below HG0.out)); clear U R))
        go_roundw
        case rel => exact ⟨j + 1, by have := HJ1.out; omega, by go_num, by rw [← clrP_yes (p := p) (k := j) (by rw [HX.out, HX6.out]; rfl)]; exact HR.out, HB.out⟩
        case measure => have := HJ1.out; simp [intOf]; omega
set_option maxRecDepth 100000 in
set_option maxHeartbeats 1000000 in
theorem pl_ne_lo (p : Nat → Int) (f t k : Int) (w : World) (hp : FitM p) (hf : -128 ≤ f ∧ f ≤ 127) (ht : -128 ≤ t ∧ t ≤ 127) (hk : 0 ≤ k ∧ k ≤ 255) (h1 : decide (f < 0) = false) (h2 : decide (63 < f) = false) (h3 : decide (t < 0) = false) (h4 : decide (63 < t) = false) (h5 : decide (9 ≤ p 0) = false) (h6 : decide (1 < p 78) = false) (he : (f == t) = false) (hk2 : decide (2 ≤ k) = false) (hG : TabGo w) (hM : TabMv w) (hV : TabVar w) (hK : TabKn w) : Calls Tryd.prog 7 #[.agg (posA p), .int .i8 f, .int .i8 t, .int .u8 k] w (BoL true w) := by
  have HG := Lib.hid hG
  have HMx := Lib.hid hM
  have HV := Lib.hid hV
  have HK := Lib.hid hK
  have HB := Lib.hid (Below.refl w.heap.size w)
  have HFp := Lib.hid hp
  have hsm : smB p = true := by
    unfold smB
    rw [Bool.and_eq_true, decide_eq_true_eq, decide_eq_true_eq]
    have a := of_decide_eq_false h5
    have c := of_decide_eq_false h6
    omega
  have htn := smB_turn hsm hp.turn.1
  have hq : sqB f = true := by
    rw [sqB_true]
    have a := of_decide_eq_false h1
    have c := of_decide_eq_false h2
    omega
  have hr : sqB t = true := by
    rw [sqB_true]
    have a := of_decide_eq_false h3
    have c := of_decide_eq_false h4
    omega
  have wf : IntKind.i64.wrap f = f := IntWalk.i64_in f (by omega)
  have wt : IntKind.i64.wrap t = t := IntWalk.i64_in t (by omega)
  obtain ⟨a, ha⟩ : ∃ a, textZ f = a := ⟨_, rfl⟩
  have HA := Lib.hid ha
  obtain ⟨b, hb⟩ : ∃ b, textZ t = b := ⟨_, rfl⟩
  have HBt := Lib.hid hb
  have sza : a.size = 2 := by rw [← ha, sqM_bz, bz_size]; exact sqM_len2 hq
  have szb : b.size = 2 := by rw [← hb, sqM_bz, bz_size]; exact sqM_len2 hr
  have kab : ¬ (9223372036854775807 < a.size + b.size) := by omega
  have HP0 := Lib.hid hp
  have HFq := Lib.hid (clr_fit hp)
  obtain ⟨z, hz⟩ : ∃ z, bz (leF (mkZ 1 0)) = z := ⟨_, rfl⟩
  have zs : z = ⟨#[]⟩ := by rw [← hz]; rfl
  have kq : ¬ (9223372036854775807 < a.size + b.size + 1) := by omega
  obtain ⟨l, hl⟩ : ∃ l, sqM f ++ sqM t ++ leF (mkZ 1 0) = l := ⟨_, rfl⟩
  have hlt : bz l = (a ++ b) := by
    rw [← hl, ← bz_app, ← bz_app, hz, ← sqM_bz, ← sqM_bz, ha, hb]; rw [zs]; exact ByteArray.append_empty
  have HLt := Lib.hid hlt
  have HLq := Lib.hid (show bz (l ++ [113]) = (a ++ b) ++ ⟨#[113]⟩ by rw [← bz_app, hlt]; rfl)
  have hll : l.length ≤ 5 := by
    rw [← hl]
    have x1 := sqM_len f
    have x2 := sqM_len t
    have x3 := leF_len (mkZ 1 0)
    simp only [List.length_append]; omega
  have HLn := Lib.hid (show l.length ≤ 10000 by omega)
  have HLm := Lib.hid (show (l ++ [113]).length ≤ 10000 by simp only [List.length_append, List.length_cons, List.length_nil]; omega)
  have hne : f ≠ t := by simpa using he
  have htx : mvT (clrP p 64) ⟨f, t, 0, 0, false⟩ = l := by rw [← hl]; exact plain_text hsm htn hq hr hne (by decide) (by decide)
  have hln : l ≠ [] := by rw [← hl]; obtain ⟨x, y, e, _⟩ := sqM_two hq; rw [e]; simp
  have htq : 0 ≤ clrP p 64 78 := by rw [clrP_out p (.inr (by omega))]; exact hp.turn.1
  have hp1 : mvP (clrP p 64) l = some ⟨f, t, 0, 0, false⟩ := mv_back htq (Int.le_refl 0) htx hln
  have hp2 : mvP (clrP p 64) (l ++ [113]) = some ⟨f, t, 5, 0, false⟩ := mv_back htq (show (0 : Int) ≤ 5 by decide) (by
    rw [plain_text hsm htn hq hr hne (by decide) (by decide), ← hl, show leF (mkZ 1 5) = [113] by decide +kernel, show leF (mkZ 1 0) = [] by decide +kernel, List.append_nil]) (by simp)
  have hsc : smB (clrP p 64) = true := by rw [clr_sm]; exact hsm
  have hca : mvT (clrP p 64) ⟨f, t, 0, 0, true⟩ = [] := by
    unfold mvT; rw [hsc]; exact clr_cs htn _
  obtain ⟨u, hu⟩ : ∃ u, bz (mvT (clrP p 64) ⟨f, t, 0, 0, false⟩) = u := ⟨_, rfl⟩
  have hue : (u.toList == (a ++ b).toList) = true := by rw [← hu, htx, hlt]; exact beq_self_eq_true _
  obtain ⟨v, hv⟩ : ∃ v, bz (mvT (clrP p 64) ⟨f, t, 0, 0, true⟩) = v := ⟨_, rfl⟩
  have hve : v.toList.isEmpty = true := by rw [← hv, bz_toList, hca]; rfl
  obtain ⟨q, hqd⟩ : ∃ q, clrP p 64 = q := ⟨_, rfl⟩
  have HQ := Lib.hid hqd
  rw [hqd] at hp1 hp2 hu hv hsc HFq
  have HU := Lib.hid hu
  have HVv := Lib.hid hv
  have HP1 := Lib.hid (show pmO (mvP q l) = ⟨f, t, 0, 0, false⟩ by rw [hp1]; rfl)
  have HE1 := Lib.hid (show enO q (mvP q l) = 0 by rw [hp1]; rfl)
  have HP2 := Lib.hid (show pmO (mvP q (l ++ [113])) = ⟨f, t, 5, 0, false⟩ by rw [hp2]; rfl)
  have HE2 := Lib.hid (show enO q (mvP q (l ++ [113])) = 0 by rw [hp2]; rfl)
  have HFa := Lib.hid (show FitV ⟨f, t, 0, 0, false⟩ from ⟨hf, ht, (by show (0 : Int) ≤ 0 ∧ 0 ≤ 255; omega), (by show (0 : Int) ≤ 0 ∧ (0 : Int) ≤ 255; decide)⟩)
  have HFb := Lib.hid (show FitV ⟨f, t, 0, 0, true⟩ from ⟨hf, ht, (by show (0 : Int) ≤ 0 ∧ 0 ≤ 255; omega), (by show (0 : Int) ≤ 0 ∧ (0 : Int) ≤ 255; decide)⟩)
  have HOnce := Lib.hid trivial
  have HOnceP := Lib.hid trivial
  have HOnceA := Lib.hid trivial
  clear hG hM hV hK hp hf ht hsm htn hq hr ha hb sza szb hz zs hl hlt hll hp1 hp2 hsc hca hu hv hqd hne htx hln htq
  go_enter Tryd.func7, Tryd.ntmps7
  go_wp2_with (first
      | (refine step_box rfl _ rfl p rfl ?_; intro b0 w1 N R; have HG0 := Lib.hid (show w.heap.size ≤ b0 from Nat.le_of_eq N.at_.symm); have HB := Lib.hid (HB.out.trans (N.below.mono HB.out.size)); have HR := Lib.hid R; clear N R)
      | (go_at_call 13; refine (mawake_any _ (HG.out.on HB.out) (HMx.out.on HB.out) (HV.out.on HB.out) (HK.out.on HB.out)).mono ?_; rintro e w3 ⟨rfl, hb⟩; have HR := Lib.hid (HR.out.later hb); have HB := Lib.hid (below_on HB.out hb); clear hb)
      | (refine step_get rfl 5 _ rfl b0 0 rfl Tryd.underlying5 rfl (.int .u8 (p 0)) ?_ ?_; exact HR.out.cell 0 (by decide))
      | (refine step_get rfl 5 _ rfl b0 78 rfl Tryd.underlying5 rfl (.int .u8 (p 78)) ?_ ?_; exact HR.out.cell 78 (by decide)))
  go_loopw [9] (fun v wr => ∃ j : Nat, j ≤ 64 ∧ v = .int .i64 (j : Int) ∧ Row wr b0 (clrP p j) ∧ Below w.heap.size w wr) (fun v _ => 64 - (intOf v).toNat)
  case atStart => exact ⟨0, by omega, rfl, by rw [clrP_0]; exact HR.out, HB.out⟩
  case round =>
    obtain ⟨j, hj, rfl, hr, hbw⟩ := hrel
    have HR := Lib.hid hr
    have HB := Lib.hid hbw
    have HJ := Lib.hid hj
    clear hr hbw
    by_cases e64 : j = 64
    · have gj : decide ((j : Int) < 64) = false := decide_eq_false (by omega)
      have gj2 : decide (j < 64) = false := decide_eq_false (by omega)
      have HR := Lib.hid (show Row wr b0 q by have := HR.out; rw [e64, HQ.out] at this; exact this)
      clear e64 hj
      go_wp2_with (first
        | (go_at_call 14; clear HOnce; refine (text_any f _).mono ?_; rintro e w3 ⟨rfl, hb⟩; rw [HA.out]; have HR := Lib.hid (HR.out.later hb); have HB := Lib.hid (below_on HB.out hb); clear hb)
        | (go_at_call 14; refine (text_any t _).mono ?_; rintro e w3 ⟨rfl, hb⟩; rw [HBt.out]; have HR := Lib.hid (HR.out.later hb); have HB := Lib.hid (below_on HB.out hb); clear hb)
        | (clear HOnceA; refine blk_alloc rfl 33 rfl (mvA mv0) zeroMv ?_; intro b11 w6 N R; have HGb11 := Lib.hid (show w.heap.size ≤ b11 by rw [N.at_]; exact HB.out.size); have HDHRb11 := Lib.hid (show b0 ≠ b11 by rw [N.at_]; exact Nat.ne_of_lt HR.out.lt); have HR := Lib.hid (HR.out.later N.below); have HB := Lib.hid (HB.out.trans (N.below.mono HB.out.size)); have HM := Lib.hid R; clear N R)
        | (refine blk_store rfl 33 _ _ rfl b11 rfl (mvA mv0) (mvA ⟨f, t, 0, 0, false⟩) rfl ?_ rfl (mv_one _) sizeMv ?_; exact HM.out; intro w7 U R; have HR := Lib.hid (HR.out.apart U HDHRb11.out); have HB := Lib.hid (HB.out.trans (U.below HGb11.out)); have HM := Lib.hid R; clear U R)
        | (refine step_load rfl _ rfl b0 rfl q ?_ ?_; exact HR.out)
        | (go_at_call 11; clear HOnceP; rw [← HLt.out]; refine (mvParse_any q l _ HLn.out HFq.out (HG.out.on HB.out) (HMx.out.on HB.out)).mono ?_; rintro e w5 ⟨rfl, hb⟩; rw [HP1.out, HE1.out, HLt.out]; have HR := Lib.hid (HR.out.later hb); have HM := Lib.hid (HM.out.later hb); have HB := Lib.hid (below_on HB.out hb); clear hb)
        | (refine blk_alloc rfl 33 rfl (mvA mv0) zeroMv ?_; intro b12 w6 N R; have HGb12 := Lib.hid (show w.heap.size ≤ b12 by rw [N.at_]; exact HB.out.size); have HDHRb12 := Lib.hid (show b0 ≠ b12 by rw [N.at_]; exact Nat.ne_of_lt HR.out.lt); have HR := Lib.hid (HR.out.later N.below); have HDHMb12 := Lib.hid (show b11 ≠ b12 by rw [N.at_]; exact Nat.ne_of_lt HM.out.lt); have HM := Lib.hid (HM.out.later N.below); have HB := Lib.hid (HB.out.trans (N.below.mono HB.out.size)); have HW := Lib.hid R; clear N R)
        | (refine blk_store rfl 33 _ _ rfl b12 rfl (mvA mv0) (mvA ⟨f, t, 0, 0, false⟩) rfl ?_ rfl (mv_one _) sizeMv ?_; exact HW.out; intro w7 U R; have HR := Lib.hid (HR.out.apart U HDHRb12.out); have HM := Lib.hid (HM.out.apart U HDHMb12.out); have HB := Lib.hid (HB.out.trans (U.below HGb12.out)); have HW := Lib.hid R; clear U R))
      rw [← HLq.out]
      refine (mvParse_any q (l ++ [113]) _ HLm.out HFq.out (HG.out.on HB.out) (HMx.out.on HB.out)).mono ?_; rintro e w5 ⟨rfl, hb⟩; rw [HP2.out, HE2.out, HLq.out]; have HR := Lib.hid (HR.out.later hb); have HM := Lib.hid (HM.out.later hb); have HW := Lib.hid (HW.out.later hb); have HB := Lib.hid (below_on HB.out hb); clear hb
      go_wp2_with (first
        | (refine blk_alloc rfl 33 rfl (mvA mv0) zeroMv ?_; intro b14 w6 N R; have HGb14 := Lib.hid (show w.heap.size ≤ b14 by rw [N.at_]; exact HB.out.size); have HDHRb14 := Lib.hid (show b0 ≠ b14 by rw [N.at_]; exact Nat.ne_of_lt HR.out.lt); have HR := Lib.hid (HR.out.later N.below); have HDHMb14 := Lib.hid (show b11 ≠ b14 by rw [N.at_]; exact Nat.ne_of_lt HM.out.lt); have HM := Lib.hid (HM.out.later N.below); have HDHWb14 := Lib.hid (show b12 ≠ b14 by rw [N.at_]; exact Nat.ne_of_lt HW.out.lt); have HW := Lib.hid (HW.out.later N.below); have HB := Lib.hid (HB.out.trans (N.below.mono HB.out.size)); have HC := Lib.hid R; clear N R)
        | (refine blk_store rfl 33 _ _ rfl b14 rfl (mvA mv0) (mvA ⟨f, t, 5, 0, false⟩) rfl ?_ rfl (mv_one _) sizeMv ?_; exact HC.out; intro w7 U R; have HEW := Lib.hid (show b12 ≠ b11 from Ne.symm HDHMb12.out); have HEC := Lib.hid (show b14 ≠ b11 from Ne.symm HDHMb14.out); have HR := Lib.hid (HR.out.apart U HDHRb14.out); have HM := Lib.hid (HM.out.apart U HDHMb14.out); have HW := Lib.hid (HW.out.apart U HDHWb14.out); have HB := Lib.hid (HB.out.trans (U.below HGb14.out)); have HC := Lib.hid R; clear U R)
        | (refine blk_yes rfl 4 _ _ rfl b11 4 rfl true rfl 33 (mvA ⟨f, t, 0, 0, false⟩) ?_ (by show 4 < 5; decide) (by kernel_rfl) ?_; exact HM.out; intro w7 U R; have R := (show Blk w7 b11 33 (mvA ⟨f, t, 0, 0, true⟩) from R); have HR := Lib.hid (HR.out.apart U HDHRb11.out); have HW := Lib.hid (HW.out.apart U HEW.out); have HC := Lib.hid (HC.out.apart U HEC.out); have HB := Lib.hid (HB.out.trans (U.below HGb11.out)); have HM := Lib.hid R; clear U R)
        | (refine step_load rfl _ rfl b0 rfl q ?_ ?_; exact HR.out)
        | (refine blk_load rfl 33 _ rfl b11 rfl (mvA ⟨f, t, 0, 0, true⟩) ?_ _ Tryd.underlying33 rfl sizeMv ?_; exact HM.out))
      refine (mvText_any q ⟨f, t, 0, 0, true⟩ _ HFq.out HFb.out (HG.out.on HB.out)).mono ?_; rintro e w4 ⟨rfl, hb⟩; rw [HVv.out]; have HR := Lib.hid (HR.out.later hb); have HM := Lib.hid (HM.out.later hb); have HW := Lib.hid (HW.out.later hb); have HC := Lib.hid (HC.out.later hb); have HB := Lib.hid (below_on HB.out hb); clear hb
      go_wp2_with (first
        | (refine blk_yes rfl 4 _ _ rfl b11 4 rfl false rfl 33 (mvA ⟨f, t, 0, 0, true⟩) ?_ (by show 4 < 5; decide) (by kernel_rfl) ?_; exact HM.out; intro w7 U R; have R := (show Blk w7 b11 33 (mvA ⟨f, t, 0, 0, false⟩) from R); have HR := Lib.hid (HR.out.apart U HDHRb11.out); have HW := Lib.hid (HW.out.apart U HEW.out); have HC := Lib.hid (HC.out.apart U HEC.out); have HB := Lib.hid (HB.out.trans (U.below HGb11.out)); have HM := Lib.hid R; clear U R)
        | (refine step_load rfl _ rfl b0 rfl q ?_ ?_; exact HR.out)
        | (refine blk_load rfl 33 _ rfl b11 rfl (mvA ⟨f, t, 0, 0, false⟩) ?_ _ Tryd.underlying33 rfl sizeMv ?_; exact HM.out)
        | (refine blk_load rfl 33 _ rfl b12 rfl (mvA ⟨f, t, 0, 0, false⟩) ?_ _ Tryd.underlying33 rfl sizeMv ?_; exact HW.out)
        | (refine step_mv rfl _ _ rfl ⟨f, t, 0, 0, false⟩ ⟨f, t, 0, 0, false⟩ rfl rfl HFa.out HFa.out true (mvE_true.2 rfl) ?_)
        | (go_at_call 9; refine (mvText_any q ⟨f, t, 0, 0, false⟩ _ HFq.out HFa.out (HG.out.on HB.out)).mono ?_; rintro e w4 ⟨rfl, hb⟩; rw [HU.out]; have HR := Lib.hid (HR.out.later hb); have HM := Lib.hid (HM.out.later hb); have HW := Lib.hid (HW.out.later hb); have HC := Lib.hid (HC.out.later hb); have HB := Lib.hid (below_on HB.out hb); clear hb)
        | (refine step_get rfl 5 _ rfl b11 2 rfl Tryd.underlying5 rfl (.int .u8 0) ?_ ?_; exact HM.out.cell 2)
        | (refine step_get rfl 4 _ rfl b14 4 rfl Tryd.underlying4 rfl (.bool false) ?_ ?_; exact HC.out.cell 4))
      exact bodyPost_ret (results_tmp rfl _ _ _) rfl ⟨by simp, HB.out⟩
    · have gj : decide ((j : Int) < 64) = true := decide_eq_true (by omega)
      have gj2 : decide (j < 64) = true := decide_eq_true (by omega)
      have j0 : (0 : Int) ≤ (j : Int) := by omega
      have j1 : (j : Int) < 64 := by omega
      have hj1 : j < 64 := by omega
      have HJ1 := Lib.hid hj1
      obtain ⟨x, hx⟩ : ∃ x, p (1 + j) = x := ⟨_, rfl⟩
      have HC := Lib.hid (show wr.cell? ⟨b0, 1 + j, none⟩ = some (.int .u8 x) by
        rw [HR.out.cell (1 + j) (by omega), kAt_board (Nat.zero_le _) hj1, clrP_at p (Nat.le_refl j), hx])
      have HX := Lib.hid hx
      clear e64 hj hx hj1
      cases x6 : (x == 6)
      · have HX6 := Lib.hid x6
        cases x14 : (x == 14)
        · have HX14 := Lib.hid x14
          go_wp2_with (first
            | (refine step_get rfl 5 _ rfl b0 (1 + j) rfl Tryd.underlying5 rfl (.int .u8 x) ?_ ?_; exact HC.out))
          go_roundw
          case rel => exact ⟨j + 1, by have := HJ1.out; omega, by go_num, by rw [← clrP_no (p := p) (k := j) (by rw [HX.out, HX6.out, HX14.out]; rfl)]; exact HR.out, HB.out⟩
          case measure => have := HJ1.out; simp [intOf]; omega
        · have HX14 := Lib.hid x14
          go_wp2_with (first
            | (refine step_get rfl 5 _ rfl b0 (1 + j) rfl Tryd.underlying5 rfl (.int .u8 x) ?_ ?_; exact HC.out)
            | (refine step_cell rfl 5 _ _ rfl b0 (1 + j) rfl .u8 0 rfl (clrP p j) ?_ (by have := HJ1.out; omega) (kAt_board (Nat.zero_le _) HJ1.out) (by kernel_rfl) ?_; exact HR.out; intro w7 U R; have HR := Lib.hid R; have HB := Lib.hid (HB.out.trans (U.below HG0.out)); clear U R))
          go_roundw
          case rel => exact ⟨j + 1, by have := HJ1.out; omega, by go_num, by rw [← clrP_yes (p := p) (k := j) (by rw [HX.out, HX6.out, HX14.out]; rfl)]; exact HR.out, HB.out⟩
          case measure => have := HJ1.out; simp [intOf]; omega
      · have HX6 := Lib.hid x6
        go_wp2_with (first
          | (refine step_get rfl 5 _ rfl b0 (1 + j) rfl Tryd.underlying5 rfl (.int .u8 x) ?_ ?_; exact HC.out)
          | (refine step_cell rfl 5 _ _ rfl b0 (1 + j) rfl .u8 0 rfl (clrP p j) ?_ (by have := HJ1.out; omega) (kAt_board (Nat.zero_le _) HJ1.out) (by kernel_rfl) ?_; exact HR.out; intro w7 U R; have HR := Lib.hid R; have HB := Lib.hid (HB.out.trans (U.below HG0.out)); clear U R))
        go_roundw
        case rel => exact ⟨j + 1, by have := HJ1.out; omega, by go_num, by rw [← clrP_yes (p := p) (k := j) (by rw [HX.out, HX6.out]; rfl)]; exact HR.out, HB.out⟩
        case measure => have := HJ1.out; simp [intOf]; omega
set_option maxRecDepth 100000 in
set_option maxHeartbeats 1000000 in
theorem pl_ne_hi (p : Nat → Int) (f t k : Int) (w : World) (hp : FitM p) (hf : -128 ≤ f ∧ f ≤ 127) (ht : -128 ≤ t ∧ t ≤ 127) (hk : 0 ≤ k ∧ k ≤ 255) (h1 : decide (f < 0) = false) (h2 : decide (63 < f) = false) (h3 : decide (t < 0) = false) (h4 : decide (63 < t) = false) (h5 : decide (9 ≤ p 0) = false) (h6 : decide (1 < p 78) = false) (he : (f == t) = false) (hk2 : decide (2 ≤ k) = true) (hk6 : decide (k ≤ 6) = false) (hG : TabGo w) (hM : TabMv w) (hV : TabVar w) (hK : TabKn w) : Calls Tryd.prog 7 #[.agg (posA p), .int .i8 f, .int .i8 t, .int .u8 k] w (BoL true w) := by
  have HG := Lib.hid hG
  have HMx := Lib.hid hM
  have HV := Lib.hid hV
  have HK := Lib.hid hK
  have HB := Lib.hid (Below.refl w.heap.size w)
  have HFp := Lib.hid hp
  have hsm : smB p = true := by
    unfold smB
    rw [Bool.and_eq_true, decide_eq_true_eq, decide_eq_true_eq]
    have a := of_decide_eq_false h5
    have c := of_decide_eq_false h6
    omega
  have htn := smB_turn hsm hp.turn.1
  have hq : sqB f = true := by
    rw [sqB_true]
    have a := of_decide_eq_false h1
    have c := of_decide_eq_false h2
    omega
  have hr : sqB t = true := by
    rw [sqB_true]
    have a := of_decide_eq_false h3
    have c := of_decide_eq_false h4
    omega
  have wf : IntKind.i64.wrap f = f := IntWalk.i64_in f (by omega)
  have wt : IntKind.i64.wrap t = t := IntWalk.i64_in t (by omega)
  obtain ⟨a, ha⟩ : ∃ a, textZ f = a := ⟨_, rfl⟩
  have HA := Lib.hid ha
  obtain ⟨b, hb⟩ : ∃ b, textZ t = b := ⟨_, rfl⟩
  have HBt := Lib.hid hb
  have sza : a.size = 2 := by rw [← ha, sqM_bz, bz_size]; exact sqM_len2 hq
  have szb : b.size = 2 := by rw [← hb, sqM_bz, bz_size]; exact sqM_len2 hr
  have kab : ¬ (9223372036854775807 < a.size + b.size) := by omega
  have HP0 := Lib.hid hp
  have HFq := Lib.hid (clr_fit hp)
  obtain ⟨z, hz⟩ : ∃ z, bz (leF (mkZ 1 0)) = z := ⟨_, rfl⟩
  have zs : z = ⟨#[]⟩ := by rw [← hz]; rfl
  have kq : ¬ (9223372036854775807 < a.size + b.size + 1) := by omega
  obtain ⟨l, hl⟩ : ∃ l, sqM f ++ sqM t ++ leF (mkZ 1 0) = l := ⟨_, rfl⟩
  have hlt : bz l = (a ++ b) := by
    rw [← hl, ← bz_app, ← bz_app, hz, ← sqM_bz, ← sqM_bz, ha, hb]; rw [zs]; exact ByteArray.append_empty
  have HLt := Lib.hid hlt
  have HLq := Lib.hid (show bz (l ++ [113]) = (a ++ b) ++ ⟨#[113]⟩ by rw [← bz_app, hlt]; rfl)
  have hll : l.length ≤ 5 := by
    rw [← hl]
    have x1 := sqM_len f
    have x2 := sqM_len t
    have x3 := leF_len (mkZ 1 0)
    simp only [List.length_append]; omega
  have HLn := Lib.hid (show l.length ≤ 10000 by omega)
  have HLm := Lib.hid (show (l ++ [113]).length ≤ 10000 by simp only [List.length_append, List.length_cons, List.length_nil]; omega)
  have hne : f ≠ t := by simpa using he
  have htx : mvT (clrP p 64) ⟨f, t, 0, 0, false⟩ = l := by rw [← hl]; exact plain_text hsm htn hq hr hne (by decide) (by decide)
  have hln : l ≠ [] := by rw [← hl]; obtain ⟨x, y, e, _⟩ := sqM_two hq; rw [e]; simp
  have htq : 0 ≤ clrP p 64 78 := by rw [clrP_out p (.inr (by omega))]; exact hp.turn.1
  have hp1 : mvP (clrP p 64) l = some ⟨f, t, 0, 0, false⟩ := mv_back htq (Int.le_refl 0) htx hln
  have hp2 : mvP (clrP p 64) (l ++ [113]) = some ⟨f, t, 5, 0, false⟩ := mv_back htq (show (0 : Int) ≤ 5 by decide) (by
    rw [plain_text hsm htn hq hr hne (by decide) (by decide), ← hl, show leF (mkZ 1 5) = [113] by decide +kernel, show leF (mkZ 1 0) = [] by decide +kernel, List.append_nil]) (by simp)
  have hsc : smB (clrP p 64) = true := by rw [clr_sm]; exact hsm
  have hca : mvT (clrP p 64) ⟨f, t, 0, 0, true⟩ = [] := by
    unfold mvT; rw [hsc]; exact clr_cs htn _
  obtain ⟨u, hu⟩ : ∃ u, bz (mvT (clrP p 64) ⟨f, t, 0, 0, false⟩) = u := ⟨_, rfl⟩
  have hue : (u.toList == (a ++ b).toList) = true := by rw [← hu, htx, hlt]; exact beq_self_eq_true _
  obtain ⟨v, hv⟩ : ∃ v, bz (mvT (clrP p 64) ⟨f, t, 0, 0, true⟩) = v := ⟨_, rfl⟩
  have hve : v.toList.isEmpty = true := by rw [← hv, bz_toList, hca]; rfl
  obtain ⟨q, hqd⟩ : ∃ q, clrP p 64 = q := ⟨_, rfl⟩
  have HQ := Lib.hid hqd
  rw [hqd] at hp1 hp2 hu hv hsc HFq
  have HU := Lib.hid hu
  have HVv := Lib.hid hv
  have HP1 := Lib.hid (show pmO (mvP q l) = ⟨f, t, 0, 0, false⟩ by rw [hp1]; rfl)
  have HE1 := Lib.hid (show enO q (mvP q l) = 0 by rw [hp1]; rfl)
  have HP2 := Lib.hid (show pmO (mvP q (l ++ [113])) = ⟨f, t, 5, 0, false⟩ by rw [hp2]; rfl)
  have HE2 := Lib.hid (show enO q (mvP q (l ++ [113])) = 0 by rw [hp2]; rfl)
  have HFa := Lib.hid (show FitV ⟨f, t, 0, 0, false⟩ from ⟨hf, ht, (by show (0 : Int) ≤ 0 ∧ 0 ≤ 255; omega), (by show (0 : Int) ≤ 0 ∧ (0 : Int) ≤ 255; decide)⟩)
  have HFb := Lib.hid (show FitV ⟨f, t, 0, 0, true⟩ from ⟨hf, ht, (by show (0 : Int) ≤ 0 ∧ 0 ≤ 255; omega), (by show (0 : Int) ≤ 0 ∧ (0 : Int) ≤ 255; decide)⟩)
  have HOnce := Lib.hid trivial
  have HOnceP := Lib.hid trivial
  have HOnceA := Lib.hid trivial
  clear hG hM hV hK hp hf ht hsm htn hq hr ha hb sza szb hz zs hl hlt hll hp1 hp2 hsc hca hu hv hqd hne htx hln htq
  go_enter Tryd.func7, Tryd.ntmps7
  go_wp2_with (first
      | (refine step_box rfl _ rfl p rfl ?_; intro b0 w1 N R; have HG0 := Lib.hid (show w.heap.size ≤ b0 from Nat.le_of_eq N.at_.symm); have HB := Lib.hid (HB.out.trans (N.below.mono HB.out.size)); have HR := Lib.hid R; clear N R)
      | (go_at_call 13; refine (mawake_any _ (HG.out.on HB.out) (HMx.out.on HB.out) (HV.out.on HB.out) (HK.out.on HB.out)).mono ?_; rintro e w3 ⟨rfl, hb⟩; have HR := Lib.hid (HR.out.later hb); have HB := Lib.hid (below_on HB.out hb); clear hb)
      | (refine step_get rfl 5 _ rfl b0 0 rfl Tryd.underlying5 rfl (.int .u8 (p 0)) ?_ ?_; exact HR.out.cell 0 (by decide))
      | (refine step_get rfl 5 _ rfl b0 78 rfl Tryd.underlying5 rfl (.int .u8 (p 78)) ?_ ?_; exact HR.out.cell 78 (by decide)))
  go_loopw [9] (fun v wr => ∃ j : Nat, j ≤ 64 ∧ v = .int .i64 (j : Int) ∧ Row wr b0 (clrP p j) ∧ Below w.heap.size w wr) (fun v _ => 64 - (intOf v).toNat)
  case atStart => exact ⟨0, by omega, rfl, by rw [clrP_0]; exact HR.out, HB.out⟩
  case round =>
    obtain ⟨j, hj, rfl, hr, hbw⟩ := hrel
    have HR := Lib.hid hr
    have HB := Lib.hid hbw
    have HJ := Lib.hid hj
    clear hr hbw
    by_cases e64 : j = 64
    · have gj : decide ((j : Int) < 64) = false := decide_eq_false (by omega)
      have gj2 : decide (j < 64) = false := decide_eq_false (by omega)
      have HR := Lib.hid (show Row wr b0 q by have := HR.out; rw [e64, HQ.out] at this; exact this)
      clear e64 hj
      go_wp2_with (first
        | (go_at_call 14; clear HOnce; refine (text_any f _).mono ?_; rintro e w3 ⟨rfl, hb⟩; rw [HA.out]; have HR := Lib.hid (HR.out.later hb); have HB := Lib.hid (below_on HB.out hb); clear hb)
        | (go_at_call 14; refine (text_any t _).mono ?_; rintro e w3 ⟨rfl, hb⟩; rw [HBt.out]; have HR := Lib.hid (HR.out.later hb); have HB := Lib.hid (below_on HB.out hb); clear hb)
        | (clear HOnceA; refine blk_alloc rfl 33 rfl (mvA mv0) zeroMv ?_; intro b11 w6 N R; have HGb11 := Lib.hid (show w.heap.size ≤ b11 by rw [N.at_]; exact HB.out.size); have HDHRb11 := Lib.hid (show b0 ≠ b11 by rw [N.at_]; exact Nat.ne_of_lt HR.out.lt); have HR := Lib.hid (HR.out.later N.below); have HB := Lib.hid (HB.out.trans (N.below.mono HB.out.size)); have HM := Lib.hid R; clear N R)
        | (refine blk_store rfl 33 _ _ rfl b11 rfl (mvA mv0) (mvA ⟨f, t, 0, 0, false⟩) rfl ?_ rfl (mv_one _) sizeMv ?_; exact HM.out; intro w7 U R; have HR := Lib.hid (HR.out.apart U HDHRb11.out); have HB := Lib.hid (HB.out.trans (U.below HGb11.out)); have HM := Lib.hid R; clear U R)
        | (refine step_load rfl _ rfl b0 rfl q ?_ ?_; exact HR.out)
        | (go_at_call 11; clear HOnceP; rw [← HLt.out]; refine (mvParse_any q l _ HLn.out HFq.out (HG.out.on HB.out) (HMx.out.on HB.out)).mono ?_; rintro e w5 ⟨rfl, hb⟩; rw [HP1.out, HE1.out, HLt.out]; have HR := Lib.hid (HR.out.later hb); have HM := Lib.hid (HM.out.later hb); have HB := Lib.hid (below_on HB.out hb); clear hb)
        | (refine blk_alloc rfl 33 rfl (mvA mv0) zeroMv ?_; intro b12 w6 N R; have HGb12 := Lib.hid (show w.heap.size ≤ b12 by rw [N.at_]; exact HB.out.size); have HDHRb12 := Lib.hid (show b0 ≠ b12 by rw [N.at_]; exact Nat.ne_of_lt HR.out.lt); have HR := Lib.hid (HR.out.later N.below); have HDHMb12 := Lib.hid (show b11 ≠ b12 by rw [N.at_]; exact Nat.ne_of_lt HM.out.lt); have HM := Lib.hid (HM.out.later N.below); have HB := Lib.hid (HB.out.trans (N.below.mono HB.out.size)); have HW := Lib.hid R; clear N R)
        | (refine blk_store rfl 33 _ _ rfl b12 rfl (mvA mv0) (mvA ⟨f, t, 0, 0, false⟩) rfl ?_ rfl (mv_one _) sizeMv ?_; exact HW.out; intro w7 U R; have HR := Lib.hid (HR.out.apart U HDHRb12.out); have HM := Lib.hid (HM.out.apart U HDHMb12.out); have HB := Lib.hid (HB.out.trans (U.below HGb12.out)); have HW := Lib.hid R; clear U R))
      rw [← HLq.out]
      refine (mvParse_any q (l ++ [113]) _ HLm.out HFq.out (HG.out.on HB.out) (HMx.out.on HB.out)).mono ?_; rintro e w5 ⟨rfl, hb⟩; rw [HP2.out, HE2.out, HLq.out]; have HR := Lib.hid (HR.out.later hb); have HM := Lib.hid (HM.out.later hb); have HW := Lib.hid (HW.out.later hb); have HB := Lib.hid (below_on HB.out hb); clear hb
      go_wp2_with (first
        | (refine blk_alloc rfl 33 rfl (mvA mv0) zeroMv ?_; intro b14 w6 N R; have HGb14 := Lib.hid (show w.heap.size ≤ b14 by rw [N.at_]; exact HB.out.size); have HDHRb14 := Lib.hid (show b0 ≠ b14 by rw [N.at_]; exact Nat.ne_of_lt HR.out.lt); have HR := Lib.hid (HR.out.later N.below); have HDHMb14 := Lib.hid (show b11 ≠ b14 by rw [N.at_]; exact Nat.ne_of_lt HM.out.lt); have HM := Lib.hid (HM.out.later N.below); have HDHWb14 := Lib.hid (show b12 ≠ b14 by rw [N.at_]; exact Nat.ne_of_lt HW.out.lt); have HW := Lib.hid (HW.out.later N.below); have HB := Lib.hid (HB.out.trans (N.below.mono HB.out.size)); have HC := Lib.hid R; clear N R)
        | (refine blk_store rfl 33 _ _ rfl b14 rfl (mvA mv0) (mvA ⟨f, t, 5, 0, false⟩) rfl ?_ rfl (mv_one _) sizeMv ?_; exact HC.out; intro w7 U R; have HEW := Lib.hid (show b12 ≠ b11 from Ne.symm HDHMb12.out); have HEC := Lib.hid (show b14 ≠ b11 from Ne.symm HDHMb14.out); have HR := Lib.hid (HR.out.apart U HDHRb14.out); have HM := Lib.hid (HM.out.apart U HDHMb14.out); have HW := Lib.hid (HW.out.apart U HDHWb14.out); have HB := Lib.hid (HB.out.trans (U.below HGb14.out)); have HC := Lib.hid R; clear U R)
        | (refine blk_yes rfl 4 _ _ rfl b11 4 rfl true rfl 33 (mvA ⟨f, t, 0, 0, false⟩) ?_ (by show 4 < 5; decide) (by kernel_rfl) ?_; exact HM.out; intro w7 U R; have R := (show Blk w7 b11 33 (mvA ⟨f, t, 0, 0, true⟩) from R); have HR := Lib.hid (HR.out.apart U HDHRb11.out); have HW := Lib.hid (HW.out.apart U HEW.out); have HC := Lib.hid (HC.out.apart U HEC.out); have HB := Lib.hid (HB.out.trans (U.below HGb11.out)); have HM := Lib.hid R; clear U R)
        | (refine step_load rfl _ rfl b0 rfl q ?_ ?_; exact HR.out)
        | (refine blk_load rfl 33 _ rfl b11 rfl (mvA ⟨f, t, 0, 0, true⟩) ?_ _ Tryd.underlying33 rfl sizeMv ?_; exact HM.out))
      refine (mvText_any q ⟨f, t, 0, 0, true⟩ _ HFq.out HFb.out (HG.out.on HB.out)).mono ?_; rintro e w4 ⟨rfl, hb⟩; rw [HVv.out]; have HR := Lib.hid (HR.out.later hb); have HM := Lib.hid (HM.out.later hb); have HW := Lib.hid (HW.out.later hb); have HC := Lib.hid (HC.out.later hb); have HB := Lib.hid (below_on HB.out hb); clear hb
      go_wp2_with (first
        | (refine blk_yes rfl 4 _ _ rfl b11 4 rfl false rfl 33 (mvA ⟨f, t, 0, 0, true⟩) ?_ (by show 4 < 5; decide) (by kernel_rfl) ?_; exact HM.out; intro w7 U R; have R := (show Blk w7 b11 33 (mvA ⟨f, t, 0, 0, false⟩) from R); have HR := Lib.hid (HR.out.apart U HDHRb11.out); have HW := Lib.hid (HW.out.apart U HEW.out); have HC := Lib.hid (HC.out.apart U HEC.out); have HB := Lib.hid (HB.out.trans (U.below HGb11.out)); have HM := Lib.hid R; clear U R)
        | (refine step_load rfl _ rfl b0 rfl q ?_ ?_; exact HR.out)
        | (refine blk_load rfl 33 _ rfl b11 rfl (mvA ⟨f, t, 0, 0, false⟩) ?_ _ Tryd.underlying33 rfl sizeMv ?_; exact HM.out)
        | (refine blk_load rfl 33 _ rfl b12 rfl (mvA ⟨f, t, 0, 0, false⟩) ?_ _ Tryd.underlying33 rfl sizeMv ?_; exact HW.out)
        | (refine step_mv rfl _ _ rfl ⟨f, t, 0, 0, false⟩ ⟨f, t, 0, 0, false⟩ rfl rfl HFa.out HFa.out true (mvE_true.2 rfl) ?_)
        | (go_at_call 9; refine (mvText_any q ⟨f, t, 0, 0, false⟩ _ HFq.out HFa.out (HG.out.on HB.out)).mono ?_; rintro e w4 ⟨rfl, hb⟩; rw [HU.out]; have HR := Lib.hid (HR.out.later hb); have HM := Lib.hid (HM.out.later hb); have HW := Lib.hid (HW.out.later hb); have HC := Lib.hid (HC.out.later hb); have HB := Lib.hid (below_on HB.out hb); clear hb)
        | (refine step_get rfl 5 _ rfl b11 2 rfl Tryd.underlying5 rfl (.int .u8 0) ?_ ?_; exact HM.out.cell 2)
        | (refine step_get rfl 4 _ rfl b14 4 rfl Tryd.underlying4 rfl (.bool false) ?_ ?_; exact HC.out.cell 4))
      exact bodyPost_ret (results_tmp rfl _ _ _) rfl ⟨by simp, HB.out⟩
    · have gj : decide ((j : Int) < 64) = true := decide_eq_true (by omega)
      have gj2 : decide (j < 64) = true := decide_eq_true (by omega)
      have j0 : (0 : Int) ≤ (j : Int) := by omega
      have j1 : (j : Int) < 64 := by omega
      have hj1 : j < 64 := by omega
      have HJ1 := Lib.hid hj1
      obtain ⟨x, hx⟩ : ∃ x, p (1 + j) = x := ⟨_, rfl⟩
      have HC := Lib.hid (show wr.cell? ⟨b0, 1 + j, none⟩ = some (.int .u8 x) by
        rw [HR.out.cell (1 + j) (by omega), kAt_board (Nat.zero_le _) hj1, clrP_at p (Nat.le_refl j), hx])
      have HX := Lib.hid hx
      clear e64 hj hx hj1
      cases x6 : (x == 6)
      · have HX6 := Lib.hid x6
        cases x14 : (x == 14)
        · have HX14 := Lib.hid x14
          go_wp2_with (first
            | (refine step_get rfl 5 _ rfl b0 (1 + j) rfl Tryd.underlying5 rfl (.int .u8 x) ?_ ?_; exact HC.out))
          go_roundw
          case rel => exact ⟨j + 1, by have := HJ1.out; omega, by go_num, by rw [← clrP_no (p := p) (k := j) (by rw [HX.out, HX6.out, HX14.out]; rfl)]; exact HR.out, HB.out⟩
          case measure => have := HJ1.out; simp [intOf]; omega
        · have HX14 := Lib.hid x14
          go_wp2_with (first
            | (refine step_get rfl 5 _ rfl b0 (1 + j) rfl Tryd.underlying5 rfl (.int .u8 x) ?_ ?_; exact HC.out)
            | (refine step_cell rfl 5 _ _ rfl b0 (1 + j) rfl .u8 0 rfl (clrP p j) ?_ (by have := HJ1.out; omega) (kAt_board (Nat.zero_le _) HJ1.out) (by kernel_rfl) ?_; exact HR.out; intro w7 U R; have HR := Lib.hid R; have HB := Lib.hid (HB.out.trans (U.below HG0.out)); clear U R))
          go_roundw
          case rel => exact ⟨j + 1, by have := HJ1.out; omega, by go_num, by rw [← clrP_yes (p := p) (k := j) (by rw [HX.out, HX6.out, HX14.out]; rfl)]; exact HR.out, HB.out⟩
          case measure => have := HJ1.out; simp [intOf]; omega
      · have HX6 := Lib.hid x6
        go_wp2_with (first
          | (refine step_get rfl 5 _ rfl b0 (1 + j) rfl Tryd.underlying5 rfl (.int .u8 x) ?_ ?_; exact HC.out)
          | (refine step_cell rfl 5 _ _ rfl b0 (1 + j) rfl .u8 0 rfl (clrP p j) ?_ (by have := HJ1.out; omega) (kAt_board (Nat.zero_le _) HJ1.out) (by kernel_rfl) ?_; exact HR.out; intro w7 U R; have HR := Lib.hid R; have HB := Lib.hid (HB.out.trans (U.below HG0.out)); clear U R))
        go_roundw
        case rel => exact ⟨j + 1, by have := HJ1.out; omega, by go_num, by rw [← clrP_yes (p := p) (k := j) (by rw [HX.out, HX6.out]; rfl)]; exact HR.out, HB.out⟩
        case measure => have := HJ1.out; simp [intOf]; omega
set_option maxRecDepth 100000 in
set_option maxHeartbeats 1000000 in
theorem pl_ne_in (p : Nat → Int) (f t k : Int) (w : World) (hp : FitM p) (hf : -128 ≤ f ∧ f ≤ 127) (ht : -128 ≤ t ∧ t ≤ 127) (hk : 0 ≤ k ∧ k ≤ 255) (h1 : decide (f < 0) = false) (h2 : decide (63 < f) = false) (h3 : decide (t < 0) = false) (h4 : decide (63 < t) = false) (h5 : decide (9 ≤ p 0) = false) (h6 : decide (1 < p 78) = false) (he : (f == t) = false) (hk2 : decide (2 ≤ k) = true) (hk6 : decide (k ≤ 6) = true) (hG : TabGo w) (hM : TabMv w) (hV : TabVar w) (hK : TabKn w) : Calls Tryd.prog 7 #[.agg (posA p), .int .i8 f, .int .i8 t, .int .u8 k] w (BoL true w) := by
  have HG := Lib.hid hG
  have HMx := Lib.hid hM
  have HV := Lib.hid hV
  have HK := Lib.hid hK
  have HB := Lib.hid (Below.refl w.heap.size w)
  have HFp := Lib.hid hp
  have hsm : smB p = true := by
    unfold smB
    rw [Bool.and_eq_true, decide_eq_true_eq, decide_eq_true_eq]
    have a := of_decide_eq_false h5
    have c := of_decide_eq_false h6
    omega
  have htn := smB_turn hsm hp.turn.1
  have hq : sqB f = true := by
    rw [sqB_true]
    have a := of_decide_eq_false h1
    have c := of_decide_eq_false h2
    omega
  have hr : sqB t = true := by
    rw [sqB_true]
    have a := of_decide_eq_false h3
    have c := of_decide_eq_false h4
    omega
  have wf : IntKind.i64.wrap f = f := IntWalk.i64_in f (by omega)
  have wt : IntKind.i64.wrap t = t := IntWalk.i64_in t (by omega)
  obtain ⟨a, ha⟩ : ∃ a, textZ f = a := ⟨_, rfl⟩
  have HA := Lib.hid ha
  obtain ⟨b, hb⟩ : ∃ b, textZ t = b := ⟨_, rfl⟩
  have HBt := Lib.hid hb
  have sza : a.size = 2 := by rw [← ha, sqM_bz, bz_size]; exact sqM_len2 hq
  have szb : b.size = 2 := by rw [← hb, sqM_bz, bz_size]; exact sqM_len2 hr
  have kab : ¬ (9223372036854775807 < a.size + b.size) := by omega
  have HP0 := Lib.hid hp
  have HFq := Lib.hid (clr_fit hp)
  have c2 : 2 ≤ k := of_decide_eq_true hk2
  have c6 : k ≤ 6 := of_decide_eq_true hk6
  obtain ⟨n, rfl⟩ := Int.eq_ofNat_of_zero_le hk.1
  obtain ⟨z, hz⟩ : ∃ z, bz (leF (mkZ 1 (n : Int))) = z := ⟨_, rfl⟩
  have rc : ∀ w, (Instr.slice 9 (.string ⟨#[63, 63, 110, 98, 114, 113, 107]⟩) (some (.int .u8 (n : Int))) (some (.int .u8 ((n : Int) + 1))) none).run Tryd.prog w = .ok (.string z) w := fun w => by rw [← hz]; exact cut_prom n w (by omega) (by omega)
  have zs : z.size = 1 := by rw [← hz, bz_size]; exact le_len c2 c6
  have kz : ¬ (9223372036854775807 < a.size + b.size + z.size) := by omega
  have gn : ((n : Int) == 0) = false := by rw [beq_eq_false_iff_ne]; omega
  have kq : ¬ (9223372036854775807 < a.size + b.size + z.size + 1) := by omega
  obtain ⟨l, hl⟩ : ∃ l, sqM f ++ sqM t ++ leF (mkZ 1 (n : Int)) = l := ⟨_, rfl⟩
  have hlt : bz l = (a ++ b ++ z) := by
    rw [← hl, ← bz_app, ← bz_app, hz, ← sqM_bz, ← sqM_bz, ha, hb]
  have HLt := Lib.hid hlt
  have HLq := Lib.hid (show bz (l ++ [113]) = (a ++ b ++ z) ++ ⟨#[113]⟩ by rw [← bz_app, hlt]; rfl)
  have hll : l.length ≤ 5 := by
    rw [← hl]
    have x1 := sqM_len f
    have x2 := sqM_len t
    have x3 := leF_len (mkZ 1 (n : Int))
    simp only [List.length_append]; omega
  have HLn := Lib.hid (show l.length ≤ 10000 by omega)
  have HLm := Lib.hid (show (l ++ [113]).length ≤ 10000 by simp only [List.length_append, List.length_cons, List.length_nil]; omega)
  have hne : f ≠ t := by simpa using he
  have htx : mvT (clrP p 64) ⟨f, t, (n : Int), 0, false⟩ = l := by rw [← hl]; exact plain_text hsm htn hq hr hne (by omega) c6
  have hln : l ≠ [] := by rw [← hl]; obtain ⟨x, y, e, _⟩ := sqM_two hq; rw [e]; simp
  have htq : 0 ≤ clrP p 64 78 := by rw [clrP_out p (.inr (by omega))]; exact hp.turn.1
  have hp1 : mvP (clrP p 64) l = some ⟨f, t, (n : Int), 0, false⟩ := mv_back htq (show (0 : Int) ≤ (n : Int) by omega) htx hln
  have hp2 : mvP (clrP p 64) (l ++ [113]) = none := plain_long (by
    rw [← hl]; simp only [List.length_append, sqM_len2 hq, sqM_len2 hr, le_len c2 c6, List.length_cons, List.length_nil]; decide)
  have hsc : smB (clrP p 64) = true := by rw [clr_sm]; exact hsm
  have hca : mvT (clrP p 64) ⟨f, t, (n : Int), 0, true⟩ = [] := by
    unfold mvT; rw [hsc]; exact clr_cs htn _
  obtain ⟨u, hu⟩ : ∃ u, bz (mvT (clrP p 64) ⟨f, t, (n : Int), 0, false⟩) = u := ⟨_, rfl⟩
  have hue : (u.toList == (a ++ b ++ z).toList) = true := by rw [← hu, htx, hlt]; exact beq_self_eq_true _
  obtain ⟨v, hv⟩ : ∃ v, bz (mvT (clrP p 64) ⟨f, t, (n : Int), 0, true⟩) = v := ⟨_, rfl⟩
  have hve : v.toList.isEmpty = true := by rw [← hv, bz_toList, hca]; rfl
  obtain ⟨q, hqd⟩ : ∃ q, clrP p 64 = q := ⟨_, rfl⟩
  have HQ := Lib.hid hqd
  rw [hqd] at hp1 hp2 hu hv hsc HFq
  have HU := Lib.hid hu
  have HVv := Lib.hid hv
  have HP1 := Lib.hid (show pmO (mvP q l) = ⟨f, t, (n : Int), 0, false⟩ by rw [hp1]; rfl)
  have HE1 := Lib.hid (show enO q (mvP q l) = 0 by rw [hp1]; rfl)
  have HP2 := Lib.hid (show pmO (mvP q (l ++ [113])) = mv0 by rw [hp2]; rfl)
  have HE2 := Lib.hid (show enO q (mvP q (l ++ [113])) = 5 by rw [hp2]; show (bif smB q then (5 : Int) else 2) = 5; rw [hsc]; rfl)
  have HFa := Lib.hid (show FitV ⟨f, t, (n : Int), 0, false⟩ from ⟨hf, ht, (by show (0 : Int) ≤ (n : Int) ∧ (n : Int) ≤ 255; omega), (by show (0 : Int) ≤ 0 ∧ (0 : Int) ≤ 255; decide)⟩)
  have HFb := Lib.hid (show FitV ⟨f, t, (n : Int), 0, true⟩ from ⟨hf, ht, (by show (0 : Int) ≤ (n : Int) ∧ (n : Int) ≤ 255; omega), (by show (0 : Int) ≤ 0 ∧ (0 : Int) ≤ 255; decide)⟩)
  have HOnce := Lib.hid trivial
  have HOnceP := Lib.hid trivial
  have HOnceA := Lib.hid trivial
  clear hG hM hV hK hp hf ht hsm htn hq hr ha hb sza szb hz zs hl hlt hll hp1 hp2 hsc hca hu hv hqd hne htx hln htq
  go_enter Tryd.func7, Tryd.ntmps7
  go_wp2_with (first
      | (refine step_box rfl _ rfl p rfl ?_; intro b0 w1 N R; have HG0 := Lib.hid (show w.heap.size ≤ b0 from Nat.le_of_eq N.at_.symm); have HB := Lib.hid (HB.out.trans (N.below.mono HB.out.size)); have HR := Lib.hid R; clear N R)
      | (go_at_call 13; refine (mawake_any _ (HG.out.on HB.out) (HMx.out.on HB.out) (HV.out.on HB.out) (HK.out.on HB.out)).mono ?_; rintro e w3 ⟨rfl, hb⟩; have HR := Lib.hid (HR.out.later hb); have HB := Lib.hid (below_on HB.out hb); clear hb)
      | (refine step_get rfl 5 _ rfl b0 0 rfl Tryd.underlying5 rfl (.int .u8 (p 0)) ?_ ?_; exact HR.out.cell 0 (by decide))
      | (refine step_get rfl 5 _ rfl b0 78 rfl Tryd.underlying5 rfl (.int .u8 (p 78)) ?_ ?_; exact HR.out.cell 78 (by decide)))
  go_loopw [9] (fun v wr => ∃ j : Nat, j ≤ 64 ∧ v = .int .i64 (j : Int) ∧ Row wr b0 (clrP p j) ∧ Below w.heap.size w wr) (fun v _ => 64 - (intOf v).toNat)
  case atStart => exact ⟨0, by omega, rfl, by rw [clrP_0]; exact HR.out, HB.out⟩
  case round =>
    obtain ⟨j, hj, rfl, hr, hbw⟩ := hrel
    have HR := Lib.hid hr
    have HB := Lib.hid hbw
    have HJ := Lib.hid hj
    clear hr hbw
    by_cases e64 : j = 64
    · have gj : decide ((j : Int) < 64) = false := decide_eq_false (by omega)
      have gj2 : decide (j < 64) = false := decide_eq_false (by omega)
      have HR := Lib.hid (show Row wr b0 q by have := HR.out; rw [e64, HQ.out] at this; exact this)
      clear e64 hj
      go_wp2_with (first
        | (go_at_call 14; clear HOnce; refine (text_any f _).mono ?_; rintro e w3 ⟨rfl, hb⟩; rw [HA.out]; have HR := Lib.hid (HR.out.later hb); have HB := Lib.hid (below_on HB.out hb); clear hb)
        | (go_at_call 14; refine (text_any t _).mono ?_; rintro e w3 ⟨rfl, hb⟩; rw [HBt.out]; have HR := Lib.hid (HR.out.later hb); have HB := Lib.hid (below_on HB.out hb); clear hb)
        | (clear HOnceA; refine blk_alloc rfl 33 rfl (mvA mv0) zeroMv ?_; intro b11 w6 N R; have HGb11 := Lib.hid (show w.heap.size ≤ b11 by rw [N.at_]; exact HB.out.size); have HDHRb11 := Lib.hid (show b0 ≠ b11 by rw [N.at_]; exact Nat.ne_of_lt HR.out.lt); have HR := Lib.hid (HR.out.later N.below); have HB := Lib.hid (HB.out.trans (N.below.mono HB.out.size)); have HM := Lib.hid R; clear N R)
        | (refine blk_store rfl 33 _ _ rfl b11 rfl (mvA mv0) (mvA ⟨f, t, 0, 0, false⟩) rfl ?_ rfl (mv_one _) sizeMv ?_; exact HM.out; intro w7 U R; have HR := Lib.hid (HR.out.apart U HDHRb11.out); have HB := Lib.hid (HB.out.trans (U.below HGb11.out)); have HM := Lib.hid R; clear U R)
        | (refine blk_cell rfl 5 _ _ rfl b11 2 rfl .u8 (n : Int) rfl 33 (mvA ⟨f, t, 0, 0, false⟩) ?_ (by show 2 < 5; decide) (by kernel_rfl) ?_; exact HM.out; intro w7 U R; have R := (show Blk w7 b11 33 (mvA ⟨f, t, (n : Int), 0, false⟩) from R); have HR := Lib.hid (HR.out.apart U HDHRb11.out); have HB := Lib.hid (HB.out.trans (U.below HGb11.out)); have HM := Lib.hid R; clear U R)
        | (refine step_load rfl _ rfl b0 rfl q ?_ ?_; exact HR.out)
        | (go_at_call 11; clear HOnceP; rw [← HLt.out]; refine (mvParse_any q l _ HLn.out HFq.out (HG.out.on HB.out) (HMx.out.on HB.out)).mono ?_; rintro e w5 ⟨rfl, hb⟩; rw [HP1.out, HE1.out, HLt.out]; have HR := Lib.hid (HR.out.later hb); have HM := Lib.hid (HM.out.later hb); have HB := Lib.hid (below_on HB.out hb); clear hb)
        | (refine blk_alloc rfl 33 rfl (mvA mv0) zeroMv ?_; intro b12 w6 N R; have HGb12 := Lib.hid (show w.heap.size ≤ b12 by rw [N.at_]; exact HB.out.size); have HDHRb12 := Lib.hid (show b0 ≠ b12 by rw [N.at_]; exact Nat.ne_of_lt HR.out.lt); have HR := Lib.hid (HR.out.later N.below); have HDHMb12 := Lib.hid (show b11 ≠ b12 by rw [N.at_]; exact Nat.ne_of_lt HM.out.lt); have HM := Lib.hid (HM.out.later N.below); have HB := Lib.hid (HB.out.trans (N.below.mono HB.out.size)); have HW := Lib.hid R; clear N R)
        | (refine blk_store rfl 33 _ _ rfl b12 rfl (mvA mv0) (mvA ⟨f, t, (n : Int), 0, false⟩) rfl ?_ rfl (mv_one _) sizeMv ?_; exact HW.out; intro w7 U R; have HR := Lib.hid (HR.out.apart U HDHRb12.out); have HM := Lib.hid (HM.out.apart U HDHMb12.out); have HB := Lib.hid (HB.out.trans (U.below HGb12.out)); have HW := Lib.hid R; clear U R))
      rw [← HLq.out]
      refine (mvParse_any q (l ++ [113]) _ HLm.out HFq.out (HG.out.on HB.out) (HMx.out.on HB.out)).mono ?_; rintro e w5 ⟨rfl, hb⟩; rw [HP2.out, HE2.out, HLq.out]; have HR := Lib.hid (HR.out.later hb); have HM := Lib.hid (HM.out.later hb); have HW := Lib.hid (HW.out.later hb); have HB := Lib.hid (below_on HB.out hb); clear hb
      go_wp2_with (first
        | (refine blk_alloc rfl 33 rfl (mvA mv0) zeroMv ?_; intro b14 w6 N R; have HGb14 := Lib.hid (show w.heap.size ≤ b14 by rw [N.at_]; exact HB.out.size); have HDHRb14 := Lib.hid (show b0 ≠ b14 by rw [N.at_]; exact Nat.ne_of_lt HR.out.lt); have HR := Lib.hid (HR.out.later N.below); have HDHMb14 := Lib.hid (show b11 ≠ b14 by rw [N.at_]; exact Nat.ne_of_lt HM.out.lt); have HM := Lib.hid (HM.out.later N.below); have HDHWb14 := Lib.hid (show b12 ≠ b14 by rw [N.at_]; exact Nat.ne_of_lt HW.out.lt); have HW := Lib.hid (HW.out.later N.below); have HB := Lib.hid (HB.out.trans (N.below.mono HB.out.size)); have HC := Lib.hid R; clear N R)
        | (refine blk_store rfl 33 _ _ rfl b14 rfl (mvA mv0) (mvA mv0) rfl ?_ rfl (mv_one _) sizeMv ?_; exact HC.out; intro w7 U R; have HEW := Lib.hid (show b12 ≠ b11 from Ne.symm HDHMb12.out); have HEC := Lib.hid (show b14 ≠ b11 from Ne.symm HDHMb14.out); have HR := Lib.hid (HR.out.apart U HDHRb14.out); have HM := Lib.hid (HM.out.apart U HDHMb14.out); have HW := Lib.hid (HW.out.apart U HDHWb14.out); have HB := Lib.hid (HB.out.trans (U.below HGb14.out)); have HC := Lib.hid R; clear U R)
        | (refine blk_yes rfl 4 _ _ rfl b11 4 rfl true rfl 33 (mvA ⟨f, t, (n : Int), 0, false⟩) ?_ (by show 4 < 5; decide) (by kernel_rfl) ?_; exact HM.out; intro w7 U R; have R := (show Blk w7 b11 33 (mvA ⟨f, t, (n : Int), 0, true⟩) from R); have HR := Lib.hid (HR.out.apart U HDHRb11.out); have HW := Lib.hid (HW.out.apart U HEW.out); have HC := Lib.hid (HC.out.apart U HEC.out); have HB := Lib.hid (HB.out.trans (U.below HGb11.out)); have HM := Lib.hid R; clear U R)
        | (refine step_load rfl _ rfl b0 rfl q ?_ ?_; exact HR.out)
        | (refine blk_load rfl 33 _ rfl b11 rfl (mvA ⟨f, t, (n : Int), 0, true⟩) ?_ _ Tryd.underlying33 rfl sizeMv ?_; exact HM.out))
      refine (mvText_any q ⟨f, t, (n : Int), 0, true⟩ _ HFq.out HFb.out (HG.out.on HB.out)).mono ?_; rintro e w4 ⟨rfl, hb⟩; rw [HVv.out]; have HR := Lib.hid (HR.out.later hb); have HM := Lib.hid (HM.out.later hb); have HW := Lib.hid (HW.out.later hb); have HC := Lib.hid (HC.out.later hb); have HB := Lib.hid (below_on HB.out hb); clear hb
      go_wp2_with (first
        | (refine blk_yes rfl 4 _ _ rfl b11 4 rfl false rfl 33 (mvA ⟨f, t, (n : Int), 0, true⟩) ?_ (by show 4 < 5; decide) (by kernel_rfl) ?_; exact HM.out; intro w7 U R; have R := (show Blk w7 b11 33 (mvA ⟨f, t, (n : Int), 0, false⟩) from R); have HR := Lib.hid (HR.out.apart U HDHRb11.out); have HW := Lib.hid (HW.out.apart U HEW.out); have HC := Lib.hid (HC.out.apart U HEC.out); have HB := Lib.hid (HB.out.trans (U.below HGb11.out)); have HM := Lib.hid R; clear U R)
        | (refine step_load rfl _ rfl b0 rfl q ?_ ?_; exact HR.out)
        | (refine blk_load rfl 33 _ rfl b11 rfl (mvA ⟨f, t, (n : Int), 0, false⟩) ?_ _ Tryd.underlying33 rfl sizeMv ?_; exact HM.out)
        | (refine blk_load rfl 33 _ rfl b12 rfl (mvA ⟨f, t, (n : Int), 0, false⟩) ?_ _ Tryd.underlying33 rfl sizeMv ?_; exact HW.out)
        | (refine step_mv rfl _ _ rfl ⟨f, t, (n : Int), 0, false⟩ ⟨f, t, (n : Int), 0, false⟩ rfl rfl HFa.out HFa.out true (mvE_true.2 rfl) ?_)
        | (go_at_call 9; refine (mvText_any q ⟨f, t, (n : Int), 0, false⟩ _ HFq.out HFa.out (HG.out.on HB.out)).mono ?_; rintro e w4 ⟨rfl, hb⟩; rw [HU.out]; have HR := Lib.hid (HR.out.later hb); have HM := Lib.hid (HM.out.later hb); have HW := Lib.hid (HW.out.later hb); have HC := Lib.hid (HC.out.later hb); have HB := Lib.hid (below_on HB.out hb); clear hb)
        | (refine step_get rfl 5 _ rfl b11 2 rfl Tryd.underlying5 rfl (.int .u8 (n : Int)) ?_ ?_; exact HM.out.cell 2)
        | (refine step_get rfl 4 _ rfl b14 4 rfl Tryd.underlying4 rfl (.bool false) ?_ ?_; exact HC.out.cell 4))
      exact bodyPost_ret (results_tmp rfl _ _ _) rfl ⟨by simp, HB.out⟩
    · have gj : decide ((j : Int) < 64) = true := decide_eq_true (by omega)
      have gj2 : decide (j < 64) = true := decide_eq_true (by omega)
      have j0 : (0 : Int) ≤ (j : Int) := by omega
      have j1 : (j : Int) < 64 := by omega
      have hj1 : j < 64 := by omega
      have HJ1 := Lib.hid hj1
      obtain ⟨x, hx⟩ : ∃ x, p (1 + j) = x := ⟨_, rfl⟩
      have HC := Lib.hid (show wr.cell? ⟨b0, 1 + j, none⟩ = some (.int .u8 x) by
        rw [HR.out.cell (1 + j) (by omega), kAt_board (Nat.zero_le _) hj1, clrP_at p (Nat.le_refl j), hx])
      have HX := Lib.hid hx
      clear e64 hj hx hj1
      cases x6 : (x == 6)
      · have HX6 := Lib.hid x6
        cases x14 : (x == 14)
        · have HX14 := Lib.hid x14
          go_wp2_with (first
            | (refine step_get rfl 5 _ rfl b0 (1 + j) rfl Tryd.underlying5 rfl (.int .u8 x) ?_ ?_; exact HC.out))
          go_roundw
          case rel => exact ⟨j + 1, by have := HJ1.out; omega, by go_num, by rw [← clrP_no (p := p) (k := j) (by rw [HX.out, HX6.out, HX14.out]; rfl)]; exact HR.out, HB.out⟩
          case measure => have := HJ1.out; simp [intOf]; omega
        · have HX14 := Lib.hid x14
          go_wp2_with (first
            | (refine step_get rfl 5 _ rfl b0 (1 + j) rfl Tryd.underlying5 rfl (.int .u8 x) ?_ ?_; exact HC.out)
            | (refine step_cell rfl 5 _ _ rfl b0 (1 + j) rfl .u8 0 rfl (clrP p j) ?_ (by have := HJ1.out; omega) (kAt_board (Nat.zero_le _) HJ1.out) (by kernel_rfl) ?_; exact HR.out; intro w7 U R; have HR := Lib.hid R; have HB := Lib.hid (HB.out.trans (U.below HG0.out)); clear U R))
          go_roundw
          case rel => exact ⟨j + 1, by have := HJ1.out; omega, by go_num, by rw [← clrP_yes (p := p) (k := j) (by rw [HX.out, HX6.out, HX14.out]; rfl)]; exact HR.out, HB.out⟩
          case measure => have := HJ1.out; simp [intOf]; omega
      · have HX6 := Lib.hid x6
        go_wp2_with (first
          | (refine step_get rfl 5 _ rfl b0 (1 + j) rfl Tryd.underlying5 rfl (.int .u8 x) ?_ ?_; exact HC.out)
          | (refine step_cell rfl 5 _ _ rfl b0 (1 + j) rfl .u8 0 rfl (clrP p j) ?_ (by have := HJ1.out; omega) (kAt_board (Nat.zero_le _) HJ1.out) (by kernel_rfl) ?_; exact HR.out; intro w7 U R; have HR := Lib.hid R; have HB := Lib.hid (HB.out.trans (U.below HG0.out)); clear U R))
        go_roundw
        case rel => exact ⟨j + 1, by have := HJ1.out; omega, by go_num, by rw [← clrP_yes (p := p) (k := j) (by rw [HX.out, HX6.out]; rfl)]; exact HR.out, HB.out⟩
        case measure => have := HJ1.out; simp [intOf]; omega
theorem walk (p : Nat → Int) (f t k : Int) (hw : WfP p) (hf : (Lit.int .i8 f).wf = true) (ht : (Lit.int .i8 t).wf = true) (hk : (Lit.int .u8 k).wf = true) (w : World) (hV : TabVar w) (hK : TabKn w) (hG : TabGo w) (hM : TabMv w) :
    Calls Tryd.prog 7 #[.agg (posA p), .int .i8 f, .int .i8 t, .int .u8 k] w fun e w' => e = .returned (.bool true) ∧ Below w.heap.size w w' := by
  have hp := FitM.of hw
  have hf : -128 ≤ f ∧ f ≤ 127 := by simp only [Lit.wf, Bool.and_eq_true, decide_eq_true_eq] at hf; exact hf
  have ht : -128 ≤ t ∧ t ≤ 127 := by simp only [Lit.wf, Bool.and_eq_true, decide_eq_true_eq] at ht; exact ht
  have hk := u8_rng hk
  cases h1 : decide (f < 0)
  case true => exact pl_out0 p f t k w hp hf ht hk h1 hG hM hV hK
  cases h2 : decide (63 < f)
  case true => exact pl_out1 p f t k w hp hf ht hk h1 h2 hG hM hV hK
  cases h3 : decide (t < 0)
  case true => exact pl_out2 p f t k w hp hf ht hk h1 h2 h3 hG hM hV hK
  cases h4 : decide (63 < t)
  case true => exact pl_out3 p f t k w hp hf ht hk h1 h2 h3 h4 hG hM hV hK
  cases h5 : decide (9 ≤ p 0)
  case true => exact pl_out4 p f t k w hp hf ht hk h1 h2 h3 h4 h5 hG hM hV hK
  cases h6 : decide (1 < p 78)
  case true => exact pl_out5 p f t k w hp hf ht hk h1 h2 h3 h4 h5 h6 hG hM hV hK
  cases he : (f == t)
  · cases hk2 : decide (2 ≤ k)
    · exact pl_ne_lo p f t k w hp hf ht hk h1 h2 h3 h4 h5 h6 he hk2 hG hM hV hK
    · cases hk6 : decide (k ≤ 6)
      · exact pl_ne_hi p f t k w hp hf ht hk h1 h2 h3 h4 h5 h6 he hk2 hk6 hG hM hV hK
      · exact pl_ne_in p f t k w hp hf ht hk h1 h2 h3 h4 h5 h6 he hk2 hk6 hG hM hV hK
  · cases hk2 : decide (2 ≤ k)
    · exact pl_eq_lo p f t k w hp hf ht hk h1 h2 h3 h4 h5 h6 he hk2 hG hM hV hK
    · cases hk6 : decide (k ≤ 6)
      · exact pl_eq_hi p f t k w hp hf ht hk h1 h2 h3 h4 h5 h6 he hk2 hk6 hG hM hV hK
      · exact pl_eq_in p f t k w hp hf ht hk h1 h2 h3 h4 h5 h6 he hk2 hk6 hG hM hV hK
end Go.Proofs.YtgfgohlolnlcjaaDoor.movesPlain
