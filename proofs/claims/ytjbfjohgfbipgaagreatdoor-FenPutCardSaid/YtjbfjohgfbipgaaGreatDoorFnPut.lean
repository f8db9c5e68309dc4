/-
  A piece put on an empty square: what of a position's text changes (FenPut, layer 10). Plain facts.
-/
import Derived.Test.YtjbfjohgfbipgaaGreatDoorFnSame
import Derived.Test.YtjbfjohgfbipgaaGreatDoorRdBackA
namespace Go.Proofs.YtjbfjohgfbipgaaGreatDoor
open Go.RowKit
set_option linter.unusedVariables false
set_option linter.unusedSimpArgs false

theorem emL2_nil : emL2 0 = [] := rfl
theorem emL2_one {n : Nat} (h0 : 0 < n) (h1 : n < 10) : (emL2 n).length = 1 := by
  unfold emL2; rw [decide_eq_true h0]
  show (digL n).length = 1
  rw [digL_small h1]; rfl
theorem emL2_le1 {n : Nat} (h1 : n < 10) : (emL2 n).length ≤ 1 := by
  by_cases h0 : 0 < n
  · exact Nat.le_of_eq (emL2_one h0 h1)
  · obtain rfl : n = 0 := (by omega)
    exact Nat.zero_le _
/-! A piece put on an empty square: its rank. -/
theorem rkS_ahead {p : Nat → Int} {r s : Nat} {x : Int} : ∀ f, 8 * r + f ≤ s → s < 64 → rkS (upd p (1 + s) x) r f = rkS p r f
  | 0, _, _ => rfl
  | f + 1, h, hs => by
    have e : upd p (1 + s) x (1 + (8 * r + f)) = p (1 + (8 * r + f)) := upd_other _ _ _ _ (by omega)
    have ih := rkS_ahead (p := p) (r := r) (x := x) f (by omega) hs
    rw [rkS, rkS, e, ih, clL_same e (upd_other _ _ _ _ (by omega))]
theorem rkS_put {p : Nat → Int} {r f0 e : Nat} {A : List UInt8} {x : Int} (hr : r < 8) (hf : f0 < 8) (h0 : p (1 + (8 * r + f0)) = 0) (hx : x ≠ 0) (hA : rkS p r f0 = (A, e)) (hc : (clL (upd p (1 + (8 * r + f0)) x) (8 * r + f0)).length ≤ 1) (he : e ≤ f0) : ∀ n, f0 + 1 + n ≤ 8 →
    (∃ k, k ≤ n ∧ rkS p r (f0 + 1 + n) = (A, e + 1 + k) ∧ (rkS (upd p (1 + (8 * r + f0)) x) r (f0 + 1 + n)).2 = k ∧ (rkS (upd p (1 + (8 * r + f0)) x) r (f0 + 1 + n)).1.length ≤ A.length + (emL2 e).length + 1)
    ∨ ((rkS (upd p (1 + (8 * r + f0)) x) r (f0 + 1 + n)).2 = (rkS p r (f0 + 1 + n)).2 ∧ (rkS (upd p (1 + (8 * r + f0)) x) r (f0 + 1 + n)).1.length ≤ (rkS p r (f0 + 1 + n)).1.length + 2)
  | 0, _ => by
    refine Or.inl ⟨0, Nat.le_refl _, ?_, ?_, ?_⟩
    · rw [Nat.add_zero, rkS_empty (by rw [h0]; rfl), hA]
    · rw [Nat.add_zero, rkS_piece (by rw [upd_same]; exact beq_eq_false_iff_ne.2 hx)]
    · rw [Nat.add_zero, rkS_piece (by rw [upd_same]; exact beq_eq_false_iff_ne.2 hx), rkS_ahead f0 (Nat.le_refl _) (by omega), hA]
      simp; omega
  | n + 1, hn => by
    have ih := rkS_put hr hf h0 hx hA hc he n (by omega)
    have eq : upd p (1 + (8 * r + f0)) x (1 + (8 * r + (f0 + 1 + n))) = p (1 + (8 * r + (f0 + 1 + n))) := upd_other _ _ _ _ (by omega)
    have ec : clL (upd p (1 + (8 * r + f0)) x) (8 * r + (f0 + 1 + n)) = clL p (8 * r + (f0 + 1 + n)) := clL_same eq (upd_other _ _ _ _ (by omega))
    rw [show f0 + 1 + (n + 1) = (f0 + 1 + n) + 1 by omega]
    cases hp : (p (1 + (8 * r + (f0 + 1 + n))) == 0)
    · rw [rkS_piece hp, rkS_piece (by rw [eq]; exact hp), ec]
      refine Or.inr ⟨rfl, ?_⟩
      rcases ih with ⟨k, hk, h1, h2, h3⟩ | ⟨h2, h3⟩
      · rw [h1, h2]
        have a1 := emL2_one (n := e + 1 + k) (by omega) (by omega)
        have a2 := emL2_le1 (n := k) (by omega)
        have a3 := emL2_le1 (n := e) (by omega)
        simp only [List.length_append]; omega
      · rw [h2]; simp only [List.length_append]; omega
    · rw [rkS_empty hp, rkS_empty (by rw [eq]; exact hp)]
      rcases ih with ⟨k, hk, h1, h2, h3⟩ | ⟨h2, h3⟩
      · refine Or.inl ⟨k + 1, by omega, ?_, ?_, h3⟩
        · rw [h1]; rfl
        · show _ + 1 = k + 1; rw [h2]
      · exact Or.inr ⟨by show _ + 1 = _ + 1; rw [h2], h3⟩
theorem rkL_put {p : Nat → Int} {r f0 : Nat} {x : Int} (hr : r < 8) (hf : f0 < 8) (h0 : p (1 + (8 * r + f0)) = 0) (hx : x ≠ 0) (hc : (clL (upd p (1 + (8 * r + f0)) x) (8 * r + f0)).length ≤ 1) : (rkL (upd p (1 + (8 * r + f0)) x) r).length ≤ (rkL p r).length + 2 := by
  have he := (rkS_len p r f0).2
  obtain ⟨A, e, hA⟩ : ∃ A e, rkS p r f0 = (A, e) := ⟨_, _, rfl⟩
  rw [hA] at he
  have h := rkS_put hr hf h0 hx hA hc he (7 - f0) (by omega)
  have hl := (rkS_len p r 8).2
  rw [show f0 + 1 + (7 - f0) = 8 by omega] at h
  unfold rkL
  rcases h with ⟨k, hk, h1, h2, h3⟩ | ⟨h2, h3⟩
  · rw [h1] at hl ⊢
    rw [h2]
    dsimp only at he hl
    have a1 := emL2_one (n := e + 1 + k) (by omega) (by omega)
    have a2 := emL2_le1 (n := k) (by omega)
    have a3 := emL2_le1 (n := e) (by omega)
    simp only [List.length_append]; omega
  · rw [h2]; simp only [List.length_append]; omega
theorem rkL_far {p : Nat → Int} {r s : Nat} {x : Int} (hs : s < 64) (h : s / 8 ≠ r) : rkL (upd p (1 + s) x) r = rkL p r :=
  rkL_same (fun t h1 h2 => upd_other _ _ _ _ (by omega)) (upd_other _ _ _ _ (by omega))
theorem bdL_put {p : Nat → Int} {s : Nat} {x : Int} (hs : s < 64) (h0 : p (1 + s) = 0) (hx : x ≠ 0) (hc : (clL (upd p (1 + s) x) s).length ≤ 1) : ∀ j, j ≤ 8 → (bdL (upd p (1 + s) x) j).length ≤ (bdL p j).length + (if 7 - s / 8 < j then 2 else 0)
  | 0, _ => Nat.le_refl _
  | j + 1, hj => by
    have ih := bdL_put hs h0 hx hc j (by omega)
    rw [bdL, bdL]
    simp only [List.length_append]
    by_cases e : s / 8 = 7 - j
    · have es : s = 8 * (7 - j) + s % 8 := by omega
      have k := rkL_put (p := p) (r := 7 - j) (f0 := s % 8) (x := x) (by omega) (by omega) (by rw [← es]; exact h0) hx (by rw [← es]; exact hc)
      rw [← es] at k
      rw [if_neg (by omega)] at ih
      rw [if_pos (by omega)]
      omega
    · rw [rkL_far hs e]
      by_cases g : 7 - s / 8 < j
      · rw [if_pos g] at ih; rw [if_pos (by omega)]; omega
      · rw [if_neg g] at ih; rw [if_neg (by omega)]; omega
/-! What of the whole text. -/
structure PutOn (p : Nat → Int) (s : Nat) (x : Int) : Prop where
  sq : s < 64
  nil : p (1 + s) = 0
  pc : pcB x = true
  rook : ∀ i, 79 ≤ i → i < 83 → p i = -1
theorem PutOn.ne {p : Nat → Int} {s : Nat} {x : Int} (h : PutOn p s x) : x ≠ 0 := fun e => by
  have := h.pc; subst e; exact absurd this (by decide)
theorem PutOn.at_ {p : Nat → Int} {s : Nat} {x : Int} (h : PutOn p s x) {i : Nat} (hi : i = 0 ∨ 65 ≤ i) : upd p (1 + s) x i = p i := by
  have := h.sq; exact upd_other _ _ _ _ (by omega)
theorem put_wr {p : Nat → Int} {s : Nat} {x : Int} (h : PutOn p s x) (hw : wrB p = true) : wrB (upd p (1 + s) x) = true := by
  have h1 := wrB_head hw
  have hS : ∀ t, t < 64 → wrS (upd p (1 + s) x) t = true := fun t ht => by
    have g := wr_S hw ht
    unfold wrS
    rw [h.at_ (i := 65) (Or.inr (Nat.le_refl _)), h.at_ (i := 0) (Or.inl rfl)]
    by_cases e : t = s
    · subst e
      rw [upd_same, h.pc]
      cases c : hasN (p 65).toNat (t : Int)
      · simp
      · exact absurd h.nil (g.2 c).1
    · rw [upd_other _ _ _ _ (by omega)]
      rcases g.1 with e0 | e0
      · rw [e0]
        cases c : hasN (p 65).toNat (t : Int)
        · simp
        · exact absurd e0 (g.2 c).1
      · rw [e0]
        cases c : hasN (p 65).toNat (t : Int)
        · simp
        · have := g.2 c; simp [this.1, this.2]
  unfold wrB at hw ⊢
  rw [Bool.and_eq_true, Bool.and_eq_true] at hw
  have hC : allB (wrC (upd p (1 + s) x)) 2 = allB (wrC p) 2 := allB_same fun c hc => by
    unfold wrC
    rw [allB_same (f := wrK (upd p (1 + s) x) c) (g := wrK p c) fun k hk => by unfold wrK; rw [h.at_ (Or.inl rfl), h.at_ (i := 66 + c * 6 + k) (Or.inr (by omega))],
      allB_same (f := wrR (upd p (1 + s) x) c) (g := wrR p c) fun d hd => by unfold wrR; rw [h.at_ (i := 79 + c * 2 + d) (Or.inr (by omega)), h.rook (79 + c * 2 + d) (by omega) (by omega)]; rfl]
    unfold wrG
    rw [h.at_ (Or.inl rfl), h.at_ (i := 84 + c) (Or.inr (by omega))]
  have hH : wrH (upd p (1 + s) x) = wrH p := by
    unfold wrH
    rw [h.at_ (i := 0) (Or.inl rfl), h.at_ (i := 78) (Or.inr (by omega)), h.at_ (i := 83) (Or.inr (by omega)), h.at_ (i := 86) (Or.inr (by omega)), h.at_ (i := 87) (Or.inr (by omega))]
  rw [hH, h1, hC, hw.2, allB_true.2 hS]; rfl
/-- What stands behind the board's field. -/
def tlL (p : Nat → Int) : List UInt8 := trT p ++ 32 :: (roT p ++ 32 :: (paT p ++ 32 :: (ckX p ++ (digL (p 86).toNat ++ 32 :: digL (p 87).toNat))))
theorem put_tl {p : Nat → Int} {s : Nat} {x : Int} (h : PutOn p s x) : tlL (upd p (1 + s) x) = tlL p := by
  unfold tlL
  rw [trT_same (p := p) (h.at_ (Or.inr (by omega))), roT_same (p := p) (fun i h1 h2 => h.at_ (Or.inr (by omega))), paT_same (p := p) (h.at_ (Or.inr (by omega))), ckX_same (p := p) (h.at_ (Or.inl rfl)) (fun i h1 h2 => h.at_ (Or.inr (by omega))), h.at_ (i := 86) (Or.inr (by omega)), h.at_ (i := 87) (Or.inr (by omega))]
theorem put_shape {p : Nat → Int} {s : Nat} {x : Int} (h : PutOn p s x) (h83 : -1 ≤ p 83) : fenT6 (upd p (1 + s) x) = (bdL (upd p (1 + s) x) 8 ++ poX p) ++ 32 :: tlL p := by
  rw [fen_shape (by rw [h.at_ (Or.inr (by omega))]; exact h83), poX_same (p := p) (h.at_ (Or.inl rfl)) (fun i h1 h2 => h.at_ (Or.inr (by omega))), ← put_tl h]
  rfl
theorem put_len {p : Nat → Int} {s : Nat} {x : Int} (h : PutOn p s x) (hw : wrB p = true) : (fenT6 (upd p (1 + s) x)).length ≤ (fenT6 p).length + 2 := by
  have h83 := wrB_pass hw
  have hc : (clL (upd p (1 + s) x) s).length ≤ 1 := by
    unfold clL
    rw [h.at_ (i := 65) (Or.inr (Nat.le_refl _))]
    cases c : hasN (p 65).toNat (s : Int)
    · rw [cond_false, List.append_nil]; exact leF_len _
    · exact absurd h.nil ((wr_S hw h.sq).2 c).1
  have k := bdL_put h.sq h.nil h.ne hc 8 (Nat.le_refl _)
  rw [if_pos (by omega)] at k
  rw [put_shape h h83, fen_shape h83]
  unfold tlL
  simp only [List.length_append, List.length_cons]; omega
/-- Where it can't be written any more, it was nearly too long. -/
theorem put_long {p : Nat → Int} {s : Nat} {x : Int} (h : PutOn p s x) (hp : fenL p ≠ []) (hq : fenL (upd p (1 + s) x) = []) : 196 < (fenL p).length := by
  obtain ⟨hw, hl, e⟩ := fenL_text hp
  have k := put_len h hw
  have hq2 : ¬ (fenT6 (upd p (1 + s) x)).length ≤ 200 := fun g => by
    have e2 : fenL (upd p (1 + s) x) = fenT6 (upd p (1 + s) x) := by unfold fenL; rw [put_wr h hw, decide_eq_true g]; rfl
    rw [e2, put_shape h (wrB_pass hw)] at hq
    simp at hq
  rw [e]; omega
/-- Both can be written: the board's field alone differs. -/
theorem put_both {p : Nat → Int} {s : Nat} {x : Int} (h : PutOn p s x) (hF : FitF p) (hz : ∀ i, 88 ≤ i → p i = 0) (hFq : FitF (upd p (1 + s) x)) (hp : fenL p ≠ []) (hq : fenL (upd p (1 + s) x) ≠ []) :
    ∃ A B T, fenL p = A ++ 32 :: T ∧ fenL (upd p (1 + s) x) = B ++ 32 :: T ∧ noB 32 A ∧ noB 32 B ∧ A ≠ B := by
  obtain ⟨hw, hl, e⟩ := fenL_text hp
  obtain ⟨hwq, hlq, eq⟩ := fenL_text hq
  have e1 : fenL p = (bdL p 8 ++ poX p) ++ 32 :: tlL p := by rw [e, fen_shape (wrB_pass hw)]; rfl
  have e2 := put_shape h (wrB_pass hw)
  rw [← eq] at e2
  have n2 : noB 32 (bdL (upd p (1 + s) x) 8 ++ poX p) := by
    have := board_no (p := upd p (1 + s) x)
    rwa [poX_same (p := p) (h.at_ (Or.inl rfl)) (fun i h1 h2 => h.at_ (Or.inr (by omega)))] at this
  refine ⟨_, _, _, e1, e2, board_no, n2, fun hab => ?_⟩
  have hpq : fenL (upd p (1 + s) x) = fenL p := by rw [e1, e2, hab]
  have b1 := parO_back hF hz hp
  have b2 := parO_back hFq (fun i hi => by rw [h.at_ (Or.inr (by omega))]; exact hz i hi) hq
  rw [h.at_ (Or.inl rfl), hpq, b1] at b2
  have := congrFun (Option.some.inj b2) (1 + s)
  rw [upd_same, h.nil] at this
  exact h.ne this.symm
theorem put_fit {p : Nat → Int} {s : Nat} {x : Int} (h : PutOn p s x) (hF : FitF p) (hx : 0 ≤ x ∧ x ≤ 255) : FitF (upd p (1 + s) x) := by
  refine ⟨?_, fun j hj => ?_, ?_, fun j h1 h2 => ?_, ?_, fun j h1 h2 => ?_, ?_, fun j h1 h2 => ?_⟩
  · rw [h.at_ (Or.inl rfl)]; exact hF.var
  · by_cases e : j = s
    · subst e; rw [upd_same]; exact hx
    · rw [upd_other _ _ _ _ (by omega)]; exact hF.bd j hj
  · rw [h.at_ (Or.inr (by omega))]; exact hF.prom
  · rw [h.at_ (Or.inr (by omega))]; exact hF.pock j h1 h2
  · rw [h.at_ (Or.inr (by omega))]; exact hF.turn
  · rw [h.at_ (Or.inr (by omega))]; exact hF.rook j h1 h2
  · rw [h.at_ (Or.inr (by omega))]; exact hF.pass
  · rw [h.at_ (Or.inr (by omega))]; exact hF.chk j h1 h2
end Go.Proofs.YtjbfjohgfbipgaaGreatDoor
