/-
  What of a position's text hangs on which places (layer 10); other clocks. Plain facts.
-/
import Derived.Test.YtjbfjohgfbipgaaGreatDoorRdBackA
namespace Go.Proofs.YtjbfjohgfbipgaaGreatDoor
open Go.RowKit
set_option linter.unusedVariables false
set_option linter.unusedSimpArgs false

section
variable {p q : Nat → Int}
theorem clL_same {s : Nat} (h1 : q (1 + s) = p (1 + s)) (h2 : q 65 = p 65) : clL q s = clL p s := by unfold clL; rw [h1, h2]
theorem rkS_same {r : Nat} (h : ∀ s, 8 * r ≤ s → s < 8 * r + 8 → q (1 + s) = p (1 + s)) (h2 : q 65 = p 65) : ∀ f, f ≤ 8 → rkS q r f = rkS p r f
  | 0, _ => rfl
  | f + 1, hf => by
    have e := h (8 * r + f) (by omega) (by omega)
    have ih := rkS_same h h2 f (by omega)
    rw [rkS, rkS, e, ih, clL_same e h2]
theorem rkL_same {r : Nat} (h : ∀ s, 8 * r ≤ s → s < 8 * r + 8 → q (1 + s) = p (1 + s)) (h2 : q 65 = p 65) : rkL q r = rkL p r := by unfold rkL; rw [rkS_same h h2 8 (Nat.le_refl _)]
theorem bdL_same (h : ∀ s, s < 64 → q (1 + s) = p (1 + s)) (h2 : q 65 = p 65) : ∀ j, j ≤ 8 → bdL q j = bdL p j
  | 0, _ => rfl
  | j + 1, hj => by rw [bdL, bdL, bdL_same h h2 j (by omega), rkL_same (fun s h1 h3 => h s (by omega)) h2]
theorem pkC_same (h : ∀ i, 66 ≤ i → i < 78 → q i = p i) : pkC q 2 = pkC p 2 := by
  have key : ∀ r : List (Nat × Nat), (∀ x ∈ r, x.1 < 2 ∧ x.2 < 6) → pkQ q r = pkQ p r := by
    intro r
    induction r with
    | nil => intro _; rfl
    | cons y r ih =>
      obtain ⟨c, k⟩ := y
      intro hr
      obtain ⟨hc, hk⟩ := hr (c, k) (List.mem_cons_self ..)
      dsimp only at hc hk
      rw [pkQ, pkQ, h _ (by omega) (by omega), ih fun z hz => hr z (List.mem_cons_of_mem _ hz)]
  rw [← pkQ_all, ← pkQ_all, key alQ (by decide)]
theorem poX_same (h0 : q 0 = p 0) (h : ∀ i, 66 ≤ i → i < 78 → q i = p i) : poX q = poX p := by
  unfold poX poT ptC; rw [h0, pkC_same h]
theorem roT_same (h : ∀ i, 79 ≤ i → i < 83 → q i = p i) : roT q = roT p := by
  have e : rcL q 2 = rcL p 2 := by
    rw [← roX_all, ← roX_all]
    simp only [roX, roQ]
    rw [h (79 + 0 * 2 + 0) (by omega) (by omega), h (79 + 0 * 2 + 1) (by omega) (by omega), h (79 + 1 * 2 + 0) (by omega) (by omega), h (79 + 1 * 2 + 1) (by omega) (by omega)]
  unfold roT; rw [e]
theorem trT_same (h : q 78 = p 78) : trT q = trT p := by unfold trT; rw [h]
theorem paT_same (h : q 83 = p 83) : paT q = paT p := by unfold paT; rw [h]
theorem ckX_same (h0 : q 0 = p 0) (h : ∀ i, 84 ≤ i → i < 86 → q i = p i) : ckX q = ckX p := by
  have e : ckT (ckF q) 2 = ckT (ckF p) 2 := by
    show ([] ++ (43 :: digL (q 84).toNat)) ++ (43 :: digL (q 85).toNat) = ([] ++ (43 :: digL (p 84).toNat)) ++ (43 :: digL (p 85).toNat)
    rw [h 84 (by omega) (by omega), h 85 (by omega) (by omega)]
  unfold ckX; rw [h0, e]
theorem allB_same {f g : Nat → Bool} : ∀ {n : Nat}, (∀ k, k < n → f k = g k) → allB f n = allB g n
  | 0, _ => rfl
  | n + 1, h => by rw [allB, allB, allB_same fun k hk => h k (by omega), h n (by omega)]
theorem wrC_same (h : ∀ i, i < 86 → q i = p i) : allB (wrC q) 2 = allB (wrC p) 2 := by
  have h0 := h 0 (by omega)
  refine allB_same fun c hc => ?_
  unfold wrC
  rw [allB_same (f := wrK q c) (g := wrK p c) fun k hk => by unfold wrK; rw [h0, h _ (by omega)], allB_same (f := wrR q c) (g := wrR p c) fun d hd => by
    unfold wrR; rw [h (79 + c * 2 + d) (by omega), right_same (p := q) (q := p) fun s hs => h (1 + s) (by omega)]]
  unfold wrG
  rw [h0, h (84 + c) (by omega)]
theorem wrS_same (h : ∀ i, i < 66 → q i = p i) : allB (wrS q) 64 = allB (wrS p) 64 :=
  allB_same fun s hs => by unfold wrS; rw [h 0 (by omega), h (1 + s) (by omega), h 65 (by omega)]
end

/-! Other clocks. -/
def clkP (p : Nat → Int) (h f : Int) : Nat → Int := upd (upd p 86 h) 87 f
theorem clkP_at {p : Nat → Int} {h f : Int} {i : Nat} (hi : i < 86) : clkP p h f i = p i := by
  unfold clkP; rw [upd_other _ _ _ _ (by omega), upd_other _ _ _ _ (by omega)]
theorem clkP_half {p : Nat → Int} {h f : Int} : clkP p h f 86 = h := by
  unfold clkP; rw [upd_other _ _ _ _ (by omega), upd_same]
theorem clkP_full {p : Nat → Int} {h f : Int} : clkP p h f 87 = f := upd_same _ _ _
theorem clk_wr {p : Nat → Int} {h f : Int} (hw : wrB p = true) : wrB (clkP p h f) = (decide (0 ≤ h) && decide (0 ≤ f) && decide (h ≤ 10000) && decide (f ≤ 10000)) := by
  have h1 := wrB_head hw
  unfold wrB at hw ⊢
  rw [Bool.and_eq_true, Bool.and_eq_true] at hw
  have e1 : allB (wrS (clkP p h f)) 64 = true := (wrS_same fun i hi => clkP_at (by omega)).trans hw.1.2
  have e2 : allB (wrC (clkP p h f)) 2 = true := (wrC_same fun i hi => clkP_at hi).trans hw.2
  rw [e1, e2, Bool.and_true, Bool.and_true]
  unfold wrH at h1 ⊢
  rw [clkP_at (show 0 < 86 by omega), clkP_at (show 78 < 86 by omega), clkP_at (show 83 < 86 by omega), clkP_half, clkP_full]
  simp only [Bool.not_eq_true', Bool.or_eq_false_iff, decide_eq_false_iff_not] at h1
  rw [Bool.eq_iff_iff]
  simp only [Bool.not_eq_true', Bool.or_eq_false_iff, decide_eq_false_iff_not, Bool.and_eq_true, decide_eq_true_eq]
  omega
theorem FitF.clk {p : Nat → Int} (hF : FitF p) (h f : Int) : FitF (clkP p h f) := by
  refine ⟨?_, fun j hj => ?_, ?_, fun j h1 h2 => ?_, ?_, fun j h1 h2 => ?_, ?_, fun j h1 h2 => ?_⟩
  · rw [clkP_at (by omega)]; exact hF.var
  · rw [clkP_at (by omega)]; exact hF.bd j hj
  · rw [clkP_at (by omega)]; exact hF.prom
  · rw [clkP_at (by omega)]; exact hF.pock j h1 h2
  · rw [clkP_at (by omega)]; exact hF.turn
  · rw [clkP_at (by omega)]; exact hF.rook j h1 h2
  · rw [clkP_at (by omega)]; exact hF.pass
  · rw [clkP_at (by omega)]; exact hF.chk j h1 h2
/-- What stands ahead of the clocks. -/
def hdL (p : Nat → Int) : List UInt8 := (bdL p 8 ++ poX p) ++ 32 :: (trT p ++ 32 :: (roT p ++ 32 :: (paT p ++ 32 :: ckX p)))
theorem clk_hd {p : Nat → Int} {h f : Int} : hdL (clkP p h f) = hdL p := by
  unfold hdL
  rw [bdL_same (p := p) (fun s hs => clkP_at (by omega)) (clkP_at (by omega)) 8 (Nat.le_refl _), poX_same (p := p) (clkP_at (by omega)) (fun i _ _ => clkP_at (by omega)), trT_same (p := p) (clkP_at (by omega)), roT_same (p := p) (fun i _ _ => clkP_at (by omega)), paT_same (p := p) (clkP_at (by omega)), ckX_same (p := p) (clkP_at (by omega)) (fun i _ _ => clkP_at (by omega))]
theorem fen_hd {p : Nat → Int} (h : -1 ≤ p 83) : fenT6 p = hdL p ++ (digL (p 86).toNat ++ 32 :: digL (p 87).toNat) := by
  rw [fen_shape h]
  unfold hdL
  simp only [List.append_assoc, List.cons_append]
/-- It ends with a blank. -/
theorem hd_blank (p : Nat → Int) : ∃ A, hdL p = A ++ [32] ∧ A ≠ [] := by
  unfold hdL ckX
  have ne : ∀ B : List UInt8, (bdL p 8 ++ poX p) ++ 32 :: B ≠ [] := fun B h => by simp at h
  cases (p 0 == 5)
  · refine ⟨(bdL p 8 ++ poX p) ++ 32 :: (trT p ++ 32 :: (roT p ++ 32 :: paT p)), ?_, ne _⟩
    simp [List.append_assoc]
  · refine ⟨(bdL p 8 ++ poX p) ++ 32 :: (trT p ++ 32 :: (roT p ++ 32 :: (paT p ++ 32 :: ckT (ckF p) 2))), ?_, ne _⟩
    simp [List.append_assoc]
theorem dig_len5 {n : Nat} (h : n ≤ 10000) : (digL n).length ≤ 5 := by
  by_cases h1 : n < 10
  · rw [digL_small h1]; simp
  · rw [digL_great (by omega) (Nat.lt_of_le_of_lt h (by decide))]
    by_cases h2 : n / 10 < 10
    · rw [digL_small h2]; simp
    · rw [digL_great (by omega) (by omega)]
      by_cases h3 : n / 10 / 10 < 10
      · rw [digL_small h3]; simp
      · rw [digL_great (by omega) (by omega)]
        by_cases h4 : n / 10 / 10 / 10 < 10
        · rw [digL_small h4]; simp
        · rw [digL_great (by omega) (by omega), digL_small (by omega)]; simp
theorem dig_len1 (n : Nat) : 1 ≤ (digL n).length := List.length_pos_iff.2 (digL_ne n)
/-! Fields from behind. -/
/-- Where one comes from e down, n blanks being wanted. -/
def goE (l : List UInt8) : Nat → Nat → Nat
  | 0, n => 0
  | e + 1, n => bif n == 0 then e + 1 else bif l.getD e 0 == 32 then goE l e (n - 1) else goE l e n
def ahL (n : Nat) (l : List UInt8) : List UInt8 := bif goE l l.length n == 0 then [] else l.take (goE l l.length n + 1)
theorem goE_skip {A C D : List UInt8} (h : noB 32 C) {n : Nat} (hn : n ≠ 0) : ∀ (k : Nat), k ≤ C.length → goE (A ++ C ++ D) (A.length + k) n = goE (A ++ C ++ D) A.length n
  | 0, _ => rfl
  | k + 1, hk => by
    have hg : (A ++ C ++ D).getD (A.length + k) 0 = C[k] := by
      rw [List.append_assoc, List.getD_eq_getElem?_getD, List.getElem?_append_right (by omega), Nat.add_sub_cancel_left, List.getElem?_append_left (by omega), List.getElem?_eq_getElem (by omega)]; rfl
    have hb := h C[k] (List.getElem_mem _)
    rw [show A.length + (k + 1) = A.length + k + 1 by omega, goE, hg, show (n == 0) = false by simpa using hn, show (C[k] == 32) = false by rw [beq_eq_false_iff_ne] at hb ⊢; exact fun e => hb e.symm]
    exact goE_skip h hn k (by omega)
theorem goE_blank {A D : List UInt8} {n : Nat} (hn : n ≠ 0) : goE (A ++ 32 :: D) (A.length + 1) n = goE (A ++ 32 :: D) A.length (n - 1) := by
  have hg : (A ++ 32 :: D).getD A.length 0 = 32 := by
    rw [List.getD_eq_getElem?_getD, List.getElem?_append_right (Nat.le_refl _), Nat.sub_self]; rfl
  rw [goE, hg, show (n == 0) = false by simpa using hn]
  rfl
theorem goE_done {l : List UInt8} {e : Nat} : goE l e 0 = e := by
  cases e <;> rfl
theorem ah_two {A B C : List UInt8} (hA : A ≠ []) (hB : noB 32 B) (hC : noB 32 C) : ahL 2 (A ++ 32 :: (B ++ 32 :: C)) = A ++ [32] := by
  have e : goE (A ++ 32 :: (B ++ 32 :: C)) (A ++ 32 :: (B ++ 32 :: C)).length 2 = A.length := by
    have s1 := goE_skip (A := A ++ 32 :: (B ++ [32])) (C := C) (D := []) hC (n := 2) (by decide) C.length (Nat.le_refl _)
    have s2 := goE_blank (A := A ++ 32 :: B) (D := C) (n := 2) (by decide)
    have s3 := goE_skip (A := A ++ [32]) (C := B) (D := 32 :: C) hB (n := 1) (by decide) B.length (Nat.le_refl _)
    have s4 := goE_blank (A := A) (D := B ++ 32 :: C) (n := 1) (by decide)
    have l1 : A ++ 32 :: (B ++ [32]) ++ C ++ [] = A ++ 32 :: (B ++ 32 :: C) := by simp
    have l2 : A ++ 32 :: B ++ 32 :: C = A ++ 32 :: (B ++ 32 :: C) := by simp
    have l3 : A ++ [32] ++ B ++ 32 :: C = A ++ 32 :: (B ++ 32 :: C) := by simp
    rw [l1] at s1; rw [l2] at s2; rw [l3] at s3
    have n1 : (A ++ 32 :: (B ++ [32])).length + C.length = (A ++ 32 :: (B ++ 32 :: C)).length := by simp; omega
    have n2 : (A ++ 32 :: (B ++ [32])).length = (A ++ 32 :: B).length + 1 := by simp; omega
    have n3 : (A ++ 32 :: B).length = (A ++ [32]).length + B.length := by simp; omega
    have n4 : (A ++ [32]).length = A.length + 1 := by simp
    rw [n1, n2] at s1
    rw [n3] at s1 s2
    rw [n4] at s1 s2 s3
    rw [s1, s2, s3, s4]
    exact goE_done
  unfold ahL
  have hpos : A.length ≠ 0 := fun h => hA (List.length_eq_zero_iff.1 h)
  rw [e, show (A.length == 0) = false by simpa using hpos]
  show (A ++ 32 :: (B ++ 32 :: C)).take (A.length + 1) = _
  rw [show A ++ 32 :: (B ++ 32 :: C) = (A ++ [32]) ++ (B ++ 32 :: C) by simp, show A.length + 1 = (A ++ [32]).length by simp, List.take_left]
theorem ah_clk {p : Nat → Int} {a b : Nat} : ahL 2 (hdL p ++ (digL a ++ 32 :: digL b)) = hdL p := by
  obtain ⟨A, hA, hne⟩ := hd_blank p
  rw [hA, List.append_assoc]
  exact ah_two hne (pl_no (digL_pl a) rfl) (pl_no (digL_pl b) rfl)
end Go.Proofs.YtjbfjohgfbipgaaGreatDoor
