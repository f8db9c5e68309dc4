/-
  What Mend changes, and what it doesn't (layer 12).
-/
import Derived.Test.YthinocbofkhjbaaGreatDoorVaK
import Derived.Test.YthinocbofkhjbaaGreatDoorVaG
namespace Go.Proofs.YthinocbofkhjbaaGreatDoor
open Go.RowKit
set_option linter.unusedVariables false
set_option linter.unusedSimpArgs false

/-! What hangs on the board alone. -/
def SmB (p q : Nat → Int) : Prop := ∀ i, i < 64 → q (1 + i) = p (1 + i)
theorem bdTo_ext {f : Int → Bool} {p q : Nat → Int} (h : SmB p q) : ∀ k, k ≤ 64 → bdTo f q k = bdTo f p k
  | 0, _ => rfl
  | k + 1, hk => by
    have ih := bdTo_ext (f := f) h k (by omega)
    have e := h k (by omega)
    cases hb : f (p (1 + k))
    · rw [← bdTo_no hb, ← bdTo_no (by rw [e]; exact hb), ih]
    · rw [← bdTo_yes hb, ← bdTo_yes (by rw [e]; exact hb), ih]
theorem ofN_ext {p q : Nat → Int} (h : SmB p q) (c k : Int) : ofN q c k = ofN p c k := bdTo_ext h 64 (Nat.le_refl _)
theorem occN_ext {p q : Nat → Int} (h : SmB p q) : occN q = occN p := bdTo_ext h 64 (Nat.le_refl _)
theorem kgsZ_ext {p q : Nat → Int} (h : SmB p q) (c : Int) : kgsZ q c = kgsZ p c := by unfold kgsZ; rw [ofN_ext h]
theorem kingZ_ext {p q : Nat → Int} (h : SmB p q) (c : Int) : kingZ q c = kingZ p c := by unfold kingZ; rw [ofN_ext h]
theorem atZ_ext {p q : Nat → Int} (h : SmB p q) (s : Int) : atZ q s = atZ p s := by
  cases hs : sq s
  · rw [atZ_no hs, atZ_no hs]
  · obtain ⟨n, hn, rfl⟩ := nat_of_sq hs
    rw [atZ_nat q hn, atZ_nat p hn, h n hn]
theorem tellN_ext {p q : Nat → Int} (h : SmB p q) (s c : Int) (k : Nat) : tellN q s c k = tellN p s c k := by
  unfold tellN
  rw [ofN_ext h, occN_ext h]
  congr 1
  funext x
  rw [atZ_ext h]
theorem attL_ext {p q : Nat → Int} (h : SmB p q) (s c : Int) : ∀ n, attL q s c n = attL p s c n
  | 0 => rfl
  | n + 1 => by
    show attL q s c n ++ tellN q s c n = attL p s c n ++ tellN p s c n
    rw [attL_ext h s c n, tellN_ext h]
theorem byN_ext {p q : Nat → Int} (h : SmB p q) (s c : Int) : byN q s c = byN p s c := by unfold byN; rw [attL_ext h]
theorem chkB_ext {p q : Nat → Int} (h : SmB p q) (h0 : q 0 = p 0) (c : Int) : chkB q c = chkB p c := by
  unfold chkB shelB anyB
  rw [h0, kingZ_ext h, ofN_ext h, byN_ext h]
theorem icB_ext {p q : Nat → Int} (h : SmB p q) (h0 : q 0 = p 0) (h78 : q 78 = p 78) (c : Int) : icB q c = icB p c := by
  unfold icB; rw [h0, h78, kgsZ_ext h, chkB_ext h h0]
theorem chB_ext {p q : Nat → Int} (h : SmB p q) (h0 : q 0 = p 0) (h78 : q 78 = p 78) : chB q = chB p := by
  unfold chB; rw [h0, h78, icB_ext h h0 h78, icB_ext h h0 h78]
theorem kgB_ext {p q : Nat → Int} (h : SmB p q) (h0 : q 0 = p 0) (h78 : q 78 = p 78) : kgB q = kgB p := by
  unfold kgB kmB; rw [h0, h78, kgsZ_ext h, kgsZ_ext h]
theorem lawB_ext {p q : Nat → Int} (h : SmB p q) : ∀ k, k ≤ 64 → lawB q k = lawB p k
  | 0, _ => rfl
  | k + 1, hk => by rw [lawB_succ, lawB_succ, lawB_ext h k (by omega), h k (by omega)]
theorem pwnB_ext {p q : Nat → Int} (h : SmB p q) (h0 : q 0 = p 0) : ∀ k, k ≤ 64 → pwnB q k = pwnB p k
  | 0, _ => rfl
  | k + 1, hk => by
    rw [pwnB_succ, pwnB_succ, pwnB_ext h h0 k (by omega), h k (by omega)]
    unfold pmB; rw [h0]
theorem prmB_ext {p q : Nat → Int} (h : SmB p q) (h65 : q 65 = p 65) : ∀ k, k ≤ 64 → prmB q k = prmB p k
  | 0, _ => rfl
  | k + 1, hk => by rw [prmB_succ, prmB_succ, prmB_ext h h65 k (by omega), h k (by omega), h65]
theorem hldZ_ext {p q : Nat → Int} (h : ∀ i, 66 ≤ i → i < 78 → q i = p i) (c : Nat) (hc : c < 2) : ∀ k, k ≤ 6 → hldZ q c k = hldZ p c k
  | 0, _ => rfl
  | k + 1, hk => by rw [hldZ_succ, hldZ_succ, hldZ_ext h c hc k (by omega), h _ (by omega) (by omega)]
theorem pkB_ext {p q : Nat → Int} (h : SmB p q) (h0 : q 0 = p 0) (h65 : q 65 = p 65) (hp : ∀ i, 66 ≤ i → i < 78 → q i = p i) : pkB q = pkB p := by
  have e1 : pkz q = pkz p := by
    rw [Bool.eq_iff_iff, pkz_iff, pkz_iff]
    exact ⟨fun g i a b => by rw [← hp i a b]; exact g i a b, fun g i a b => by rw [hp i a b]; exact g i a b⟩
  have e2 : menZ q = menZ p := by
    show (0 + cntN (ofN q ((0 : Nat) : Int) 0) + hldZ q 0 6) + cntN (ofN q ((1 : Nat) : Int) 0) + hldZ q 1 6 = (0 + cntN (ofN p ((0 : Nat) : Int) 0) + hldZ p 0 6) + cntN (ofN p ((1 : Nat) : Int) 0) + hldZ p 1 6
    rw [ofN_ext h, ofN_ext h, hldZ_ext hp 0 (by decide) 6 (by decide), hldZ_ext hp 1 (by decide) 6 (by decide)]
  unfold pkB
  rw [e1, e2, h0, h65, hp 66 (by decide) (by decide), hp 72 (by decide) (by decide), prmB_ext h h65 64 (by decide)]

/-! What is mended. -/
theorem md_low {p : Nat → Int} {i : Nat} (h : i < 79 ∨ i = 84 ∨ i = 85) : mdP p i = p i := by
  unfold mdP
  cases argB p
  · rfl
  · show upd (upd (mdS p) 86 (nrZ (p 86) 0)) 87 (nrZ (p 87) 1) i = p i
    rw [upd_other _ _ _ _ (by omega), upd_other _ _ _ _ (by omega)]
    unfold mdS; rw [if_neg (by omega)]
    unfold mdR; rw [if_neg (by omega)]
theorem md_rook {p : Nat → Int} (ha : argB p = true) {c s : Nat} (hc : c < 2) (hs : s < 2) : roA (mdP p) c s = bif rkB p c s then roA p c s else -1 := by
  unfold roA mdP
  rw [ha]
  show upd (upd (mdS p) 86 (nrZ (p 86) 0)) 87 (nrZ (p 87) 1) (79 + c * 2 + s) = _
  rw [upd_other _ _ _ _ (by omega), upd_other _ _ _ _ (by omega)]
  unfold mdS; rw [if_neg (by omega)]
  unfold mdR; rw [if_pos (by omega), show (79 + c * 2 + s - 79) / 2 = c by omega, show (79 + c * 2 + s - 79) % 2 = s by omega]
theorem md_pass {p : Nat → Int} (ha : argB p = true) : mdP p 83 = bif pasB p then p 83 else -1 := by
  unfold mdP
  rw [ha]
  show upd (upd (mdS p) 86 (nrZ (p 86) 0)) 87 (nrZ (p 87) 1) 83 = _
  rw [upd_other _ _ _ _ (by omega), upd_other _ _ _ _ (by omega)]
  unfold mdS; rw [if_pos rfl]
theorem md_half {p : Nat → Int} (ha : argB p = true) : mdP p 86 = nrZ (p 86) 0 := by
  unfold mdP
  rw [ha]
  show upd (upd (mdS p) 86 (nrZ (p 86) 0)) 87 (nrZ (p 87) 1) 86 = _
  rw [upd_other _ _ _ _ (by omega), upd_same]
theorem md_full {p : Nat → Int} (ha : argB p = true) : mdP p 87 = nrZ (p 87) 1 := by
  unfold mdP
  rw [ha]
  show upd (upd (mdS p) 86 (nrZ (p 86) 0)) 87 (nrZ (p 87) 1) 87 = _
  rw [upd_same]
theorem md_sm (p : Nat → Int) : SmB p (mdP p) := fun i hi => md_low (by omega)
theorem nr_two (n : Int) : nrZ (nrZ n 0) 0 = nrZ n 0 := by unfold nrZ; omega
theorem nr_one (n : Int) : nrZ (nrZ n 1) 1 = nrZ n 1 := by unfold nrZ; omega
theorem md_clk {p : Nat → Int} (ha : argB p = true) : clkB (mdP p) = true := by
  unfold clkB
  rw [md_half ha, md_full ha, nr_two, nr_one]; simp
theorem md_rk {p : Nat → Int} (ha : argB p = true) {c s : Nat} (hc : c < 2) (hs : s < 2) : rkB (mdP p) c s = true := by
  have hr := md_rook ha hc hs
  cases h : rkB p c s
  · rw [h] at hr
    have hr : roA (mdP p) c s = -1 := hr
    unfold rkB; rw [hr]; rfl
  · rw [h] at hr
    have hr : roA (mdP p) c s = roA p c s := hr
    have hf := filB_at (argB_var ha).2.2.2.2.2.1 (c * 2 + s) (by omega)
    have e1 : kfZ (mdP p) c = kfZ p c := by unfold kfZ; rw [kingZ_ext (md_sm p)]
    have e2 : mdP p (1 + (56 * c + (roA p c s).toNat)) = p (1 + (56 * c + (roA p c s).toNat)) := md_low (by
      have : roA p c s < 8 := by unfold roA; rw [show 79 + c * 2 + s = 79 + (c * 2 + s) by omega]; exact hf.2
      omega)
    rw [← h]
    unfold rkB
    rw [hr, e1, e2, md_low (by omega)]
theorem md_ps {p : Nat → Int} (ha : argB p = true) : pasB (mdP p) = true := by
  have hr := md_pass ha
  cases h : pasB p
  · rw [h] at hr
    have hr : mdP p 83 = -1 := hr
    unfold pasB; rw [hr]; rfl
  · rw [h] at hr
    have hr : mdP p 83 = p 83 := hr
    obtain ⟨_, _, h1, h2, _⟩ := argB_var ha
    have e78 : mdP p 78 = p 78 := md_low (by omega)
    have eu : pupZ (mdP p) = pupZ p := by unfold pupZ; rw [e78]
    have ek : prkZ (mdP p) = prkZ p := by unfold prkZ; rw [e78]
    have hu : pupZ p = 8 ∨ pupZ p = -8 := by unfold pupZ; cases (p 78 == 1) <;> simp
    rw [← h]
    unfold pasB
    rw [hr, ek, eu, e78, byN_ext (md_sm p), ofN_ext (md_sm p), md_low (i := 1 + (p 83).toNat) (by omega), md_low (i := 1 + (p 83 - pupZ p).toNat) (by rcases hu with g | g <;> rw [g] <;> omega), md_low (i := 1 + (p 83 + pupZ p).toNat) (by rcases hu with g | g <;> rw [g] <;> omega)]
theorem md_arg {p : Nat → Int} (ha : argB p = true) : argB (mdP p) = true := by
  obtain ⟨h0, h78, h83, h83', hl, hf, hc⟩ := argB_var ha
  have e0 : mdP p 0 = p 0 := md_low (by omega)
  have e78 : mdP p 78 = p 78 := md_low (by omega)
  have e83 : -1 ≤ mdP p 83 ∧ mdP p 83 < 64 := by
    rw [md_pass ha]
    cases pasB p
    · exact ⟨show (-1 : Int) ≤ -1 by decide, show (-1 : Int) < 64 by decide⟩
    · exact ⟨h83, h83'⟩
  have ef : filB (mdP p) 4 = true := by
    unfold filB
    rw [List.all_eq_true]
    intro i hi
    have hi := List.mem_range.1 hi
    have hr := md_rook ha (c := i / 2) (s := i % 2) (by omega) (by omega)
    unfold roA at hr
    rw [show 79 + i / 2 * 2 + i % 2 = 79 + i by omega] at hr
    rw [hr]
    obtain ⟨a, b⟩ := filB_at hf i hi
    cases rkB p (i / 2) (i % 2)
    · rfl
    · show (decide (-1 ≤ p (79 + i)) && decide (p (79 + i) < 8)) = true
      rw [decide_eq_true a, decide_eq_true b]; rfl
  have ec : ckB (mdP p) = true := by
    rw [← hc]
    unfold ckB mckZ
    rw [e0, md_low (i := 84) (by omega), md_low (i := 85) (by omega)]
  unfold argB
  rw [e0, e78, lawB_ext (md_sm p) 64 (Nat.le_refl _), ef, ec, hl, decide_eq_true h0, decide_eq_true h78, decide_eq_true e83.1, decide_eq_true e83.2]; rfl
theorem er8 (p : Nat → Int) : erL p 8 = ((((((((bif okN p 0 then [] else [2]) ++ (bif okN p 1 then [] else [125])) ++ (bif okN p 2 then [] else [120])) ++ (bif okN p 3 then [] else [121])) ++ (bif okN p 4 then [] else [122])) ++ (bif okN p 5 then [] else [123])) ++ (bif okN p 6 then [] else [124])) ++ (bif okN p 7 then [] else [126])) := by
  rw [erL_succ p 7, erL_succ p 6, erL_succ p 5, erL_succ p 4, erL_succ p 3, erL_succ p 2, erL_succ p 1, erL_succ p 0]; rfl
/-- What is no error of rights, of a passing square, of clocks. -/
def kpB (e : Int) : Bool := !((e == 123) || ((e == 124) || (e == 125)))
theorem wr_mend {p : Nat → Int} (ha : argB p = true) : wrL (mdP p) = (wrL p).filter kpB := by
  have hb := md_arg ha
  unfold wrL
  rw [ha, hb]
  show erL (mdP p) 8 = (erL p 8).filter kpB
  have o0 : okN (mdP p) 0 = true := hb
  have o1 : okN (mdP p) 1 = true := md_clk ha
  have o2 : okN (mdP p) 2 = okN p 2 := kgB_ext (md_sm p) (md_low (by omega)) (md_low (by omega))
  have o3 : okN (mdP p) 3 = okN p 3 := pwnB_ext (md_sm p) (md_low (by omega)) 64 (Nat.le_refl _)
  have o4 : okN (mdP p) 4 = okN p 4 := pkB_ext (md_sm p) (md_low (by omega)) (md_low (by omega)) (fun i _ _ => md_low (by omega))
  have o5 : okN (mdP p) 5 = true := rks_yes fun c s hc hs => md_rk ha hc hs
  have o6 : okN (mdP p) 6 = true := md_ps ha
  have o7 : okN (mdP p) 7 = okN p 7 := chB_ext (md_sm p) (md_low (by omega)) (md_low (by omega))
  rw [er8, er8, o0, o1, o2, o3, o4, o5, o6, o7, show okN p 0 = true from ha]
  generalize okN p 1 = b1
  generalize okN p 2 = b2
  generalize okN p 3 = b3
  generalize okN p 4 = b4
  generalize okN p 5 = b5
  generalize okN p 6 = b6
  generalize okN p 7 = b7
  cases b1 <;> cases b2 <;> cases b3 <;> cases b4 <;> cases b5 <;> cases b6 <;> cases b7 <;> rfl
/-- Where nothing of these is wrong, nothing is changed. -/
theorem md_same {q : Nat → Int} (ha : argB q = true) (h1 : clkB q = true) (h5 : ∀ c s : Nat, c < 2 → s < 2 → rkB q c s = true) (h6 : pasB q = true) : ∀ i, i < 88 → mdP q i = q i := fun i hi => by
  unfold clkB at h1
  rw [Bool.and_eq_true, beq_iff_eq, beq_iff_eq] at h1
  by_cases g : i < 79 ∨ i = 84 ∨ i = 85
  · exact md_low g
  · by_cases g1 : i < 83
    · have := md_rook ha (c := (i - 79) / 2) (s := (i - 79) % 2) (by omega) (by omega)
      rw [h5 _ _ (by omega) (by omega)] at this
      unfold roA at this
      rw [show 79 + (i - 79) / 2 * 2 + (i - 79) % 2 = i by omega] at this
      exact this
    · by_cases g2 : i = 83
      · subst g2; rw [md_pass ha, h6]; rfl
      · by_cases g3 : i = 86
        · subst g3; rw [md_half ha]; exact h1.1.symm
        · obtain rfl : i = 87 := by omega
          rw [md_full ha]; exact h1.2.symm
theorem md_again {p : Nat → Int} (ha : argB p = true) : posA (mdP (mdP p)) = posA (mdP p) :=
  posA_ext (md_same (md_arg ha) (md_clk ha) (fun c s hc hs => md_rk ha hc hs) (md_ps ha))
theorem md_none {p : Nat → Int} (h : wrL p = []) : posA (mdP p) = posA p := by
  unfold wrL at h
  cases ha : argB p
  · rw [ha] at h; cases h
  · rw [ha] at h
    have h : erL p 8 = [] := h
    rw [er8] at h
    have key : ∀ k, k < 8 → okN p k = true := fun k hk => by
      cases e : okN p k
      · exfalso
        have : erL p k ++ [cdZ k] <+: erL p 8 := erL_in hk e
        rw [er8, h] at this
        have := this.length_le
        simp at this
      · rfl
    refine posA_ext (md_same ha (key 1 (by decide)) (fun c s hc hs => ?_) (key 6 (by decide)))
    cases e : rkB p c s
    · have := rks_no hc hs e
      rw [show rksB p = true from key 5 (by decide)] at this; cases this
    · rfl
theorem md_argno {p : Nat → Int} (ha : argB p = false) : mdP p = p := by unfold mdP; rw [ha]; rfl
end Go.Proofs.YthinocbofkhjbaaGreatDoor
