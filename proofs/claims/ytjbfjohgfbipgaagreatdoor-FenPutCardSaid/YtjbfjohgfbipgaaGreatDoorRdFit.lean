/-
  What the reader's fields leave (layer 10): the position keeps its types' ranges, and each field changes its own places alone. Plain facts.
-/
import Derived.Test.YtjbfjohgfbipgaaGreatDoorRdRooksA
import Derived.Test.YtjbfjohgfbipgaaGreatDoorRdChk
namespace Go.Proofs.YtjbfjohgfbipgaaGreatDoor
open Go.RowKit
set_option linter.unusedVariables false
set_option linter.unusedSimpArgs false

theorem rdSt_keep {r : Nat} {x : UInt8} {f f' : Int} {p q : Nat → Int} (h : rdSt r x f p = some (f', q)) (i : Nat) (hi : i = 0 ∨ 66 ≤ i) : q i = p i := by
  unfold rdSt at h
  cases h1 : (x == 126)
  · rw [h1] at h
    cases h2 : (decide (49 ≤ x.toNat) && decide (x.toNat ≤ 56))
    · rw [h2] at h
      cases h3 : ofOk f (r : Int)
      · rw [h3] at h; cases h
      · rw [h3] at h
        cases h4 : prsB (bz [x])
        · rw [h4] at h; cases h
        · rw [h4] at h
          cases h
          have := ofZ_rng f (r : Int)
          exact upd_other _ _ _ _ (by omega)
    · rw [h2] at h; cases h; rfl
  · rw [h1] at h
    cases h3 : ofOk (f - 1) (r : Int)
    · rw [h3] at h; cases h
    · rw [h3] at h; cases h
      exact upd_other _ _ _ _ (by omega)
theorem rdRk_keep {r : Nat} : ∀ {l : List UInt8} {f : Int} {p : Nat → Int} {fp : Int × (Nat → Int)}, rdRk r l f p = some fp → ∀ i, i = 0 ∨ 66 ≤ i → fp.2 i = p i
  | [], f, p, fp, h, i, hi => by cases h; rfl
  | x :: l, f, p, fp, h, i, hi => by
    rw [rdRk] at h
    cases hs : rdSt r x f p with
    | none => rw [hs] at h; cases h
    | some g => rw [hs] at h; rw [rdRk_keep h i hi, rdSt_keep hs i hi]
theorem rdRank_keep {r : Nat} {l : List UInt8} {p q : Nat → Int} (h : rdRank r l p = some q) (i : Nat) (hi : i = 0 ∨ 66 ≤ i) : q i = p i := by
  unfold rdRank at h
  cases hs : rdRk r l 0 p with
  | none => rw [hs] at h; cases h
  | some g =>
    rw [hs] at h
    have hf := rdRk_keep hs i hi
    have h : (bif g.1 == 8 then some g.2 else none) = some q := h
    cases h8 : (g.1 == 8)
    · rw [h8] at h; cases h
    · rw [h8] at h; cases h; exact hf
theorem rdRows_fit : ∀ {ls : List (List UInt8)} {i : Nat} {p q : Nat → Int}, FitF p → rdRows i ls p = some q → FitF q ∧ ∀ j, j = 0 ∨ 66 ≤ j → q j = p j
  | [], i, p, q, hp, h => by cases h; exact ⟨hp, fun _ _ => rfl⟩
  | l :: ls, i, p, q, hp, h => by
    cases hs : rdRank (7 - i) l p with
    | none => rw [rdRows_none hs] at h; cases h
    | some g =>
      rw [rdRows_some hs] at h
      have ⟨h1, h2⟩ := rdRows_fit (rdRank_fit hp hs) h
      exact ⟨h1, fun j hj => by rw [h2 j hj, rdRank_keep hs j hj]⟩
theorem pkSt_fit {x : UInt8} {p q : Nat → Int} (hp : FitF p) (h : pkSt x p = some q) : FitF q ∧ ∀ j, j < 66 ∨ 78 ≤ j → q j = p j := by
  unfold pkSt at h
  cases h1 : prsB (bz [x])
  · rw [h1] at h; cases h
  · rw [h1] at h
    obtain ⟨c, kn, hc2, hk1, hk6, hcz, hkz, hpc⟩ := pc_parts h1
    generalize prsZ (bz [x]) = z at h hcz hkz hpc
    rw [hkz] at h
    cases h2 : ((kn : Int) == 6)
    · rw [h2] at h; cases h
      have h5 := no_beq h2
      have hpk : pkI z = 66 + c * 6 + kn := by unfold pkI; rw [hcz, hkz, Int.toNat_natCast, Int.toNat_natCast]
      rw [hpk]
      exact ⟨hp.pocket (by omega) (u8_wrap_rng _), fun j hj => upd_other _ _ _ _ (by omega)⟩
    · rw [h2] at h; cases h
theorem rdPk_fit : ∀ {l : List UInt8} {p q : Nat → Int}, FitF p → rdPk l p = some q → FitF q ∧ ∀ j, j < 66 ∨ 78 ≤ j → q j = p j
  | [], p, q, hp, h => by cases h; exact ⟨hp, fun _ _ => rfl⟩
  | x :: l, p, q, hp, h => by
    cases hs : pkSt x p with
    | none => rw [rdPk_none hs] at h; cases h
    | some g =>
      rw [rdPk_some hs] at h
      have ⟨g1, g2⟩ := pkSt_fit hp hs
      have ⟨h1, h2⟩ := rdPk_fit g1 h
      exact ⟨h1, fun j hj => by rw [h2 j hj, g2 j hj]⟩
/-- What a field leaves: the ranges, the rest of the text, and the places that S names. -/
def FldK (S : Nat → Prop) (p : Nat → Int) (s : List UInt8) (st : (Nat → Int) × List UInt8) : Prop := FitF st.1 ∧ st.2.length ≤ s.length ∧ ∀ j, S j → st.1 j = p j
theorem fdR_len (s : List UInt8) : (fdR s).length ≤ s.length := cutB_len 32 s
theorem rdBoard_fit {p : Nat → Int} {s : List UInt8} {st : (Nat → Int) × List UInt8} (hp : FitF p) (h : rdBoard p s = some st) : FldK (fun j => j = 0 ∨ 78 ≤ j) p s st := by
  unfold rdBoard at h
  cases h8 : ((bdTs s).length == 8)
  · rw [h8] at h; cases h
  · rw [h8] at h
    cases hr : rdRows 0 (bdTs s) p with
    | none => rw [hr] at h; cases h
    | some q =>
      rw [hr] at h
      have ⟨g1, g2⟩ := rdRows_fit hp hr
      have h : rkO (fdR s) (rdPk (bdLt s) q) = some st := h
      cases hk : rdPk (bdLt s) q with
      | none => rw [hk] at h; cases h
      | some q' =>
        rw [hk] at h; cases h
        have ⟨k1, k2⟩ := rdPk_fit g1 hk
        exact ⟨k1, fdR_len s, fun j hj => by show q' j = p j; rw [k2 j (by omega), g2 j (by omega)]⟩
theorem FitF.other {p : Nat → Int} (h : FitF p) {i : Nat} (hi : 78 ≤ i) {v : Int} (h78 : i = 78 → 0 ≤ v ∧ v ≤ 255) (h79 : 79 ≤ i → i < 84 → -128 ≤ v ∧ v ≤ 127) (h84 : 84 ≤ i → i < 86 → 0 ≤ v ∧ v ≤ 255) : FitF (upd p i v) := by
  have one : ∀ j, upd p i v j = v ∧ j = i ∨ upd p i v j = p j ∧ j ≠ i := fun j => by
    by_cases e : j = i
    · exact Or.inl ⟨by rw [e, upd_same], e⟩
    · exact Or.inr ⟨upd_other _ _ _ _ e, e⟩
  refine ⟨?_, fun j hj => ?_, ?_, fun j h1 h2 => ?_, ?_, fun j h1 h2 => ?_, ?_, fun j h1 h2 => ?_⟩
  · rw [upd_other _ _ _ _ (by omega)]; exact h.var
  · rw [upd_other _ _ _ _ (by omega)]; exact h.bd j hj
  · rw [upd_other _ _ _ _ (by omega)]; exact h.prom
  · rw [upd_other _ _ _ _ (by omega)]; exact h.pock j h1 h2
  · rcases one 78 with ⟨e, e'⟩ | ⟨e, e'⟩ <;> rw [e]
    · exact h78 e'.symm
    · exact h.turn
  · rcases one j with ⟨e, e'⟩ | ⟨e, e'⟩ <;> rw [e]
    · exact h79 (by omega) (by omega)
    · exact h.rook j h1 h2
  · rcases one 83 with ⟨e, e'⟩ | ⟨e, e'⟩ <;> rw [e]
    · exact h79 (by omega) (by omega)
    · exact h.pass
  · rcases one j with ⟨e, e'⟩ | ⟨e, e'⟩ <;> rw [e]
    · exact h84 (by omega) (by omega)
    · exact h.chk j h1 h2
theorem rdTurn_fit {p : Nat → Int} {s : List UInt8} {st : (Nat → Int) × List UInt8} (hp : FitF p) (h : rdTurn p s = some st) : FldK (fun j => j ≠ 78) p s st := by
  unfold rdTurn at h
  cases h1 : (fdF s == [119])
  · rw [h1] at h
    cases h2 : (fdF s == [98])
    · rw [h2] at h; cases h
    · rw [h2] at h; cases h
      exact ⟨hp.other (by omega) (by omega) (by omega) (by omega), fdR_len s, fun j hj => upd_other _ _ _ _ hj⟩
  · rw [h1] at h; cases h
    exact ⟨hp.other (by omega) (by omega) (by omega) (by omega), fdR_len s, fun j hj => upd_other _ _ _ _ hj⟩
theorem rdRookL_keep {c d : Nat} (hc : c < 2) (hd : d < 2) {l : List UInt8} {p : Nat → Int} (j : Nat) (hj : j < 79 ∨ 83 ≤ j) : ∀ fs : List Nat, (rdRookL c d l p fs).1 j = p j
  | [] => rfl
  | f :: fs => by
    rw [rdRookL]
    cases (rightB p (c : Int) (d : Int) (f : Int) && Lib.hasPrefix l (rkLt c d f))
    · exact rdRookL_keep hc hd j hj fs
    · exact upd_other _ _ _ _ (by omega)
theorem rdSd_keep {c : Nat} (hc : c < 2) (st : (Nat → Int) × List UInt8) (j : Nat) (hj : j < 79 ∨ 83 ≤ j) : ∀ d, d ≤ 2 → (rdSd c st d).1 j = st.1 j
  | 0, _ => rfl
  | d + 1, h => by
    rw [rdSd]
    unfold rdRook
    rw [rdRookL_keep hc (by omega) j hj]
    exact rdSd_keep hc st j hj d (by omega)
theorem rdCl_keep (st : (Nat → Int) × List UInt8) (j : Nat) (hj : j < 79 ∨ 83 ≤ j) : ∀ c, c ≤ 2 → (rdCl st c).1 j = st.1 j
  | 0, _ => rfl
  | c + 1, h => by
    rw [rdCl, rdSd_keep (by omega) _ j hj 2 (Nat.le_refl _)]
    exact rdCl_keep st j hj c (by omega)
theorem rdRooks_fit {p : Nat → Int} {s : List UInt8} {st : (Nat → Int) × List UInt8} (hp : FitF p) (h : rdRooks p s = some st) : FldK (fun j => j < 79 ∨ 83 ≤ j) p s st := by
  unfold rdRooks at h
  cases h1 : (fdF s == [45])
  · rw [h1] at h
    cases h2 : (rdCl (p, fdF s) 2).2.isEmpty
    · rw [h2] at h; cases h
    · rw [h2] at h; cases h
      exact ⟨rdCl_fit hp 2 (Nat.le_refl _), fdR_len s, fun j hj => rdCl_keep _ j hj 2 (Nat.le_refl _)⟩
  · rw [h1] at h; cases h
    exact ⟨hp, fdR_len s, fun j hj => rfl⟩
theorem rdPass_fit {p : Nat → Int} {s : List UInt8} {st : (Nat → Int) × List UInt8} (hp : FitF p) (h : rdPass p s = some st) : FldK (fun j => j ≠ 83) p s st := by
  unfold rdPass at h
  cases h1 : (fdF s == [45])
  · rw [h1] at h
    cases h2 : parseOk (bz (fdF s))
    · rw [h2] at h; cases h
    · rw [h2] at h; cases h
      have := parseZ_rng (bz (fdF s))
      exact ⟨hp.other (by omega) (by omega) (by omega) (by omega), fdR_len s, fun j hj => upd_other _ _ _ _ hj⟩
  · rw [h1] at h; cases h
    exact ⟨hp, fdR_len s, fun j hj => rfl⟩
theorem rdChk_fit {p : Nat → Int} {s : List UInt8} {st : (Nat → Int) × List UInt8} (hp : FitF p) (h : rdChk p s = some st) : FldK (fun j => j ≠ 84 ∧ j ≠ 85) p s st := by
  unfold rdChk at h
  cases h1 : (p 0 == 5)
  · rw [h1] at h; cases h
    exact ⟨hp, Nat.le_refl _, fun j hj => rfl⟩
  · rw [h1] at h
    cases h2 : ((fdF s).length == 4)
    · rw [h2] at h; cases h
    · rw [h2] at h; cases h
      refine ⟨ckQ_fit hp 2 (Nat.le_refl _), fdR_len s, fun j hj => ?_⟩
      show upd (upd p (84 + 0) _) (84 + 1) _ j = p j
      rw [upd_other _ _ _ _ (by omega), upd_other _ _ _ _ (by omega)]
theorem rdNum_fit {i : Nat} (hi : 86 ≤ i) {p : Nat → Int} {s : List UInt8} {st : (Nat → Int) × List UInt8} (hp : FitF p) (h : rdNum i p s = some st) : FldK (fun j => j ≠ i) p s st := by
  unfold rdNum at h
  cases ha : atN (fdF s) with
  | none => rw [ha] at h; cases h
  | some v =>
    rw [ha] at h; cases h
    exact ⟨hp.other (by omega) (by omega) (by omega) (by omega), fdR_len s, fun j hj => upd_other _ _ _ _ hj⟩
/-- The fields, in order. -/
def rdStep (k : Nat) (p : Nat → Int) (s : List UInt8) : Option ((Nat → Int) × List UInt8) := match k with
  | 0 => rdBoard p s
  | 1 => rdTurn p s
  | 2 => rdRooks p s
  | 3 => rdPass p s
  | 4 => rdChk p s
  | 5 => rdNum 86 p s
  | _ => rdNum 87 p s
def rdUp : Nat → (Nat → Int) → List UInt8 → Option ((Nat → Int) × List UInt8)
  | 0, p, s => some (p, s)
  | k + 1, p, s => match rdUp k p s with
    | none => none
    | some st => rdStep k st.1 st.2
theorem rdUp_step {k : Nat} {p : Nat → Int} {s : List UInt8} {st : (Nat → Int) × List UInt8} (h : rdUp k p s = some st) : rdUp (k + 1) p s = rdStep k st.1 st.2 := by rw [rdUp, h]
theorem rdUp_none {k : Nat} {p : Nat → Int} {s : List UInt8} (h : rdUp k p s = none) : ∀ d, rdUp (k + d) p s = none
  | 0 => h
  | d + 1 => by rw [Nat.add_succ, rdUp, rdUp_none h d]
/-- What the position and the rest keep before field k. -/
def RdI (k : Nat) (v : Int) (p : Nat → Int) (s : List UInt8) : Prop := FitF p ∧ s.length ≤ 10000 ∧ p 0 = v ∧ (k ≤ 4 → p 84 = 0 ∧ p 85 = 0)
theorem rdStep_ok {k : Nat} {v : Int} {p : Nat → Int} {s : List UInt8} (hk : k < 7) (h : RdI k v p s) {st : (Nat → Int) × List UInt8} (hs : rdStep k p s = some st) : RdI (k + 1) v st.1 st.2 := by
  obtain ⟨hf, hl, h0, hc⟩ := h
  have key : ∀ S : Nat → Prop, FldK S p s st → S 0 → (k < 4 → S 84 ∧ S 85) → RdI (k + 1) v st.1 st.2 := fun S hS s0 s4 =>
    ⟨hS.1, Nat.le_trans hS.2.1 hl, by rw [hS.2.2 0 s0]; exact h0, fun h4 => by rw [hS.2.2 84 (s4 (by omega)).1, hS.2.2 85 (s4 (by omega)).2]; exact hc (by omega)⟩
  have : k = 0 ∨ k = 1 ∨ k = 2 ∨ k = 3 ∨ k = 4 ∨ k = 5 ∨ k = 6 := by omega
  rcases this with rfl | rfl | rfl | rfl | rfl | rfl | rfl
  · exact key _ (rdBoard_fit hf hs) (Or.inl rfl) (fun _ => ⟨by omega, by omega⟩)
  · exact key _ (rdTurn_fit hf hs) (by omega) (fun _ => ⟨by omega, by omega⟩)
  · exact key _ (rdRooks_fit hf hs) (by omega) (fun _ => ⟨by omega, by omega⟩)
  · exact key _ (rdPass_fit hf hs) (by omega) (fun _ => ⟨by omega, by omega⟩)
  · exact key _ (rdChk_fit hf hs) (by omega) (fun _ => by omega)
  · exact key _ (rdNum_fit (by decide) hf hs) (by omega) (fun _ => by omega)
  · exact key _ (rdNum_fit (by decide) hf hs) (by omega) (fun _ => by omega)
/-- A position of which no field has been read. -/
def nakP (v : Int) : Nat → Int := fun i => if i = 0 then v else if 79 ≤ i ∧ i ≤ 83 then -1 else 0
theorem nakP_ok (v : Int) (hv : 0 ≤ v ∧ v ≤ 255) (s : List UInt8) (hs : s.length ≤ 10000) : RdI 0 v (nakP v) s := by
  have z : ∀ i, i ≠ 0 → ¬ (79 ≤ i ∧ i ≤ 83) → nakP v i = 0 := fun i h1 h2 => by unfold nakP; rw [if_neg h1, if_neg h2]
  have n : ∀ i, 79 ≤ i → i ≤ 83 → nakP v i = -1 := fun i h1 h2 => by unfold nakP; rw [if_neg (by omega), if_pos ⟨h1, h2⟩]
  have w64 : (0 : Int).toNat < W64 := by unfold W64; decide
  refine ⟨⟨by show 0 ≤ v ∧ v ≤ 255; exact hv, fun j hj => by rw [z _ (by omega) (by omega)]; omega, by rw [z _ (by omega) (by omega)]; exact ⟨by omega, w64⟩, fun j h1 h2 => by rw [z _ (by omega) (by omega)]; omega, by rw [z _ (by omega) (by omega)]; omega, fun j h1 h2 => by rw [n _ (by omega) (by omega)]; omega, by rw [n _ (by omega) (by omega)]; omega, fun j h1 h2 => by rw [z _ (by omega) (by omega)]; omega⟩, hs, rfl, fun _ => ⟨z _ (by omega) (by omega), z _ (by omega) (by omega)⟩⟩
/-- The whole reading of a text: its fields, and the text again. -/
def rdAll (v : Int) (t : List UInt8) : Option (Nat → Int) := match rdUp 7 (nakP v) t with
  | none => none
  | some st => bif fenL st.1 == t then some st.1 else none
end Go.Proofs.YtjbfjohgfbipgaaGreatDoor
