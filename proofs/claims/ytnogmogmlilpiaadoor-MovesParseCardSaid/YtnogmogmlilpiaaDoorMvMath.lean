/-
  Plain functions of layer 11: moves, their texts, what a text is read as; there and back.
-/
import Derived.Test.YtnogmogmlilpiaaDoorCutMath
namespace Go.Proofs.YtnogmogmlilpiaaDoor
open Go.RowKit
set_option linter.unusedVariables false
set_option linter.unusedSimpArgs false

structure Mv where
  f : Int
  t : Int
  pr : Int
  dr : Int
  ca : Bool
def mvA (m : Mv) : Array Value := #[.int .i8 m.f, .int .i8 m.t, .int .u8 m.pr, .int .u8 m.dr, .bool m.ca]
def mv0 : Mv := ⟨0, 0, 0, 0, false⟩
theorem Mv.ext' {a b : Mv} (h1 : a.f = b.f) (h2 : a.t = b.t) (h3 : a.pr = b.pr) (h4 : a.dr = b.dr) (h5 : a.ca = b.ca) : a = b := by
  cases a; cases b; simp_all
/-- A square's text. -/
def sqM (s : Int) : List UInt8 := (textZ s).data.toList
theorem sqM_bz (s : Int) : textZ s = bz (sqM s) := (bz_of _).symm
theorem sqM_no {s : Int} (h : sqB s = false) : sqM s = [] := by unfold sqM; rw [textZ_no h]
theorem sqM_two {s : Int} (h : sqB s = true) : ∃ x y : UInt8, sqM s = [x, y] ∧ 97 ≤ x.toNat ∧ x.toNat ≤ 104 ∧ 49 ≤ y.toNat ∧ y.toNat ≤ 56 := by
  have key : ∀ n : Fin 64, (match sqM (n.val : Int) with | [x, y] => decide (97 ≤ x.toNat) && decide (x.toNat ≤ 104) && decide (49 ≤ y.toNat) && decide (y.toNat ≤ 56) | _ => false) = true := by decide +kernel
  rw [sqB_true] at h
  obtain ⟨n, rfl⟩ := Int.eq_ofNat_of_zero_le h.1
  have := key ⟨n, by omega⟩
  split at this
  · rename_i x y hxy
    simp only [Bool.and_eq_true, decide_eq_true_eq] at this
    exact ⟨x, y, hxy, this.1.1.1, this.1.1.2, this.1.2, this.2⟩
  · cases this
theorem sqM_inj {a b : Int} (ha : sqB a = true) (hb : sqB b = true) (h : sqM a = sqM b) : a = b := by
  have e : textZ a = textZ b := by rw [sqM_bz, sqM_bz, h]
  have h1 := (parse_text a ha).2.1
  rw [e, (parse_text b hb).2.1] at h1
  exact h1.symm
theorem sqM_back {s : Int} (h : sqB s = true) : parseZ (bz (sqM s)) = s := by rw [← sqM_bz]; exact (parse_text s h).2.1
/-- The text of two squares. -/
def enL (f t : Int) : List UInt8 := bif sqB f && sqB t && (f != t) then sqM f ++ sqM t else []
theorem enL_yes {f t : Int} (h : (sqB f && sqB t && (f != t)) = true) : enL f t = sqM f ++ sqM t := by unfold enL; rw [h]; rfl
theorem enL_ne {f t : Int} (h : (sqB f && sqB t && (f != t)) = true) : enL f t ≠ [] := by
  rw [enL_yes h]
  simp only [Bool.and_eq_true] at h
  obtain ⟨x, y, e, _⟩ := sqM_two h.1.1
  rw [e]; simp
theorem enL_no {f t : Int} (h : (sqB f && sqB t && (f != t)) = false) : enL f t = [] := by unfold enL; rw [h]; rfl
def hmZ (p : Nat → Int) (k : Int) : Int := bif lnB k then 56 * p 78 + k else -1
def sdN (f t : Int) : Nat := bif decide (f < t) then 0 else 1
def roP (p : Nat → Int) (d : Nat) : Int := p (79 + (p 78).toNat * 2 + d)
def stB (p : Nat → Int) (s k : Int) : Bool := p (1 + s.toNat) == mkZ (p 78) k
def goZ (d : Nat) : Int := bif d == 0 then 6 else 2
def csB (p : Nat → Int) (f t : Int) : Bool := (sqB f && sqB t && (f != t)) && stB p f 6 && (bif p 0 == 1 then stB p t 4 else (f == hmZ p 4) && (t == hmZ p (roP p (sdN f t))))
def csG (p : Nat → Int) (f t : Int) : List UInt8 := bif p 0 == 1 then enL f t else enL f (hmZ p (goZ (sdN f t)))
/-- A castling's text. -/
def csT (p : Nat → Int) (m : Mv) : List UInt8 := bif (m.pr == 0) && csB p m.f m.t then csG p m.f m.t else []
/-- From and To, read; what is behind them. -/
def rdE (l : List UInt8) : Mv × List UInt8 := match l with
  | a :: b :: c :: d :: r => (⟨parseZ (bz [a, b]), parseZ (bz [c, d]), 0, 0, false⟩, r)
  | _ => (mv0, [])
def coM (p : Nat → Int) (l : List UInt8) : Mv := ⟨(rdE l).1.f, bif p 0 == 1 then (rdE l).1.t else hmZ p (roP p (sdN (rdE l).1.f (rdE l).1.t)), 0, 0, true⟩
def isW (w l : List UInt8) : Bool := !w.isEmpty && (w == l)
def coB (p : Nat → Int) (l : List UInt8) : Bool := isW (csT p (coM p l)) l
def plT (p : Nat → Int) (m : Mv) : List UInt8 := bif (sqB m.f && sqB m.t && (m.f != m.t)) && !((m.pr == 1) || decide (6 < m.pr)) then (bif coB p (enL m.f m.t ++ leF (mkZ 1 m.pr)) then [] else enL m.f m.t ++ leF (mkZ 1 m.pr)) else []
def drB (m : Mv) : Bool := sqB m.f && (m.t == m.f) && (m.pr == 0) && !m.ca && mkB 0 m.dr && (m.dr != 6)
def drT (m : Mv) : List UInt8 := bif drB m then leF (mkZ 0 m.dr) ++ 64 :: sqM m.f else []
def smB (p : Nat → Int) : Bool := decide (p 0 < 9) && decide (p 78 ≤ 1)
/-- A move's text in a position; the empty one, if it has none. -/
def mvT (p : Nat → Int) (m : Mv) : List UInt8 := bif smB p then (bif m.dr != 0 then drT m else bif m.ca then csT p m else plT p m) else []
def kdL (l : List UInt8) : Int := kndZ (prsZ (bz l))
def plM (l : List UInt8) : Mv := ⟨(rdE l).1.f, (rdE l).1.t, kdL (rdE l).2, 0, false⟩
def drM (l : List UInt8) : Mv := ⟨parseZ (bz (cutB 64 l)), parseZ (bz (cutB 64 l)), 0, kdL (cutA 64 l), false⟩
/-- What a text is read as, in a position whose variant and Turn are some. -/
def mvR (p : Nat → Int) (l : List UInt8) : Option Mv := bif coB p l then some (coM p l) else bif isW (mvT p (plM l)) l then some (plM l) else bif isW (mvT p (drM l)) l then some (drM l) else none
def mvP (p : Nat → Int) (l : List UInt8) : Option Mv := bif smB p then mvR p l else none

theorem isW_true {w l : List UInt8} : isW w l = true ↔ w = l ∧ l ≠ [] := by
  unfold isW
  rw [Bool.and_eq_true, beq_iff_eq, Bool.not_eq_true', List.isEmpty_eq_false_iff]
  constructor
  · rintro ⟨h1, rfl⟩; exact ⟨rfl, h1⟩
  · rintro ⟨rfl, h1⟩; exact ⟨h1, rfl⟩
theorem isW_false {w l : List UInt8} (h : w ≠ l) : isW w l = false := by
  cases e : isW w l
  · rfl
  · exact absurd (isW_true.1 e).1 h
theorem rdE_sq {f t : Int} {r : List UInt8} (hf : sqB f = true) (ht : sqB t = true) : rdE (sqM f ++ sqM t ++ r) = (⟨f, t, 0, 0, false⟩, r) := by
  have b1 := sqM_back hf
  have b2 := sqM_back ht
  obtain ⟨x, y, e1, _⟩ := sqM_two hf
  obtain ⟨z, u, e2, _⟩ := sqM_two ht
  rw [e1] at b1 ⊢
  rw [e2] at b2 ⊢
  show ((⟨parseZ (bz [x, y]), parseZ (bz [z, u]), 0, 0, false⟩ : Mv), r) = _
  rw [b1, b2]
theorem rdE_en {f t : Int} (h : (sqB f && sqB t && (f != t)) = true) : rdE (enL f t) = (⟨f, t, 0, 0, false⟩, []) := by
  rw [enL_yes h]
  simp only [Bool.and_eq_true] at h
  have := rdE_sq (r := []) h.1.1 h.1.2
  rwa [List.append_nil] at this
theorem hm_sq {p : Nat → Int} (hs : smB p = true) (h0 : 0 ≤ p 78) {k : Int} (h : lnB k = true) : sqB (hmZ p k) = true ∧ hmZ p k = 56 * p 78 + k := by
  unfold smB at hs
  simp only [Bool.and_eq_true, decide_eq_true_eq] at hs
  have e : hmZ p k = 56 * p 78 + k := by unfold hmZ; rw [h]; rfl
  rw [lnB_true] at h
  refine ⟨sqB_true.2 ?_, e⟩
  rw [e]
  have : p 78 = 0 ∨ p 78 = 1 := by omega
  rcases this with g | g <;> rw [g] <;> omega
/-- A castling is read from its text. -/
theorem co_back {p : Nat → Int} (hs : smB p = true) (h0 : 0 ≤ p 78) {m : Mv} {l : List UInt8} (h : csT p m = l) (hl : l ≠ []) : coM p l = ⟨m.f, m.t, 0, 0, true⟩ ∧ m.pr = 0 ∧ csB p m.f m.t = true := by
  unfold csT at h
  cases hc : ((m.pr == 0) && csB p m.f m.t)
  · rw [hc] at h; exact absurd h.symm hl
  · rw [hc] at h
    have h : csG p m.f m.t = l := h
    rw [Bool.and_eq_true, beq_iff_eq] at hc
    obtain ⟨hpr, hb⟩ := hc
    have hb0 := hb
    refine ⟨?_, hpr, hb0⟩
    unfold csB at hb
    rw [Bool.and_eq_true, Bool.and_eq_true] at hb
    obtain ⟨⟨hsq, hk⟩, hv⟩ := hb
    unfold csG at h
    cases hv1 : (p 0 == 1)
    · rw [hv1] at h hv
      have h : enL m.f (hmZ p (goZ (sdN m.f m.t))) = l := h
      have hv : ((m.f == hmZ p 4) && (m.t == hmZ p (roP p (sdN m.f m.t)))) = true := hv
      rw [Bool.and_eq_true, beq_iff_eq, beq_iff_eq] at hv
      obtain ⟨q1, q2⟩ := hm_sq hs h0 (k := 4) rfl
      have hg : lnB (goZ (sdN m.f m.t)) = true ∧ (goZ (sdN m.f m.t) = 6 ∧ sdN m.f m.t = 0 ∨ goZ (sdN m.f m.t) = 2 ∧ sdN m.f m.t = 1) := by
        unfold sdN
        cases decide (m.f < m.t)
        · exact ⟨rfl, Or.inr ⟨rfl, rfl⟩⟩
        · exact ⟨rfl, Or.inl ⟨rfl, rfl⟩⟩
      obtain ⟨hg1, hg2⟩ := hg
      obtain ⟨q3, q4⟩ := hm_sq hs h0 hg1
      have hne : (sqB m.f && sqB (hmZ p (goZ (sdN m.f m.t))) && (m.f != hmZ p (goZ (sdN m.f m.t)))) = true := by
        have ef : m.f = 56 * p 78 + 4 := hv.1.trans q2
        have e1 : sqB m.f = true := by rw [hv.1]; exact q1
        have nq : m.f ≠ hmZ p (goZ (sdN m.f m.t)) := by
          intro e; rw [q4] at e
          rcases hg2 with ⟨g, _⟩ | ⟨g, _⟩ <;> rw [g] at e <;> omega
        rw [e1, q3, bne_iff_ne.2 nq]; rfl
      have hr := rdE_en hne
      rw [h] at hr
      have hsd : sdN m.f (hmZ p (goZ (sdN m.f m.t))) = sdN m.f m.t := by
        rw [q4, hv.1, q2]
        rw [hv.1, q2] at hg2
        rcases hg2 with ⟨e1, e2⟩ | ⟨e1, e2⟩
        · rw [e1, e2]; unfold sdN; rw [decide_eq_true (show 56 * p 78 + 4 < 56 * p 78 + 6 by omega)]; rfl
        · rw [e1, e2]; unfold sdN; rw [decide_eq_false (show ¬ 56 * p 78 + 4 < 56 * p 78 + 2 by omega)]; rfl
      unfold coM
      rw [hr, hv1]
      refine Mv.ext' rfl ?_ rfl rfl rfl
      show hmZ p (roP p (sdN m.f (hmZ p (goZ (sdN m.f m.t))))) = m.t
      rw [hsd]; exact hv.2.symm
    · rw [hv1] at h
      have h : enL m.f m.t = l := h
      have hr := rdE_en hsq
      rw [h] at hr
      unfold coM
      rw [hr, hv1]
      rfl
theorem co_yes {p : Nat → Int} {l : List UInt8} (h : coB p l = true) : csT p (coM p l) = l ∧ l ≠ [] := isW_true.1 h
theorem co_of {p : Nat → Int} (hs : smB p = true) (h0 : 0 ≤ p 78) {m : Mv} {l : List UInt8} (h : csT p m = l) (hl : l ≠ []) : coB p l = true := by
  obtain ⟨e, hpr, hb⟩ := co_back hs h0 h hl
  unfold coB
  rw [e]
  refine isW_true.2 ⟨?_, hl⟩
  rw [← h]
  unfold csT
  rw [hb, show (m.pr == 0) = true by simpa using hpr]
  rfl
/-- A castling's text begins with a square's. -/
theorem cs_head {p : Nat → Int} {m : Mv} {l : List UInt8} (h : csT p m = l) (hl : l ≠ []) : ∃ x y r, l = x :: y :: r ∧ 97 ≤ x.toNat ∧ 49 ≤ y.toNat ∧ y.toNat ≤ 56 := by
  have en : ∀ f t, enL f t = l → ∃ x y r, l = x :: y :: r ∧ 97 ≤ x.toNat ∧ 49 ≤ y.toNat ∧ y.toNat ≤ 56 := fun f t e => by
    cases hc : (sqB f && sqB t && (f != t))
    · rw [enL_no hc] at e; exact absurd e.symm hl
    · rw [enL_yes hc] at e
      simp only [Bool.and_eq_true] at hc
      obtain ⟨x, y, e1, b1, b2, b3, b4⟩ := sqM_two hc.1.1
      rw [e1] at e
      exact ⟨x, y, sqM t, e.symm, b1, b3, b4⟩
  unfold csT at h
  cases hc : ((m.pr == 0) && csB p m.f m.t)
  · rw [hc] at h; exact absurd h.symm hl
  · rw [hc] at h
    have h : csG p m.f m.t = l := h
    unfold csG at h
    cases hv1 : (p 0 == 1) <;> rw [hv1] at h
    · exact en _ _ h
    · exact en _ _ h
theorem pl_parts {p : Nat → Int} {m : Mv} {l : List UInt8} (h : plT p m = l) (hl : l ≠ []) : (sqB m.f && sqB m.t && (m.f != m.t)) = true ∧ m.pr ≠ 1 ∧ m.pr ≤ 6 ∧ coB p l = false ∧ l = enL m.f m.t ++ leF (mkZ 1 m.pr) := by
  unfold plT at h
  cases hc : ((sqB m.f && sqB m.t && (m.f != m.t)) && !((m.pr == 1) || decide (6 < m.pr)))
  · rw [hc] at h; exact absurd h.symm hl
  · rw [hc] at h
    have h : (bif coB p (enL m.f m.t ++ leF (mkZ 1 m.pr)) then [] else enL m.f m.t ++ leF (mkZ 1 m.pr)) = l := h
    cases hco : coB p (enL m.f m.t ++ leF (mkZ 1 m.pr))
    · rw [hco] at h
      have h : enL m.f m.t ++ leF (mkZ 1 m.pr) = l := h
      rw [Bool.and_eq_true, Bool.not_eq_true', Bool.or_eq_false_iff] at hc
      refine ⟨hc.1, by simpa using hc.2.1, ?_, by rw [← h]; exact hco, h.symm⟩
      have := of_decide_eq_false hc.2.2; omega
    · rw [hco] at h; exact absurd h.symm hl
theorem kd_back {k : Int} (h0 : 0 ≤ k) (h1 : k ≠ 1) (h6 : k ≤ 6) : kdL (leF (mkZ 1 k)) = k := by
  have key : ∀ n : Nat, n < 7 → n ≠ 1 → kdL (leF (mkZ 1 (n : Int))) = (n : Int) := by decide +kernel
  obtain ⟨n, rfl⟩ := Int.eq_ofNat_of_zero_le h0
  exact key n (by omega) (by omega)
theorem pl_back {p : Nat → Int} {m : Mv} {l : List UInt8} (h : plT p m = l) (hl : l ≠ []) (h0 : 0 ≤ m.pr) : plM l = ⟨m.f, m.t, m.pr, 0, false⟩ := by
  obtain ⟨hc, h1, h6, hco, e⟩ := pl_parts h hl
  have hc' := hc
  simp only [Bool.and_eq_true] at hc'
  rw [enL_yes hc] at e
  have hr := rdE_sq (r := leF (mkZ 1 m.pr)) hc'.1.1 hc'.1.2
  rw [← e] at hr
  unfold plM
  rw [hr]
  exact Mv.ext' rfl rfl (kd_back h0 h1 h6) rfl rfl
theorem dr_parts {m : Mv} {l : List UInt8} (h : drT m = l) (hl : l ≠ []) : sqB m.f = true ∧ m.t = m.f ∧ m.pr = 0 ∧ m.ca = false ∧ 1 ≤ m.dr ∧ m.dr ≤ 5 ∧ l = leF (mkZ 0 m.dr) ++ 64 :: sqM m.f := by
  unfold drT at h
  cases hc : drB m
  · rw [hc] at h; exact absurd h.symm hl
  · rw [hc] at h
    unfold drB at hc
    simp only [Bool.and_eq_true, beq_iff_eq, Bool.not_eq_true', bne_iff_ne, ne_eq] at hc
    obtain ⟨⟨⟨⟨⟨c1, c2⟩, c3⟩, c4⟩, c5⟩, c6⟩ := hc
    rw [mkB_true] at c5
    exact ⟨c1, c2, c3, c4, c5.2.1, by omega, h.symm⟩
theorem dr_let {k : Int} (h1 : 1 ≤ k) (h5 : k ≤ 5) : ∃ x : UInt8, leF (mkZ 0 k) = [x] ∧ (64 == x) = false ∧ kdL [x] = k ∧ x.toNat < 97 := by
  have key : ∀ n : Nat, n < 6 → 1 ≤ n → (match leF (mkZ 0 (n : Int)) with | [x] => !(64 == x) && (kdL [x] == (n : Int)) && decide (x.toNat < 97) | _ => false) = true := by decide +kernel
  obtain ⟨n, rfl⟩ := Int.eq_ofNat_of_zero_le (show 0 ≤ k by omega)
  have := key n (by omega) (by omega)
  split at this
  · rename_i x hx
    simp only [Bool.and_eq_true, Bool.not_eq_true', beq_iff_eq, decide_eq_true_eq] at this
    exact ⟨x, hx, this.1.1, this.1.2, this.2⟩
  · cases this
theorem dr_back {m : Mv} {l : List UInt8} (h : drT m = l) (hl : l ≠ []) : drM l = m ∧ ∃ x r, l = x :: 64 :: r ∧ x.toNat < 97 := by
  obtain ⟨c1, c2, c3, c4, c5, c6, e⟩ := dr_parts h hl
  obtain ⟨x, e1, e2, e3, e4⟩ := dr_let c5 c6
  rw [e1] at e
  have e : l = x :: 64 :: sqM m.f := e
  refine ⟨?_, x, sqM m.f, e, e4⟩
  have a1 : cutA 64 l = [x] := by rw [e]; unfold cutA; rw [e2]; rfl
  have a2 : cutB 64 l = sqM m.f := by rw [e]; unfold cutB; rw [e2]; rfl
  unfold drM
  rw [a1, a2, sqM_back c1]
  exact Mv.ext' rfl c2.symm c3.symm e3 c4.symm
/-- A move that has a text is read from it. -/
theorem mv_back {p : Nat → Int} (h0 : 0 ≤ p 78) {m : Mv} {l : List UInt8} (hp : 0 ≤ m.pr) (h : mvT p m = l) (hl : l ≠ []) : mvP p l = some m := by
  have h' := h
  unfold mvT at h
  cases hs : smB p
  · rw [hs] at h; exact absurd h.symm hl
  · rw [hs] at h
    unfold mvP
    rw [hs]
    show mvR p l = some m
    unfold mvR
    have h : (bif m.dr != 0 then drT m else bif m.ca then csT p m else plT p m) = l := h
    cases hd : (m.dr != 0)
    · rw [hd] at h
      have hdr : m.dr = 0 := by simpa using hd
      have h : (bif m.ca then csT p m else plT p m) = l := h
      cases hca : m.ca
      · rw [hca] at h
        obtain ⟨c1, c2, c3, c4, c5⟩ := pl_parts h hl
        have e : plM l = m := (pl_back h hl hp).trans (Mv.ext' rfl rfl rfl hdr.symm hca.symm)
        rw [c4, e, isW_true.2 ⟨h', hl⟩]; rfl
      · rw [hca] at h
        obtain ⟨e, hpr, hb⟩ := co_back hs h0 h hl
        rw [co_of hs h0 h hl, e]
        exact congrArg some (Mv.ext' rfl rfl hpr.symm hdr.symm hca.symm)
    · rw [hd] at h
      have h : drT m = l := h
      obtain ⟨e, x, r, el, hx⟩ := dr_back h hl
      have n1 : coB p l = false := by
        cases hc : coB p l
        · rfl
        · obtain ⟨g1, g2⟩ := co_yes hc
          obtain ⟨x', y', r', g3, g4, _⟩ := cs_head g1 g2
          rw [el] at g3
          have : x = x' := List.head_eq_of_cons_eq g3
          subst this; omega
      have n2 : isW (mvT p (plM l)) l = false := by
        cases hc : isW (mvT p (plM l)) l
        · rfl
        · obtain ⟨g1, g2⟩ := isW_true.1 hc
          unfold mvT at g1
          rw [hs] at g1
          have g1 : plT p (plM l) = l := g1
          obtain ⟨c1, c2, c3, c4, c5⟩ := pl_parts g1 g2
          rw [enL_yes c1] at c5
          simp only [Bool.and_eq_true] at c1
          obtain ⟨a, b, k1, k2, _⟩ := sqM_two c1.1.1
          rw [k1, el] at c5
          have : x = a := List.head_eq_of_cons_eq c5
          subst this; omega
      rw [n1, n2, e, isW_true.2 ⟨h', hl⟩]; rfl
/-- What is read has that text. -/
theorem mv_text {p : Nat → Int} {m : Mv} {l : List UInt8} (h : mvP p l = some m) : mvT p m = l ∧ l ≠ [] ∧ smB p = true := by
  unfold mvP at h
  cases hs : smB p
  · rw [hs] at h; cases h
  · rw [hs] at h
    have h : mvR p l = some m := h
    unfold mvR at h
    cases h1 : coB p l
    · rw [h1] at h
      have h : (bif isW (mvT p (plM l)) l then some (plM l) else bif isW (mvT p (drM l)) l then some (drM l) else none) = some m := h
      cases h2 : isW (mvT p (plM l)) l
      · rw [h2] at h
        have h : (bif isW (mvT p (drM l)) l then some (drM l) else none) = some m := h
        cases h3 : isW (mvT p (drM l)) l
        · rw [h3] at h; cases h
        · rw [h3] at h
          obtain rfl : drM l = m := Option.some.inj h
          exact ⟨(isW_true.1 h3).1, (isW_true.1 h3).2, rfl⟩
      · rw [h2] at h
        obtain rfl : plM l = m := Option.some.inj h
        exact ⟨(isW_true.1 h2).1, (isW_true.1 h2).2, rfl⟩
    · rw [h1] at h
      obtain rfl : coM p l = m := Option.some.inj h
      refine ⟨?_, (isW_true.1 h1).2, rfl⟩
      unfold mvT
      rw [hs]
      exact (isW_true.1 h1).1
end Go.Proofs.YtnogmogmlilpiaaDoor
