/-
 Several texts in one: LgR, LgU.
-/
import Derived.Test.YteblmnbagbdiiaaGreatDoorLgG
import Derived.Test.YteblmnbagbdiiaaGreatDoorAfGrE
/-
 Layer 17: whose turn it is behind a move, in which variant; what the moves that may be leave.
-/
namespace Go.Proofs.YteblmnbagbdiiaaGreatDoor
open Go.RowKit
set_option linter.unusedVariables false
set_option linter.unusedSimpArgs false

theorem clr_out : ∀ (l : List Nat) (p : Nat → Int) {i : Nat}, (i = 0 ∨ 65 ≤ i) → clrL p l i = p i
 | [], _, _, _ => rfl
 | s :: l, p, i, h => (clr_out l _ h).trans (putP_out h)
theorem bla_out {p : Nat → Int} (c : Ch) {i : Nat} (h : i = 0 ∨ 65 ≤ i) : blaA p c i = p i := by
 unfold blaA
 cases ((p 0 == 3) && !(c.k == -1))
 ·rfl
 ·exact clr_out _ _ h
theorem mar_out (p : Nat → Int) (s : Int) {i : Nat} (h : i ≠ 65) : markA p s i = p i := upd_other _ _ _ _ h
theorem unm_out (p : Nat → Int) (s : Int) {i : Nat} (h : i ≠ 65) : unmA p s i = p i := upd_other _ _ _ _ h
theorem poc_out {p : Nat → Int} {c : Ch} (hc : ChR p c) {i : Nat} (h : i = 0 ∨ i = 78) : pocA p c i = p i := by
 have h5 : i ≠ 65 := by omega
 have ha : ∀ k, addP p (p 78) k i = p i := fun k => by
  rcases h with rfl | rfl
  ·unfold addP
   cases (hasP (p 78) k && decide (p (pkJ (p 78) k) < 255))
   ·rfl
   ·exact upd_other _ _ _ _ (by unfold pkJ; omega)
  ·exact (hc.wf.add k hc.t0).2
 unfold pocA
 cases p 0 == 2
 ·rfl
 ·cases c.m.dr == 0
  ·rfl
  ·cases c.m.ca
   ·show carM (addP p (p 78) (kepZ p c)) c i = _
    unfold carM
    cases (hasN (proN (addP p (p 78) (kepZ p c))) c.m.f || !(c.m.pr == 0))
    ·exact (unm_out _ _ h5).trans ((unm_out _ _ h5).trans (ha _))
    ·exact (mar_out _ _ h5).trans ((unm_out _ _ h5).trans ((unm_out _ _ h5).trans (ha _)))
   ·show carR p c i = _
    unfold carR
    cases hasN (proN p) c.m.t
    ·rfl
    ·exact (mar_out _ _ h5).trans (unm_out _ _ h5)
theorem men_out {p : Nat → Int} {c : Ch} (hc : ChR p c) {i : Nat} (h : i = 0 ∨ i = 78) : menA p c i = p i := by
 have h' : i = 0 ∨ 65 ≤ i := by omega
 unfold menA
 cases c.m.ca
 ·cases c.m.dr == 0
  ·show putP (takP p (p 78) c.m.dr) c.m.t c.x i = _
   refine (putP_out h').trans ?_
   rcases h with rfl | rfl
   ·exact tak_bd (by decide)
   ·exact (hc.wf.tak _ hc.t0).2
  ·exact (putP_out h').trans ((putP_out h').trans (putP_out h'))
 ·exact (putP_out h').trans ((putP_out h').trans ((putP_out h').trans (putP_out h')))
theorem six_out {p : Nat → Int} {c : Ch} (hc : ChR p c) {i : Nat} (h : i = 0 ∨ i = 78) : cloA (pasA (rigA (blaA (pocA (menA p c) c) c) c) c) c i = p i := by
 rw [clo_out c (by omega), pas_out c (by omega), rig_out c (by omega), bla_out c (by omega), poc_out hc.men h, men_out hc h]
theorem mov_0 {p : Nat → Int} (hp : WfP p) (m : Mv) : movP p m 0 = p 0 := by
 unfold movP
 cases h : movB p m
 ·rfl
 ·show turA (cloA (pasA (rigA (blaA (pocA (menA p _) _) _) _) _) _) 0 = p 0
  rw [tur_bd (by decide), six_out (chR_of hp h) (Or.inl rfl)]
theorem mov_78 {p : Nat → Int} (hp : WfP p) {m : Mv} (h : movB p m = true) : movP p m 78 = oth (p 78) ∧ (p 78 = 0 ∨ p 78 = 1) := by
 have hc := chR_of hp h
 refine ⟨?_, hc.turn⟩
 unfold movP
 rw [h]
 show turA (cloA (pasA (rigA (blaA (pocA (menA p (begA p m)) (begA p m)) (begA p m)) (begA p m)) (begA p m)) (begA p m)) 78 = _
 obtain ⟨q, hq⟩ : ∃ q, cloA (pasA (rigA (blaA (pocA (menA p (begA p m)) (begA p m)) (begA p m)) (begA p m)) (begA p m)) (begA p m) = q := ⟨_, rfl⟩
 have e : q 78 = p 78 := by rw [← hq]; exact six_out hc (Or.inr rfl)
 rw [hq, ← e]
 unfold turA
 cases (q 0 == 5) && chkB (upd q 78 (oth (q 78))) (oth (q 78))
 ·exact upd_same _ _ _
 ·exact (upd_other _ _ _ _ (by omega)).trans (upd_same _ _ _)
theorem oth_oth {t : Int} (h : t = 0 ∨ t = 1) : oth (oth t) = t := by rcases h with rfl | rfl <;> decide
def anyK (q : Nat → Int) (x : Int) (j : Nat) : Bool := (List.range j).any fun i => q (1 + i) == x
theorem anyK_succ (q : Nat → Int) (x : Int) (j : Nat) : anyK q x (j + 1) = (anyK q x j || (q (1 + j) == x)) := by
 unfold anyK
 rw [List.range_succ, List.any_append]; simp
theorem wan_wel {p : Nat → Int} {m : Mv} (h : wanL p m = true) : welL p m = true := by
 unfold wanL at h
 cases e : antL p
 ·rw [e] at h; exact h
 ·rw [e] at h
  have h : tkwL p m = true := h
  unfold tkwL at h
  exact (Bool.and_eq_true _ _ ▸ h).2
theorem ls_mem {p : Nat → Int} {m : Mv} (h : m ∈ lsL p) : m ∈ afL p ∧ wanL p m = true := by
 unfold lsL at h
 cases e : rsB (wonZ p) (0, 0)
 ·rw [e] at h; cases h
 ·rw [e] at h
  exact List.mem_filter.1 h
theorem ls_len (p : Nat → Int) : (lsL p).length ≤ 1000000 := by
 unfold lsL
 cases rsB (wonZ p) (0, 0)
 ·exact Nat.zero_le _
 ·exact wou_len p
theorem ls_fit {p : Nat → Int} (hp : WfP p) {m : Mv} (h : m ∈ lsL p) : FitV m := af_fit hp (ls_mem h).1
theorem ls_wel {p : Nat → Int} {m : Mv} (h : m ∈ lsL p) : movB p m = true ∧ okL (movP p m) = true := by
 have := wan_wel (ls_mem h).2
 unfold welL at this
 exact Bool.and_eq_true _ _ ▸ this
theorem ls_kings {p : Nat → Int} (hp : WfP p) {m : Mv} (h : m ∈ lsL p) {t : Int} (ht : p 78 = t) :
  (ryB (p 0).toNat t.toNat = true → hkB (movP p m) t = true ∧ (chkB (movP p m) t = true → p 0 = 3 ∧ hkB (movP p m) (oth t) = false)) ∧ (p 0 = 8 → chkB (movP p m) 0 = false ∧ chkB (movP p m) 1 = false) := by
 obtain ⟨h1, h2⟩ := ls_wel h
 obtain ⟨e78, hturn⟩ := mov_78 hp h1
 have e0 := mov_0 hp m
 obtain ⟨q, hq⟩ : ∃ q, movP p m = q := ⟨_, rfl⟩
 rw [hq] at h2 e78 e0 ⊢
 rw [ht] at hturn e78
 have eo : oth (q 78) = t := by rw [e78, oth_oth hturn]
 unfold okL at h2
 rw [eo, e0] at h2
 rw [Bool.and_eq_true] at h2
 obtain ⟨h3, h4⟩ := h2
 have hs : ryB (p 0).toNat t.toNat = true → hkB q t = true ∧ (chkB q t = true → p 0 = 3 ∧ hkB q (oth t) = false) := fun hr => by
  rw [hr] at h3
  have h3 : safL q t = true := by simpa using h3
  unfold safL at h3
  rw [Bool.and_eq_true] at h3
  refine ⟨h3.1, fun hc => ?_⟩
  have h5 := h3.2
  rw [hc, e0] at h5
  simp only [Bool.not_true, Bool.false_or, Bool.and_eq_true, beq_iff_eq, Bool.not_eq_true'] at h5
  exact h5
 refine ⟨hs, fun h8 => ?_⟩
 have hr : ryB (p 0).toNat t.toNat = true := by rw [h8]; rcases hturn with rfl | rfl <;> decide
 have hc : chkB q t = false := by
  cases hc : chkB q t
  ·rfl
  ·have := ((hs hr).2 hc).1; omega
 have hc2 : chkB q (oth t) = false := by
  rw [h8] at h4
  rw [← e78]
  simpa using h4
 rcases hturn with rfl | rfl
 ·exact ⟨hc, hc2⟩
 ·exact ⟨hc2, hc⟩
theorem ofB_6 {c x : Int} (hc : c = 0 ∨ c = 1) : ofB c 6 x = (x == 8 * c + 6) := by
 rw [Bool.eq_iff_iff, beq_iff_eq]
 unfold ofB
 constructor
 ·intro h
  rw [Bool.and_eq_true, Bool.and_eq_true, Bool.or_eq_true, beq_iff_eq, beq_iff_eq, beq_iff_eq] at h
  obtain ⟨h1, h2, h3⟩ := h
  have h3 := h3.resolve_left (by decide)
  rw [colZ_yes h1] at h2
  rw [kndZ_yes h1] at h3
  omega
 ·rintro rfl
  rcases hc with rfl | rfl <;> decide +kernel
theorem hk_any {q : Nat → Int} {t : Int} (ht : t = 0 ∨ t = 1) : hkB q t = anyK q (8 * t + 6) 64 := by
 unfold hkB kingZ
 have hb : ∀ i, i < 64 → (ofN q t 6).testBit i = (q (1 + i) == 8 * t + 6) := fun i hi => by rw [ofN_testBit q t 6 i hi, ofB_6 ht]
 cases h : anyK q (8 * t + 6) 64
 ·rw [first_none (ofN_lt q t 6) (fun i hi => by
   rw [hb i hi]
   have := List.any_eq_false.1 h i (List.mem_range.2 hi)
   simpa using this)]
  rfl
 ·obtain ⟨i, hi, e⟩ := List.any_eq_true.1 h
  have hi := List.mem_range.1 hi
  have h1 := (hb i hi).trans e
  obtain ⟨e, _, he, _⟩ := first_spec (b := ofN q t 6) (by intro h0; rw [h0] at h1; simp at h1) (ofN_lt q t 6)
  rw [he]
  simp only [Bool.not_eq_true']
  exact beq_eq_false_iff_ne.2 (by omega)
end Go.Proofs.YteblmnbagbdiiaaGreatDoor
/-
 Layer 17: what a win is like; which of the moves that may be made may be.
-/
namespace Go.Proofs.YteblmnbagbdiiaaGreatDoor
open Go.RowKit
set_option linter.unusedVariables false
set_option linter.unusedSimpArgs false

theorem wins_wn (c y : Int) : ((wnZ c y).1 = 1 ∨ (wnZ c y).1 = 2) ∧ (wnZ c y).2 = y := by
 unfold wnZ
 cases c == 0 <;> simp
theorem wins_are {p : Nat → Int} {r : Int × Int} (h : wonZ p = r) : (r.1 = 0 ∧ r.2 = 0) ∨ (((r.1 = 1 ∨ r.1 = 2) ∨ (r.1 = 3 ∧ p 0 = 8)) ∧ (r.2 = 6 ∨ r.2 = 7 ∨ r.2 = 8) ∧ 3 ≤ p 0) := by
 have hw : ∀ c y, (y = 6 ∨ y = 7 ∨ y = 8) → 3 ≤ p 0 → wnZ c y = r → (r.1 = 0 ∧ r.2 = 0) ∨ (((r.1 = 1 ∨ r.1 = 2) ∨ (r.1 = 3 ∧ p 0 = 8)) ∧ (r.2 = 6 ∨ r.2 = 7 ∨ r.2 = 8) ∧ 3 ≤ p 0) := fun c y hy h3 e => by
  have := wins_wn c y
  rw [e] at this
  exact Or.inr ⟨Or.inl this.1, by rw [this.2]; exact hy, h3⟩
 have hg : ((0 : Int), (0 : Int)) = r → (r.1 = 0 ∧ r.2 = 0) ∨ (((r.1 = 1 ∨ r.1 = 2) ∨ (r.1 = 3 ∧ p 0 = 8)) ∧ (r.2 = 6 ∨ r.2 = 7 ∨ r.2 = 8) ∧ 3 ≤ p 0) := fun e => by subst e; exact Or.inl ⟨rfl, rfl⟩
 have hf : ∀ a y f, (y = 6 ∨ y = 7 ∨ y = 8) → 3 ≤ p 0 → firZ a y f = r → (r.1 = 0 ∧ r.2 = 0) ∨ (((r.1 = 1 ∨ r.1 = 2) ∨ (r.1 = 3 ∧ p 0 = 8)) ∧ (r.2 = 6 ∨ r.2 = 7 ∨ r.2 = 8) ∧ 3 ≤ p 0) := fun a y f hy h3 e => by
  unfold firZ at e
  cases h1 : f a
  ·rw [h1] at e
   cases h2 : f (oth a)
   ·rw [h2] at e; exact hg e
   ·rw [h2] at e; exact hw _ _ hy h3 e
  ·rw [h1] at e; exact hw _ _ hy h3 e
 unfold wonZ winZ at h
 cases h9 : decide (9 ≤ p 0) || decide (1 < p 78)
 ·rw [h9] at h
  cases h3 : p 0 == 3
  ·cases h4 : p 0 == 4
   ·cases h5 : p 0 == 5
    ·cases h6 : p 0 == 6
     ·cases h7 : p 0 == 7
      ·cases h8 : p 0 == 8
       ·rw [h3, h4, h5, h6, h7, h8] at h; exact hg h
       ·have e8 : p 0 = 8 := beq_iff_eq.1 h8
        rw [h3, h4, h5, h6, h7, h8] at h
        unfold racZ at h
        simp only [cond_true, cond_false] at h
        cases x0 : goaB p 0 <;> cases x1 : goaB p 1 <;> cases x2 : comB p <;> rw [x0, x1] at h <;> (try rw [x2] at h) <;> first
         | exact hg h
         | exact hw _ 6 (Or.inl rfl) (by omega) h
         | (have e : ((3 : Int), (6 : Int)) = r := h; subst e; exact Or.inr ⟨Or.inr ⟨rfl, e8⟩, Or.inl rfl, by omega⟩)
      ·have e7 : p 0 = 7 := beq_iff_eq.1 h7
       rw [h3, h4, h5, h6, h7] at h
       cases x0 : menB p 0 <;> rw [x0] at h
       ·exact hw 1 8 (Or.inr (Or.inr rfl)) (by omega) h
       ·exact hg h
     ·have e6 : p 0 = 6 := beq_iff_eq.1 h6
      rw [h3, h4, h5, h6] at h
      simp only [cond_true, cond_false] at h
      exact hf _ 6 _ (Or.inl rfl) (by omega) h
    ·have e5 : p 0 = 5 := beq_iff_eq.1 h5
     rw [h3, h4, h5] at h
     simp only [cond_true, cond_false] at h
     exact hf _ 7 _ (Or.inr (Or.inl rfl)) (by omega) h
   ·have e4 : p 0 = 4 := beq_iff_eq.1 h4
    rw [h3, h4] at h
    simp only [cond_true, cond_false] at h
    exact hf _ 8 _ (Or.inr (Or.inr rfl)) (by omega) h
  ·have e3 : p 0 = 3 := beq_iff_eq.1 h3
   rw [h3] at h
   cases x0 : hkB p (p 78) <;> rw [x0] at h
   ·exact hw _ 6 (Or.inl rfl) (by omega) h
   ·exact hg h
 ·rw [h9] at h; exact hg h
theorem list_won {p : Nat → Int} {r : Int × Int} (h : wonZ p = r) (h0 : r.1 ≠ 0) : lsL p = [] := by
 have e : rsB r (0, 0) = false := by
  unfold rsB
  rw [Bool.and_eq_false_iff]
  exact Or.inl (beq_eq_false_iff_ne.2 h0)
 unfold lsL
 rw [h, e]; rfl
theorem go_is {p : Nat → Int} {r : Int × Int} (h : wonZ p = r) : rsB r (0, 0) = !(r.1 != 0) := by
 have hw := wins_are h
 unfold rsB bne
 rw [Bool.not_not]
 by_cases e : r.1 = 0
 ·rcases hw with h | h
  ·rw [h.1, h.2]; rfl
  ·omega
 ·rw [beq_eq_false_iff_ne.2 e]; rfl
def fmL (p : Nat → Int) (m : Mv) : Bool := rsB (wonZ p) (0, 0) && wanL p m
theorem ls_filter (p : Nat → Int) : lsL p = (afL p).filter (fmL p) := by
 unfold lsL wouL
 cases e : rsB (wonZ p) (0, 0)
 ·rw [cond_false]
  refine (List.filter_eq_nil_iff.2 fun m _ => ?_).symm
  unfold fmL; rw [e]; simp
 ·rw [cond_true]
  congr 1
  funext m
  unfold fmL; rw [e]; simp
def forB (p : Nat → Int) (L : List Mv) : Bool := (p 0 == 4) && (match L with | [] => false | m :: _ => takZ p m != -1)
theorem for_yes {p : Nat → Int} (h : forB p (lsL p) = true) : antL p = true := by
 unfold forB at h
 rw [Bool.and_eq_true] at h
 obtain ⟨h4, h⟩ := h
 obtain ⟨L, hL⟩ : ∃ L, lsL p = L := ⟨_, rfl⟩
 rw [hL] at h
 rcases L with _ | ⟨m, l⟩
 ·cases h
 ·have hm : m ∈ lsL p := by rw [hL]; simp
  obtain ⟨ha, hw⟩ := ls_mem hm
  unfold antL
  rw [h4, Bool.true_and]
  refine List.any_eq_true.2 ⟨m, ha, ?_⟩
  unfold tkwL
  rw [wan_wel hw, Bool.and_true]
  exact h
theorem for_tak {p : Nat → Int} (h : forB p (lsL p) = true) {m : Mv} (hm : m ∈ lsL p) : (takZ p m != -1) = true := by
 have hw := (ls_mem hm).2
 unfold wanL at hw
 rw [for_yes h, cond_true] at hw
 unfold tkwL at hw
 exact (Bool.and_eq_true _ _ ▸ hw).1
theorem for_not {p : Nat → Int} {m : Mv} (h1 : rsB (wonZ p) (0, 0) = true) (h2 : welL p m = true) (h3 : wanL p m = false) : forB p (lsL p) = true ∧ (takZ p m != -1) = false := by
 have ha : antL p = true := by
  cases e : antL p
  ·unfold wanL at h3; rw [e, cond_false, h2] at h3; cases h3
  ·rfl
 have hw : ∀ m, wanL p m = tkwL p m := fun m => by unfold wanL; rw [ha, cond_true]
 have h4 := ha
 unfold antL at h4
 rw [Bool.and_eq_true] at h4
 obtain ⟨m1, hm1, ht1⟩ := List.any_eq_true.1 h4.2
 have hmem : m1 ∈ lsL p := by
  unfold lsL; rw [h1, cond_true]
  exact List.mem_filter.2 ⟨hm1, by rw [hw]; exact ht1⟩
 obtain ⟨L, hL⟩ : ∃ L, lsL p = L := ⟨_, rfl⟩
 refine ⟨?_, ?_⟩
 ·unfold forB
  rw [h4.1, Bool.true_and, hL]
  rcases L with _ | ⟨m0, l⟩
  ·rw [hL] at hmem; cases hmem
  ·have h0 : m0 ∈ lsL p := by rw [hL]; simp
   have := (ls_mem h0).2
   rw [hw] at this
   unfold tkwL at this
   exact (Bool.and_eq_true _ _ ▸ this).1
 ·rw [hw] at h3
  unfold tkwL at h3
  rw [h2, Bool.and_true] at h3
  exact h3
theorem ptr_split {α : Type} (f : α → Bool) (A : List α) (i : Nat) : A.filter f = (A.take i).filter f ++ (A.drop i).filter f := by rw [← List.filter_append, List.take_append_drop]
theorem ptr_yes {α : Type} {f : α → Bool} {A : List α} {i : Nat} {x : α} (h : A[i]? = some x) (hf : f x = true) : (A.filter f)[((A.take i).filter f).length]? = some x := by
 obtain ⟨hi, e⟩ := List.getElem?_eq_some_iff.1 h
 rw [ptr_split f A i, List.getElem?_append_right (Nat.le_refl _), Nat.sub_self, List.drop_eq_getElem_cons hi, e, List.filter_cons, if_pos hf]; rfl
theorem ptr_succ {α : Type} {f : α → Bool} {A : List α} {i : Nat} {x : α} (h : A[i]? = some x) : ((A.take (i + 1)).filter f).length = ((A.take i).filter f).length + (if f x = true then 1 else 0) := by
 rw [take_filter h, List.length_append]
 cases f x <;> rfl
theorem ptr_le {α : Type} (f : α → Bool) (A : List α) (i : Nat) : ((A.take i).filter f).length ≤ (A.filter f).length := by
 rw [ptr_split f A i, List.length_append]; omega
end Go.Proofs.YteblmnbagbdiiaaGreatDoor
