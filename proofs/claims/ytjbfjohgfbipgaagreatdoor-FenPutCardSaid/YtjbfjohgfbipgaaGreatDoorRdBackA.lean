/-
  Several texts in one: RdBack, RdBackB, RdBackC.
-/
import Derived.Test.YtjbfjohgfbipgaaGreatDoorRdPars
import Derived.Test.YtjbfjohgfbipgaaGreatDoorFnBackA
import Derived.Lib.AtoiAllCases
/-
  There and back (layer 10): the program's reader reads what is written: bytes, ranks, the board. Plain facts.
-/
namespace Go.Proofs.YtjbfjohgfbipgaaGreatDoor
open Go.RowKit
set_option linter.unusedVariables false
set_option linter.unusedSimpArgs false

/-! Bytes that may stand in a field. -/
def plB (x : UInt8) : Bool := (decide (48 ≤ x.toNat) && decide (x.toNat ≤ 57)) || (decide (65 ≤ x.toNat) && decide (x.toNat ≤ 82)) || (decide (97 ≤ x.toNat) && decide (x.toNat ≤ 114)) || decide (x.toNat = 126)
theorem leF_pl (x : Int) : (leF x).all plB = true := by
  cases h : pcB x
  · unfold leF; rw [letZ_no h]; rfl
  · have : x = 1 ∨ x = 2 ∨ x = 3 ∨ x = 4 ∨ x = 5 ∨ x = 6 ∨ x = 9 ∨ x = 10 ∨ x = 11 ∨ x = 12 ∨ x = 13 ∨ x = 14 := by rw [pcB_true] at h; omega
    rcases this with rfl | rfl | rfl | rfl | rfl | rfl | rfl | rfl | rfl | rfl | rfl | rfl <;> decide +kernel
theorem dg_pl (n : Nat) : plB (dgZ n) = true := by
  have key : ∀ k : Nat, k < 10 → plB (byZ (48 + (k : Int))) = true := by decide +kernel
  have := key (n % 10) (Nat.mod_lt _ (by decide))
  unfold dgZ
  rw [show ((n : Int) % 10) = ((n % 10 : Nat) : Int) by omega]
  exact this
theorem digF_pl : ∀ (f n : Nat), (digF f n).all plB = true
  | 0, n => rfl
  | f + 1, n => by
    by_cases h : n < 10
    · rw [digF_small h]; simp [dg_pl]
    · rw [digF_great (by omega), List.all_append, digF_pl f]; simp [dg_pl]
theorem digL_pl (n : Nat) : (digL n).all plB = true := digF_pl 20 n
theorem emL2_pl (e : Nat) : (emL2 e).all plB = true := by
  unfold emL2
  cases decide (0 < e)
  · rfl
  · exact digL_pl e
theorem clL_pl (p : Nat → Int) (s : Nat) : (clL p s).all plB = true := by
  unfold clL; rw [List.all_append, leF_pl]; cases hasN (p 65).toNat (s : Int) <;> decide
theorem rkS_pl (p : Nat → Int) (r : Nat) : ∀ f, (rkS p r f).1.all plB = true
  | 0 => rfl
  | f + 1 => by
    cases h : (p (1 + (8 * r + f)) == 0)
    · rw [rkS_piece h]; simp only [List.all_append, rkS_pl p r f, emL2_pl, clL_pl]; rfl
    · rw [rkS_empty h]; exact rkS_pl p r f
theorem rkL_pl (p : Nat → Int) (r : Nat) : (rkL p r).all plB = true := by unfold rkL; rw [List.all_append, rkS_pl, emL2_pl]; rfl
def noB (b : UInt8) (l : List UInt8) : Prop := ∀ x ∈ l, (b == x) = false
theorem pl_no {l : List UInt8} (h : l.all plB = true) {b : UInt8} (hb : plB b = false) : noB b l := fun x hx => by
  have := List.all_eq_true.1 h x hx
  cases e : (b == x)
  · rfl
  · rw [beq_iff_eq] at e; subst e; rw [hb] at this; cases this
theorem noB.app {b : UInt8} {l m : List UInt8} (h : noB b l) (k : noB b m) : noB b (l ++ m) := fun x hx => (List.mem_append.1 hx).elim (h x) (k x)
theorem noB.cons {b x : UInt8} {m : List UInt8} (h : (b == x) = false) (k : noB b m) : noB b (x :: m) := fun y hy => (List.mem_cons.1 hy).elim (fun e => e ▸ h) (k y)
theorem noB.nil {b : UInt8} : noB b [] := fun x hx => by cases hx
theorem noB.tail {b x : UInt8} {m : List UInt8} (h : noB b (x :: m)) : noB b m := fun y hy => h y (List.mem_cons_of_mem _ hy)
theorem noB.head {b x : UInt8} {m : List UInt8} (h : noB b (x :: m)) : (b == x) = false := h x (List.mem_cons_self ..)

/-! Cut and split. -/
theorem cut_at {b : UInt8} (m : List UInt8) : ∀ {l : List UInt8}, noB b l → cutA b (l ++ b :: m) = l ∧ cutB b (l ++ b :: m) = m
  | [], _ => by
    rw [List.nil_append, cutA, cutB, beq_self_eq_true]; exact ⟨rfl, rfl⟩
  | x :: l, h => by
    obtain ⟨e1, e2⟩ := cut_at m h.tail
    rw [List.cons_append, cutA, cutB, h.head]
    exact ⟨congrArg (x :: ·) e1, e2⟩
theorem cut_all {b : UInt8} : ∀ {l : List UInt8}, noB b l → cutA b l = l ∧ cutB b l = []
  | [], _ => ⟨rfl, rfl⟩
  | x :: l, h => by
    obtain ⟨e1, e2⟩ := cut_all h.tail
    rw [cutA, cutB, h.head]
    exact ⟨congrArg (x :: ·) e1, e2⟩
theorem split_end {b : UInt8} : ∀ {l : List UInt8}, noB b l → splitL b l = [l]
  | [], _ => rfl
  | x :: l, h => by
    rw [splitL, h.head, split_end h.tail]; rfl
theorem split_at' {b : UInt8} (m : List UInt8) : ∀ {l : List UInt8}, noB b l → splitL b (l ++ b :: m) = l :: splitL b m
  | [], _ => by
    rw [List.nil_append, splitL, beq_self_eq_true]; rfl
  | x :: l, h => by
    rw [List.cons_append, splitL, h.head, split_at' m h.tail]; rfl

/-! A rank. -/
theorem rd_let {r f : Nat} {x : Int} {b : UInt8} {q : Nat → Int} (hf : f < 8) (hr : r < 8) (h : pcB x = true) (hb : leF x = [b]) : rdSt r b (f : Int) q = some (((f + 1 : Nat) : Int), upd q (1 + (8 * r + f)) x) := by
  obtain ⟨b', e1, e2, e3, e4⟩ := le_back h
  obtain rfl : b = b' := by rw [hb] at e1; exact List.head_eq_of_cons_eq e1
  have hz : bz [b] = letZ x := by rw [leF_bz, hb]
  have hp := prs_letter h
  have h1 : prsZ (bz [b]) = x := by rw [hz]; exact hp.1
  have h2 : prsB (bz [b]) = true := by unfold prsB; rw [h1]; rw [pcB_true] at h; simp; omega
  have ho : ofOk (f : Int) (r : Int) = true := ofOk_true.2 (by omega)
  have hz : ofZ (f : Int) (r : Int) = ((8 * r + f : Nat) : Int) := by rw [ofZ_yes ho]; omega
  have g1 : (b == 126) = false := by
    rw [beq_eq_false_iff_ne]; intro e; subst e; exact absurd e4 (by decide)
  have g2 : (decide (49 ≤ b.toNat) && decide (b.toNat ≤ 56)) = false := by
    rw [decide_eq_false (show ¬ b.toNat ≤ 56 by omega), Bool.and_false]
  unfold rdSt
  rw [g1, g2, ho, h2, h1, hz, Int.toNat_natCast]
  rfl
theorem rd_em {r e f : Nat} {q : Nat → Int} {l : List UInt8} (he : e ≤ 8) : rdRk r (emL2 e ++ l) (f : Int) q = rdRk r l ((f + e : Nat) : Int) q := by
  by_cases h0 : 0 < e
  · rw [em_one h0 he, List.singleton_append]
    refine rdRk_some ?_
    have hd := dgZ_nat e
    unfold rdSt
    have g1 : (dgZ e == 126) = false := by
      rw [beq_eq_false_iff_ne]; intro g; rw [g] at hd; have : ((126 : UInt8).toNat : Int) = 126 := rfl; omega
    have g2 : (decide (49 ≤ (dgZ e).toNat) && decide ((dgZ e).toNat ≤ 56)) = true := by
      rw [decide_eq_true (show 49 ≤ (dgZ e).toNat by omega), decide_eq_true (show (dgZ e).toNat ≤ 56 by omega)]; rfl
    rw [g1, g2, show (f : Int) + (((dgZ e).toNat : Int) - 48) = ((f + e : Nat) : Int) by omega]
    rfl
  · obtain rfl : e = 0 := by omega
    rfl
theorem rd_cell {p q : Nat → Int} {r f : Nat} {l : List UInt8} (hf : f < 8) (hr : r < 8) (h : pcB (p (1 + (8 * r + f))) = true) : rdRk r (clL p (8 * r + f) ++ l) (f : Int) q = rdRk r l ((f + 1 : Nat) : Int) (bdU p (8 * r + f) q) := by
  obtain ⟨b, e1, _⟩ := le_back h
  have hne : (p (1 + (8 * r + f)) == 0) = false := by rw [pcB_true] at h; simp; omega
  unfold clL bdU
  rw [e1, hne]
  cases hh : hasN (p 65).toNat ((8 * r + f : Nat) : Int)
  · show rdRk r (b :: l) (f : Int) q = _
    rw [rdRk_some (rd_let hf hr h e1)]; rfl
  · show rdRk r (b :: 126 :: l) (f : Int) q = _
    rw [rdRk_some (rd_let hf hr h e1)]
    have ho : ofOk (((f + 1 : Nat) : Int) - 1) (r : Int) = true := ofOk_true.2 (by omega)
    have hz : ofZ (((f + 1 : Nat) : Int) - 1) (r : Int) = ((8 * r + f : Nat) : Int) := by rw [ofZ_yes ho]; omega
    refine rdRk_some ?_
    unfold rdSt
    rw [show ((126 : UInt8) == 126) = true from rfl, ho, hz, upd_other _ _ _ _ (show 65 ≠ 1 + (8 * r + f) by omega)]
    rfl
theorem rdRk_back {p : Nat → Int} {r : Nat} (hb : ∀ s, s < 64 → p (1 + s) = 0 ∨ pcB (p (1 + s)) = true) (hr : r < 8) : ∀ (k e : Nat) (q : Nat → Int), e + k ≤ 8 → rdRk r (rkT p r k e) ((8 - k - e : Nat) : Int) q = some (8, rkW p r k q)
  | 0, e, q, he => by
    have := rd_em (r := r) (e := e) (f := 8 - 0 - e) (q := q) (l := []) (by omega)
    rw [List.append_nil] at this
    rw [rkT, this, show 8 - 0 - e + e = 8 by omega]; rfl
  | k + 1, e, q, he => by
    rw [rkT, rkW]
    cases h : (p (1 + (8 * r + (7 - k))) == 0)
    · have hp := (hb (8 * r + (7 - k)) (by omega)).resolve_left (by simpa using h)
      simp only [cond_false]
      rw [rd_em (by omega), show 8 - (k + 1) - e + e = 7 - k by omega, rd_cell (by omega) hr hp]
      have := rdRk_back hb hr k 0 (bdU p (8 * r + (7 - k)) q) (by omega)
      rw [show 8 - k - 0 = 7 - k + 1 by omega] at this
      exact this
    · have hz : bdU p (8 * r + (7 - k)) q = q := by unfold bdU; rw [h]; rfl
      rw [hz]
      simp only [cond_true]
      have := rdRk_back hb hr k (e + 1) q (by omega)
      rw [show 8 - k - (e + 1) = 8 - (k + 1) - e by omega] at this
      exact this
theorem rdRank_back {p q : Nat → Int} {r : Nat} (hb : ∀ s, s < 64 → p (1 + s) = 0 ∨ pcB (p (1 + s)) = true) (hr : r < 8) : rdRank r (rkL p r) q = some (rkW p r 8 q) := by
  have e : rkT p r 8 0 = rkL p r := rkT_rest p r 8 (Nat.le_refl _)
  have := rdRk_back hb hr 8 0 q (by omega)
  rw [e] at this
  have this : rdRk r (rkL p r) 0 q = some (8, rkW p r 8 q) := this
  unfold rdRank
  rw [this]; rfl

/-! The board. -/
def rwL (p : Nat → Int) : Nat → List (List UInt8)
  | 0 => []
  | j + 1 => rkL p j :: rwL p j
theorem rwL_len (p : Nat → Int) : ∀ j, (rwL p j).length = j
  | 0 => rfl
  | j + 1 => by rw [rwL, List.length_cons, rwL_len p j]
theorem rdRows_back {p : Nat → Int} (hb : ∀ s, s < 64 → p (1 + s) = 0 ∨ pcB (p (1 + s)) = true) : ∀ (j : Nat) (q : Nat → Int), j ≤ 8 → rdRows (8 - j) (rwL p j) q = some (bdW p j q)
  | 0, q, _ => rfl
  | j + 1, q, h => by
    have := rdRank_back (q := q) hb (show j < 8 by omega)
    rw [rwL, bdW, rdRows_some (i := 8 - (j + 1)) (by rw [show 7 - (8 - (j + 1)) = j by omega]; exact this), show 8 - (j + 1) + 1 = 8 - j by omega]
    exact rdRows_back hb j _ (by omega)
theorem split_bt (p : Nat → Int) : ∀ j, splitL 47 (btT p (j + 1)) = rwL p (j + 1)
  | 0 => by
    have : btT p 1 = rkL p 0 := by rw [btT]; exact List.append_nil _
    rw [this, split_end (pl_no (rkL_pl p 0) rfl)]; rfl
  | j + 1 => by
    have : btT p (j + 2) = rkL p (j + 1) ++ 47 :: btT p (j + 1) := by rw [btT, decide_eq_true (show 0 < j + 1 by omega)]; rfl
    rw [this, split_at' _ (pl_no (rkL_pl p (j + 1)) rfl), split_bt p j]; rfl
theorem bd_bt (p : Nat → Int) : bdL p 8 = btT p 8 := (btT_rest p 8 (Nat.le_refl _)).symm
theorem bdL_no {b : UInt8} (p : Nat → Int) (h : plB b = false) (h2 : (b == 47) = false) : ∀ j, noB b (bdL p j)
  | 0 => noB.nil
  | j + 1 => by
    rw [bdL]
    refine ((bdL_no p h h2 j).app (pl_no (rkL_pl p _) h)).app ?_
    cases decide (j < 7)
    · exact noB.nil
    · exact noB.cons h2 noB.nil

/-! The pockets. -/
theorem u8_wrap (v : Int) : IntKind.u8.wrap v = v % 256 := by simp [IntKind.wrap, IntKind.bits, IntKind.signed]
theorem pk_one {x : Int} {b : UInt8} {q : Nat → Int} (h : pcB x = true) (h6 : kndZ x ≠ 6) (hb : leF x = [b]) : pkSt b q = some (inP q x) := by
  have hz : bz [b] = letZ x := by rw [leF_bz, hb]
  have hp := prs_letter h
  have h1 : prsZ (bz [b]) = x := by rw [hz]; exact hp.1
  have h2 : prsB (bz [b]) = true := by unfold prsB; rw [h1]; rw [pcB_true] at h; simp; omega
  unfold pkSt inP
  rw [h2, h1, show (kndZ x == 6) = false by simpa using h6, u8_wrap]
  unfold pkI
  rw [Nat.add_assoc]
  rfl
theorem rdPk_back : ∀ (xs : List Int) (q : Nat → Int), (∀ x ∈ xs, pcB x = true ∧ kndZ x ≠ 6) → rdPk (leQ xs) q = some (xs.foldl inP q)
  | [], q, _ => rfl
  | x :: l, q, hx => by
    obtain ⟨h1, h2⟩ := hx x (List.mem_cons_self ..)
    obtain ⟨b, e1, _⟩ := le_back h1
    rw [leQ, e1, List.singleton_append, rdPk_some (pk_one h1 h2 e1), rdPk_back l _ fun y hy => hx y (List.mem_cons_of_mem _ hy)]
    rfl
theorem trimB_app (l : List UInt8) : trimB (l ++ [93]) = l := by
  unfold trimB Lib.trimSuffix Lib.hasSuffix
  rw [if_pos (List.isSuffixOf_iff_suffix.2 (List.suffix_append l [93]))]
  simp
theorem trimB_nil : trimB [] = [] := rfl
end Go.Proofs.YtjbfjohgfbipgaaGreatDoor
/-
  There and back (layer 10): the program's reader reads what is written: rooks, numbers, fields, the whole. Plain facts.
-/
namespace Go.Proofs.YtjbfjohgfbipgaaGreatDoor
open Go.RowKit
set_option linter.unusedVariables false
set_option linter.unusedSimpArgs false

/-! What can be written, part by part. -/
theorem wr_S {p : Nat → Int} (h : wrB p = true) {s : Nat} (hs : s < 64) : (p (1 + s) = 0 ∨ pcB (p (1 + s)) = true) ∧ (hasN (p 65).toNat (s : Int) = true → p (1 + s) ≠ 0 ∧ p 0 = 2) := by
  have g : wrS p s = true := by
    cases e : wrS p s
    · rw [wr_noS hs e] at h; cases h
    · rfl
  unfold wrS at g
  rw [Bool.and_eq_true] at g
  obtain ⟨g1, g2⟩ := g
  constructor
  · cases hp : pcB (p (1 + s))
    · rw [hp] at g1; left; simpa using g1
    · exact Or.inr rfl
  · intro hh
    rw [hh] at g2
    simpa using g2
theorem wr_K {p : Nat → Int} (h : wrB p = true) {c k : Nat} (hc : c < 2) (hk : k < 6) : p (66 + c * 6 + k) ≤ 0 ∨ (p 0 = 2 ∧ k ≠ 0) := by
  have g : wrK p c k = true := by
    cases e : wrK p c k
    · rw [wr_noK hc hk e] at h; cases h
    · rfl
  unfold wrK at g
  by_cases e : p (66 + c * 6 + k) ≤ 0
  · exact Or.inl e
  · rw [decide_eq_true (show 0 < p (66 + c * 6 + k) by omega)] at g
    simp at g
    exact Or.inr g
theorem wr_G {p : Nat → Int} (h : wrB p = true) {c : Nat} (hc : c < 2) : p (84 + c) ≤ 3 ∧ (p (84 + c) ≤ 0 ∨ p 0 = 5) := by
  have g : wrG p c = true := by
    cases e : wrG p c
    · rw [wr_noG hc e] at h; cases h
    · rfl
  unfold wrG at g
  simp at g
  omega
theorem wr_R {p : Nat → Int} (h : wrB p = true) {c d : Nat} (hc : c < 2) (hd : d < 2) : p (79 + c * 2 + d) = -1 ∨ rightB p (c : Int) (d : Int) (p (79 + c * 2 + d)) = true := by
  have g : wrR p c d = true := by
    cases e : wrR p c d
    · rw [wr_noR hc hd e] at h; cases h
    · rfl
  unfold wrR at g
  cases hr : rightB p (c : Int) (d : Int) (p (79 + c * 2 + d))
  · rw [hr] at g; left; simpa using g
  · exact Or.inr rfl

/-! The rooks. -/
theorem pre_one (x y : UInt8) (l : List UInt8) : Lib.hasPrefix (x :: l) [y] = (y == x) := by simp [Lib.hasPrefix, List.isPrefixOf]
theorem trim_one (x : UInt8) (l : List UInt8) : Lib.trimPrefix (x :: l) [x] = l := by
  unfold Lib.trimPrefix
  rw [pre_one, beq_self_eq_true, if_pos rfl]; rfl
theorem ro_inj {c d c' d' f v : Nat} (hc : c < 2) (hd : d < 2) (hf : f < 8) (hc' : c' < 2) (hd' : d' < 2) (hv : v < 8) (h : byZ (rkF c d (f : Int)) = byZ (rkF c' d' (v : Int))) : c = c' ∧ f = v := by
  obtain ⟨a1, a2, a3, a4⟩ := ro_letter c hc d hd f hf
  obtain ⟨b1, b2, b3, b4⟩ := ro_letter c' hc' d' hd' v hv
  have e : rkF c d (f : Int) = rkF c' d' (v : Int) := by
    have x1 := byZ_nat (x := rkF c d (f : Int)) (by omega) (by omega)
    have x2 := byZ_nat (x := rkF c' d' (v : Int)) (by omega) (by omega)
    rw [← x1, ← x2, h]
  rw [e, b1] at a1
  rw [e, b2] at a2
  exact ⟨a1.symm, by omega⟩
theorem rk_miss {c d : Nat} {l : List UInt8} {q : Nat → Int} : ∀ fs : List Nat, (∀ f ∈ fs, (rightB q (c : Int) (d : Int) (f : Int) && Lib.hasPrefix l (rkLt c d f)) = false) → rdRookL c d l q fs = (q, l)
  | [], _ => rfl
  | f :: fs, h => by
    rw [rdRookL, h f (List.mem_cons_self ..)]
    exact rk_miss fs fun x hx => h x (List.mem_cons_of_mem _ hx)
theorem rk_hit {c d v : Nat} {m : List UInt8} {q : Nat → Int} (hc : c < 2) (hd : d < 2) (hv : v < 8) (hr : rightB q (c : Int) (d : Int) (v : Int) = true) : ∀ fs : List Nat, v ∈ fs → (∀ f ∈ fs, f < 8) → rdRookL c d (byZ (rkF c d (v : Int)) :: m) q fs = (upd q (79 + c * 2 + d) (v : Int), m)
  | [], hm, _ => by cases hm
  | f :: fs, hm, h8 => by
    rw [rdRookL]
    unfold rkLt
    by_cases e : f = v
    · subst e; rw [hr, pre_one, beq_self_eq_true, trim_one]; rfl
    · have hne : (byZ (rkF c d (f : Int)) == byZ (rkF c d (v : Int))) = false := by
        rw [beq_eq_false_iff_ne]; intro g; exact e (ro_inj hc hd (h8 f (List.mem_cons_self ..)) hc hd hv g).2
      rw [pre_one, hne, Bool.and_false]
      exact rk_hit hc hd hv hr fs ((List.mem_cons.1 hm).resolve_left (fun g => e g.symm)) fun x hx => h8 x (List.mem_cons_of_mem _ hx)
theorem roX_head {p : Nat → Int} (hp : ∀ c d : Nat, c < 2 → d < 2 → p (79 + c * 2 + d) < 0 ∨ rightB p c d (p (79 + c * 2 + d)) = true) : ∀ r : List (Nat × Nat), (∀ x ∈ r, x.1 < 2 ∧ x.2 < 2) →
    roX p r = [] ∨ ∃ (x : Nat × Nat) (v : Nat) (m : List UInt8), x ∈ r ∧ v < 8 ∧ p (79 + x.1 * 2 + x.2) = (v : Int) ∧ rightB p (x.1 : Int) (x.2 : Int) (v : Int) = true ∧ roX p r = byZ (rkF x.1 x.2 (v : Int)) :: m
  | [], _ => Or.inl rfl
  | (c, d) :: r, h => by
    obtain ⟨hc, hd⟩ := h (c, d) (List.mem_cons_self ..)
    dsimp only at hc hd
    by_cases h0 : p (79 + c * 2 + d) < 0
    · have e1 : rfL c d (p (79 + c * 2 + d)) = [] := by unfold rfL; rw [decide_eq_true h0]; rfl
      rw [roX, e1, List.nil_append]
      rcases roX_head hp r fun x hx => h x (List.mem_cons_of_mem _ hx) with e | ⟨x, v, m, g1, g2⟩
      · exact Or.inl e
      · exact Or.inr ⟨x, v, m, List.mem_cons_of_mem _ g1, g2⟩
    · have hb := (hp c d hc hd).resolve_left h0
      obtain ⟨_, h7⟩ := right_file hb
      obtain ⟨n, hn⟩ : ∃ n : Nat, p (79 + c * 2 + d) = (n : Int) := ⟨(p (79 + c * 2 + d)).toNat, by omega⟩
      have e1 : rfL c d (n : Int) = [byZ (rkF c d (n : Int))] := by unfold rfL; rw [decide_eq_false (show ¬ (n : Int) < 0 by omega)]; rfl
      refine Or.inr ⟨(c, d), n, roX p r, List.mem_cons_self .., by omega, hn, ?_, ?_⟩
      · rw [hn] at hb; exact hb
      · rw [roX, hn, e1]; rfl
theorem rook_step {p q : Nat → Int} (hp : ∀ c d : Nat, c < 2 → d < 2 → p (79 + c * 2 + d) < 0 ∨ rightB p c d (p (79 + c * 2 + d)) = true) (hq : ∀ s, s < 64 → q (1 + s) = p (1 + s)) {c d : Nat} {r : List (Nat × Nat)} (hc : c < 2) (hd : d < 2)
    (hr : ∀ x ∈ r, x.1 < 2 ∧ x.2 < 2) (ha : ∀ x ∈ r, x.1 = c → d = 0 ∧ x.2 = 1) : rdRook c d (roX p ((c, d) :: r)) q = (roU q c d (p (79 + c * 2 + d)), roX p r) := by
  unfold rdRook
  rw [roX]
  have hp1 := hp c d hc hd
  generalize p (79 + c * 2 + d) = v at hp1 ⊢
  by_cases h0 : v < 0
  · have e1 : rfL c d v = [] := by unfold rfL; rw [decide_eq_true h0]; rfl
    have e2 : roU q c d v = q := by unfold roU; rw [decide_eq_true h0]; rfl
    rw [e1, e2, List.nil_append]
    refine rk_miss _ fun f hf => ?_
    have hf8 := List.mem_range.1 hf
    cases hrt : rightB q (c : Int) (d : Int) (f : Int)
    · rfl
    · rw [Bool.true_and]
      rcases roX_head hp r hr with e | ⟨x, v', m, hx, hv8, hpv, hrv, e⟩
      · rw [e]; rfl
      · rw [e]
        unfold rkLt
        rw [pre_one, beq_eq_false_iff_ne]
        intro g
        obtain ⟨g1, g2⟩ := ro_inj hc hd hf8 (hr x hx).1 (hr x hx).2 hv8 g
        obtain ⟨k1, k2⟩ := ha x hx g1.symm
        subst k1
        rw [k2, ← g1, ← g2] at hrv
        have := right_one (show rightB p (c : Int) 1 (f : Int) = true from hrv)
        rw [right_same hq] at hrt
        have hrt : rightB p (c : Int) 0 (f : Int) = true := hrt
        rw [this] at hrt; cases hrt
  · have hb := hp1.resolve_left h0
    obtain ⟨_, h7⟩ := right_file hb
    obtain ⟨n, rfl⟩ : ∃ n : Nat, v = (n : Int) := ⟨v.toNat, by omega⟩
    have e1 : rfL c d (n : Int) = [byZ (rkF c d (n : Int))] := by unfold rfL; rw [decide_eq_false (show ¬ (n : Int) < 0 by omega)]; rfl
    have e2 : roU q c d (n : Int) = upd q (79 + c * 2 + d) (n : Int) := by unfold roU; rw [decide_eq_false (show ¬ (n : Int) < 0 by omega)]; rfl
    rw [e1, e2]
    exact rk_hit hc hd (by omega) (by rw [right_same hq]; exact hb) _ (List.mem_range.2 (by omega)) fun x hx => List.mem_range.1 hx
theorem roU_bd {p q : Nat → Int} (hq : ∀ s, s < 64 → q (1 + s) = p (1 + s)) (c d : Nat) (v : Int) : ∀ s, s < 64 → roU q c d v (1 + s) = p (1 + s) := fun s hs => by
  rw [roU_at, if_neg (by omega)]; exact hq s hs
theorem rooks_back {p q : Nat → Int} (hp : ∀ c d : Nat, c < 2 → d < 2 → p (79 + c * 2 + d) < 0 ∨ rightB p c d (p (79 + c * 2 + d)) = true) (hq : ∀ s, s < 64 → q (1 + s) = p (1 + s)) : rdCl (q, rcL p 2) 2 = (roM p roQ q, []) := by
  have i1 : ∀ x ∈ [((0 : Nat), (1 : Nat)), (1, 0), (1, 1)], x.1 < 2 ∧ x.2 < 2 := by decide
  have i2 : ∀ x ∈ [((1 : Nat), (0 : Nat)), (1, 1)], x.1 < 2 ∧ x.2 < 2 := by decide
  have i3 : ∀ x ∈ [((1 : Nat), (1 : Nat))], x.1 < 2 ∧ x.2 < 2 := by decide
  have i4 : ∀ x ∈ ([] : List (Nat × Nat)), x.1 < 2 ∧ x.2 < 2 := by decide
  have h1 := roU_bd hq 0 0 (p (79 + 0 * 2 + 0))
  have h2 := roU_bd h1 0 1 (p (79 + 0 * 2 + 1))
  have h3 := roU_bd h2 1 0 (p (79 + 1 * 2 + 0))
  have e1 := rook_step hp hq (c := 0) (d := 0) (by decide) (by decide) i1 (by decide)
  have e2 := rook_step hp h1 (c := 0) (d := 1) (by decide) (by decide) i2 (by decide)
  have e3 := rook_step hp h2 (c := 1) (d := 0) (by decide) (by decide) i3 (by decide)
  have e4 := rook_step hp h3 (c := 1) (d := 1) (by decide) (by decide) i4 (by decide)
  rw [← roX_all]
  show rdRook 1 1 (rdRook 1 0 (rdRook 0 1 (rdRook 0 0 (roX p roQ) q).2 (rdRook 0 0 (roX p roQ) q).1).2 (rdRook 0 1 (rdRook 0 0 (roX p roQ) q).2 (rdRook 0 0 (roX p roQ) q).1).1).2 (rdRook 1 0 (rdRook 0 1 (rdRook 0 0 (roX p roQ) q).2 (rdRook 0 0 (roX p roQ) q).1).2 (rdRook 0 1 (rdRook 0 0 (roX p roQ) q).2 (rdRook 0 0 (roX p roQ) q).1).1).1 = _
  unfold roQ
  rw [e1]
  dsimp only
  rw [e2]
  dsimp only
  rw [e3]
  dsimp only
  rw [e4]
  rfl
theorem roM_none {p : Nat → Int} : ∀ (r : List (Nat × Nat)) (q : Nat → Int), roX p r = [] → roM p r q = q
  | [], q, _ => rfl
  | (c, d) :: r, q, h => by
    rw [roX, List.append_eq_nil_iff] at h
    rw [roM]
    have e : roU q c d (p (79 + c * 2 + d)) = q := by
      unfold roU
      by_cases h0 : p (79 + c * 2 + d) < 0
      · rw [decide_eq_true h0]; rfl
      · have := h.1; unfold rfL at this; rw [decide_eq_false h0] at this; cases this
    rw [e]
    exact roM_none r q h.2
theorem roX_pl {p : Nat → Int} (hp : ∀ c d : Nat, c < 2 → d < 2 → p (79 + c * 2 + d) < 0 ∨ rightB p c d (p (79 + c * 2 + d)) = true) : ∀ r : List (Nat × Nat), (∀ x ∈ r, x.1 < 2 ∧ x.2 < 2) → (roX p r).all plB = true
  | [], _ => rfl
  | (c, d) :: r, h => by
    obtain ⟨hc, hd⟩ := h (c, d) (List.mem_cons_self ..)
    dsimp only at hc hd
    have key : ∀ c : Nat, c < 2 → ∀ d : Nat, d < 2 → ∀ n : Nat, n < 8 → plB (byZ (rkF c d (n : Int))) = true := by decide +kernel
    rw [roX, List.all_append, roX_pl hp r fun x hx => h x (List.mem_cons_of_mem _ hx), Bool.and_true]
    by_cases h0 : p (79 + c * 2 + d) < 0
    · unfold rfL; rw [decide_eq_true h0]; rfl
    · have hb := (hp c d hc hd).resolve_left h0
      obtain ⟨_, h7⟩ := right_file hb
      obtain ⟨n, hn⟩ : ∃ n : Nat, p (79 + c * 2 + d) = (n : Int) := ⟨(p (79 + c * 2 + d)).toNat, by omega⟩
      unfold rfL
      rw [hn, decide_eq_false (show ¬ (n : Int) < 0 by omega)]
      show (plB _ && true) = true
      rw [key c hc d hd n (by omega)]; rfl

/-! Numbers. -/
theorem vaL_ge : ∀ (l : List UInt8) (n : Int), digs l → 0 ≤ n → n ≤ vaL n l
  | [], n, _, _ => Int.le_refl _
  | b :: l, n, hd, h0 => by
    obtain ⟨h1, h2⟩ := hd b (List.mem_cons_self ..)
    have := vaL_ge l (10 * n + ((b.toNat : Int) - 48)) (fun c hc => hd c (List.mem_cons_of_mem _ hc)) (by omega)
    rw [vaL]; omega
theorem uint_digs : ∀ (l : List UInt8) (acc : Nat), digs l → vaL (acc : Int) l ≤ 1000000000000000 → Lib.parseUint10 acc l = .ok (vaL (acc : Int) l).toNat
  | [], acc, _, _ => by rw [Lib.parseUint10, vaL, Int.toNat_natCast]
  | b :: r, acc, hd, h => by
    obtain ⟨h1, h2⟩ := hd b (List.mem_cons_self ..)
    have hr : digs r := fun c hc => hd c (List.mem_cons_of_mem _ hc)
    have e : 10 * (acc : Int) + ((b.toNat : Int) - 48) = ((acc * 10 + (b.toNat - 48) : Nat) : Int) := by omega
    rw [vaL, e] at h ⊢
    have hg := vaL_ge r ((acc * 10 + (b.toNat - 48) : Nat) : Int) hr (by omega)
    rw [Lib.parseUint10, if_pos ⟨h1, h2⟩, if_neg (by omega), if_neg (by omega)]
    exact uint_digs r _ hr h
theorem atN_back {n : Nat} (hn : n ≤ 10000) : atN (digL n) = some (n : Int) := by
  obtain ⟨h1, h2⟩ := dig_back 19 n (Nat.lt_of_le_of_lt hn (by decide))
  have h1 : digs (digL n) := h1
  have h2 : vaL 0 (digL n) = (n : Int) := h2
  have hne := digL_ne n
  unfold atN
  cases hl : digL n with
  | nil => exact absurd hl hne
  | cons c r =>
    rw [hl] at h1 h2
    obtain ⟨b1, b2⟩ := h1 c (List.mem_cons_self ..)
    have hm : Lib.parseMag (c :: r) = .ok n := by
      unfold Lib.parseMag
      rw [if_neg (by simp)]
      have := uint_digs (c :: r) 0 h1 (by show vaL 0 (c :: r) ≤ _; rw [h2]; omega)
      rw [this]
      show Lib.NumEnd.ok (vaL 0 (c :: r)).toNat = _
      rw [h2, Int.toNat_natCast]
    rw [Lib.atoiAll_plain c r (by omega) (by omega), hm]
    unfold Lib.signless
    simp only
    rw [if_neg (by omega)]

/-! The fields. -/
theorem fd_at {A B : List UInt8} (h : noB 32 A) : fdF (A ++ 32 :: B) = A ∧ fdR (A ++ 32 :: B) = B := cut_at B h
theorem fd_end {A : List UInt8} (h : noB 32 A) : fdF A = A := (cut_all h).1
def xsP (p : Nat → Int) : List Int := bif p 0 == 2 then pkQ p alQ else []
theorem xsP_ok {p : Nat → Int} (hw : wrB p = true) : ∀ x ∈ xsP p, pcB x = true ∧ kndZ x ≠ 6 := by
  unfold xsP
  cases (p 0 == 2)
  · intro x hx; cases hx
  · have key : ∀ r : List (Nat × Nat), (∀ x ∈ r, x.1 < 2 ∧ x.2 < 6) → ∀ x ∈ pkQ p r, pcB x = true ∧ kndZ x ≠ 6 := by
      intro r
      induction r with
      | nil => intro _ x hx; cases hx
      | cons y r ih =>
        obtain ⟨c, k⟩ := y
        intro h x hx
        obtain ⟨hc, hk⟩ := h (c, k) (List.mem_cons_self ..)
        dsimp only at hc hk
        rw [pkQ] at hx
        rcases List.mem_append.1 hx with g | g
        · obtain ⟨g1, g2⟩ := List.mem_replicate.1 g
          rcases wr_K hw hc hk with e | ⟨_, e⟩
          · exact absurd (show (p (66 + c * 6 + k)).toNat = 0 by omega) g1
          · obtain ⟨a1, a2, a3⟩ := mkQ_at c hc k hk (by omega)
            subst g2
            exact ⟨a1, by rw [a2]; omega⟩
        · exact ih (fun z hz => h z (List.mem_cons_of_mem _ hz)) x g
    exact key alQ (by decide)
theorem pkC_pl {p : Nat → Int} : (pkC p 2).all plB = true := by
  rw [← pkQ_all]
  have : ∀ l : List Int, (leQ l).all plB = true := fun l => by
    induction l with
    | nil => rfl
    | cons x l ih => rw [leQ, List.all_append, leF_pl, ih]; rfl
  exact this _
theorem board_no {p : Nat → Int} : noB 32 (bdL p 8 ++ poX p) := by
  refine (bdL_no p rfl rfl 8).app ?_
  unfold poX
  cases (p 0 == 2)
  · exact noB.nil
  · show noB 32 ((91 :: pkC p 2) ++ [93])
    exact (noB.cons rfl (pl_no pkC_pl rfl)).app (noB.cons rfl noB.nil)
theorem poT_cons (p : Nat → Int) : poT p = 91 :: (pkC p 2 ++ [93]) := by unfold poT ptC; rw [List.cons_append]
theorem board_cut {p : Nat → Int} : cutA 91 (bdL p 8 ++ poX p) = bdL p 8 ∧ trimB (cutB 91 (bdL p 8 ++ poX p)) = leQ (xsP p) := by
  have h91 := bdL_no (b := 91) p rfl rfl 8
  have hq := pkQ_all p
  unfold poX xsP
  rw [poT_cons]
  generalize bdL p 8 = X at h91 ⊢
  generalize pkC p 2 = Y at hq ⊢
  cases (p 0 == 2)
  · simp only [cond_false, List.append_nil]
    obtain ⟨e1, e2⟩ := cut_all h91
    rw [e1, e2]
    exact ⟨rfl, rfl⟩
  · simp only [cond_true]
    obtain ⟨e1, e2⟩ := cut_at (b := 91) (Y ++ [93]) h91
    rw [e1, e2, trimB_app]
    exact ⟨rfl, hq.symm⟩
theorem st_board {p q : Nat → Int} {R : List UInt8} (hw : wrB p = true) : rdBoard q ((bdL p 8 ++ poX p) ++ 32 :: R) = some ((xsP p).foldl inP (bdW p 8 q), R) := by
  obtain ⟨e1, e2⟩ := fd_at (B := R) (board_no (p := p))
  obtain ⟨e3, e4⟩ := board_cut (p := p)
  have hb : ∀ s, s < 64 → p (1 + s) = 0 ∨ pcB (p (1 + s)) = true := fun s hs => (wr_S hw hs).1
  unfold rdBoard bdTs bdLt
  rw [e1, e2, e3, e4, bd_bt, split_bt p 7, rwL_len]
  show (match rdRows (8 - 8) (rwL p 8) q with | none => none | some q => rkO R (rdPk (leQ (xsP p)) q)) = _
  rw [rdRows_back hb 8 q (Nat.le_refl _)]
  show rkO R (rdPk (leQ (xsP p)) (bdW p 8 q)) = _
  rw [rdPk_back _ _ (xsP_ok hw)]
  rfl
theorem st_turn {p q : Nat → Int} {R : List UInt8} (h0 : 0 ≤ p 78) (h1 : p 78 ≤ 1) : rdTurn q (trT p ++ 32 :: R) = some (upd q 78 (p 78), R) := by
  have : p 78 = 0 ∨ p 78 = 1 := by omega
  unfold trT
  rcases this with e | e <;> rw [e] <;> rfl
theorem roT_no {p : Nat → Int} (hp : ∀ c d : Nat, c < 2 → d < 2 → p (79 + c * 2 + d) < 0 ∨ rightB p c d (p (79 + c * 2 + d)) = true) : noB 32 (roT p) := by
  unfold roT
  cases (rcL p 2).isEmpty
  · show noB 32 (rcL p 2)
    rw [← roX_all]
    exact pl_no (roX_pl hp roQ (by decide)) rfl
  · exact noB.cons rfl noB.nil
theorem st_rooks {p q : Nat → Int} {R : List UInt8} (hp : ∀ c d : Nat, c < 2 → d < 2 → p (79 + c * 2 + d) < 0 ∨ rightB p c d (p (79 + c * 2 + d)) = true) (hq : ∀ s, s < 64 → q (1 + s) = p (1 + s)) : rdRooks q (roT p ++ 32 :: R) = some (roM p roQ q, R) := by
  obtain ⟨e1, e2⟩ := fd_at (B := R) (roT_no hp)
  unfold rdRooks
  rw [e1, e2]
  have hx := roX_all p
  cases he : (rcL p 2).isEmpty
  · have e3 : roT p = rcL p 2 := by unfold roT; rw [he]; rfl
    rw [e3]
    have hne : (rcL p 2 == [45]) = false := by
      rw [beq_eq_false_iff_ne]; intro g
      have := roX_pl hp roQ (by decide)
      rw [hx, g] at this; exact absurd this (by decide)
    rw [hne, rooks_back hp hq]
    rfl
  · have e3 : roT p = [45] := by unfold roT; rw [he]; rfl
    rw [e3, roM_none roQ q (by rw [hx]; exact List.isEmpty_iff.1 he)]
    rfl
theorem sqL_two {s : Int} (h : sqB s = true) : ∃ x y : UInt8, sqL s = [x, y] ∧ (32 == x) = false ∧ (32 == y) = false ∧ x ≠ 45 := by
  have key : ∀ n : Fin 64, ∃ x y : UInt8, sqL (n.val : Int) = [x, y] ∧ (32 == x) = false ∧ (32 == y) = false ∧ x ≠ 45 := by
    intro n
    have : ∀ n : Fin 64, (match sqL (n.val : Int) with | [x, y] => !(32 == x) && !(32 == y) && !(x == 45) | _ => false) = true := by decide +kernel
    have := this n
    split at this
    · rename_i x y hxy
      simp only [Bool.and_eq_true, Bool.not_eq_true'] at this
      exact ⟨x, y, hxy, this.1.1, this.1.2, by have := this.2; simpa using this⟩
    · cases this
  rw [sqB_true] at h
  obtain ⟨n, rfl⟩ := Int.eq_ofNat_of_zero_le h.1
  exact key ⟨n, by omega⟩
theorem st_pass {p q : Nat → Int} {R : List UInt8} (h0 : -1 ≤ p 83) (h1 : p 83 ≤ 63) : rdPass q (paT p ++ 32 :: R) = some (bif p 83 == -1 then q else upd q 83 (p 83), R) := by
  cases h : (p 83 == -1)
  · have hs : sqB (p 83) = true := sqB_true.2 (by simp at h; omega)
    have e0 : paT p = sqL (p 83) := by unfold paT; rw [h]; rfl
    obtain ⟨x, y, exy, hx, hy, h45⟩ := sqL_two hs
    have hno : noB 32 (paT p) := by rw [e0, exy]; exact noB.cons hx (noB.cons hy noB.nil)
    obtain ⟨e1, e2⟩ := fd_at (B := R) hno
    unfold rdPass
    rw [e1, e2, e0]
    have hb : bz (sqL (p 83)) = textZ (p 83) := bz_of _
    obtain ⟨t1, t2, _⟩ := parse_text _ hs
    have hne : (sqL (p 83) == [45]) = false := by rw [exy, beq_eq_false_iff_ne]; intro g; cases g
    rw [hne, hb, t1, t2]
    rfl
  · have e0 : paT p = [45] := by unfold paT; rw [h]; rfl
    have hno : noB 32 (paT p) := by rw [e0]; exact noB.cons rfl noB.nil
    obtain ⟨e1, e2⟩ := fd_at (B := R) hno
    unfold rdPass
    rw [e1, e2, e0]
    rfl
theorem digit_chk : ∀ n : Nat, n < 4 → digL n = [UInt8.ofNat (48 + n)] := by decide +kernel
theorem st_chk {p q : Nat → Int} {R : List UInt8} (h5 : p 0 = 5) (hq : q 0 = 5) (a0 : 0 ≤ p 84) (a1 : p 84 ≤ 3) (b0 : 0 ≤ p 85) (b1 : p 85 ≤ 3) : rdChk q (ckT (ckF p) 2 ++ 32 :: R) = some (upd (upd q 84 (p 84)) 85 (p 85), R) := by
  obtain ⟨a, ha⟩ : ∃ a : Nat, p 84 = (a : Int) := ⟨(p 84).toNat, by omega⟩
  obtain ⟨b, hb⟩ : ∃ b : Nat, p 85 = (b : Int) := ⟨(p 85).toNat, by omega⟩
  have e0 : ckT (ckF p) 2 = [43, UInt8.ofNat (48 + a), 43, UInt8.ofNat (48 + b)] := by
    show ([] ++ (43 :: digL (p 84).toNat)) ++ (43 :: digL (p 85).toNat) = _
    rw [ha, hb, Int.toNat_natCast, Int.toNat_natCast, digit_chk a (by omega), digit_chk b (by omega)]; rfl
  have key : ∀ n : Nat, n < 4 → (32 == UInt8.ofNat (48 + n)) = false ∧ IntKind.u8.wrap (((UInt8.ofNat (48 + n)).toNat : Int) - 48) = (n : Int) := by decide +kernel
  obtain ⟨ka1, ka2⟩ := key a (by omega)
  obtain ⟨kb1, kb2⟩ := key b (by omega)
  have hno : noB 32 (ckT (ckF p) 2) := by rw [e0]; exact noB.cons rfl (noB.cons ka1 (noB.cons rfl (noB.cons kb1 noB.nil)))
  obtain ⟨e1, e2⟩ := fd_at (B := R) hno
  unfold rdChk
  rw [e1, e2, hq, e0, ha, hb]
  have : ckQ [43, UInt8.ofNat (48 + a), 43, UInt8.ofNat (48 + b)] q 2 = upd (upd q 84 (IntKind.u8.wrap (((UInt8.ofNat (48 + a)).toNat : Int) - 48))) 85 (IntKind.u8.wrap (((UInt8.ofNat (48 + b)).toNat : Int) - 48)) := rfl
  rw [this, ka2, kb2]
  rfl
theorem st_num {i n : Nat} {q : Nat → Int} {R : List UInt8} (hn : n ≤ 10000) : rdNum i q (digL n ++ 32 :: R) = some (upd q i (n : Int), R) := by
  obtain ⟨e1, e2⟩ := fd_at (B := R) (pl_no (digL_pl n) (b := 32) rfl)
  unfold rdNum
  rw [e1, e2, atN_back hn]
theorem st_last {i n : Nat} {q : Nat → Int} (hn : n ≤ 10000) : rdNum i q (digL n) = some (upd q i (n : Int), []) := by
  obtain ⟨e1, e2⟩ := cut_all (pl_no (digL_pl n) (b := 32) rfl)
  unfold rdNum fdF fdR
  rw [e1, e2, atN_back hn]
def ckX (p : Nat → Int) : List UInt8 := bif p 0 == 5 then ckT (ckF p) 2 ++ [32] else []
theorem fen_shape {p : Nat → Int} (h : -1 ≤ p 83) : fenT6 p = (bdL p 8 ++ poX p) ++ 32 :: (trT p ++ 32 :: (roT p ++ 32 :: (paT p ++ 32 :: (ckX p ++ (digL (p 86).toNat ++ 32 :: digL (p 87).toNat))))) := by
  rw [← fld_join p h]
  unfold fldC fldB fldA ckX
  cases (p 0 == 5) <;> simp [List.intercalate, List.intersperse]
end Go.Proofs.YtjbfjohgfbipgaaGreatDoor
/-
  There and back (layer 10): what the program's reader makes of a position's text is that position. Plain facts.
-/
namespace Go.Proofs.YtjbfjohgfbipgaaGreatDoor
open Go.RowKit
set_option linter.unusedVariables false
set_option linter.unusedSimpArgs false

section
variable (p : Nat → Int)
def bq1 : Nat → Int := (xsP p).foldl inP (bdW p 8 (nakP (p 0)))
def bq2 : Nat → Int := upd (bq1 p) 78 (p 78)
def bq3 : Nat → Int := roM p roQ (bq2 p)
def bq4 : Nat → Int := bif p 83 == -1 then bq3 p else upd (bq3 p) 83 (p 83)
def bq5 : Nat → Int := bif p 0 == 5 then upd (upd (bq4 p) 84 (p 84)) 85 (p 85) else bq4 p
def bq7 : Nat → Int := upd (upd (bq5 p) 86 (p 86)) 87 (p 87)
end
theorem nakP_at {v : Int} {i : Nat} (h0 : i ≠ 0) (h : ¬ (79 ≤ i ∧ i ≤ 83)) : nakP v i = 0 := by unfold nakP; rw [if_neg h0, if_neg h]
theorem nakP_one {v : Int} {i : Nat} (h : 79 ≤ i ∧ i ≤ 83) : nakP v i = -1 := by unfold nakP; rw [if_neg (by omega), if_pos h]
theorem pk_map : (alQ.map fun x => 66 + x.1 * 6 + x.2) = [66, 67, 68, 69, 70, 71, 72, 73, 74, 75, 76, 77] := rfl
theorem inP_out {q : Nat → Int} {x : Int} {j : Nat} (h : j < 66 ∨ 78 ≤ j) (hx : pcB x = true) (h6 : kndZ x ≠ 6) : inP q x j = q j := by
  have h1 : colZ x = x / 8 := colZ_yes hx
  have h2 : kndZ x = x % 8 := kndZ_yes hx
  have h3 := pcB_true.1 hx
  unfold inP
  exact upd_other _ _ _ _ (by omega)
theorem fold_out {j : Nat} (h : j < 66 ∨ 78 ≤ j) : ∀ (xs : List Int) (q : Nat → Int), (∀ x ∈ xs, pcB x = true ∧ kndZ x ≠ 6) → xs.foldl inP q j = q j
  | [], q, _ => rfl
  | x :: l, q, hx => by rw [List.foldl_cons, fold_out h l _ (fun y hy => hx y (List.mem_cons_of_mem _ hy)), inP_out h (hx x (List.mem_cons_self ..)).1 (hx x (List.mem_cons_self ..)).2]
theorem bq1_out {p : Nat → Int} (hw : wrB p = true) {j : Nat} (h : j = 0 ∨ 78 ≤ j) : bq1 p j = nakP (p 0) j := by
  unfold bq1
  rw [fold_out (by omega) _ _ (xsP_ok hw)]
  exact bdW_out (by omega)
theorem bq1_bd {p : Nat → Int} (hw : wrB p = true) {s : Nat} (hs : s < 64) : bq1 p (1 + s) = p (1 + s) := by
  unfold bq1
  rw [fold_out (by omega) _ _ (xsP_ok hw)]
  exact bdW_in hs (nakP_at (by omega) (by omega))
theorem bq1_prom {p : Nat → Int} (hF : FitF p) (hw : wrB p = true) : bq1 p 65 = p 65 := by
  unfold bq1
  rw [fold_out (by omega) _ _ (xsP_ok hw)]
  exact bdW_prom (nakP_at (by omega) (by omega)) hF.prom.1 hF.prom.2 fun s hs h => ((wr_S hw hs).2 h).1
theorem bq1_pk {p : Nat → Int} (hF : FitF p) (hw : wrB p = true) {j : Nat} (h1 : 66 ≤ j) (h2 : j < 78) : bq1 p j = p j := by
  obtain ⟨c, k, hc, hk, rfl⟩ : ∃ c k : Nat, c < 2 ∧ k < 6 ∧ j = 66 + c * 6 + k := ⟨(j - 66) / 6, (j - 66) % 6, by omega, Nat.mod_lt _ (by decide), by omega⟩
  have hz : bdW p 8 (nakP (p 0)) (66 + c * 6 + k) = 0 := by rw [bdW_out (by omega)]; exact nakP_at (by omega) (by omega)
  unfold bq1 xsP
  by_cases e2 : p 0 = 2
  · rw [show (p 0 == 2) = true by simpa using e2]
    show (pkQ p alQ).foldl inP _ _ = _
    have hall : ∀ x ∈ alQ, x.1 < 2 ∧ x.2 < 6 := by decide
    rw [pk_fold alQ _ (fun x hx => by
      obtain ⟨a1, a2⟩ := hall x hx
      have := hF.pock (66 + x.1 * 6 + x.2) (by omega) (by omega)
      refine ⟨a1, a2, this.1, this.2, fun hz => ?_⟩
      rcases wr_K hw a1 a2 with e | ⟨_, e⟩
      · omega
      · exact absurd hz e) (by rw [pk_map]; decide) (fun x hx => by
      obtain ⟨a1, a2⟩ := hall x hx
      rw [bdW_out (by omega)]
      exact nakP_at (by omega) (by omega)), pk_map, if_pos (by
      have key : ∀ c : Nat, c < 2 → ∀ k : Nat, k < 6 → 66 + c * 6 + k ∈ [66, 67, 68, 69, 70, 71, 72, 73, 74, 75, 76, 77] := by decide
      exact key c hc k hk)]
  · rw [show (p 0 == 2) = false by simpa using e2]
    show bdW p 8 (nakP (p 0)) _ = _
    rw [hz]
    have := hF.pock (66 + c * 6 + k) (by omega) (by omega)
    rcases wr_K hw hc hk with e | ⟨e, _⟩
    · omega
    · exact absurd e e2
theorem hp_of {p : Nat → Int} (hw : wrB p = true) : ∀ c d : Nat, c < 2 → d < 2 → p (79 + c * 2 + d) < 0 ∨ rightB p c d (p (79 + c * 2 + d)) = true := fun c d hc hd => by
  rcases wr_R hw hc hd with e | e
  · exact Or.inl (by omega)
  · exact Or.inr e
theorem bq3_at {p : Nat → Int} (hw : wrB p = true) (j : Nat) : bq3 p j = if 79 ≤ j ∧ j < 83 then p j else bq2 p j := by
  unfold bq3
  refine roM_at j (fun k h1 h2 => ?_) (fun k h1 h2 => ?_)
  · have := wrB_rook hw (k - 79) (by omega)
    rw [show 79 + (k - 79) = k by omega] at this
    exact this.1
  · unfold bq2
    rw [upd_other _ _ _ _ (by omega), bq1_out hw (by omega)]
    exact nakP_one (by omega)
theorem bq4_out {p : Nat → Int} {j : Nat} (h : j ≠ 83) : bq4 p j = bq3 p j := by
  unfold bq4
  cases (p 83 == -1)
  · exact upd_other _ _ _ _ h
  · rfl
theorem bq5_out {p : Nat → Int} {j : Nat} (h : j ≠ 84 ∧ j ≠ 85) : bq5 p j = bq4 p j := by
  unfold bq5
  cases (p 0 == 5)
  · rfl
  · show upd (upd (bq4 p) 84 (p 84)) 85 (p 85) j = _
    rw [upd_other _ _ _ _ h.2, upd_other _ _ _ _ h.1]
theorem bq7_all {p : Nat → Int} (hF : FitF p) (hw : wrB p = true) (hz : ∀ i, 88 ≤ i → p i = 0) : bq7 p = p := by
  funext j
  unfold bq7
  by_cases h87 : j = 87
  · subst h87; rw [upd_same]
  rw [upd_other _ _ _ _ h87]
  by_cases h86 : j = 86
  · subst h86; rw [upd_same]
  rw [upd_other _ _ _ _ h86]
  by_cases hck : j = 84 ∨ j = 85
  · have key : bq4 p j = 0 := by
      rw [bq4_out (by omega), bq3_at hw, if_neg (by omega)]
      unfold bq2
      rw [upd_other _ _ _ _ (by omega), bq1_out hw (by omega)]
      exact nakP_at (by omega) (by omega)
    unfold bq5
    by_cases e5 : p 0 = 5
    · rw [show (p 0 == 5) = true by simpa using e5]
      show upd (upd (bq4 p) 84 (p 84)) 85 (p 85) j = _
      rcases hck with rfl | rfl
      · rw [upd_other _ _ _ _ (by omega), upd_same]
      · rw [upd_same]
    · rw [show (p 0 == 5) = false by simpa using e5]
      show bq4 p j = _
      rw [key]
      have h1 := wr_G hw (c := j - 84) (by omega)
      rw [show 84 + (j - 84) = j by omega] at h1
      have h2 := hF.chk j (by omega) (by omega)
      omega
  rw [bq5_out (by omega)]
  by_cases h83 : j = 83
  · subst h83
    unfold bq4
    by_cases e : p 83 = -1
    · rw [show (p 83 == -1) = true by simpa using e]
      show bq3 p 83 = _
      rw [bq3_at hw, if_neg (by omega)]
      unfold bq2
      rw [upd_other _ _ _ _ (by omega), bq1_out hw (by omega), e]
      exact nakP_one (by omega)
    · rw [show (p 83 == -1) = false by simpa using e]
      exact upd_same _ _ _
  rw [bq4_out h83, bq3_at hw]
  by_cases hro : 79 ≤ j ∧ j < 83
  · rw [if_pos hro]
  rw [if_neg hro]
  unfold bq2
  by_cases h78 : j = 78
  · subst h78; exact upd_same _ _ _
  rw [upd_other _ _ _ _ h78]
  by_cases h88 : 88 ≤ j
  · rw [bq1_out hw (by omega), hz j h88]
    exact nakP_at (by omega) (by omega)
  by_cases hpk : 66 ≤ j
  · exact bq1_pk hF hw hpk (by omega)
  by_cases h65 : j = 65
  · subst h65; exact bq1_prom hF hw
  by_cases h0 : j = 0
  · subst h0; rw [bq1_out hw (by omega)]; rfl
  have := bq1_bd hw (s := j - 1) (by omega)
  rw [show 1 + (j - 1) = j by omega] at this
  exact this
theorem rd_chain {q0 q1 q2 q3 q4 q5 q6 q7 : Nat → Int} {t0 t1 t2 t3 t4 t5 t6 t7 : List UInt8} (h0 : rdBoard q0 t0 = some (q1, t1)) (h1 : rdTurn q1 t1 = some (q2, t2)) (h2 : rdRooks q2 t2 = some (q3, t3)) (h3 : rdPass q3 t3 = some (q4, t4))
    (h4 : rdChk q4 t4 = some (q5, t5)) (h5 : rdNum 86 q5 t5 = some (q6, t6)) (h6 : rdNum 87 q6 t6 = some (q7, t7)) : rdUp 7 q0 t0 = some (q7, t7) := by
  have u0 : rdUp 0 q0 t0 = some (q0, t0) := rfl
  have u1 : rdUp 1 q0 t0 = some (q1, t1) := (rdUp_step u0).trans h0
  have u2 : rdUp 2 q0 t0 = some (q2, t2) := (rdUp_step u1).trans h1
  have u3 : rdUp 3 q0 t0 = some (q3, t3) := (rdUp_step u2).trans h2
  have u4 : rdUp 4 q0 t0 = some (q4, t4) := (rdUp_step u3).trans h3
  have u5 : rdUp 5 q0 t0 = some (q5, t5) := (rdUp_step u4).trans h4
  have u6 : rdUp 6 q0 t0 = some (q6, t6) := (rdUp_step u5).trans h5
  exact (rdUp_step u6).trans h6
theorem st_chk' {p : Nat → Int} (hF : FitF p) (hw : wrB p = true) (R : List UInt8) : rdChk (bq4 p) (ckX p ++ R) = some (bq5 p, R) := by
  have h0 : bq4 p 0 = p 0 := by
    rw [bq4_out (by omega), bq3_at hw, if_neg (by omega)]
    unfold bq2
    rw [upd_other _ _ _ _ (by omega), bq1_out hw (Or.inl rfl)]
    unfold nakP; rw [if_pos rfl]
  unfold ckX bq5
  by_cases e5 : p 0 = 5
  · rw [show (p 0 == 5) = true by simpa using e5]
    have g0 := wr_G hw (c := 0) (by omega)
    have g1 := wr_G hw (c := 1) (by omega)
    have f0 := hF.chk 84 (by omega) (by omega)
    have f1 := hF.chk 85 (by omega) (by omega)
    have := st_chk (p := p) (q := bq4 p) (R := R) e5 (by rw [h0]; exact e5) f0.1 g0.1 f1.1 g1.1
    simp only [cond_true]
    rw [List.append_assoc]
    exact this
  · have e5' : (p 0 == 5) = false := by simpa using e5
    rw [e5']
    unfold rdChk
    rw [h0, e5']
    rfl
/-- What can be written is read as it was. -/
theorem read_back {p : Nat → Int} (hF : FitF p) (hw : wrB p = true) (hz : ∀ i, 88 ≤ i → p i = 0) (hl : (fenT6 p).length ≤ 200) : rdAll (p 0) (fenT6 p) = some p := by
  have hT : fenL p = fenT6 p := by unfold fenL; rw [hw, decide_eq_true hl]; rfl
  have hp := hp_of hw
  obtain ⟨c1, c2, c3, c4, c5⟩ := wrB_clock hw
  have hps := wrB_pass hw
  have htu := wrB_turn hw
  have hbd : ∀ s, s < 64 → bq2 p (1 + s) = p (1 + s) := fun s hs => by
    unfold bq2; rw [upd_other _ _ _ _ (by omega)]; exact bq1_bd hw hs
  have e86 : (((p 86).toNat : Nat) : Int) = p 86 := by omega
  have e87 : (((p 87).toNat : Nat) : Int) = p 87 := by omega
  have h0 := fun R => st_board (p := p) (q := nakP (p 0)) (R := R) hw
  have h1 := fun R => st_turn (p := p) (q := bq1 p) (R := R) hF.turn.1 htu
  have h2 := fun R => st_rooks (q := bq2 p) (R := R) hp hbd
  have h3 := fun R => st_pass (p := p) (q := bq3 p) (R := R) hps c5
  have h4 := fun R => st_chk' hF hw R
  have h5 := fun R => st_num (i := 86) (q := bq5 p) (n := (p 86).toNat) (R := R) (by omega)
  have h6 := st_last (i := 87) (q := upd (bq5 p) 86 (p 86)) (n := (p 87).toNat) (by omega)
  rw [e86] at h5
  rw [e87] at h6
  have u7 : rdUp 7 (nakP (p 0)) (fenT6 p) = some (bq7 p, []) := by
    rw [fen_shape hps]
    exact rd_chain (h0 _) (h1 _) (h2 _) (h3 _) (h4 _) (h5 _) h6
  unfold rdAll
  rw [u7]
  show (bif fenL (bq7 p) == fenT6 p then some (bq7 p) else none) = _
  rw [bq7_all hF hw hz, hT, beq_self_eq_true]
  rfl
/-- A position, cut to its 88 places. -/
def cutP (p : Nat → Int) : Nat → Int := fun i => if i < 88 then p i else 0
theorem cutP_at {p : Nat → Int} {i : Nat} (h : i < 88) : cutP p i = p i := if_pos h
theorem cutP_far {p : Nat → Int} (i : Nat) (h : 88 ≤ i) : cutP p i = 0 := if_neg (by omega)
theorem posA_cut (p : Nat → Int) : posA (cutP p) = posA p := by
  unfold posA
  congr 1
  funext i
  rw [cutP_at i.isLt]
theorem FitF.cut {p : Nat → Int} (h : FitF p) : FitF (cutP p) := by
  refine ⟨?_, fun j hj => ?_, ?_, fun j h1 h2 => ?_, ?_, fun j h1 h2 => ?_, ?_, fun j h1 h2 => ?_⟩
  · rw [cutP_at (by omega)]; exact h.var
  · rw [cutP_at (by omega)]; exact h.bd j hj
  · rw [cutP_at (by omega)]; exact h.prom
  · rw [cutP_at (by omega)]; exact h.pock j h1 h2
  · rw [cutP_at (by omega)]; exact h.turn
  · rw [cutP_at (by omega)]; exact h.rook j h1 h2
  · rw [cutP_at (by omega)]; exact h.pass
  · rw [cutP_at (by omega)]; exact h.chk j h1 h2
theorem fenL_text {p : Nat → Int} (h : fenL p ≠ []) : wrB p = true ∧ (fenT6 p).length ≤ 200 ∧ fenL p = fenT6 p := by
  unfold fenL at h ⊢
  generalize fenT6 p = T at h ⊢
  generalize wrB p = b at h ⊢
  cases b
  · exact absurd rfl h
  · by_cases hl : T.length ≤ 200
    · exact ⟨rfl, hl, by rw [decide_eq_true hl]; rfl⟩
    · rw [decide_eq_false hl] at h; exact absurd rfl h
/-- What Parse makes of a position's text. -/
theorem parO_back {p : Nat → Int} (hF : FitF p) (hz : ∀ i, 88 ≤ i → p i = 0) (h : fenL p ≠ []) : parO (p 0) (fenL p) = some p := by
  obtain ⟨h1, h2, h3⟩ := fenL_text h
  have h9 := (wrB_parts h1).1
  have hr := read_back hF h1 hz h2
  rw [h3]
  unfold parO
  rw [hr]
  generalize fenT6 p = T at h2 ⊢
  rw [decide_eq_false (show ¬ 9 ≤ p 0 by omega), decide_eq_false (show ¬ 200 < T.length by omega)]
  rfl
end Go.Proofs.YtjbfjohgfbipgaaGreatDoor
