/-
  Layer 13: what becomes of the list when a piece of who is to move is taken off, or goes where it may.
-/
import Derived.Test.YtfdheeogpndklaaDoorPsM
import Derived.Test.YtfdheeogpndklaaDoorSlLaw
namespace Go.Proofs.YtfdheeogpndklaaDoor
open Go.RowKit
set_option linter.unusedVariables false
set_option linter.unusedSimpArgs false

theorem shift_mono {b c : Nat} {d : Int} (h : ∀ i, b.testBit i = true → c.testBit i = true) {i : Nat} (hi : (shiftN b d).testBit i = true) : (shiftN c d).testBit i = true := by
  by_cases hd : 0 ≤ d ∧ d < 8
  · have hlt := bit_lt (shiftN_lt b d) hi
    rw [shiftN_testBit _ d hd i hlt, Bool.and_eq_true] at hi ⊢
    exact ⟨hi.1, h _ hi.2⟩
  · rw [shiftN_out _ (dirB_false.2 (by omega)), Nat.zero_testBit] at hi; cases hi
theorem stp_mono {p q : Nat → Int} {o t o' b c : Nat} (e : q 78 = p 78) (ho : ∀ i, o'.testBit i = true → o.testBit i = true) (h : ∀ i, b.testBit i = true → c.testBit i = true) {i : Nat} (hi : (stpN p o t b).testBit i = true) : (stpN q o' t c).testBit i = true := by
  unfold stpN dirZ at hi ⊢
  rw [e]
  rw [offN_testBit, Bool.and_eq_true, Bool.not_eq_true', Nat.testBit_or, Bool.or_eq_false_iff] at hi ⊢
  refine ⟨shift_mono h hi.1, ?_, hi.2.2⟩
  cases g : o'.testBit i
  · rfl
  · rw [ho i g] at hi; exact absurd hi.2.1 (by decide)
theorem ah_mono {p q : Nat → Int} {o t o' n : Nat} (e0 : q 0 = p 0) (e : q 78 = p 78) (ho : ∀ i, o'.testBit i = true → o.testBit i = true) {i : Nat} (hi : (ahN p o t n).testBit i = true) : (ahN q o' t n).testBit i = true := by
  have em : mayB q n = mayB p n := by unfold mayB homZ ahdZ; rw [e, e0]
  unfold ahN onceN at hi ⊢
  rw [em]
  cases g : mayB p n
  · rw [g, cond_false] at hi; rw [cond_false]; exact stp_mono e ho (fun _ h => h) hi
  · rw [g, cond_true, Nat.testBit_or, Bool.or_eq_true] at hi
    rw [cond_true, Nat.testBit_or, Bool.or_eq_true]
    rcases hi with hi | hi
    · exact .inl (stp_mono e ho (fun _ h => h) hi)
    · exact .inr (stp_mono e ho (fun _ h => stp_mono e ho (fun _ h => h) h) hi)
theorem free_mono {o o' : Nat} {a b : Int} (ho : ∀ i, o'.testBit i = true → o.testBit i = true) (h : freeB o a b = true) : freeB o' a b = true := by
  rw [free_iff] at h ⊢
  intro t ht
  cases g : o'.testBit t
  · rfl
  · exact absurd (h t ht) (by rw [ho t g]; decide)
theorem all_free {o o' : Nat} {s : Int} {l : List Int} (ho : ∀ i, o'.testBit i = true → o.testBit i = true) {i : Nat} (h : (seenAll s o l).testBit i = true) : (seenAll s o' l).testBit i = true := by
  rw [seenAll_testBit, Bool.and_eq_true] at h ⊢
  exact ⟨h.1, free_mono ho h.2⟩
/-- What a piece may reach, with fewer of its own men about. -/
theorem rch_less {p q : Nat → Int} {o t o' n : Nat} (e0 : q 0 = p 0) (e : q 78 = p 78) (ep : q 83 = p 83) (ek : knP q (n : Int) = knP p (n : Int)) (ho : ∀ i, o'.testBit i = true → o.testBit i = true) {i : Nat} (hi : (rchN p o t n).testBit i = true) : (rchN q o' t n).testBit i = true := by
  have hot : ∀ i, (o' ||| t).testBit i = true → (o ||| t).testBit i = true := fun i h => by
    rw [Nat.testBit_or, Bool.or_eq_true] at h ⊢
    exact h.imp (ho i) id
  unfold rchN at hi ⊢
  rw [ek]
  cases g1 : (knP p (n : Int) == 1)
  · rw [g1, cond_false] at hi; rw [cond_false]
    cases g2 : (knP p (n : Int) == 2)
    · rw [g2, cond_false] at hi; rw [cond_false]
      cases g3 : (knP p (n : Int) == 3)
      · rw [g3, cond_false] at hi; rw [cond_false]
        cases g4 : (knP p (n : Int) == 4)
        · rw [g4, cond_false] at hi; rw [cond_false]
          cases g5 : (knP p (n : Int) == 5)
          · rw [g5, cond_false] at hi; rw [cond_false]
            unfold kgN at hi ⊢; rw [e0]; exact hi
          · rw [g5, cond_true] at hi; rw [cond_true]; exact all_free hot hi
        · rw [g4, cond_true] at hi; rw [cond_true]; exact all_free hot hi
      · rw [g3, cond_true] at hi; rw [cond_true]; exact all_free hot hi
    · rw [g2, cond_true] at hi; rw [cond_true]; exact hi
  · rw [g1, cond_true, Nat.testBit_or, Bool.or_eq_true] at hi
    rw [cond_true, Nat.testBit_or, Bool.or_eq_true]
    refine hi.imp (ah_mono e0 e ho) fun h => ?_
    unfold asN at h ⊢; rw [e, ep]; exact h
theorem knP_nat (p : Nat → Int) {i : Nat} (hi : i < 64) : knP p (i : Int) = kndZ (p (1 + i)) := kind_at p hi
theorem col_of {x : Int} (h : pcB x = true) : colZ x = x / 8 := by unfold colZ; rw [h, cond_true]
theorem knd_of {x : Int} (h : pcB x = true) : kndZ x = x % 8 := by unfold kndZ; rw [h, cond_true]
theorem turn_ne {c : Int} (h0 : 0 ≤ c) (h1 : c < 2) : c ≠ oth c := by unfold oth; omega
theorem pcB_zero : pcB 0 = false := by decide
theorem own_bit {p : Nat → Int} (hv : p 0 < 9) {i : Nat} (hi : i < 64) (h : (ownN p).testBit i = true) : pcB (p (1 + i)) = true ∧ p (1 + i) / 8 = p 78 := by
  rw [ownN_testBit hv hi, Bool.and_eq_true, beq_iff_eq] at h
  exact ⟨h.1, by rw [← col_of h.1]; exact h.2⟩
theorem less_all {p : Nat → Int} (hl : lawQ p = true) (ht0 : 0 ≤ p 78) {s : Nat} (hs : s < 64) (hc : p (1 + s) / 8 = p 78) {m : Pm} (h : m ∈ allL p) (hf : m.f ≠ (s : Int)) : m ∈ allL (upd p (1 + s) 0) := by
  obtain ⟨hb, ht, hv, _, _⟩ := lawQ_iff hl
  obtain ⟨a, b, k, ha, h1, hb64, h2, hk, rfl⟩ := all_mem h
  have has : a ≠ s := fun e => hf (by rw [e])
  obtain ⟨q, hq⟩ : ∃ q, upd p (1 + s) 0 = q := ⟨_, rfl⟩
  rw [hq]
  have qs : q (1 + s) = 0 := by rw [← hq]; exact upd_same _ _ _
  have qo : ∀ j, j ≠ 1 + s → q j = p j := fun j hj => by rw [← hq]; exact upd_other _ _ _ _ hj
  have q0 := qo 0 (by omega); have q78 := qo 78 (by omega); have q83 := qo 83 (by omega)
  have qv : q 0 < 9 := by rw [q0]; exact hv
  have own : ∀ i, i < 64 → (ownN q).testBit i = ((ownN p).testBit i && decide (i ≠ s)) := fun i hi => by
    rw [ownN_testBit qv hi, ownN_testBit hv hi, q78]
    by_cases e : i = s
    · subst e; rw [qs, pcB_zero]; simp
    · rw [qo _ (by omega)]; simp [e]
  have hown : ∀ i, (ownN q).testBit i = true → (ownN p).testBit i = true := fun i g => by
    have hi := bit_lt (ownN_lt q) g
    rw [own i hi, Bool.and_eq_true] at g; exact g.1
  have the : theN q = theN p := by
    apply eq_of_bits (theN_lt _) (theN_lt _)
    intro i hi
    rw [theN_testBit qv hi, theN_testBit hv hi, q78]
    by_cases e : i = s
    · subst e
      rw [qs, pcB_zero, Bool.false_and]
      cases g : pcB (p (1 + i))
      · rfl
      · rw [col_of g, hc, beq_eq_false_iff_ne.2 (turn_ne ht0 ht)]; rfl
    · rw [qo _ (by omega)]
  obtain ⟨g1, g2, g3⟩ := gol_own ha h2
  refine all_of ha (by rw [own a ha, h1]; simp [has]) hb64 ?_ ?_
  · unfold golN
    rw [hasN_nat _ _ ha, own a ha, h1, Int.toNat_natCast]
    simp only [has, ne_eq, not_false_eq_true, decide_true, Bool.and_true, cond_true]
    rw [offN_testBit, the]
    have e1 := rch_less q0 q78 q83 (by rw [knP_nat _ ha, knP_nat _ ha, qo _ (by omega)]) hown g3
    rw [e1, own b hb64, g2]; rfl
  · have e1 : becL q (a : Int) b = becL p (a : Int) b := by
      unfold becL
      rw [q0, q78, knP_nat _ ha, knP_nat _ ha, qo _ (by omega)]
    rw [e1]; exact hk

/-! There and back. -/
theorem rays_line {a b : Nat} (hb : b < 64) {l : List Int} (hl : ∀ d, d ∈ l → d ∈ queenDs) (h : (raysN (a : Int) l).testBit b = true) : lineN (a : Int) (b : Int) ≠ 0 := by
  have h0 : (seenAll (a : Int) 0 queenDs).testBit b = true := by
    rw [seenAll_testBit, free_zero, Bool.and_true]
    unfold raysN at h ⊢
    rw [foldl_or_testBit, Bool.or_eq_true, List.any_eq_true] at h ⊢
    rcases h with h | ⟨d, hd, h⟩
    · exact .inl h
    · exact .inr ⟨d, hl d hd, h⟩
  have h1 : (queenN (a : Int) 0).testBit b = true := h0
  rw [queen_testBit _ _ _ hb, Bool.and_eq_true] at h1
  exact of_decide_eq_true h1.1
theorem queenB_all : ∀ a : Nat, a < 64 → ∀ b : Nat, b < 64 → ((raysN (a : Int) queenDs).testBit b == (raysN (b : Int) queenDs).testBit a) = true := by decide +kernel
theorem seen_back_all {l : List Int} (hl : ∀ d, d ∈ l → d ∈ queenDs) {a b : Nat} (hb : b < 64) (hB : (raysN (a : Int) l).testBit b = (raysN (b : Int) l).testBit a) {o o' : Nat}
    (ho : ∀ i, i ≠ a → i ≠ b → o'.testBit i = o.testBit i) (h : (seenAll (a : Int) o l).testBit b = true) : (seenAll (b : Int) o' l).testBit a = true := by
  rw [seenAll_testBit, Bool.and_eq_true] at h
  have hln := rays_line hb hl h.1
  rw [seenAll_testBit, ← hB, h.1, Bool.true_and, free_back, ← h.2]
  refine free_congr fun t ht => ?_
  obtain ⟨n1, n2⟩ := between_own hln ht
  exact ho t (fun e => n1 (by rw [e])) (fun e => n2 (by rw [e]))
theorem back_all {p : Nat → Int} (hl : lawQ p = true) (ht0 : 0 ≤ p 78) {m : Pm} (h : m ∈ allL p) {a : Nat} (hma : m.f = (a : Int)) (hx : p (1 + a) % 8 ≠ 1) (hy : p (1 + m.t) = 0) : (⟨(m.t : Int), a, 0⟩ : Pm) ∈ allL (upd (upd p (1 + a) 0) (1 + m.t) (p (1 + a))) := by
  obtain ⟨hb, ht, hv, _, _⟩ := lawQ_iff hl
  obtain ⟨a', b, k, ha, h1, hb64, h2, hk, rfl⟩ := all_mem h
  obtain rfl : a' = a := by have : (a' : Int) = (a : Int) := hma; omega
  have hy : p (1 + b) = 0 := hy
  obtain ⟨g1, g2, g3⟩ := gol_own ha h2
  have hab : a' ≠ b := fun e => by rw [e, g2] at g1; cases g1
  obtain ⟨hpc, hcol⟩ := own_bit hv ha g1
  show (⟨(b : Int), a', 0⟩ : Pm) ∈ allL (upd (upd p (1 + a') 0) (1 + b) (p (1 + a')))
  obtain ⟨q, hq⟩ : ∃ q, upd (upd p (1 + a') 0) (1 + b) (p (1 + a')) = q := ⟨_, rfl⟩
  rw [hq]
  have qb : q (1 + b) = p (1 + a') := by rw [← hq]; exact upd_same _ _ _
  have qa : q (1 + a') = 0 := by rw [← hq, upd_other _ _ _ _ (by omega)]; exact upd_same _ _ _
  have qo : ∀ j, j ≠ 1 + a' → j ≠ 1 + b → q j = p j := fun j hj hj' => by rw [← hq, upd_other _ _ _ _ hj', upd_other _ _ _ _ hj]
  have q0 := qo 0 (by omega) (by omega); have q78 := qo 78 (by omega) (by omega)
  have qv : q 0 < 9 := by rw [q0]; exact hv
  have ownb : (ownN q).testBit b = true := by
    rw [ownN_testBit qv hb64, qb, q78, hpc, col_of hpc, hcol]; simp
  have owna : (ownN q).testBit a' = false := by rw [ownN_testBit qv ha, qa, pcB_zero]; rfl
  have ownO : ∀ i, i < 64 → i ≠ a' → i ≠ b → (ownN q).testBit i = (ownN p).testBit i := fun i hi h1 h2 => by
    rw [ownN_testBit qv hi, ownN_testBit hv hi, q78, qo _ (by omega) (by omega)]
  have thea : (theN p).testBit a' = false := by
    rw [theN_testBit hv ha, hpc, Bool.true_and, col_of hpc, hcol]; exact beq_eq_false_iff_ne.2 (turn_ne ht0 ht)
  have the : theN q = theN p := by
    apply eq_of_bits (theN_lt _) (theN_lt _)
    intro i hi
    by_cases e : i = a'
    · subst e; rw [thea, theN_testBit qv hi, qa, pcB_zero]; rfl
    · by_cases e2 : i = b
      · subst e2
        rw [theN_testBit qv hi, theN_testBit hv hi, qb, hy, pcB_zero, q78, hpc, col_of hpc, hcol, beq_eq_false_iff_ne.2 (turn_ne ht0 ht)]; rfl
      · rw [theN_testBit qv hi, theN_testBit hv hi, q78, qo _ (by omega) (by omega)]
  have occ : ∀ i, i ≠ a' → i ≠ b → (ownN q ||| theN q).testBit i = (ownN p ||| theN p).testBit i := fun i n1 n2 => by
    rw [Nat.testBit_or, Nat.testBit_or, the]
    by_cases hi : i < 64
    · rw [ownO i hi n1 n2]
    · have : ∀ x : Nat, x < W64 → x.testBit i = false := fun x hx => by
        cases g : x.testBit i
        · rfl
        · exact absurd (bit_lt hx g) hi
      rw [this _ (ownN_lt q), this _ (ownN_lt p)]
  have kb : knP q (b : Int) = knP p (a' : Int) := by rw [knP_nat _ hb64, knP_nat _ ha, qb]
  have k1 : (knP p (a' : Int) == 1) = false := by rw [knP_nat _ ha, knd_of hpc]; exact beq_eq_false_iff_ne.2 hx
  have t := turned_all (a' : Int) (b : Int)
  simp only [hasN_nat _ _ ha, hasN_nat _ _ hb64] at t
  refine all_of hb64 ownb ha ?_ ?_
  · unfold golN
    rw [hasN_nat _ _ hb64, ownb, Int.toNat_natCast, cond_true, offN_testBit, owna, Bool.not_false, Bool.and_true]
    unfold rchN at g3 ⊢
    rw [kb, k1, cond_false]
    rw [k1, cond_false] at g3
    cases g2' : (knP p (a' : Int) == 2)
    · rw [g2', cond_false] at g3; rw [cond_false]
      cases g3' : (knP p (a' : Int) == 3)
      · rw [g3', cond_false] at g3; rw [cond_false]
        cases g4 : (knP p (a' : Int) == 4)
        · rw [g4, cond_false] at g3; rw [cond_false]
          cases g5 : (knP p (a' : Int) == 5)
          · rw [g5, cond_false] at g3; rw [cond_false]
            unfold kgN at g3 ⊢
            rw [q0, the]
            cases g6 : (p 0 == 3)
            · rw [g6, cond_false] at g3; rw [cond_false, ← t.1]; exact g3
            · rw [g6, cond_true, offN_testBit, Bool.and_eq_true] at g3
              rw [cond_true, offN_testBit, thea, ← t.1, g3.1]; rfl
          · rw [g5, cond_true] at g3; rw [cond_true]
            exact seen_back_all (fun _ h => h) hb64 (beq_iff_eq.1 (queenB_all a' ha b hb64)) occ g3
        · rw [g4, cond_true] at g3; rw [cond_true]
          exact seen_back_all (fun d hd => by simp only [rookDs, queenDs, List.mem_cons, List.not_mem_nil, or_false] at hd ⊢; omega) hb64 (beq_iff_eq.1 (rookB_all a' ha b hb64)) occ g3
      · rw [g3', cond_true] at g3; rw [cond_true]
        exact seen_back_all (fun d hd => by simp only [bishDs, queenDs, List.mem_cons, List.not_mem_nil, or_false] at hd ⊢; omega) hb64 (beq_iff_eq.1 (bishB_all a' ha b hb64)) occ g3
    · rw [g2', cond_true] at g3; rw [cond_true, ← t.2.1]; exact g3
  · unfold becL
    rw [kb, k1, Bool.false_and, cond_false]; exact List.mem_singleton.2 rfl
end Go.Proofs.YtfdheeogpndklaaDoor
