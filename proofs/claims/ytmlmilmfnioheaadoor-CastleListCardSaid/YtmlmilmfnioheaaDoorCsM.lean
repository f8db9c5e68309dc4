/-
  The document's own May of layer 14.
-/
import Derived.Test.YtmlmilmfnioheaaDoorCsK
import Derived.Test.YtmlmilmfnioheaaDoorCsI
namespace Go.Proofs.YtmlmilmfnioheaaDoor
open Go.RowKit Go.Shelf
set_option linter.unusedVariables false
set_option linter.unusedSimpArgs false
attribute [local go_sem] Oper.semAt_some

theorem rgK2 {n a b : Int} (h1 : gkC n = a) (h2 : grC n = b) (w : World) : Calls Tryd.prog 15 #[.int .i64 n] w (IntPL a b w) := by
  rw [← h1, ← h2]; exact cs_rgoals n w
theorem is_ofk {c k x : Int} (hk : k ≠ 0) : (kndZ x == k && x / 8 == c) = ofB c k x := by
  unfold ofB
  rw [Bool.eq_iff_iff]
  simp only [Bool.and_eq_true, Bool.or_eq_true, beq_iff_eq]
  unfold kndZ colZ
  cases g : pcB x
  · simp only [cond_false]
    constructor
    · rintro ⟨h, _⟩; exact absurd h.symm hk
    · rintro ⟨h, _⟩; cases h
  · simp only [cond_true]
    constructor
    · rintro ⟨h1, h2⟩; exact ⟨trivial, h2, .inr h1⟩
    · rintro ⟨_, h2, h1⟩; exact ⟨h1.resolve_left hk, h2⟩
theorem nam_at {p : Nat → Int} {n : Nat} (hn : n < 2) (h : namC p n = true) : 0 ≤ flC p n ∧ flC p n < 8 ∧ hasN (ofN p (p 78) 4) (hmC (p 78) + flC p n) = true ∧ hmC (p 78) ≤ kingZ p (p 78) ∧ kingZ p (p 78) < hmC (p 78) + 8 ∧ (if n = 0 then kingZ p (p 78) < hmC (p 78) + flC p n else hmC (p 78) + flC p n < kingZ p (p 78)) := by
  unfold namC flB at h
  simp only [Bool.and_eq_true, decide_eq_true_eq, beq_iff_eq] at h
  obtain ⟨⟨h1, h2⟩, h3, hsd⟩ := h
  obtain ⟨g1, g2, g3, g4, g5, g6, g7⟩ := sdC_at (c := p 78) (m := mvC p n) (by rw [hsd]; omega)
  refine ⟨h1, h2, h3, g4, g5, ?_⟩
  rw [sdC_yes' g1 g2 g3 ⟨g4, g5⟩ ⟨g6, g7⟩] at hsd
  have g2' : kingZ p (p 78) ≠ hmC (p 78) + flC p n := g2
  by_cases e : kingZ p (p 78) < hmC (p 78) + flC p n
  · have e' : decide ((mvC p n).f < (mvC p n).t) = true := decide_eq_true e
    rw [e', cond_true] at hsd
    rw [if_pos (by omega)]; exact e
  · have e' : decide ((mvC p n).f < (mvC p n).t) = false := decide_eq_false e
    rw [e', cond_false] at hsd
    rw [if_neg (by omega)]; omega
theorem nam_of {p : Nat → Int} {n : Nat} (hn : n < 2) (ht : p 78 ≤ 1) (h1 : 0 ≤ flC p n ∧ flC p n < 8) (h3 : hasN (ofN p (p 78) 4) (hmC (p 78) + flC p n) = true) (h4 : hmC (p 78) ≤ kingZ p (p 78) ∧ kingZ p (p 78) < hmC (p 78) + 8) (h5 : if n = 0 then kingZ p (p 78) < hmC (p 78) + flC p n else hmC (p 78) + flC p n < kingZ p (p 78)) : namC p n = true := by
  have hsd : sdC (p 78) (mvC p n) = (n : Int) := by
    have g2 : (mvC p n).f ≠ (mvC p n).t := by
      show kingZ p (p 78) ≠ hmC (p 78) + flC p n
      split at h5 <;> omega
    rw [sdC_yes' (c := p 78) (m := mvC p n) rfl g2 ht h4 (by show hmC (p 78) ≤ hmC (p 78) + flC p n ∧ hmC (p 78) + flC p n < hmC (p 78) + 8; omega)]
    by_cases e : kingZ p (p 78) < hmC (p 78) + flC p n
    · have e' : decide ((mvC p n).f < (mvC p n).t) = true := decide_eq_true e
      rw [e', cond_true]
      split at h5 <;> omega
    · have e' : decide ((mvC p n).f < (mvC p n).t) = false := decide_eq_false e
      rw [e', cond_false]
      split at h5 <;> omega
  unfold namC flB
  rw [decide_eq_true h1.1, decide_eq_true h1.2, h3, hsd, beq_self_eq_true]; rfl
/-- Nothing is wrong with a square of the home. -/
def okC (q : Nat → Int) (f K r R : Int) (s : Nat) : Bool := !(((wiB (s : Int) f K || wiB (s : Int) r R) && (kndZ (q (1 + s)) != 0)) || (wiB (s : Int) f K && bdC q (s : Int)))
theorem at_knd (q : Nat → Int) {s : Nat} (hs : s < 64) : (atZ q (s : Int) == 0) = !(kndZ (q (1 + s)) != 0) := by
  rw [atZ_nat q hs]
  unfold kndZ
  cases g : pcB (q (1 + s))
  · simp
  · have := pcB_true.1 g
    rw [if_pos rfl, cond_true, Bool.eq_iff_iff]
    simp
    omega
theorem ok_all {q : Nat → Int} {f K r R : Int} {h : Nat} (hh : h ≤ 56) (hf : (h : Int) ≤ f ∧ f < h + 8) (hK : (h : Int) ≤ K ∧ K < h + 8) (hr : (h : Int) ≤ r ∧ r < h + 8) (hR : (h : Int) ≤ R ∧ R < h + 8) :
    (freeC q f K && (freeC q r R && safeC q f K)) = true ↔ ∀ j, j < 8 → okC q f K r R (h + j) = true := by
  unfold freeC safeC
  simp only [Bool.and_eq_true, List.all_eq_true]
  constructor
  · rintro ⟨h1, h2, h3⟩ j hj
    unfold okC
    have hs : h + j < 64 := by omega
    have hk := at_knd q hs
    cases g1 : wiB ((h + j : Nat) : Int) f K
    · cases g2 : wiB ((h + j : Nat) : Int) r R
      · rfl
      · rw [h2 _ (wi_sp.1 g2)] at hk
        have : (kndZ (q (1 + (h + j))) != 0) = false := by cases e : (kndZ (q (1 + (h + j))) != 0); { rfl }; { rw [e] at hk; cases hk }
        rw [this]; rfl
    · rw [h1 _ (wi_sp.1 g1)] at hk
      have : (kndZ (q (1 + (h + j))) != 0) = false := by cases e : (kndZ (q (1 + (h + j))) != 0); { rfl }; { rw [e] at hk; cases hk }
      have hb := h3 _ (wi_sp.1 g1)
      rw [Bool.not_eq_true'] at hb
      rw [this, hb]; simp
  · intro hall
    have key : ∀ x : Int, (h : Int) ≤ x ∧ x < h + 8 → ∃ j, j < 8 ∧ x = ((h + j : Nat) : Int) := fun x hx => ⟨(x - h).toNat, by omega, by omega⟩
    refine ⟨fun x hx => ?_, fun x hx => ?_, fun x hx => ?_⟩
    · have := spL_mem hx
      obtain ⟨j, hj, rfl⟩ := key x (by omega)
      have ho := hall j hj
      unfold okC at ho
      rw [wi_sp.2 hx] at ho
      rw [at_knd q (by omega)]
      cases e : (kndZ (q (1 + (h + j))) != 0)
      · rfl
      · rw [e] at ho; simp at ho
    · have := spL_mem hx
      obtain ⟨j, hj, rfl⟩ := key x (by omega)
      have ho := hall j hj
      unfold okC at ho
      rw [wi_sp.2 hx] at ho
      rw [at_knd q (by omega)]
      cases e : (kndZ (q (1 + (h + j))) != 0)
      · rfl
      · rw [e] at ho; simp at ho
    · have := spL_mem hx
      obtain ⟨j, hj, rfl⟩ := key x (by omega)
      have ho := hall j hj
      unfold okC at ho
      rw [wi_sp.2 hx] at ho
      cases e : bdC q ((h + j : Nat) : Int)
      · rfl
      · rw [e] at ho; simp at ho
def mayB' (p : Nat → Int) (n : Nat) : Bool := thC p && inC p n
def RMayL (p : Nat → Int) (n : Nat) (w : World) (e : Ending) (w' : World) : Prop := e = .returned (.tuple #[.int .i64 (bif mayB' p n then (mvC p n).f else 0), .int .i64 (bif mayB' p n then (mvC p n).t else 0), .bool (mayB' p n)]) ∧ Below w.heap.size w w'
theorem rcasK {p : Nat → Int} {b : Bool} (hp : 0 ≤ p 0 ∧ p 0 ≤ 255) (h : casB (p 0).toNat = b) (w : World) : Calls Tryd.prog 37 #[.int .u8 (p 0)] w (BoE b w) := by
  have e : p 0 = ((p 0).toNat : Int) := by omega
  rw [e, ← h]
  exact rcas_any _ w
theorem rfndK {p : Nat → Int} {c k : Int} (e : kingZ p c = k) (w : World) (hp : BdR p) : Calls Tryd.prog 38 #[.agg (posA p), .int .u8 c, .int .u8 6] w (IntL k w) := e ▸ rfind_any p c w hp
theorem bare_upd {p : Nat → Int} {f r : Nat} (hf : f < 64) (hr : r < 64) : bareC p (f : Int) (r : Int) = upd (upd p (1 + f) 0) (1 + r) 0 := by
  have h : ∀ i : Nat, i < 64 → putB (i : Int) 0 = true := fun i hi => by unfold putB; rw [sq_true.2 ⟨by omega, by omega⟩]; rfl
  unfold bareC
  rw [putP_yes (h f hf), putP_yes (h r hr)]
theorem nth_no {p : Nat → Int} (h : thC p = false) (n : Nat) : mayB' p n = false := by unfold mayB'; rw [h]; rfl
theorem nam_no {p : Nat → Int} {n : Nat} (h : namC p n ≠ true) : mayB' p n = false := by unfold mayB' inC; rw [Bool.eq_false_iff.2 h]; simp
theorem if0 {a b : Prop} : (if (0 : Nat) = 0 then a else b) = a := rfl
theorem if1 {a b : Prop} : (if (1 : Nat) = 0 then a else b) = b := rfl
set_option maxRecDepth 100000 in
set_option maxHeartbeats 3000000 in
theorem cs_rmay0 (p : Nat → Int) (w : World) (hp : CsR p) : Calls Tryd.prog 23 #[.agg (posA p), .int .i64 0] w (RMayL p 0 w) := by
  have HP := Lib.hid hp.at_.bd
  have HV := Lib.hid hp.at_.var
  have ht0 := hp.at_.turn.1
  unfold RMayL
  have HB := Lib.hid (Below.refl w.heap.size w)
  by_cases h78 : 1 < p 78
  · have q0 : decide (1 < p 78) = true := decide_eq_true h78
    have HS := Lib.hid (nth_no (p := p) (by unfold thC; rw [decide_eq_false (by omega)]; rfl) 0)
    clear hp h78
    go_enter Tryd.func23, Tryd.ntmps23
    go_wp2_with (first
      | (guard_target = Go.wpList _ _ _ ((⟨some 2, .box _ _, _, _, _, _⟩ : Go.Oper) :: _) _ _; refine step_box rfl _ rfl p rfl ?_; intro b2 w1 N R; have HG2 := Lib.hid (show w.heap.size ≤ b2 by have := HB.out.size; have := N.at_; omega); have HB := Lib.hid (below_on HB.out N.below); have HR2 := Lib.hid R; clear N R)
      | (guard_target = Go.wpList _ _ _ ((⟨some _, .load _ (.tmp 16), _, _, _, _⟩ : Go.Oper) :: _) _ _; refine step_get rfl 5 _ rfl b2 78 rfl Tryd.underlying5 rfl (.int .u8 (p 78)) ?_ ?_; exact HR2.out.cell 78 (by decide)))
    go_ret3
    exact ⟨by rw [HS.out]; rfl, HB.out⟩
  · cases hcas : casB (p 0).toNat
    · have q0 : decide (1 < p 78) = false := decide_eq_false h78
      have HCas := Lib.hid hcas
      have HS := Lib.hid (nth_no (p := p) (by unfold thC; rw [hcas, Bool.and_false]) 0)
      clear hp h78 hcas
      go_enter Tryd.func23, Tryd.ntmps23
      go_wp2_with (first
      | (guard_target = Go.wpList _ _ _ ((⟨some 2, .box _ _, _, _, _, _⟩ : Go.Oper) :: _) _ _; refine step_box rfl _ rfl p rfl ?_; intro b2 w1 N R; have HG2 := Lib.hid (show w.heap.size ≤ b2 by have := HB.out.size; have := N.at_; omega); have HB := Lib.hid (below_on HB.out N.below); have HR2 := Lib.hid R; clear N R)
      | (guard_target = Go.wpList _ _ _ ((⟨some _, .load _ (.tmp 16), _, _, _, _⟩ : Go.Oper) :: _) _ _; refine step_get rfl 5 _ rfl b2 78 rfl Tryd.underlying5 rfl (.int .u8 (p 78)) ?_ ?_; exact HR2.out.cell 78 (by decide))
      | (guard_target = Go.wpList _ _ _ ((⟨some _, .load _ (.tmp 20), _, _, _, _⟩ : Go.Oper) :: _) _ _; refine step_get rfl 5 _ rfl b2 0 rfl Tryd.underlying5 rfl (.int .u8 (p 0)) ?_ ?_; exact HR2.out.cell 0 (by decide))
      | (go_at_call 37; refine (rcasK HV.out HCas.out _).mono ?_; rintro e w3 ⟨rfl, rfl⟩))
      go_ret3
      exact ⟨by rw [HS.out]; rfl, HB.out⟩
    · have q0 : decide (1 < p 78) = false := decide_eq_false h78
      have HCas := Lib.hid hcas
      have hth : thC p = true := by unfold thC; rw [hcas, decide_eq_true (show p 78 ≤ 1 by omega)]; rfl
      obtain ⟨c, hc⟩ : ∃ c : Nat, p 78 = (c : Int) := ⟨(p 78).toNat, by omega⟩
      have hc2 : c < 2 := by omega
      have HC := Lib.hid hc
      have HC2 := Lib.hid hc2
      obtain ⟨h, hh⟩ : ∃ h : Nat, 56 * c = h := ⟨_, rfl⟩
      have hhI : 56 * (c : Int) = (h : Int) := by omega
      have hhm : hmC (p 78) = (h : Int) := by rw [hc, ← hhI]; rcases (by omega : c = 0 ∨ c = 1) with rfl | rfl <;> rfl
      have hh56 : h ≤ 56 := by omega
      obtain ⟨r, hr⟩ : ∃ r, flC p 0 = r := ⟨_, rfl⟩
      have hr' : p (79 + c * 2 + 0) = r := by rw [← hr]; unfold flC; rw [hc, Int.toNat_natCast]
      have HRr := Lib.hid hr'
      have hrr : -128 ≤ r ∧ r ≤ 127 := by rw [← hr']; exact hp.rk (c * 2 + 0) (by omega)
      obtain ⟨kz, hkz⟩ : ∃ kz, kingZ p (c : Int) = kz := ⟨_, rfl⟩
      have hkr : -1 ≤ kz ∧ kz ≤ 63 := by rw [← hkz]; exact king_rng _ _
      have HKz := Lib.hid hkz
      have hna := nam_at (p := p) (n := 0) (by decide)
      have hno := nam_of (p := p) (n := 0) (by decide) (by omega)
      rw [hc] at hna hno
      rw [hkz, hr, show hmC (c : Int) = (h : Int) by rw [← hc]; exact hhm] at hna hno
      rw [if0] at hna hno
      have hmv : mvC p 0 = ⟨kz, (h : Int) + r, 0, 0, true⟩ := by unfold mvC; rw [hhm, hr, hc, hkz]
      have HA := Lib.hid hp.at_
      have HTh := Lib.hid hth
      have HMv := Lib.hid hmv
      have HNa := Lib.hid hna
      have HNo := Lib.hid hno
      have HRl := Lib.hid hhm
      clear hp h78 hcas hth hr hr' hkz hmv hc hna hno hh
      by_cases g1 : kz < (h : Int)
      · have q1 : decide (kz < (h : Int)) = true := decide_eq_true g1
        have HS := Lib.hid (nam_no (p := p) (n := 0) (fun e => by have := HNa.out e; omega))
        clear hhm
        go_enter Tryd.func23, Tryd.ntmps23
        go_wp2_with (first
          | (guard_target = Go.wpList _ _ _ ((⟨some 2, .box _ _, _, _, _, _⟩ : Go.Oper) :: _) _ _; refine step_box rfl _ rfl p rfl ?_; intro b2 w1 N R; have HG2 := Lib.hid (show w.heap.size ≤ b2 by have := HB.out.size; have := N.at_; omega); have HB := Lib.hid (below_on HB.out N.below); have HR2 := Lib.hid R; clear N R)
          | (guard_target = Go.wpList _ _ _ ((⟨some _, .load _ (.tmp 16), _, _, _, _⟩ : Go.Oper) :: _) _ _; refine step_get rfl 5 _ rfl b2 78 rfl Tryd.underlying5 rfl (.int .u8 (p 78)) ?_ ?_; exact HR2.out.cell 78 (by decide))
          | (guard_target = Go.wpList _ _ _ ((⟨some _, .load _ (.tmp 20), _, _, _, _⟩ : Go.Oper) :: _) _ _; refine step_get rfl 5 _ rfl b2 0 rfl Tryd.underlying5 rfl (.int .u8 (p 0)) ?_ ?_; exact HR2.out.cell 0 (by decide))
          | (go_at_call 37; refine (rcasK HV.out HCas.out _).mono ?_; rintro e w3 ⟨rfl, rfl⟩)
          | (guard_target = Go.wpList _ _ _ ((⟨some _, .load _ (.tmp 25), _, _, _, _⟩ : Go.Oper) :: _) _ _; refine step_get rfl 5 _ rfl b2 78 rfl Tryd.underlying5 rfl (.int .u8 (c : Int)) ?_ ?_; exact (HR2.out.cell 78 (by decide)).trans (by rw [HC.out]; rfl))
          | (guard_target = Go.wpList _ _ _ ((⟨some _, .load _ (.tmp 30), _, _, _, _⟩ : Go.Oper) :: _) _ _; refine step_get rfl 5 _ rfl b2 78 rfl Tryd.underlying5 rfl (.int .u8 (c : Int)) ?_ ?_; exact (HR2.out.cell 78 (by decide)).trans (by rw [HC.out]; rfl))
          | (guard_target = Go.wpList _ _ _ ((⟨some _, .load _ (.tmp 33), _, _, _, _⟩ : Go.Oper) :: _) _ _; refine step_get rfl 5 _ rfl b2 78 rfl Tryd.underlying5 rfl (.int .u8 (c : Int)) ?_ ?_; exact (HR2.out.cell 78 (by decide)).trans (by rw [HC.out]; rfl))
          | (guard_target = Go.wpList _ _ _ ((⟨some _, .load _ (.tmp 2), _, _, _, _⟩ : Go.Oper) :: _) _ _; refine step_load rfl _ rfl b2 rfl p HR2.out ?_)
          | (go_at_call 38; refine (rfndK HKz.out _ HP.out).mono ?_; rintro e w3 ⟨rfl, hb⟩; have HR2 := Lib.hid (HR2.out.later hb); have HB := Lib.hid (below_on HB.out hb); clear hb)
          | (guard_target = Go.wpList _ _ _ ((⟨some 39, .load _ (.tmp 38), _, _, _, _⟩ : Go.Oper) :: _) _ _; refine step_get rfl 26 _ rfl b2 (79 + c * 2 + 0) rfl Tryd.underlying26 rfl (.int .i8 r) ?_ ?_; exact (HR2.out.cell (79 + c * 2 + 0) (by omega)).trans (by rw [kAt_rk HC2.out (by decide), HRr.out])))
        go_ret3
        exact ⟨by rw [HS.out]; rfl, HB.out⟩
      · have q1 : decide (kz < (h : Int)) = false := decide_eq_false g1
        by_cases g2 : (h : Int) + 7 < kz
        · have q2 : decide ((h : Int) + 7 < kz) = true := decide_eq_true g2
          have HS := Lib.hid (nam_no (p := p) (n := 0) (fun e => by have := HNa.out e; omega))
          clear hhm
          go_enter Tryd.func23, Tryd.ntmps23
          go_wp2_with (first
            | (guard_target = Go.wpList _ _ _ ((⟨some 2, .box _ _, _, _, _, _⟩ : Go.Oper) :: _) _ _; refine step_box rfl _ rfl p rfl ?_; intro b2 w1 N R; have HG2 := Lib.hid (show w.heap.size ≤ b2 by have := HB.out.size; have := N.at_; omega); have HB := Lib.hid (below_on HB.out N.below); have HR2 := Lib.hid R; clear N R)
            | (guard_target = Go.wpList _ _ _ ((⟨some _, .load _ (.tmp 16), _, _, _, _⟩ : Go.Oper) :: _) _ _; refine step_get rfl 5 _ rfl b2 78 rfl Tryd.underlying5 rfl (.int .u8 (p 78)) ?_ ?_; exact HR2.out.cell 78 (by decide))
            | (guard_target = Go.wpList _ _ _ ((⟨some _, .load _ (.tmp 20), _, _, _, _⟩ : Go.Oper) :: _) _ _; refine step_get rfl 5 _ rfl b2 0 rfl Tryd.underlying5 rfl (.int .u8 (p 0)) ?_ ?_; exact HR2.out.cell 0 (by decide))
            | (go_at_call 37; refine (rcasK HV.out HCas.out _).mono ?_; rintro e w3 ⟨rfl, rfl⟩)
            | (guard_target = Go.wpList _ _ _ ((⟨some _, .load _ (.tmp 25), _, _, _, _⟩ : Go.Oper) :: _) _ _; refine step_get rfl 5 _ rfl b2 78 rfl Tryd.underlying5 rfl (.int .u8 (c : Int)) ?_ ?_; exact (HR2.out.cell 78 (by decide)).trans (by rw [HC.out]; rfl))
            | (guard_target = Go.wpList _ _ _ ((⟨some _, .load _ (.tmp 30), _, _, _, _⟩ : Go.Oper) :: _) _ _; refine step_get rfl 5 _ rfl b2 78 rfl Tryd.underlying5 rfl (.int .u8 (c : Int)) ?_ ?_; exact (HR2.out.cell 78 (by decide)).trans (by rw [HC.out]; rfl))
            | (guard_target = Go.wpList _ _ _ ((⟨some _, .load _ (.tmp 33), _, _, _, _⟩ : Go.Oper) :: _) _ _; refine step_get rfl 5 _ rfl b2 78 rfl Tryd.underlying5 rfl (.int .u8 (c : Int)) ?_ ?_; exact (HR2.out.cell 78 (by decide)).trans (by rw [HC.out]; rfl))
            | (guard_target = Go.wpList _ _ _ ((⟨some _, .load _ (.tmp 2), _, _, _, _⟩ : Go.Oper) :: _) _ _; refine step_load rfl _ rfl b2 rfl p HR2.out ?_)
            | (go_at_call 38; refine (rfndK HKz.out _ HP.out).mono ?_; rintro e w3 ⟨rfl, hb⟩; have HR2 := Lib.hid (HR2.out.later hb); have HB := Lib.hid (below_on HB.out hb); clear hb)
            | (guard_target = Go.wpList _ _ _ ((⟨some 39, .load _ (.tmp 38), _, _, _, _⟩ : Go.Oper) :: _) _ _; refine step_get rfl 26 _ rfl b2 (79 + c * 2 + 0) rfl Tryd.underlying26 rfl (.int .i8 r) ?_ ?_; exact (HR2.out.cell (79 + c * 2 + 0) (by omega)).trans (by rw [kAt_rk HC2.out (by decide), HRr.out])))
          go_ret3
          exact ⟨by rw [HS.out]; rfl, HB.out⟩
        · have q2 : decide ((h : Int) + 7 < kz) = false := decide_eq_false g2
          by_cases g3 : r < 0
          · have q3 : decide (r < 0) = true := decide_eq_true g3
            have HS := Lib.hid (nam_no (p := p) (n := 0) (fun e => by have := HNa.out e; omega))
            clear hhm
            go_enter Tryd.func23, Tryd.ntmps23
            go_wp2_with (first
              | (guard_target = Go.wpList _ _ _ ((⟨some 2, .box _ _, _, _, _, _⟩ : Go.Oper) :: _) _ _; refine step_box rfl _ rfl p rfl ?_; intro b2 w1 N R; have HG2 := Lib.hid (show w.heap.size ≤ b2 by have := HB.out.size; have := N.at_; omega); have HB := Lib.hid (below_on HB.out N.below); have HR2 := Lib.hid R; clear N R)
              | (guard_target = Go.wpList _ _ _ ((⟨some _, .load _ (.tmp 16), _, _, _, _⟩ : Go.Oper) :: _) _ _; refine step_get rfl 5 _ rfl b2 78 rfl Tryd.underlying5 rfl (.int .u8 (p 78)) ?_ ?_; exact HR2.out.cell 78 (by decide))
              | (guard_target = Go.wpList _ _ _ ((⟨some _, .load _ (.tmp 20), _, _, _, _⟩ : Go.Oper) :: _) _ _; refine step_get rfl 5 _ rfl b2 0 rfl Tryd.underlying5 rfl (.int .u8 (p 0)) ?_ ?_; exact HR2.out.cell 0 (by decide))
              | (go_at_call 37; refine (rcasK HV.out HCas.out _).mono ?_; rintro e w3 ⟨rfl, rfl⟩)
              | (guard_target = Go.wpList _ _ _ ((⟨some _, .load _ (.tmp 25), _, _, _, _⟩ : Go.Oper) :: _) _ _; refine step_get rfl 5 _ rfl b2 78 rfl Tryd.underlying5 rfl (.int .u8 (c : Int)) ?_ ?_; exact (HR2.out.cell 78 (by decide)).trans (by rw [HC.out]; rfl))
              | (guard_target = Go.wpList _ _ _ ((⟨some _, .load _ (.tmp 30), _, _, _, _⟩ : Go.Oper) :: _) _ _; refine step_get rfl 5 _ rfl b2 78 rfl Tryd.underlying5 rfl (.int .u8 (c : Int)) ?_ ?_; exact (HR2.out.cell 78 (by decide)).trans (by rw [HC.out]; rfl))
              | (guard_target = Go.wpList _ _ _ ((⟨some _, .load _ (.tmp 33), _, _, _, _⟩ : Go.Oper) :: _) _ _; refine step_get rfl 5 _ rfl b2 78 rfl Tryd.underlying5 rfl (.int .u8 (c : Int)) ?_ ?_; exact (HR2.out.cell 78 (by decide)).trans (by rw [HC.out]; rfl))
              | (guard_target = Go.wpList _ _ _ ((⟨some _, .load _ (.tmp 2), _, _, _, _⟩ : Go.Oper) :: _) _ _; refine step_load rfl _ rfl b2 rfl p HR2.out ?_)
              | (go_at_call 38; refine (rfndK HKz.out _ HP.out).mono ?_; rintro e w3 ⟨rfl, hb⟩; have HR2 := Lib.hid (HR2.out.later hb); have HB := Lib.hid (below_on HB.out hb); clear hb)
              | (guard_target = Go.wpList _ _ _ ((⟨some 39, .load _ (.tmp 38), _, _, _, _⟩ : Go.Oper) :: _) _ _; refine step_get rfl 26 _ rfl b2 (79 + c * 2 + 0) rfl Tryd.underlying26 rfl (.int .i8 r) ?_ ?_; exact (HR2.out.cell (79 + c * 2 + 0) (by omega)).trans (by rw [kAt_rk HC2.out (by decide), HRr.out])))
            go_ret3
            exact ⟨by rw [HS.out]; rfl, HB.out⟩
          · have q3 : decide (r < 0) = false := decide_eq_false g3
            by_cases g4 : 7 < r
            · have q4 : decide (7 < r) = true := decide_eq_true g4
              have HS := Lib.hid (nam_no (p := p) (n := 0) (fun e => by have := HNa.out e; omega))
              clear hhm
              go_enter Tryd.func23, Tryd.ntmps23
              go_wp2_with (first
                | (guard_target = Go.wpList _ _ _ ((⟨some 2, .box _ _, _, _, _, _⟩ : Go.Oper) :: _) _ _; refine step_box rfl _ rfl p rfl ?_; intro b2 w1 N R; have HG2 := Lib.hid (show w.heap.size ≤ b2 by have := HB.out.size; have := N.at_; omega); have HB := Lib.hid (below_on HB.out N.below); have HR2 := Lib.hid R; clear N R)
                | (guard_target = Go.wpList _ _ _ ((⟨some _, .load _ (.tmp 16), _, _, _, _⟩ : Go.Oper) :: _) _ _; refine step_get rfl 5 _ rfl b2 78 rfl Tryd.underlying5 rfl (.int .u8 (p 78)) ?_ ?_; exact HR2.out.cell 78 (by decide))
                | (guard_target = Go.wpList _ _ _ ((⟨some _, .load _ (.tmp 20), _, _, _, _⟩ : Go.Oper) :: _) _ _; refine step_get rfl 5 _ rfl b2 0 rfl Tryd.underlying5 rfl (.int .u8 (p 0)) ?_ ?_; exact HR2.out.cell 0 (by decide))
                | (go_at_call 37; refine (rcasK HV.out HCas.out _).mono ?_; rintro e w3 ⟨rfl, rfl⟩)
                | (guard_target = Go.wpList _ _ _ ((⟨some _, .load _ (.tmp 25), _, _, _, _⟩ : Go.Oper) :: _) _ _; refine step_get rfl 5 _ rfl b2 78 rfl Tryd.underlying5 rfl (.int .u8 (c : Int)) ?_ ?_; exact (HR2.out.cell 78 (by decide)).trans (by rw [HC.out]; rfl))
                | (guard_target = Go.wpList _ _ _ ((⟨some _, .load _ (.tmp 30), _, _, _, _⟩ : Go.Oper) :: _) _ _; refine step_get rfl 5 _ rfl b2 78 rfl Tryd.underlying5 rfl (.int .u8 (c : Int)) ?_ ?_; exact (HR2.out.cell 78 (by decide)).trans (by rw [HC.out]; rfl))
                | (guard_target = Go.wpList _ _ _ ((⟨some _, .load _ (.tmp 33), _, _, _, _⟩ : Go.Oper) :: _) _ _; refine step_get rfl 5 _ rfl b2 78 rfl Tryd.underlying5 rfl (.int .u8 (c : Int)) ?_ ?_; exact (HR2.out.cell 78 (by decide)).trans (by rw [HC.out]; rfl))
                | (guard_target = Go.wpList _ _ _ ((⟨some _, .load _ (.tmp 2), _, _, _, _⟩ : Go.Oper) :: _) _ _; refine step_load rfl _ rfl b2 rfl p HR2.out ?_)
                | (go_at_call 38; refine (rfndK HKz.out _ HP.out).mono ?_; rintro e w3 ⟨rfl, hb⟩; have HR2 := Lib.hid (HR2.out.later hb); have HB := Lib.hid (below_on HB.out hb); clear hb)
                | (guard_target = Go.wpList _ _ _ ((⟨some 39, .load _ (.tmp 38), _, _, _, _⟩ : Go.Oper) :: _) _ _; refine step_get rfl 26 _ rfl b2 (79 + c * 2 + 0) rfl Tryd.underlying26 rfl (.int .i8 r) ?_ ?_; exact (HR2.out.cell (79 + c * 2 + 0) (by omega)).trans (by rw [kAt_rk HC2.out (by decide), HRr.out])))
              go_ret3
              exact ⟨by rw [HS.out]; rfl, HB.out⟩
            · have q4 : decide (7 < r) = false := decide_eq_false g4
              obtain ⟨fN, hfN⟩ : ∃ fN : Nat, kz = (fN : Int) := ⟨kz.toNat, by omega⟩
              obtain ⟨rN, hrN⟩ : ∃ rN : Nat, (h : Int) + r = (rN : Int) := ⟨((h : Int) + r).toNat, by omega⟩
              subst hfN
              have q1n : decide (fN < h) = false := decide_eq_false (by omega)
              have q2n : decide (h + 7 < fN) = false := decide_eq_false (by omega)
              have hf64 : fN < 64 := by omega
              have hr64 : rN < 64 := by omega
              obtain ⟨is, HIs⟩ : ∃ is, Hid ((kndZ (p (1 + rN)) == 4 && p (1 + rN) / 8 == (c : Int)) = is) := ⟨_, Lib.hid rfl⟩
              have HHas := Lib.hid (show hasN (ofN p (c : Int) 4) ((h : Int) + r) = is by rw [hrN, hasN_nat _ _ hr64, ofN_testBit _ _ _ _ hr64, ← is_ofk (by decide)]; exact HIs.out)
              clear hhm
              cases is
              · have HS := Lib.hid (nam_no (p := p) (n := 0) (fun e => by have := (HNa.out e).2.2.1; rw [HHas.out] at this; cases this))
                go_enter Tryd.func23, Tryd.ntmps23
                go_wp2_with (first
                  | (guard_target = Go.wpList _ _ _ ((⟨some 2, .box _ _, _, _, _, _⟩ : Go.Oper) :: _) _ _; refine step_box rfl _ rfl p rfl ?_; intro b2 w1 N R; have HG2 := Lib.hid (show w.heap.size ≤ b2 by have := HB.out.size; have := N.at_; omega); have HB := Lib.hid (below_on HB.out N.below); have HR2 := Lib.hid R; clear N R)
                  | (guard_target = Go.wpList _ _ _ ((⟨some _, .load _ (.tmp 16), _, _, _, _⟩ : Go.Oper) :: _) _ _; refine step_get rfl 5 _ rfl b2 78 rfl Tryd.underlying5 rfl (.int .u8 (p 78)) ?_ ?_; exact HR2.out.cell 78 (by decide))
                  | (guard_target = Go.wpList _ _ _ ((⟨some _, .load _ (.tmp 20), _, _, _, _⟩ : Go.Oper) :: _) _ _; refine step_get rfl 5 _ rfl b2 0 rfl Tryd.underlying5 rfl (.int .u8 (p 0)) ?_ ?_; exact HR2.out.cell 0 (by decide))
                  | (go_at_call 37; refine (rcasK HV.out HCas.out _).mono ?_; rintro e w3 ⟨rfl, rfl⟩)
                  | (guard_target = Go.wpList _ _ _ ((⟨some _, .load _ (.tmp 25), _, _, _, _⟩ : Go.Oper) :: _) _ _; refine step_get rfl 5 _ rfl b2 78 rfl Tryd.underlying5 rfl (.int .u8 (c : Int)) ?_ ?_; exact (HR2.out.cell 78 (by decide)).trans (by rw [HC.out]; rfl))
                  | (guard_target = Go.wpList _ _ _ ((⟨some _, .load _ (.tmp 30), _, _, _, _⟩ : Go.Oper) :: _) _ _; refine step_get rfl 5 _ rfl b2 78 rfl Tryd.underlying5 rfl (.int .u8 (c : Int)) ?_ ?_; exact (HR2.out.cell 78 (by decide)).trans (by rw [HC.out]; rfl))
                  | (guard_target = Go.wpList _ _ _ ((⟨some _, .load _ (.tmp 33), _, _, _, _⟩ : Go.Oper) :: _) _ _; refine step_get rfl 5 _ rfl b2 78 rfl Tryd.underlying5 rfl (.int .u8 (c : Int)) ?_ ?_; exact (HR2.out.cell 78 (by decide)).trans (by rw [HC.out]; rfl))
                  | (guard_target = Go.wpList _ _ _ ((⟨some _, .load _ (.tmp 2), _, _, _, _⟩ : Go.Oper) :: _) _ _; refine step_load rfl _ rfl b2 rfl p HR2.out ?_)
                  | (go_at_call 38; refine (rfndK HKz.out _ HP.out).mono ?_; rintro e w3 ⟨rfl, hb⟩; have HR2 := Lib.hid (HR2.out.later hb); have HB := Lib.hid (below_on HB.out hb); clear hb)
                  | (guard_target = Go.wpList _ _ _ ((⟨some 39, .load _ (.tmp 38), _, _, _, _⟩ : Go.Oper) :: _) _ _; refine step_get rfl 26 _ rfl b2 (79 + c * 2 + 0) rfl Tryd.underlying26 rfl (.int .i8 r) ?_ ?_; exact (HR2.out.cell (79 + c * 2 + 0) (by omega)).trans (by rw [kAt_rk HC2.out (by decide), HRr.out]))
                  | (guard_target = Go.wpList _ _ _ ((⟨some _, .load _ (.tmp 63), _, _, _, _⟩ : Go.Oper) :: _) _ _; refine step_get rfl 5 _ rfl b2 78 rfl Tryd.underlying5 rfl (.int .u8 (c : Int)) ?_ ?_; exact (HR2.out.cell 78 (by decide)).trans (by rw [HC.out]; rfl))
                  | (go_at_call 39; refine (ris_any p rN (c : Int) 4 _ HP.out (by omega)).mono ?_; rintro e w3 ⟨rfl, hb⟩; rw [HIs.out]; have HR2 := Lib.hid (HR2.out.later hb); have HB := Lib.hid (below_on HB.out hb); clear hb))
                go_ret3
                exact ⟨by rw [HS.out]; rfl, HB.out⟩
              · have hne : fN ≠ rN := fun e => by
                  have h1 := (first_bit (ofN_lt p (c : Int) 6) HKz.out)
                  have h2 := of_at (p := p) (by decide) h1.1 h1.2
                  have h3 := of_at (p := p) (c := (c : Int)) (k := 4) (by decide) hr64 (by rw [← hasN_nat _ _ hr64, ← hrN]; exact HHas.out)
                  rw [e] at h2
                  omega
                by_cases g5 : rN < fN
                · have q5 : decide (rN < fN) = true := decide_eq_true g5
                  have q5' : decide ((rN : Int) < (fN : Int)) = true := decide_eq_true (by omega)
                  have HS := Lib.hid (nam_no (p := p) (n := 0) (fun e => by have := (HNa.out e).2.2.2.2.2; omega))
                  go_enter Tryd.func23, Tryd.ntmps23
                  go_wp2_with (first
                    | (guard_target = Go.wpList _ _ _ ((⟨some 2, .box _ _, _, _, _, _⟩ : Go.Oper) :: _) _ _; refine step_box rfl _ rfl p rfl ?_; intro b2 w1 N R; have HG2 := Lib.hid (show w.heap.size ≤ b2 by have := HB.out.size; have := N.at_; omega); have HB := Lib.hid (below_on HB.out N.below); have HR2 := Lib.hid R; clear N R)
                    | (guard_target = Go.wpList _ _ _ ((⟨some _, .load _ (.tmp 16), _, _, _, _⟩ : Go.Oper) :: _) _ _; refine step_get rfl 5 _ rfl b2 78 rfl Tryd.underlying5 rfl (.int .u8 (p 78)) ?_ ?_; exact HR2.out.cell 78 (by decide))
                    | (guard_target = Go.wpList _ _ _ ((⟨some _, .load _ (.tmp 20), _, _, _, _⟩ : Go.Oper) :: _) _ _; refine step_get rfl 5 _ rfl b2 0 rfl Tryd.underlying5 rfl (.int .u8 (p 0)) ?_ ?_; exact HR2.out.cell 0 (by decide))
                    | (go_at_call 37; refine (rcasK HV.out HCas.out _).mono ?_; rintro e w3 ⟨rfl, rfl⟩)
                    | (guard_target = Go.wpList _ _ _ ((⟨some _, .load _ (.tmp 25), _, _, _, _⟩ : Go.Oper) :: _) _ _; refine step_get rfl 5 _ rfl b2 78 rfl Tryd.underlying5 rfl (.int .u8 (c : Int)) ?_ ?_; exact (HR2.out.cell 78 (by decide)).trans (by rw [HC.out]; rfl))
                    | (guard_target = Go.wpList _ _ _ ((⟨some _, .load _ (.tmp 30), _, _, _, _⟩ : Go.Oper) :: _) _ _; refine step_get rfl 5 _ rfl b2 78 rfl Tryd.underlying5 rfl (.int .u8 (c : Int)) ?_ ?_; exact (HR2.out.cell 78 (by decide)).trans (by rw [HC.out]; rfl))
                    | (guard_target = Go.wpList _ _ _ ((⟨some _, .load _ (.tmp 33), _, _, _, _⟩ : Go.Oper) :: _) _ _; refine step_get rfl 5 _ rfl b2 78 rfl Tryd.underlying5 rfl (.int .u8 (c : Int)) ?_ ?_; exact (HR2.out.cell 78 (by decide)).trans (by rw [HC.out]; rfl))
                    | (guard_target = Go.wpList _ _ _ ((⟨some _, .load _ (.tmp 2), _, _, _, _⟩ : Go.Oper) :: _) _ _; refine step_load rfl _ rfl b2 rfl p HR2.out ?_)
                    | (go_at_call 38; refine (rfndK HKz.out _ HP.out).mono ?_; rintro e w3 ⟨rfl, hb⟩; have HR2 := Lib.hid (HR2.out.later hb); have HB := Lib.hid (below_on HB.out hb); clear hb)
                    | (guard_target = Go.wpList _ _ _ ((⟨some 39, .load _ (.tmp 38), _, _, _, _⟩ : Go.Oper) :: _) _ _; refine step_get rfl 26 _ rfl b2 (79 + c * 2 + 0) rfl Tryd.underlying26 rfl (.int .i8 r) ?_ ?_; exact (HR2.out.cell (79 + c * 2 + 0) (by omega)).trans (by rw [kAt_rk HC2.out (by decide), HRr.out]))
                    | (guard_target = Go.wpList _ _ _ ((⟨some _, .load _ (.tmp 63), _, _, _, _⟩ : Go.Oper) :: _) _ _; refine step_get rfl 5 _ rfl b2 78 rfl Tryd.underlying5 rfl (.int .u8 (c : Int)) ?_ ?_; exact (HR2.out.cell 78 (by decide)).trans (by rw [HC.out]; rfl))
                    | (go_at_call 39; refine (ris_any p rN (c : Int) 4 _ HP.out (by omega)).mono ?_; rintro e w3 ⟨rfl, hb⟩; rw [HIs.out]; have HR2 := Lib.hid (HR2.out.later hb); have HB := Lib.hid (below_on HB.out hb); clear hb))
                  go_ret3
                  exact ⟨by rw [HS.out]; rfl, HB.out⟩
                · have q5 : decide (rN < fN) = false := decide_eq_false g5
                  have q5' : decide ((rN : Int) < (fN : Int)) = false := decide_eq_false (by omega)
                  have HNam := Lib.hid (HNo.out (by omega) HHas.out (by omega) (by omega))
                  obtain ⟨Q0, hQ0⟩ : ∃ Q0, upd (upd p (1 + fN) 0) (1 + rN) 0 = Q0 := ⟨_, rfl⟩
                  have HQ0 := Lib.hid hQ0
                  have HAQ := Lib.hid (show BdR Q0 by rw [← hQ0]; exact ((HA.out.put _ _ ⟨by decide, by decide⟩).put _ _ ⟨by decide, by decide⟩).bd)
                  have hmay : mayC p (mvC p 0) = (freeC Q0 (fN : Int) ((h : Int) + 6) && (freeC Q0 (rN : Int) ((h : Int) + 5) && safeC Q0 (fN : Int) ((h : Int) + 6))) := by
                    have hsd := (fit_mvC HC.out HNam.out).2
                    unfold mayC
                    rw [hsd, HMv.out, HRl.out, hrN, bare_upd hf64 hr64, hQ0]; rfl
                  have HOk := Lib.hid (ok_all (q := Q0) (f := (fN : Int)) (K := (h : Int) + 6) (r := (rN : Int)) (R := (h : Int) + 5) (h := h) hh56 (by omega) (by omega) (by omega) (by omega))
                  have HMay := Lib.hid hmay
                  clear hQ0 hmay
                  go_enter Tryd.func23, Tryd.ntmps23
                  go_wp2_with (first
                    | (guard_target = Go.wpList _ _ _ ((⟨some 2, .box _ _, _, _, _, _⟩ : Go.Oper) :: _) _ _; refine step_box rfl _ rfl p rfl ?_; intro b2 w1 N R; have HG2 := Lib.hid (show w.heap.size ≤ b2 by have := HB.out.size; have := N.at_; omega); have HB := Lib.hid (below_on HB.out N.below); have HR2 := Lib.hid R; clear N R)
                    | (guard_target = Go.wpList _ _ _ ((⟨some _, .load _ (.tmp 16), _, _, _, _⟩ : Go.Oper) :: _) _ _; refine step_get rfl 5 _ rfl b2 78 rfl Tryd.underlying5 rfl (.int .u8 (p 78)) ?_ ?_; exact HR2.out.cell 78 (by decide))
                    | (guard_target = Go.wpList _ _ _ ((⟨some _, .load _ (.tmp 20), _, _, _, _⟩ : Go.Oper) :: _) _ _; refine step_get rfl 5 _ rfl b2 0 rfl Tryd.underlying5 rfl (.int .u8 (p 0)) ?_ ?_; exact HR2.out.cell 0 (by decide))
                    | (go_at_call 37; refine (rcasK HV.out HCas.out _).mono ?_; rintro e w3 ⟨rfl, rfl⟩)
                    | (guard_target = Go.wpList _ _ _ ((⟨some _, .load _ (.tmp 25), _, _, _, _⟩ : Go.Oper) :: _) _ _; refine step_get rfl 5 _ rfl b2 78 rfl Tryd.underlying5 rfl (.int .u8 (c : Int)) ?_ ?_; exact (HR2.out.cell 78 (by decide)).trans (by rw [HC.out]; rfl))
                    | (guard_target = Go.wpList _ _ _ ((⟨some _, .load _ (.tmp 30), _, _, _, _⟩ : Go.Oper) :: _) _ _; refine step_get rfl 5 _ rfl b2 78 rfl Tryd.underlying5 rfl (.int .u8 (c : Int)) ?_ ?_; exact (HR2.out.cell 78 (by decide)).trans (by rw [HC.out]; rfl))
                    | (guard_target = Go.wpList _ _ _ ((⟨some _, .load _ (.tmp 33), _, _, _, _⟩ : Go.Oper) :: _) _ _; refine step_get rfl 5 _ rfl b2 78 rfl Tryd.underlying5 rfl (.int .u8 (c : Int)) ?_ ?_; exact (HR2.out.cell 78 (by decide)).trans (by rw [HC.out]; rfl))
                    | (guard_target = Go.wpList _ _ _ ((⟨some _, .load _ (.tmp 2), _, _, _, _⟩ : Go.Oper) :: _) _ _; refine step_load rfl _ rfl b2 rfl p HR2.out ?_)
                    | (go_at_call 38; refine (rfndK HKz.out _ HP.out).mono ?_; rintro e w3 ⟨rfl, hb⟩; have HR2 := Lib.hid (HR2.out.later hb); have HB := Lib.hid (below_on HB.out hb); clear hb)
                    | (guard_target = Go.wpList _ _ _ ((⟨some 39, .load _ (.tmp 38), _, _, _, _⟩ : Go.Oper) :: _) _ _; refine step_get rfl 26 _ rfl b2 (79 + c * 2 + 0) rfl Tryd.underlying26 rfl (.int .i8 r) ?_ ?_; exact (HR2.out.cell (79 + c * 2 + 0) (by omega)).trans (by rw [kAt_rk HC2.out (by decide), HRr.out]))
                    | (guard_target = Go.wpList _ _ _ ((⟨some _, .load _ (.tmp 63), _, _, _, _⟩ : Go.Oper) :: _) _ _; refine step_get rfl 5 _ rfl b2 78 rfl Tryd.underlying5 rfl (.int .u8 (c : Int)) ?_ ?_; exact (HR2.out.cell 78 (by decide)).trans (by rw [HC.out]; rfl))
                    | (go_at_call 39; refine (ris_any p rN (c : Int) 4 _ HP.out (by omega)).mono ?_; rintro e w3 ⟨rfl, hb⟩; rw [HIs.out]; have HR2 := Lib.hid (HR2.out.later hb); have HB := Lib.hid (below_on HB.out hb); clear hb)
                    | (go_at_call 15; refine (rgK2 (n := 0) (a := 6) (b := 5) rfl rfl _).mono ?_; rintro e w3 ⟨rfl, rfl⟩)
                    | (guard_target = Go.wpList _ _ _ ((⟨some 13, .alloc _, _, _, _, _⟩ : Go.Oper) :: _) _ _; refine step_alloc (op := ⟨some 13, _, _, _, _, _⟩) rfl rfl ?_; intro b13 wn N R; have HG13 := Lib.hid (show w.heap.size ≤ b13 by have := HB.out.size; have := N.at_; omega); have HR13 := Lib.hid R; have HY13 := Lib.hid (show b2 ≠ b13 from Nat.ne_of_lt (by have h1 := HR2.out.lt; have := N.at_; omega)); have HR2 := Lib.hid (HR2.out.later N.below); have HB := Lib.hid (below_on HB.out N.below); clear N R)
                    | (guard_target = Go.wpList _ _ _ ((⟨none, .store _ (.tmp 13) _, _, _, _, _⟩ : Go.Oper) :: _) _ _; refine step_store (op := ⟨none, .store _ (.tmp 13) _, _, _, _, _⟩) rfl _ _ rfl b13 rfl zeroP p rfl HR13.out ?_; intro wn U R; have HR2 := Lib.hid (HR2.out.apart U HY13.out); have HR13 := Lib.hid R; have HB := Lib.hid (HB.out.trans (U.below HG13.out)); clear U R)
                    | (guard_target = Go.wpList _ _ _ ((⟨none, .store _ (.tmp 93) _, _, _, _, _⟩ : Go.Oper) :: _) _ _; refine step_cell (op := ⟨none, .store _ (.tmp 93) _, _, _, _, _⟩) rfl 5 _ _ rfl b13 (1 + fN) rfl .u8 0 rfl _ HR13.out (by omega) (kAt_board (Nat.zero_le _) (by omega)) size5 ?_; intro wn U R; have HR2 := Lib.hid (HR2.out.apart U HY13.out); have HR13 := Lib.hid R; have HB := Lib.hid (HB.out.trans (U.below HG13.out)); clear U R)
                    | (guard_target = Go.wpList _ _ _ ((⟨none, .store _ (.tmp 96) _, _, _, _, _⟩ : Go.Oper) :: _) _ _; refine step_cell (op := ⟨none, .store _ (.tmp 96) _, _, _, _, _⟩) rfl 5 _ _ rfl b13 (1 + rN) rfl .u8 0 rfl _ HR13.out (by omega) (kAt_board (Nat.zero_le _) (by omega)) size5 ?_; intro wn U R; rw [HQ0.out] at R; have HR2 := Lib.hid (HR2.out.apart U HY13.out); have HR13 := Lib.hid R; have HB := Lib.hid (HB.out.trans (U.below HG13.out)); clear U R))
                  clear HR2
                  go_loopw [14] (fun i wr => ∃ (j s : Nat), j ≤ 8 ∧ i = .int .i64 (s : Int) ∧ s = h + j ∧ Hid (∀ i, i < j → okC Q0 (fN : Int) ((h : Int) + 6) (rN : Int) ((h : Int) + 5) (h + i) = true) ∧ Row wr b13 Q0 ∧ Below w.heap.size w wr) (fun i _ => h + 8 - (intOf i).toNat)
                  case atStart => exact ⟨0, h, by omega, rfl, by omega, Lib.hid (fun i h9 => by omega), HR13.out, HB.out⟩
                  case round =>
                    clear HR13 HB
                    obtain ⟨j, s, hj, rfl, hsj, Hall, hr13, hb⟩ := hrel
                    have HR13 := Lib.hid hr13
                    have HB := Lib.hid hb
                    clear hr13 hb
                    by_cases hl : j < 8
                    · have q6 : decide (s < h + 8) = true := decide_eq_true (by omega)
                      have q6' : decide ((s : Int) < (h : Int) + 8) = true := decide_eq_true (by omega)
                      have hs64 : s < 64 := by omega
                      obtain ⟨w1, HW1⟩ : ∃ w1, Hid (wiB (s : Int) (fN : Int) ((h : Int) + 6) = w1) := ⟨_, Lib.hid rfl⟩
                      obtain ⟨w2, HW2⟩ : ∃ w2, Hid (wiB (s : Int) (rN : Int) ((h : Int) + 5) = w2) := ⟨_, Lib.hid rfl⟩
                      obtain ⟨bd, hbd⟩ : ∃ bd, bdC Q0 (s : Int) = bd := ⟨_, rfl⟩
                      have HBd := Lib.hid (show (!bdC Q0 (s : Int)) = !bd by rw [hbd])
                      have HBe := Lib.hid hbd
                      have HSJ := Lib.hid hsj
                      have HJ8 := Lib.hid hl
                      clear hbd hsj
                      cases w1
                      · cases w2
                        · have HOj := Lib.hid (show okC Q0 (fN : Int) ((h : Int) + 6) (rN : Int) ((h : Int) + 5) (h + j) = true by rw [← HSJ.out]; unfold okC; rw [HW1.out, HW2.out]; rfl)
                          go_wp2_with (first
                            | (go_at_call 40; guard_target = Go.Calls _ _ #[_, Go.Value.int _ (fN : Int), _] _ _; refine (cs_within (s : Int) (fN : Int) ((h : Int) + 6) _).mono ?_; rintro e w3 ⟨rfl, rfl⟩; rw [HW1.out])
                            | (go_at_call 40; guard_target = Go.Calls _ _ #[_, Go.Value.int _ (rN : Int), _] _ _; refine (cs_within (s : Int) (rN : Int) ((h : Int) + 5) _).mono ?_; rintro e w3 ⟨rfl, rfl⟩; rw [HW2.out]))
                          go_roundw
                          case rel => exact ⟨j + 1, s + 1, by have := HJ8.out; omega, by go_num, by have := HSJ.out; omega, Lib.hid (fun i h9 => by
                            by_cases e : i = j
                            · rw [e]; exact HOj.out
                            · exact Hall.out i (by omega)), HR13.out, HB.out⟩
                          case measure => simp [intOf]; have := HSJ.out; have := HJ8.out; omega
                        · cases q7 : (kndZ (Q0 (1 + s)) != 0)
                          · have HOj := Lib.hid (show okC Q0 (fN : Int) ((h : Int) + 6) (rN : Int) ((h : Int) + 5) (h + j) = true by rw [← HSJ.out]; unfold okC; rw [HW1.out, HW2.out, q7]; rfl)
                            go_wp2_with (first
                              | (go_at_call 40; guard_target = Go.Calls _ _ #[_, Go.Value.int _ (fN : Int), _] _ _; refine (cs_within (s : Int) (fN : Int) ((h : Int) + 6) _).mono ?_; rintro e w3 ⟨rfl, rfl⟩; rw [HW1.out])
                              | (go_at_call 40; guard_target = Go.Calls _ _ #[_, Go.Value.int _ (rN : Int), _] _ _; refine (cs_within (s : Int) (rN : Int) ((h : Int) + 5) _).mono ?_; rintro e w3 ⟨rfl, rfl⟩; rw [HW2.out])
                              | (guard_target = Go.wpList _ _ _ ((⟨some 123, .load _ (.tmp 122), _, _, _, _⟩ : Go.Oper) :: _) _ _; refine step_get rfl 5 _ rfl b13 (1 + s) rfl Tryd.underlying5 rfl (.int .u8 (Q0 (1 + s))) ?_ ?_; exact (HR13.out.cell (1 + s) (by omega)).trans (by rw [kAt_board (Nat.zero_le _) (by omega)]))
                              | (go_at_call 41; refine (rkind_any _ _ (HAQ.out s (by omega)).1 (HAQ.out s (by omega)).2).mono ?_; rintro e w3 ⟨rfl, rfl⟩))
                            go_roundw
                            case rel => exact ⟨j + 1, s + 1, by have := HJ8.out; omega, by go_num, by have := HSJ.out; omega, Lib.hid (fun i h9 => by
                              by_cases e : i = j
                              · rw [e]; exact HOj.out
                              · exact Hall.out i (by omega)), HR13.out, HB.out⟩
                            case measure => simp [intOf]; have := HSJ.out; have := HJ8.out; omega
                          · have HOj := Lib.hid (show okC Q0 (fN : Int) ((h : Int) + 6) (rN : Int) ((h : Int) + 5) s = false by unfold okC; rw [HW1.out, HW2.out, q7]; rfl)
                            have HS := Lib.hid (show mayB' p 0 = false by unfold mayB' inC; rw [HNam.out, HTh.out, HMay.out, Bool.true_and, Bool.true_and, Bool.eq_false_iff]; exact fun e => by have := HOk.out.1 e j HJ8.out; rw [← HSJ.out, HOj.out] at this; cases this)
                            go_wp2_with (first
                              | (go_at_call 40; guard_target = Go.Calls _ _ #[_, Go.Value.int _ (fN : Int), _] _ _; refine (cs_within (s : Int) (fN : Int) ((h : Int) + 6) _).mono ?_; rintro e w3 ⟨rfl, rfl⟩; rw [HW1.out])
                              | (go_at_call 40; guard_target = Go.Calls _ _ #[_, Go.Value.int _ (rN : Int), _] _ _; refine (cs_within (s : Int) (rN : Int) ((h : Int) + 5) _).mono ?_; rintro e w3 ⟨rfl, rfl⟩; rw [HW2.out])
                              | (guard_target = Go.wpList _ _ _ ((⟨some 123, .load _ (.tmp 122), _, _, _, _⟩ : Go.Oper) :: _) _ _; refine step_get rfl 5 _ rfl b13 (1 + s) rfl Tryd.underlying5 rfl (.int .u8 (Q0 (1 + s))) ?_ ?_; exact (HR13.out.cell (1 + s) (by omega)).trans (by rw [kAt_board (Nat.zero_le _) (by omega)]))
                              | (go_at_call 41; refine (rkind_any _ _ (HAQ.out s (by omega)).1 (HAQ.out s (by omega)).2).mono ?_; rintro e w3 ⟨rfl, rfl⟩))
                            go_ret3
                            exact ⟨by rw [HS.out]; rfl, HB.out⟩
                      · cases q7 : (kndZ (Q0 (1 + s)) != 0)
                        · cases bd
                          · have HOj := Lib.hid (show okC Q0 (fN : Int) ((h : Int) + 6) (rN : Int) ((h : Int) + 5) (h + j) = true by rw [← HSJ.out]; unfold okC; rw [HW1.out, q7, HBe.out]; rfl)
                            go_wp2_with (first
                              | (go_at_call 40; guard_target = Go.Calls _ _ #[_, Go.Value.int _ (fN : Int), _] _ _; refine (cs_within (s : Int) (fN : Int) ((h : Int) + 6) _).mono ?_; rintro e w3 ⟨rfl, rfl⟩; rw [HW1.out])
                              | (guard_target = Go.wpList _ _ _ ((⟨some 123, .load _ (.tmp 122), _, _, _, _⟩ : Go.Oper) :: _) _ _; refine step_get rfl 5 _ rfl b13 (1 + s) rfl Tryd.underlying5 rfl (.int .u8 (Q0 (1 + s))) ?_ ?_; exact (HR13.out.cell (1 + s) (by omega)).trans (by rw [kAt_board (Nat.zero_le _) (by omega)]))
                              | (go_at_call 41; refine (rkind_any _ _ (HAQ.out s (by omega)).1 (HAQ.out s (by omega)).2).mono ?_; rintro e w3 ⟨rfl, rfl⟩)
                              | (guard_target = Go.wpList _ _ _ ((⟨some _, .load _ (.tmp 13), _, _, _, _⟩ : Go.Oper) :: _) _ _; refine step_load rfl _ rfl b13 rfl Q0 HR13.out ?_)
                              | (go_at_call 42; refine (cs_rsafe Q0 s (by omega) _ HAQ.out).mono ?_; rintro e w3 ⟨rfl, hb⟩; rw [HBd.out]; have HR13 := Lib.hid (HR13.out.later hb); have HB := Lib.hid (below_on HB.out hb); clear hb))
                            go_roundw
                            case rel => exact ⟨j + 1, s + 1, by have := HJ8.out; omega, by go_num, by have := HSJ.out; omega, Lib.hid (fun i h9 => by
                              by_cases e : i = j
                              · rw [e]; exact HOj.out
                              · exact Hall.out i (by omega)), HR13.out, HB.out⟩
                            case measure => simp [intOf]; have := HSJ.out; have := HJ8.out; omega
                          · have HOj := Lib.hid (show okC Q0 (fN : Int) ((h : Int) + 6) (rN : Int) ((h : Int) + 5) s = false by unfold okC; rw [HW1.out, q7, HBe.out]; rfl)
                            have HS := Lib.hid (show mayB' p 0 = false by unfold mayB' inC; rw [HNam.out, HTh.out, HMay.out, Bool.true_and, Bool.true_and, Bool.eq_false_iff]; exact fun e => by have := HOk.out.1 e j HJ8.out; rw [← HSJ.out, HOj.out] at this; cases this)
                            go_wp2_with (first
                              | (go_at_call 40; guard_target = Go.Calls _ _ #[_, Go.Value.int _ (fN : Int), _] _ _; refine (cs_within (s : Int) (fN : Int) ((h : Int) + 6) _).mono ?_; rintro e w3 ⟨rfl, rfl⟩; rw [HW1.out])
                              | (guard_target = Go.wpList _ _ _ ((⟨some 123, .load _ (.tmp 122), _, _, _, _⟩ : Go.Oper) :: _) _ _; refine step_get rfl 5 _ rfl b13 (1 + s) rfl Tryd.underlying5 rfl (.int .u8 (Q0 (1 + s))) ?_ ?_; exact (HR13.out.cell (1 + s) (by omega)).trans (by rw [kAt_board (Nat.zero_le _) (by omega)]))
                              | (go_at_call 41; refine (rkind_any _ _ (HAQ.out s (by omega)).1 (HAQ.out s (by omega)).2).mono ?_; rintro e w3 ⟨rfl, rfl⟩)
                              | (guard_target = Go.wpList _ _ _ ((⟨some _, .load _ (.tmp 13), _, _, _, _⟩ : Go.Oper) :: _) _ _; refine step_load rfl _ rfl b13 rfl Q0 HR13.out ?_)
                              | (go_at_call 42; refine (cs_rsafe Q0 s (by omega) _ HAQ.out).mono ?_; rintro e w3 ⟨rfl, hb⟩; rw [HBd.out]; have HR13 := Lib.hid (HR13.out.later hb); have HB := Lib.hid (below_on HB.out hb); clear hb))
                            go_ret3
                            exact ⟨by rw [HS.out]; rfl, HB.out⟩
                        · have HOj := Lib.hid (show okC Q0 (fN : Int) ((h : Int) + 6) (rN : Int) ((h : Int) + 5) s = false by unfold okC; rw [HW1.out, q7]; rfl)
                          have HS := Lib.hid (show mayB' p 0 = false by unfold mayB' inC; rw [HNam.out, HTh.out, HMay.out, Bool.true_and, Bool.true_and, Bool.eq_false_iff]; exact fun e => by have := HOk.out.1 e j HJ8.out; rw [← HSJ.out, HOj.out] at this; cases this)
                          go_wp2_with (first
                            | (go_at_call 40; guard_target = Go.Calls _ _ #[_, Go.Value.int _ (fN : Int), _] _ _; refine (cs_within (s : Int) (fN : Int) ((h : Int) + 6) _).mono ?_; rintro e w3 ⟨rfl, rfl⟩; rw [HW1.out])
                            | (guard_target = Go.wpList _ _ _ ((⟨some 123, .load _ (.tmp 122), _, _, _, _⟩ : Go.Oper) :: _) _ _; refine step_get rfl 5 _ rfl b13 (1 + s) rfl Tryd.underlying5 rfl (.int .u8 (Q0 (1 + s))) ?_ ?_; exact (HR13.out.cell (1 + s) (by omega)).trans (by rw [kAt_board (Nat.zero_le _) (by omega)]))
                            | (go_at_call 41; refine (rkind_any _ _ (HAQ.out s (by omega)).1 (HAQ.out s (by omega)).2).mono ?_; rintro e w3 ⟨rfl, rfl⟩))
                          go_ret3
                          exact ⟨by rw [HS.out]; rfl, HB.out⟩
                    · obtain rfl : j = 8 := by omega
                      have q6 : decide (s < h + 8) = false := decide_eq_false (by omega)
                      have q6' : decide ((s : Int) < (h : Int) + 8) = false := decide_eq_false (by omega)
                      have HS := Lib.hid (show mayB' p 0 = true by unfold mayB' inC; rw [HNam.out, HTh.out, HMay.out, HOk.out.2 Hall.out]; rfl)
                      go_wp2_with fail
                      go_ret3
                      exact ⟨by rw [HS.out, HMv.out, hrN]; rfl, HB.out⟩
set_option maxRecDepth 100000 in
set_option maxHeartbeats 3000000 in
theorem cs_rmay1 (p : Nat → Int) (w : World) (hp : CsR p) : Calls Tryd.prog 23 #[.agg (posA p), .int .i64 1] w (RMayL p 1 w) := by
  have HP := Lib.hid hp.at_.bd
  have HV := Lib.hid hp.at_.var
  have ht0 := hp.at_.turn.1
  unfold RMayL
  have HB := Lib.hid (Below.refl w.heap.size w)
  by_cases h78 : 1 < p 78
  · have q0 : decide (1 < p 78) = true := decide_eq_true h78
    have HS := Lib.hid (nth_no (p := p) (by unfold thC; rw [decide_eq_false (by omega)]; rfl) 1)
    clear hp h78
    go_enter Tryd.func23, Tryd.ntmps23
    go_wp2_with (first
      | (guard_target = Go.wpList _ _ _ ((⟨some 2, .box _ _, _, _, _, _⟩ : Go.Oper) :: _) _ _; refine step_box rfl _ rfl p rfl ?_; intro b2 w1 N R; have HG2 := Lib.hid (show w.heap.size ≤ b2 by have := HB.out.size; have := N.at_; omega); have HB := Lib.hid (below_on HB.out N.below); have HR2 := Lib.hid R; clear N R)
      | (guard_target = Go.wpList _ _ _ ((⟨some _, .load _ (.tmp 16), _, _, _, _⟩ : Go.Oper) :: _) _ _; refine step_get rfl 5 _ rfl b2 78 rfl Tryd.underlying5 rfl (.int .u8 (p 78)) ?_ ?_; exact HR2.out.cell 78 (by decide)))
    go_ret3
    exact ⟨by rw [HS.out]; rfl, HB.out⟩
  · cases hcas : casB (p 0).toNat
    · have q0 : decide (1 < p 78) = false := decide_eq_false h78
      have HCas := Lib.hid hcas
      have HS := Lib.hid (nth_no (p := p) (by unfold thC; rw [hcas, Bool.and_false]) 1)
      clear hp h78 hcas
      go_enter Tryd.func23, Tryd.ntmps23
      go_wp2_with (first
      | (guard_target = Go.wpList _ _ _ ((⟨some 2, .box _ _, _, _, _, _⟩ : Go.Oper) :: _) _ _; refine step_box rfl _ rfl p rfl ?_; intro b2 w1 N R; have HG2 := Lib.hid (show w.heap.size ≤ b2 by have := HB.out.size; have := N.at_; omega); have HB := Lib.hid (below_on HB.out N.below); have HR2 := Lib.hid R; clear N R)
      | (guard_target = Go.wpList _ _ _ ((⟨some _, .load _ (.tmp 16), _, _, _, _⟩ : Go.Oper) :: _) _ _; refine step_get rfl 5 _ rfl b2 78 rfl Tryd.underlying5 rfl (.int .u8 (p 78)) ?_ ?_; exact HR2.out.cell 78 (by decide))
      | (guard_target = Go.wpList _ _ _ ((⟨some _, .load _ (.tmp 20), _, _, _, _⟩ : Go.Oper) :: _) _ _; refine step_get rfl 5 _ rfl b2 0 rfl Tryd.underlying5 rfl (.int .u8 (p 0)) ?_ ?_; exact HR2.out.cell 0 (by decide))
      | (go_at_call 37; refine (rcasK HV.out HCas.out _).mono ?_; rintro e w3 ⟨rfl, rfl⟩))
      go_ret3
      exact ⟨by rw [HS.out]; rfl, HB.out⟩
    · have q0 : decide (1 < p 78) = false := decide_eq_false h78
      have HCas := Lib.hid hcas
      have hth : thC p = true := by unfold thC; rw [hcas, decide_eq_true (show p 78 ≤ 1 by omega)]; rfl
      obtain ⟨c, hc⟩ : ∃ c : Nat, p 78 = (c : Int) := ⟨(p 78).toNat, by omega⟩
      have hc2 : c < 2 := by omega
      have HC := Lib.hid hc
      have HC2 := Lib.hid hc2
      obtain ⟨h, hh⟩ : ∃ h : Nat, 56 * c = h := ⟨_, rfl⟩
      have hhI : 56 * (c : Int) = (h : Int) := by omega
      have hhm : hmC (p 78) = (h : Int) := by rw [hc, ← hhI]; rcases (by omega : c = 0 ∨ c = 1) with rfl | rfl <;> rfl
      have hh56 : h ≤ 56 := by omega
      obtain ⟨r, hr⟩ : ∃ r, flC p 1 = r := ⟨_, rfl⟩
      have hr' : p (79 + c * 2 + 1) = r := by rw [← hr]; unfold flC; rw [hc, Int.toNat_natCast]
      have HRr := Lib.hid hr'
      have hrr : -128 ≤ r ∧ r ≤ 127 := by rw [← hr']; exact hp.rk (c * 2 + 1) (by omega)
      obtain ⟨kz, hkz⟩ : ∃ kz, kingZ p (c : Int) = kz := ⟨_, rfl⟩
      have hkr : -1 ≤ kz ∧ kz ≤ 63 := by rw [← hkz]; exact king_rng _ _
      have HKz := Lib.hid hkz
      have hna := nam_at (p := p) (n := 1) (by decide)
      have hno := nam_of (p := p) (n := 1) (by decide) (by omega)
      rw [hc] at hna hno
      rw [hkz, hr, show hmC (c : Int) = (h : Int) by rw [← hc]; exact hhm] at hna hno
      rw [if1] at hna hno
      have hmv : mvC p 1 = ⟨kz, (h : Int) + r, 0, 0, true⟩ := by unfold mvC; rw [hhm, hr, hc, hkz]
      have HA := Lib.hid hp.at_
      have HTh := Lib.hid hth
      have HMv := Lib.hid hmv
      have HNa := Lib.hid hna
      have HNo := Lib.hid hno
      have HRl := Lib.hid hhm
      clear hp h78 hcas hth hr hr' hkz hmv hc hna hno hh
      by_cases g1 : kz < (h : Int)
      · have q1 : decide (kz < (h : Int)) = true := decide_eq_true g1
        have HS := Lib.hid (nam_no (p := p) (n := 1) (fun e => by have := HNa.out e; omega))
        clear hhm
        go_enter Tryd.func23, Tryd.ntmps23
        go_wp2_with (first
          | (guard_target = Go.wpList _ _ _ ((⟨some 2, .box _ _, _, _, _, _⟩ : Go.Oper) :: _) _ _; refine step_box rfl _ rfl p rfl ?_; intro b2 w1 N R; have HG2 := Lib.hid (show w.heap.size ≤ b2 by have := HB.out.size; have := N.at_; omega); have HB := Lib.hid (below_on HB.out N.below); have HR2 := Lib.hid R; clear N R)
          | (guard_target = Go.wpList _ _ _ ((⟨some _, .load _ (.tmp 16), _, _, _, _⟩ : Go.Oper) :: _) _ _; refine step_get rfl 5 _ rfl b2 78 rfl Tryd.underlying5 rfl (.int .u8 (p 78)) ?_ ?_; exact HR2.out.cell 78 (by decide))
          | (guard_target = Go.wpList _ _ _ ((⟨some _, .load _ (.tmp 20), _, _, _, _⟩ : Go.Oper) :: _) _ _; refine step_get rfl 5 _ rfl b2 0 rfl Tryd.underlying5 rfl (.int .u8 (p 0)) ?_ ?_; exact HR2.out.cell 0 (by decide))
          | (go_at_call 37; refine (rcasK HV.out HCas.out _).mono ?_; rintro e w3 ⟨rfl, rfl⟩)
          | (guard_target = Go.wpList _ _ _ ((⟨some _, .load _ (.tmp 25), _, _, _, _⟩ : Go.Oper) :: _) _ _; refine step_get rfl 5 _ rfl b2 78 rfl Tryd.underlying5 rfl (.int .u8 (c : Int)) ?_ ?_; exact (HR2.out.cell 78 (by decide)).trans (by rw [HC.out]; rfl))
          | (guard_target = Go.wpList _ _ _ ((⟨some _, .load _ (.tmp 30), _, _, _, _⟩ : Go.Oper) :: _) _ _; refine step_get rfl 5 _ rfl b2 78 rfl Tryd.underlying5 rfl (.int .u8 (c : Int)) ?_ ?_; exact (HR2.out.cell 78 (by decide)).trans (by rw [HC.out]; rfl))
          | (guard_target = Go.wpList _ _ _ ((⟨some _, .load _ (.tmp 33), _, _, _, _⟩ : Go.Oper) :: _) _ _; refine step_get rfl 5 _ rfl b2 78 rfl Tryd.underlying5 rfl (.int .u8 (c : Int)) ?_ ?_; exact (HR2.out.cell 78 (by decide)).trans (by rw [HC.out]; rfl))
          | (guard_target = Go.wpList _ _ _ ((⟨some _, .load _ (.tmp 2), _, _, _, _⟩ : Go.Oper) :: _) _ _; refine step_load rfl _ rfl b2 rfl p HR2.out ?_)
          | (go_at_call 38; refine (rfndK HKz.out _ HP.out).mono ?_; rintro e w3 ⟨rfl, hb⟩; have HR2 := Lib.hid (HR2.out.later hb); have HB := Lib.hid (below_on HB.out hb); clear hb)
          | (guard_target = Go.wpList _ _ _ ((⟨some 39, .load _ (.tmp 38), _, _, _, _⟩ : Go.Oper) :: _) _ _; refine step_get rfl 26 _ rfl b2 (79 + c * 2 + 1) rfl Tryd.underlying26 rfl (.int .i8 r) ?_ ?_; exact (HR2.out.cell (79 + c * 2 + 1) (by omega)).trans (by rw [kAt_rk HC2.out (by decide), HRr.out])))
        go_ret3
        exact ⟨by rw [HS.out]; rfl, HB.out⟩
      · have q1 : decide (kz < (h : Int)) = false := decide_eq_false g1
        by_cases g2 : (h : Int) + 7 < kz
        · have q2 : decide ((h : Int) + 7 < kz) = true := decide_eq_true g2
          have HS := Lib.hid (nam_no (p := p) (n := 1) (fun e => by have := HNa.out e; omega))
          clear hhm
          go_enter Tryd.func23, Tryd.ntmps23
          go_wp2_with (first
            | (guard_target = Go.wpList _ _ _ ((⟨some 2, .box _ _, _, _, _, _⟩ : Go.Oper) :: _) _ _; refine step_box rfl _ rfl p rfl ?_; intro b2 w1 N R; have HG2 := Lib.hid (show w.heap.size ≤ b2 by have := HB.out.size; have := N.at_; omega); have HB := Lib.hid (below_on HB.out N.below); have HR2 := Lib.hid R; clear N R)
            | (guard_target = Go.wpList _ _ _ ((⟨some _, .load _ (.tmp 16), _, _, _, _⟩ : Go.Oper) :: _) _ _; refine step_get rfl 5 _ rfl b2 78 rfl Tryd.underlying5 rfl (.int .u8 (p 78)) ?_ ?_; exact HR2.out.cell 78 (by decide))
            | (guard_target = Go.wpList _ _ _ ((⟨some _, .load _ (.tmp 20), _, _, _, _⟩ : Go.Oper) :: _) _ _; refine step_get rfl 5 _ rfl b2 0 rfl Tryd.underlying5 rfl (.int .u8 (p 0)) ?_ ?_; exact HR2.out.cell 0 (by decide))
            | (go_at_call 37; refine (rcasK HV.out HCas.out _).mono ?_; rintro e w3 ⟨rfl, rfl⟩)
            | (guard_target = Go.wpList _ _ _ ((⟨some _, .load _ (.tmp 25), _, _, _, _⟩ : Go.Oper) :: _) _ _; refine step_get rfl 5 _ rfl b2 78 rfl Tryd.underlying5 rfl (.int .u8 (c : Int)) ?_ ?_; exact (HR2.out.cell 78 (by decide)).trans (by rw [HC.out]; rfl))
            | (guard_target = Go.wpList _ _ _ ((⟨some _, .load _ (.tmp 30), _, _, _, _⟩ : Go.Oper) :: _) _ _; refine step_get rfl 5 _ rfl b2 78 rfl Tryd.underlying5 rfl (.int .u8 (c : Int)) ?_ ?_; exact (HR2.out.cell 78 (by decide)).trans (by rw [HC.out]; rfl))
            | (guard_target = Go.wpList _ _ _ ((⟨some _, .load _ (.tmp 33), _, _, _, _⟩ : Go.Oper) :: _) _ _; refine step_get rfl 5 _ rfl b2 78 rfl Tryd.underlying5 rfl (.int .u8 (c : Int)) ?_ ?_; exact (HR2.out.cell 78 (by decide)).trans (by rw [HC.out]; rfl))
            | (guard_target = Go.wpList _ _ _ ((⟨some _, .load _ (.tmp 2), _, _, _, _⟩ : Go.Oper) :: _) _ _; refine step_load rfl _ rfl b2 rfl p HR2.out ?_)
            | (go_at_call 38; refine (rfndK HKz.out _ HP.out).mono ?_; rintro e w3 ⟨rfl, hb⟩; have HR2 := Lib.hid (HR2.out.later hb); have HB := Lib.hid (below_on HB.out hb); clear hb)
            | (guard_target = Go.wpList _ _ _ ((⟨some 39, .load _ (.tmp 38), _, _, _, _⟩ : Go.Oper) :: _) _ _; refine step_get rfl 26 _ rfl b2 (79 + c * 2 + 1) rfl Tryd.underlying26 rfl (.int .i8 r) ?_ ?_; exact (HR2.out.cell (79 + c * 2 + 1) (by omega)).trans (by rw [kAt_rk HC2.out (by decide), HRr.out])))
          go_ret3
          exact ⟨by rw [HS.out]; rfl, HB.out⟩
        · have q2 : decide ((h : Int) + 7 < kz) = false := decide_eq_false g2
          by_cases g3 : r < 0
          · have q3 : decide (r < 0) = true := decide_eq_true g3
            have HS := Lib.hid (nam_no (p := p) (n := 1) (fun e => by have := HNa.out e; omega))
            clear hhm
            go_enter Tryd.func23, Tryd.ntmps23
            go_wp2_with (first
              | (guard_target = Go.wpList _ _ _ ((⟨some 2, .box _ _, _, _, _, _⟩ : Go.Oper) :: _) _ _; refine step_box rfl _ rfl p rfl ?_; intro b2 w1 N R; have HG2 := Lib.hid (show w.heap.size ≤ b2 by have := HB.out.size; have := N.at_; omega); have HB := Lib.hid (below_on HB.out N.below); have HR2 := Lib.hid R; clear N R)
              | (guard_target = Go.wpList _ _ _ ((⟨some _, .load _ (.tmp 16), _, _, _, _⟩ : Go.Oper) :: _) _ _; refine step_get rfl 5 _ rfl b2 78 rfl Tryd.underlying5 rfl (.int .u8 (p 78)) ?_ ?_; exact HR2.out.cell 78 (by decide))
              | (guard_target = Go.wpList _ _ _ ((⟨some _, .load _ (.tmp 20), _, _, _, _⟩ : Go.Oper) :: _) _ _; refine step_get rfl 5 _ rfl b2 0 rfl Tryd.underlying5 rfl (.int .u8 (p 0)) ?_ ?_; exact HR2.out.cell 0 (by decide))
              | (go_at_call 37; refine (rcasK HV.out HCas.out _).mono ?_; rintro e w3 ⟨rfl, rfl⟩)
              | (guard_target = Go.wpList _ _ _ ((⟨some _, .load _ (.tmp 25), _, _, _, _⟩ : Go.Oper) :: _) _ _; refine step_get rfl 5 _ rfl b2 78 rfl Tryd.underlying5 rfl (.int .u8 (c : Int)) ?_ ?_; exact (HR2.out.cell 78 (by decide)).trans (by rw [HC.out]; rfl))
              | (guard_target = Go.wpList _ _ _ ((⟨some _, .load _ (.tmp 30), _, _, _, _⟩ : Go.Oper) :: _) _ _; refine step_get rfl 5 _ rfl b2 78 rfl Tryd.underlying5 rfl (.int .u8 (c : Int)) ?_ ?_; exact (HR2.out.cell 78 (by decide)).trans (by rw [HC.out]; rfl))
              | (guard_target = Go.wpList _ _ _ ((⟨some _, .load _ (.tmp 33), _, _, _, _⟩ : Go.Oper) :: _) _ _; refine step_get rfl 5 _ rfl b2 78 rfl Tryd.underlying5 rfl (.int .u8 (c : Int)) ?_ ?_; exact (HR2.out.cell 78 (by decide)).trans (by rw [HC.out]; rfl))
              | (guard_target = Go.wpList _ _ _ ((⟨some _, .load _ (.tmp 2), _, _, _, _⟩ : Go.Oper) :: _) _ _; refine step_load rfl _ rfl b2 rfl p HR2.out ?_)
              | (go_at_call 38; refine (rfndK HKz.out _ HP.out).mono ?_; rintro e w3 ⟨rfl, hb⟩; have HR2 := Lib.hid (HR2.out.later hb); have HB := Lib.hid (below_on HB.out hb); clear hb)
              | (guard_target = Go.wpList _ _ _ ((⟨some 39, .load _ (.tmp 38), _, _, _, _⟩ : Go.Oper) :: _) _ _; refine step_get rfl 26 _ rfl b2 (79 + c * 2 + 1) rfl Tryd.underlying26 rfl (.int .i8 r) ?_ ?_; exact (HR2.out.cell (79 + c * 2 + 1) (by omega)).trans (by rw [kAt_rk HC2.out (by decide), HRr.out])))
            go_ret3
            exact ⟨by rw [HS.out]; rfl, HB.out⟩
          · have q3 : decide (r < 0) = false := decide_eq_false g3
            by_cases g4 : 7 < r
            · have q4 : decide (7 < r) = true := decide_eq_true g4
              have HS := Lib.hid (nam_no (p := p) (n := 1) (fun e => by have := HNa.out e; omega))
              clear hhm
              go_enter Tryd.func23, Tryd.ntmps23
              go_wp2_with (first
                | (guard_target = Go.wpList _ _ _ ((⟨some 2, .box _ _, _, _, _, _⟩ : Go.Oper) :: _) _ _; refine step_box rfl _ rfl p rfl ?_; intro b2 w1 N R; have HG2 := Lib.hid (show w.heap.size ≤ b2 by have := HB.out.size; have := N.at_; omega); have HB := Lib.hid (below_on HB.out N.below); have HR2 := Lib.hid R; clear N R)
                | (guard_target = Go.wpList _ _ _ ((⟨some _, .load _ (.tmp 16), _, _, _, _⟩ : Go.Oper) :: _) _ _; refine step_get rfl 5 _ rfl b2 78 rfl Tryd.underlying5 rfl (.int .u8 (p 78)) ?_ ?_; exact HR2.out.cell 78 (by decide))
                | (guard_target = Go.wpList _ _ _ ((⟨some _, .load _ (.tmp 20), _, _, _, _⟩ : Go.Oper) :: _) _ _; refine step_get rfl 5 _ rfl b2 0 rfl Tryd.underlying5 rfl (.int .u8 (p 0)) ?_ ?_; exact HR2.out.cell 0 (by decide))
                | (go_at_call 37; refine (rcasK HV.out HCas.out _).mono ?_; rintro e w3 ⟨rfl, rfl⟩)
                | (guard_target = Go.wpList _ _ _ ((⟨some _, .load _ (.tmp 25), _, _, _, _⟩ : Go.Oper) :: _) _ _; refine step_get rfl 5 _ rfl b2 78 rfl Tryd.underlying5 rfl (.int .u8 (c : Int)) ?_ ?_; exact (HR2.out.cell 78 (by decide)).trans (by rw [HC.out]; rfl))
                | (guard_target = Go.wpList _ _ _ ((⟨some _, .load _ (.tmp 30), _, _, _, _⟩ : Go.Oper) :: _) _ _; refine step_get rfl 5 _ rfl b2 78 rfl Tryd.underlying5 rfl (.int .u8 (c : Int)) ?_ ?_; exact (HR2.out.cell 78 (by decide)).trans (by rw [HC.out]; rfl))
                | (guard_target = Go.wpList _ _ _ ((⟨some _, .load _ (.tmp 33), _, _, _, _⟩ : Go.Oper) :: _) _ _; refine step_get rfl 5 _ rfl b2 78 rfl Tryd.underlying5 rfl (.int .u8 (c : Int)) ?_ ?_; exact (HR2.out.cell 78 (by decide)).trans (by rw [HC.out]; rfl))
                | (guard_target = Go.wpList _ _ _ ((⟨some _, .load _ (.tmp 2), _, _, _, _⟩ : Go.Oper) :: _) _ _; refine step_load rfl _ rfl b2 rfl p HR2.out ?_)
                | (go_at_call 38; refine (rfndK HKz.out _ HP.out).mono ?_; rintro e w3 ⟨rfl, hb⟩; have HR2 := Lib.hid (HR2.out.later hb); have HB := Lib.hid (below_on HB.out hb); clear hb)
                | (guard_target = Go.wpList _ _ _ ((⟨some 39, .load _ (.tmp 38), _, _, _, _⟩ : Go.Oper) :: _) _ _; refine step_get rfl 26 _ rfl b2 (79 + c * 2 + 1) rfl Tryd.underlying26 rfl (.int .i8 r) ?_ ?_; exact (HR2.out.cell (79 + c * 2 + 1) (by omega)).trans (by rw [kAt_rk HC2.out (by decide), HRr.out])))
              go_ret3
              exact ⟨by rw [HS.out]; rfl, HB.out⟩
            · have q4 : decide (7 < r) = false := decide_eq_false g4
              obtain ⟨fN, hfN⟩ : ∃ fN : Nat, kz = (fN : Int) := ⟨kz.toNat, by omega⟩
              obtain ⟨rN, hrN⟩ : ∃ rN : Nat, (h : Int) + r = (rN : Int) := ⟨((h : Int) + r).toNat, by omega⟩
              subst hfN
              have q1n : decide (fN < h) = false := decide_eq_false (by omega)
              have q2n : decide (h + 7 < fN) = false := decide_eq_false (by omega)
              have hf64 : fN < 64 := by omega
              have hr64 : rN < 64 := by omega
              obtain ⟨is, HIs⟩ : ∃ is, Hid ((kndZ (p (1 + rN)) == 4 && p (1 + rN) / 8 == (c : Int)) = is) := ⟨_, Lib.hid rfl⟩
              have HHas := Lib.hid (show hasN (ofN p (c : Int) 4) ((h : Int) + r) = is by rw [hrN, hasN_nat _ _ hr64, ofN_testBit _ _ _ _ hr64, ← is_ofk (by decide)]; exact HIs.out)
              clear hhm
              cases is
              · have HS := Lib.hid (nam_no (p := p) (n := 1) (fun e => by have := (HNa.out e).2.2.1; rw [HHas.out] at this; cases this))
                go_enter Tryd.func23, Tryd.ntmps23
                go_wp2_with (first
                  | (guard_target = Go.wpList _ _ _ ((⟨some 2, .box _ _, _, _, _, _⟩ : Go.Oper) :: _) _ _; refine step_box rfl _ rfl p rfl ?_; intro b2 w1 N R; have HG2 := Lib.hid (show w.heap.size ≤ b2 by have := HB.out.size; have := N.at_; omega); have HB := Lib.hid (below_on HB.out N.below); have HR2 := Lib.hid R; clear N R)
                  | (guard_target = Go.wpList _ _ _ ((⟨some _, .load _ (.tmp 16), _, _, _, _⟩ : Go.Oper) :: _) _ _; refine step_get rfl 5 _ rfl b2 78 rfl Tryd.underlying5 rfl (.int .u8 (p 78)) ?_ ?_; exact HR2.out.cell 78 (by decide))
                  | (guard_target = Go.wpList _ _ _ ((⟨some _, .load _ (.tmp 20), _, _, _, _⟩ : Go.Oper) :: _) _ _; refine step_get rfl 5 _ rfl b2 0 rfl Tryd.underlying5 rfl (.int .u8 (p 0)) ?_ ?_; exact HR2.out.cell 0 (by decide))
                  | (go_at_call 37; refine (rcasK HV.out HCas.out _).mono ?_; rintro e w3 ⟨rfl, rfl⟩)
                  | (guard_target = Go.wpList _ _ _ ((⟨some _, .load _ (.tmp 25), _, _, _, _⟩ : Go.Oper) :: _) _ _; refine step_get rfl 5 _ rfl b2 78 rfl Tryd.underlying5 rfl (.int .u8 (c : Int)) ?_ ?_; exact (HR2.out.cell 78 (by decide)).trans (by rw [HC.out]; rfl))
                  | (guard_target = Go.wpList _ _ _ ((⟨some _, .load _ (.tmp 30), _, _, _, _⟩ : Go.Oper) :: _) _ _; refine step_get rfl 5 _ rfl b2 78 rfl Tryd.underlying5 rfl (.int .u8 (c : Int)) ?_ ?_; exact (HR2.out.cell 78 (by decide)).trans (by rw [HC.out]; rfl))
                  | (guard_target = Go.wpList _ _ _ ((⟨some _, .load _ (.tmp 33), _, _, _, _⟩ : Go.Oper) :: _) _ _; refine step_get rfl 5 _ rfl b2 78 rfl Tryd.underlying5 rfl (.int .u8 (c : Int)) ?_ ?_; exact (HR2.out.cell 78 (by decide)).trans (by rw [HC.out]; rfl))
                  | (guard_target = Go.wpList _ _ _ ((⟨some _, .load _ (.tmp 2), _, _, _, _⟩ : Go.Oper) :: _) _ _; refine step_load rfl _ rfl b2 rfl p HR2.out ?_)
                  | (go_at_call 38; refine (rfndK HKz.out _ HP.out).mono ?_; rintro e w3 ⟨rfl, hb⟩; have HR2 := Lib.hid (HR2.out.later hb); have HB := Lib.hid (below_on HB.out hb); clear hb)
                  | (guard_target = Go.wpList _ _ _ ((⟨some 39, .load _ (.tmp 38), _, _, _, _⟩ : Go.Oper) :: _) _ _; refine step_get rfl 26 _ rfl b2 (79 + c * 2 + 1) rfl Tryd.underlying26 rfl (.int .i8 r) ?_ ?_; exact (HR2.out.cell (79 + c * 2 + 1) (by omega)).trans (by rw [kAt_rk HC2.out (by decide), HRr.out]))
                  | (guard_target = Go.wpList _ _ _ ((⟨some _, .load _ (.tmp 63), _, _, _, _⟩ : Go.Oper) :: _) _ _; refine step_get rfl 5 _ rfl b2 78 rfl Tryd.underlying5 rfl (.int .u8 (c : Int)) ?_ ?_; exact (HR2.out.cell 78 (by decide)).trans (by rw [HC.out]; rfl))
                  | (go_at_call 39; refine (ris_any p rN (c : Int) 4 _ HP.out (by omega)).mono ?_; rintro e w3 ⟨rfl, hb⟩; rw [HIs.out]; have HR2 := Lib.hid (HR2.out.later hb); have HB := Lib.hid (below_on HB.out hb); clear hb))
                go_ret3
                exact ⟨by rw [HS.out]; rfl, HB.out⟩
              · have hne : fN ≠ rN := fun e => by
                  have h1 := (first_bit (ofN_lt p (c : Int) 6) HKz.out)
                  have h2 := of_at (p := p) (by decide) h1.1 h1.2
                  have h3 := of_at (p := p) (c := (c : Int)) (k := 4) (by decide) hr64 (by rw [← hasN_nat _ _ hr64, ← hrN]; exact HHas.out)
                  rw [e] at h2
                  omega
                by_cases g5 : fN < rN
                · have q5 : decide (fN < rN) = true := decide_eq_true g5
                  have q5' : decide ((fN : Int) < (rN : Int)) = true := decide_eq_true (by omega)
                  have HS := Lib.hid (nam_no (p := p) (n := 1) (fun e => by have := (HNa.out e).2.2.2.2.2; omega))
                  go_enter Tryd.func23, Tryd.ntmps23
                  go_wp2_with (first
                    | (guard_target = Go.wpList _ _ _ ((⟨some 2, .box _ _, _, _, _, _⟩ : Go.Oper) :: _) _ _; refine step_box rfl _ rfl p rfl ?_; intro b2 w1 N R; have HG2 := Lib.hid (show w.heap.size ≤ b2 by have := HB.out.size; have := N.at_; omega); have HB := Lib.hid (below_on HB.out N.below); have HR2 := Lib.hid R; clear N R)
                    | (guard_target = Go.wpList _ _ _ ((⟨some _, .load _ (.tmp 16), _, _, _, _⟩ : Go.Oper) :: _) _ _; refine step_get rfl 5 _ rfl b2 78 rfl Tryd.underlying5 rfl (.int .u8 (p 78)) ?_ ?_; exact HR2.out.cell 78 (by decide))
                    | (guard_target = Go.wpList _ _ _ ((⟨some _, .load _ (.tmp 20), _, _, _, _⟩ : Go.Oper) :: _) _ _; refine step_get rfl 5 _ rfl b2 0 rfl Tryd.underlying5 rfl (.int .u8 (p 0)) ?_ ?_; exact HR2.out.cell 0 (by decide))
                    | (go_at_call 37; refine (rcasK HV.out HCas.out _).mono ?_; rintro e w3 ⟨rfl, rfl⟩)
                    | (guard_target = Go.wpList _ _ _ ((⟨some _, .load _ (.tmp 25), _, _, _, _⟩ : Go.Oper) :: _) _ _; refine step_get rfl 5 _ rfl b2 78 rfl Tryd.underlying5 rfl (.int .u8 (c : Int)) ?_ ?_; exact (HR2.out.cell 78 (by decide)).trans (by rw [HC.out]; rfl))
                    | (guard_target = Go.wpList _ _ _ ((⟨some _, .load _ (.tmp 30), _, _, _, _⟩ : Go.Oper) :: _) _ _; refine step_get rfl 5 _ rfl b2 78 rfl Tryd.underlying5 rfl (.int .u8 (c : Int)) ?_ ?_; exact (HR2.out.cell 78 (by decide)).trans (by rw [HC.out]; rfl))
                    | (guard_target = Go.wpList _ _ _ ((⟨some _, .load _ (.tmp 33), _, _, _, _⟩ : Go.Oper) :: _) _ _; refine step_get rfl 5 _ rfl b2 78 rfl Tryd.underlying5 rfl (.int .u8 (c : Int)) ?_ ?_; exact (HR2.out.cell 78 (by decide)).trans (by rw [HC.out]; rfl))
                    | (guard_target = Go.wpList _ _ _ ((⟨some _, .load _ (.tmp 2), _, _, _, _⟩ : Go.Oper) :: _) _ _; refine step_load rfl _ rfl b2 rfl p HR2.out ?_)
                    | (go_at_call 38; refine (rfndK HKz.out _ HP.out).mono ?_; rintro e w3 ⟨rfl, hb⟩; have HR2 := Lib.hid (HR2.out.later hb); have HB := Lib.hid (below_on HB.out hb); clear hb)
                    | (guard_target = Go.wpList _ _ _ ((⟨some 39, .load _ (.tmp 38), _, _, _, _⟩ : Go.Oper) :: _) _ _; refine step_get rfl 26 _ rfl b2 (79 + c * 2 + 1) rfl Tryd.underlying26 rfl (.int .i8 r) ?_ ?_; exact (HR2.out.cell (79 + c * 2 + 1) (by omega)).trans (by rw [kAt_rk HC2.out (by decide), HRr.out]))
                    | (guard_target = Go.wpList _ _ _ ((⟨some _, .load _ (.tmp 63), _, _, _, _⟩ : Go.Oper) :: _) _ _; refine step_get rfl 5 _ rfl b2 78 rfl Tryd.underlying5 rfl (.int .u8 (c : Int)) ?_ ?_; exact (HR2.out.cell 78 (by decide)).trans (by rw [HC.out]; rfl))
                    | (go_at_call 39; refine (ris_any p rN (c : Int) 4 _ HP.out (by omega)).mono ?_; rintro e w3 ⟨rfl, hb⟩; rw [HIs.out]; have HR2 := Lib.hid (HR2.out.later hb); have HB := Lib.hid (below_on HB.out hb); clear hb))
                  go_ret3
                  exact ⟨by rw [HS.out]; rfl, HB.out⟩
                · have q5 : decide (fN < rN) = false := decide_eq_false g5
                  have q5' : decide ((fN : Int) < (rN : Int)) = false := decide_eq_false (by omega)
                  have HNam := Lib.hid (HNo.out (by omega) HHas.out (by omega) (by omega))
                  obtain ⟨Q0, hQ0⟩ : ∃ Q0, upd (upd p (1 + fN) 0) (1 + rN) 0 = Q0 := ⟨_, rfl⟩
                  have HQ0 := Lib.hid hQ0
                  have HAQ := Lib.hid (show BdR Q0 by rw [← hQ0]; exact ((HA.out.put _ _ ⟨by decide, by decide⟩).put _ _ ⟨by decide, by decide⟩).bd)
                  have hmay : mayC p (mvC p 1) = (freeC Q0 (fN : Int) ((h : Int) + 2) && (freeC Q0 (rN : Int) ((h : Int) + 3) && safeC Q0 (fN : Int) ((h : Int) + 2))) := by
                    have hsd := (fit_mvC HC.out HNam.out).2
                    unfold mayC
                    rw [hsd, HMv.out, HRl.out, hrN, bare_upd hf64 hr64, hQ0]; rfl
                  have HOk := Lib.hid (ok_all (q := Q0) (f := (fN : Int)) (K := (h : Int) + 2) (r := (rN : Int)) (R := (h : Int) + 3) (h := h) hh56 (by omega) (by omega) (by omega) (by omega))
                  have HMay := Lib.hid hmay
                  clear hQ0 hmay
                  go_enter Tryd.func23, Tryd.ntmps23
                  go_wp2_with (first
                    | (guard_target = Go.wpList _ _ _ ((⟨some 2, .box _ _, _, _, _, _⟩ : Go.Oper) :: _) _ _; refine step_box rfl _ rfl p rfl ?_; intro b2 w1 N R; have HG2 := Lib.hid (show w.heap.size ≤ b2 by have := HB.out.size; have := N.at_; omega); have HB := Lib.hid (below_on HB.out N.below); have HR2 := Lib.hid R; clear N R)
                    | (guard_target = Go.wpList _ _ _ ((⟨some _, .load _ (.tmp 16), _, _, _, _⟩ : Go.Oper) :: _) _ _; refine step_get rfl 5 _ rfl b2 78 rfl Tryd.underlying5 rfl (.int .u8 (p 78)) ?_ ?_; exact HR2.out.cell 78 (by decide))
                    | (guard_target = Go.wpList _ _ _ ((⟨some _, .load _ (.tmp 20), _, _, _, _⟩ : Go.Oper) :: _) _ _; refine step_get rfl 5 _ rfl b2 0 rfl Tryd.underlying5 rfl (.int .u8 (p 0)) ?_ ?_; exact HR2.out.cell 0 (by decide))
                    | (go_at_call 37; refine (rcasK HV.out HCas.out _).mono ?_; rintro e w3 ⟨rfl, rfl⟩)
                    | (guard_target = Go.wpList _ _ _ ((⟨some _, .load _ (.tmp 25), _, _, _, _⟩ : Go.Oper) :: _) _ _; refine step_get rfl 5 _ rfl b2 78 rfl Tryd.underlying5 rfl (.int .u8 (c : Int)) ?_ ?_; exact (HR2.out.cell 78 (by decide)).trans (by rw [HC.out]; rfl))
                    | (guard_target = Go.wpList _ _ _ ((⟨some _, .load _ (.tmp 30), _, _, _, _⟩ : Go.Oper) :: _) _ _; refine step_get rfl 5 _ rfl b2 78 rfl Tryd.underlying5 rfl (.int .u8 (c : Int)) ?_ ?_; exact (HR2.out.cell 78 (by decide)).trans (by rw [HC.out]; rfl))
                    | (guard_target = Go.wpList _ _ _ ((⟨some _, .load _ (.tmp 33), _, _, _, _⟩ : Go.Oper) :: _) _ _; refine step_get rfl 5 _ rfl b2 78 rfl Tryd.underlying5 rfl (.int .u8 (c : Int)) ?_ ?_; exact (HR2.out.cell 78 (by decide)).trans (by rw [HC.out]; rfl))
                    | (guard_target = Go.wpList _ _ _ ((⟨some _, .load _ (.tmp 2), _, _, _, _⟩ : Go.Oper) :: _) _ _; refine step_load rfl _ rfl b2 rfl p HR2.out ?_)
                    | (go_at_call 38; refine (rfndK HKz.out _ HP.out).mono ?_; rintro e w3 ⟨rfl, hb⟩; have HR2 := Lib.hid (HR2.out.later hb); have HB := Lib.hid (below_on HB.out hb); clear hb)
                    | (guard_target = Go.wpList _ _ _ ((⟨some 39, .load _ (.tmp 38), _, _, _, _⟩ : Go.Oper) :: _) _ _; refine step_get rfl 26 _ rfl b2 (79 + c * 2 + 1) rfl Tryd.underlying26 rfl (.int .i8 r) ?_ ?_; exact (HR2.out.cell (79 + c * 2 + 1) (by omega)).trans (by rw [kAt_rk HC2.out (by decide), HRr.out]))
                    | (guard_target = Go.wpList _ _ _ ((⟨some _, .load _ (.tmp 63), _, _, _, _⟩ : Go.Oper) :: _) _ _; refine step_get rfl 5 _ rfl b2 78 rfl Tryd.underlying5 rfl (.int .u8 (c : Int)) ?_ ?_; exact (HR2.out.cell 78 (by decide)).trans (by rw [HC.out]; rfl))
                    | (go_at_call 39; refine (ris_any p rN (c : Int) 4 _ HP.out (by omega)).mono ?_; rintro e w3 ⟨rfl, hb⟩; rw [HIs.out]; have HR2 := Lib.hid (HR2.out.later hb); have HB := Lib.hid (below_on HB.out hb); clear hb)
                    | (go_at_call 15; refine (rgK2 (n := 1) (a := 2) (b := 3) rfl rfl _).mono ?_; rintro e w3 ⟨rfl, rfl⟩)
                    | (guard_target = Go.wpList _ _ _ ((⟨some 13, .alloc _, _, _, _, _⟩ : Go.Oper) :: _) _ _; refine step_alloc (op := ⟨some 13, _, _, _, _, _⟩) rfl rfl ?_; intro b13 wn N R; have HG13 := Lib.hid (show w.heap.size ≤ b13 by have := HB.out.size; have := N.at_; omega); have HR13 := Lib.hid R; have HY13 := Lib.hid (show b2 ≠ b13 from Nat.ne_of_lt (by have h1 := HR2.out.lt; have := N.at_; omega)); have HR2 := Lib.hid (HR2.out.later N.below); have HB := Lib.hid (below_on HB.out N.below); clear N R)
                    | (guard_target = Go.wpList _ _ _ ((⟨none, .store _ (.tmp 13) _, _, _, _, _⟩ : Go.Oper) :: _) _ _; refine step_store (op := ⟨none, .store _ (.tmp 13) _, _, _, _, _⟩) rfl _ _ rfl b13 rfl zeroP p rfl HR13.out ?_; intro wn U R; have HR2 := Lib.hid (HR2.out.apart U HY13.out); have HR13 := Lib.hid R; have HB := Lib.hid (HB.out.trans (U.below HG13.out)); clear U R)
                    | (guard_target = Go.wpList _ _ _ ((⟨none, .store _ (.tmp 93) _, _, _, _, _⟩ : Go.Oper) :: _) _ _; refine step_cell (op := ⟨none, .store _ (.tmp 93) _, _, _, _, _⟩) rfl 5 _ _ rfl b13 (1 + fN) rfl .u8 0 rfl _ HR13.out (by omega) (kAt_board (Nat.zero_le _) (by omega)) size5 ?_; intro wn U R; have HR2 := Lib.hid (HR2.out.apart U HY13.out); have HR13 := Lib.hid R; have HB := Lib.hid (HB.out.trans (U.below HG13.out)); clear U R)
                    | (guard_target = Go.wpList _ _ _ ((⟨none, .store _ (.tmp 96) _, _, _, _, _⟩ : Go.Oper) :: _) _ _; refine step_cell (op := ⟨none, .store _ (.tmp 96) _, _, _, _, _⟩) rfl 5 _ _ rfl b13 (1 + rN) rfl .u8 0 rfl _ HR13.out (by omega) (kAt_board (Nat.zero_le _) (by omega)) size5 ?_; intro wn U R; rw [HQ0.out] at R; have HR2 := Lib.hid (HR2.out.apart U HY13.out); have HR13 := Lib.hid R; have HB := Lib.hid (HB.out.trans (U.below HG13.out)); clear U R))
                  clear HR2
                  go_loopw [14] (fun i wr => ∃ (j s : Nat), j ≤ 8 ∧ i = .int .i64 (s : Int) ∧ s = h + j ∧ Hid (∀ i, i < j → okC Q0 (fN : Int) ((h : Int) + 2) (rN : Int) ((h : Int) + 3) (h + i) = true) ∧ Row wr b13 Q0 ∧ Below w.heap.size w wr) (fun i _ => h + 8 - (intOf i).toNat)
                  case atStart => exact ⟨0, h, by omega, rfl, by omega, Lib.hid (fun i h9 => by omega), HR13.out, HB.out⟩
                  case round =>
                    clear HR13 HB
                    obtain ⟨j, s, hj, rfl, hsj, Hall, hr13, hb⟩ := hrel
                    have HR13 := Lib.hid hr13
                    have HB := Lib.hid hb
                    clear hr13 hb
                    by_cases hl : j < 8
                    · have q6 : decide (s < h + 8) = true := decide_eq_true (by omega)
                      have q6' : decide ((s : Int) < (h : Int) + 8) = true := decide_eq_true (by omega)
                      have hs64 : s < 64 := by omega
                      obtain ⟨w1, HW1⟩ : ∃ w1, Hid (wiB (s : Int) (fN : Int) ((h : Int) + 2) = w1) := ⟨_, Lib.hid rfl⟩
                      obtain ⟨w2, HW2⟩ : ∃ w2, Hid (wiB (s : Int) (rN : Int) ((h : Int) + 3) = w2) := ⟨_, Lib.hid rfl⟩
                      obtain ⟨bd, hbd⟩ : ∃ bd, bdC Q0 (s : Int) = bd := ⟨_, rfl⟩
                      have HBd := Lib.hid (show (!bdC Q0 (s : Int)) = !bd by rw [hbd])
                      have HBe := Lib.hid hbd
                      have HSJ := Lib.hid hsj
                      have HJ8 := Lib.hid hl
                      clear hbd hsj
                      cases w1
                      · cases w2
                        · have HOj := Lib.hid (show okC Q0 (fN : Int) ((h : Int) + 2) (rN : Int) ((h : Int) + 3) (h + j) = true by rw [← HSJ.out]; unfold okC; rw [HW1.out, HW2.out]; rfl)
                          go_wp2_with (first
                            | (go_at_call 40; guard_target = Go.Calls _ _ #[_, Go.Value.int _ (fN : Int), _] _ _; refine (cs_within (s : Int) (fN : Int) ((h : Int) + 2) _).mono ?_; rintro e w3 ⟨rfl, rfl⟩; rw [HW1.out])
                            | (go_at_call 40; guard_target = Go.Calls _ _ #[_, Go.Value.int _ (rN : Int), _] _ _; refine (cs_within (s : Int) (rN : Int) ((h : Int) + 3) _).mono ?_; rintro e w3 ⟨rfl, rfl⟩; rw [HW2.out]))
                          go_roundw
                          case rel => exact ⟨j + 1, s + 1, by have := HJ8.out; omega, by go_num, by have := HSJ.out; omega, Lib.hid (fun i h9 => by
                            by_cases e : i = j
                            · rw [e]; exact HOj.out
                            · exact Hall.out i (by omega)), HR13.out, HB.out⟩
                          case measure => simp [intOf]; have := HSJ.out; have := HJ8.out; omega
                        · cases q7 : (kndZ (Q0 (1 + s)) != 0)
                          · have HOj := Lib.hid (show okC Q0 (fN : Int) ((h : Int) + 2) (rN : Int) ((h : Int) + 3) (h + j) = true by rw [← HSJ.out]; unfold okC; rw [HW1.out, HW2.out, q7]; rfl)
                            go_wp2_with (first
                              | (go_at_call 40; guard_target = Go.Calls _ _ #[_, Go.Value.int _ (fN : Int), _] _ _; refine (cs_within (s : Int) (fN : Int) ((h : Int) + 2) _).mono ?_; rintro e w3 ⟨rfl, rfl⟩; rw [HW1.out])
                              | (go_at_call 40; guard_target = Go.Calls _ _ #[_, Go.Value.int _ (rN : Int), _] _ _; refine (cs_within (s : Int) (rN : Int) ((h : Int) + 3) _).mono ?_; rintro e w3 ⟨rfl, rfl⟩; rw [HW2.out])
                              | (guard_target = Go.wpList _ _ _ ((⟨some 123, .load _ (.tmp 122), _, _, _, _⟩ : Go.Oper) :: _) _ _; refine step_get rfl 5 _ rfl b13 (1 + s) rfl Tryd.underlying5 rfl (.int .u8 (Q0 (1 + s))) ?_ ?_; exact (HR13.out.cell (1 + s) (by omega)).trans (by rw [kAt_board (Nat.zero_le _) (by omega)]))
                              | (go_at_call 41; refine (rkind_any _ _ (HAQ.out s (by omega)).1 (HAQ.out s (by omega)).2).mono ?_; rintro e w3 ⟨rfl, rfl⟩))
                            go_roundw
                            case rel => exact ⟨j + 1, s + 1, by have := HJ8.out; omega, by go_num, by have := HSJ.out; omega, Lib.hid (fun i h9 => by
                              by_cases e : i = j
                              · rw [e]; exact HOj.out
                              · exact Hall.out i (by omega)), HR13.out, HB.out⟩
                            case measure => simp [intOf]; have := HSJ.out; have := HJ8.out; omega
                          · have HOj := Lib.hid (show okC Q0 (fN : Int) ((h : Int) + 2) (rN : Int) ((h : Int) + 3) s = false by unfold okC; rw [HW1.out, HW2.out, q7]; rfl)
                            have HS := Lib.hid (show mayB' p 1 = false by unfold mayB' inC; rw [HNam.out, HTh.out, HMay.out, Bool.true_and, Bool.true_and, Bool.eq_false_iff]; exact fun e => by have := HOk.out.1 e j HJ8.out; rw [← HSJ.out, HOj.out] at this; cases this)
                            go_wp2_with (first
                              | (go_at_call 40; guard_target = Go.Calls _ _ #[_, Go.Value.int _ (fN : Int), _] _ _; refine (cs_within (s : Int) (fN : Int) ((h : Int) + 2) _).mono ?_; rintro e w3 ⟨rfl, rfl⟩; rw [HW1.out])
                              | (go_at_call 40; guard_target = Go.Calls _ _ #[_, Go.Value.int _ (rN : Int), _] _ _; refine (cs_within (s : Int) (rN : Int) ((h : Int) + 3) _).mono ?_; rintro e w3 ⟨rfl, rfl⟩; rw [HW2.out])
                              | (guard_target = Go.wpList _ _ _ ((⟨some 123, .load _ (.tmp 122), _, _, _, _⟩ : Go.Oper) :: _) _ _; refine step_get rfl 5 _ rfl b13 (1 + s) rfl Tryd.underlying5 rfl (.int .u8 (Q0 (1 + s))) ?_ ?_; exact (HR13.out.cell (1 + s) (by omega)).trans (by rw [kAt_board (Nat.zero_le _) (by omega)]))
                              | (go_at_call 41; refine (rkind_any _ _ (HAQ.out s (by omega)).1 (HAQ.out s (by omega)).2).mono ?_; rintro e w3 ⟨rfl, rfl⟩))
                            go_ret3
                            exact ⟨by rw [HS.out]; rfl, HB.out⟩
                      · cases q7 : (kndZ (Q0 (1 + s)) != 0)
                        · cases bd
                          · have HOj := Lib.hid (show okC Q0 (fN : Int) ((h : Int) + 2) (rN : Int) ((h : Int) + 3) (h + j) = true by rw [← HSJ.out]; unfold okC; rw [HW1.out, q7, HBe.out]; rfl)
                            go_wp2_with (first
                              | (go_at_call 40; guard_target = Go.Calls _ _ #[_, Go.Value.int _ (fN : Int), _] _ _; refine (cs_within (s : Int) (fN : Int) ((h : Int) + 2) _).mono ?_; rintro e w3 ⟨rfl, rfl⟩; rw [HW1.out])
                              | (guard_target = Go.wpList _ _ _ ((⟨some 123, .load _ (.tmp 122), _, _, _, _⟩ : Go.Oper) :: _) _ _; refine step_get rfl 5 _ rfl b13 (1 + s) rfl Tryd.underlying5 rfl (.int .u8 (Q0 (1 + s))) ?_ ?_; exact (HR13.out.cell (1 + s) (by omega)).trans (by rw [kAt_board (Nat.zero_le _) (by omega)]))
                              | (go_at_call 41; refine (rkind_any _ _ (HAQ.out s (by omega)).1 (HAQ.out s (by omega)).2).mono ?_; rintro e w3 ⟨rfl, rfl⟩)
                              | (guard_target = Go.wpList _ _ _ ((⟨some _, .load _ (.tmp 13), _, _, _, _⟩ : Go.Oper) :: _) _ _; refine step_load rfl _ rfl b13 rfl Q0 HR13.out ?_)
                              | (go_at_call 42; refine (cs_rsafe Q0 s (by omega) _ HAQ.out).mono ?_; rintro e w3 ⟨rfl, hb⟩; rw [HBd.out]; have HR13 := Lib.hid (HR13.out.later hb); have HB := Lib.hid (below_on HB.out hb); clear hb))
                            go_roundw
                            case rel => exact ⟨j + 1, s + 1, by have := HJ8.out; omega, by go_num, by have := HSJ.out; omega, Lib.hid (fun i h9 => by
                              by_cases e : i = j
                              · rw [e]; exact HOj.out
                              · exact Hall.out i (by omega)), HR13.out, HB.out⟩
                            case measure => simp [intOf]; have := HSJ.out; have := HJ8.out; omega
                          · have HOj := Lib.hid (show okC Q0 (fN : Int) ((h : Int) + 2) (rN : Int) ((h : Int) + 3) s = false by unfold okC; rw [HW1.out, q7, HBe.out]; rfl)
                            have HS := Lib.hid (show mayB' p 1 = false by unfold mayB' inC; rw [HNam.out, HTh.out, HMay.out, Bool.true_and, Bool.true_and, Bool.eq_false_iff]; exact fun e => by have := HOk.out.1 e j HJ8.out; rw [← HSJ.out, HOj.out] at this; cases this)
                            go_wp2_with (first
                              | (go_at_call 40; guard_target = Go.Calls _ _ #[_, Go.Value.int _ (fN : Int), _] _ _; refine (cs_within (s : Int) (fN : Int) ((h : Int) + 2) _).mono ?_; rintro e w3 ⟨rfl, rfl⟩; rw [HW1.out])
                              | (guard_target = Go.wpList _ _ _ ((⟨some 123, .load _ (.tmp 122), _, _, _, _⟩ : Go.Oper) :: _) _ _; refine step_get rfl 5 _ rfl b13 (1 + s) rfl Tryd.underlying5 rfl (.int .u8 (Q0 (1 + s))) ?_ ?_; exact (HR13.out.cell (1 + s) (by omega)).trans (by rw [kAt_board (Nat.zero_le _) (by omega)]))
                              | (go_at_call 41; refine (rkind_any _ _ (HAQ.out s (by omega)).1 (HAQ.out s (by omega)).2).mono ?_; rintro e w3 ⟨rfl, rfl⟩)
                              | (guard_target = Go.wpList _ _ _ ((⟨some _, .load _ (.tmp 13), _, _, _, _⟩ : Go.Oper) :: _) _ _; refine step_load rfl _ rfl b13 rfl Q0 HR13.out ?_)
                              | (go_at_call 42; refine (cs_rsafe Q0 s (by omega) _ HAQ.out).mono ?_; rintro e w3 ⟨rfl, hb⟩; rw [HBd.out]; have HR13 := Lib.hid (HR13.out.later hb); have HB := Lib.hid (below_on HB.out hb); clear hb))
                            go_ret3
                            exact ⟨by rw [HS.out]; rfl, HB.out⟩
                        · have HOj := Lib.hid (show okC Q0 (fN : Int) ((h : Int) + 2) (rN : Int) ((h : Int) + 3) s = false by unfold okC; rw [HW1.out, q7]; rfl)
                          have HS := Lib.hid (show mayB' p 1 = false by unfold mayB' inC; rw [HNam.out, HTh.out, HMay.out, Bool.true_and, Bool.true_and, Bool.eq_false_iff]; exact fun e => by have := HOk.out.1 e j HJ8.out; rw [← HSJ.out, HOj.out] at this; cases this)
                          go_wp2_with (first
                            | (go_at_call 40; guard_target = Go.Calls _ _ #[_, Go.Value.int _ (fN : Int), _] _ _; refine (cs_within (s : Int) (fN : Int) ((h : Int) + 2) _).mono ?_; rintro e w3 ⟨rfl, rfl⟩; rw [HW1.out])
                            | (guard_target = Go.wpList _ _ _ ((⟨some 123, .load _ (.tmp 122), _, _, _, _⟩ : Go.Oper) :: _) _ _; refine step_get rfl 5 _ rfl b13 (1 + s) rfl Tryd.underlying5 rfl (.int .u8 (Q0 (1 + s))) ?_ ?_; exact (HR13.out.cell (1 + s) (by omega)).trans (by rw [kAt_board (Nat.zero_le _) (by omega)]))
                            | (go_at_call 41; refine (rkind_any _ _ (HAQ.out s (by omega)).1 (HAQ.out s (by omega)).2).mono ?_; rintro e w3 ⟨rfl, rfl⟩))
                          go_ret3
                          exact ⟨by rw [HS.out]; rfl, HB.out⟩
                    · obtain rfl : j = 8 := by omega
                      have q6 : decide (s < h + 8) = false := decide_eq_false (by omega)
                      have q6' : decide ((s : Int) < (h : Int) + 8) = false := decide_eq_false (by omega)
                      have HS := Lib.hid (show mayB' p 1 = true by unfold mayB' inC; rw [HNam.out, HTh.out, HMay.out, HOk.out.2 Hall.out]; rfl)
                      go_wp2_with fail
                      go_ret3
                      exact ⟨by rw [HS.out, HMv.out, hrN]; rfl, HB.out⟩
end Go.Proofs.YtmlmilmfnioheaaDoor
