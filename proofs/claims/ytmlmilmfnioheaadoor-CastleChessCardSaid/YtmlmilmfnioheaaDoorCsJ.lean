/-
  What each castling that is told is.
-/
import Derived.Test.YtmlmilmfnioheaaDoorCsF
namespace Go.Proofs.YtmlmilmfnioheaaDoor
open Go.RowKit Go.Shelf
set_option linter.unusedVariables false
set_option linter.unusedSimpArgs false
attribute [local go_sem] Oper.semAt_some

theorem CsR.of {p : Nat → Int} (h : WfP p) : CsR p := ⟨AtR.of h, fun i hi => by
  have hw := h (79 + i) (by omega)
  have e : kAt (79 + i) = .i8 := by rcases (by omega : i = 0 ∨ i = 1 ∨ i = 2 ∨ i = 3) with rfl | rfl | rfl | rfl <;> rfl
  rw [e] at hw
  simp only [Lit.wf, Bool.and_eq_true, decide_eq_true_eq] at hw
  exact hw⟩
theorem first_bit {b : Nat} (hb : b < W64) {k : Nat} (h : firstN b = (k : Int)) : k < 64 ∧ b.testBit k = true := by
  by_cases h0 : b = 0
  · subst h0; rw [firstN_zero] at h; omega
  · obtain ⟨e, he, e2, ht, _⟩ := first_spec h0 hb
    have : e = k := by rw [e2] at h; omega
    subst this; exact ⟨he, ht⟩
theorem of_at {p : Nat → Int} {c k : Int} (hk : k ≠ 0) {i : Nat} (hi : i < 64) (h : (ofN p c k).testBit i = true) : p (1 + i) = 8 * c + k := by
  rw [ofN_testBit _ _ _ _ hi] at h
  unfold ofB at h
  simp only [Bool.and_eq_true, Bool.or_eq_true, beq_iff_eq] at h
  obtain ⟨hp, hc, hd⟩ := h
  have hd : kndZ (p (1 + i)) = k := hd.resolve_left hk
  unfold colZ at hc
  unfold kndZ at hd
  rw [hp, cond_true] at hc hd
  omega
theorem sdC_yes' {c : Int} {m : Mv} (h0 : m.ca = true) (h1 : m.f ≠ m.t) (h2 : c ≤ 1) (h3 : hmC c ≤ m.f ∧ m.f < hmC c + 8) (h4 : hmC c ≤ m.t ∧ m.t < hmC c + 8) : sdC c m = bif decide (m.f < m.t) then 0 else 1 := by
  have a1 : atC c m.f = true := by unfold atC; simp only [Bool.and_eq_true, decide_eq_true_eq]; exact ⟨h2, h3⟩
  have a2 : atC c m.t = true := by unfold atC; simp only [Bool.and_eq_true, decide_eq_true_eq]; exact ⟨h2, h4⟩
  unfold sdC
  rw [h0, a1, a2, beq_eq_false_iff_ne.2 h1]; rfl
structure CamM (p : Nat → Int) (c n : Nat) (f t : Nat) : Prop where
  turn : p 78 = (c : Int)
  c2 : c < 2
  n2 : n < 2
  f64 : f < 64
  t64 : t < 64
  king : p (1 + f) = 8 * (c : Int) + 6
  rook : p (1 + t) = 8 * (c : Int) + 4
  home : (f : Int) / 8 = 7 * (c : Int) ∧ (t : Int) / 8 = 7 * (c : Int)
  side : if n = 0 then f < t else t < f
  file : p (79 + c * 2 + n) = (t : Int) % 8
  sd : sdC (p 78) ⟨(f : Int), (t : Int), 0, 0, true⟩ = (n : Int)
theorem cam_is {p : Nat → Int} (ht0 : 0 ≤ p 78) {m : Mv} (h : m ∈ camL p) : ∃ c n f t : Nat, m = ⟨(f : Int), (t : Int), 0, 0, true⟩ ∧ CamM p c n f t := by
  obtain ⟨h1, n, hn, rfl, hi⟩ := cam_mem h
  obtain ⟨c, hc⟩ : ∃ c : Nat, p 78 = (c : Int) := ⟨(p 78).toNat, by omega⟩
  have hc2 : c < 2 := by omega
  unfold inC at hi
  rw [Bool.and_eq_true] at hi
  obtain ⟨hfv, hsd⟩ := fit_mvC hc hi.1
  obtain ⟨g1, g2, g3, g4, g5, g6, g7⟩ := sdC_at (c := p 78) (m := mvC p n) (by rw [hsd]; omega)
  have hh := hmC_rng (p 78)
  have hi1 := hi.1
  unfold namC flB at hi1
  simp only [Bool.and_eq_true, decide_eq_true_eq, beq_iff_eq] at hi1
  obtain ⟨⟨hr0, hr1⟩, hrk, _⟩ := hi1
  have g4' : hmC (p 78) ≤ kingZ p (p 78) := g4
  have g5' : kingZ p (p 78) < hmC (p 78) + 8 := g5
  obtain ⟨f, hf⟩ : ∃ f : Nat, kingZ p (p 78) = (f : Int) := ⟨(kingZ p (p 78)).toNat, by omega⟩
  obtain ⟨t, ht⟩ : ∃ t : Nat, hmC (p 78) + flC p n = (t : Int) := ⟨(hmC (p 78) + flC p n).toNat, by omega⟩
  have hm : mvC p n = ⟨(f : Int), (t : Int), 0, 0, true⟩ := by unfold mvC; rw [hf, ht]
  obtain ⟨hf64, hfb⟩ := first_bit (ofN_lt p (p 78) 6) hf
  have ht64 : t < 64 := by
    have : hmC (p 78) = 0 ∨ hmC (p 78) = 56 := by rw [hc]; rcases (by omega : c = 0 ∨ c = 1) with rfl | rfl; { exact .inl rfl }; { exact .inr rfl }
    omega
  rw [ht, hasN_nat _ _ ht64] at hrk
  have hhm : hmC (p 78) = 56 * (c : Int) := by rw [hc]; rcases (by omega : c = 0 ∨ c = 1) with rfl | rfl <;> rfl
  have hfl : flC p n = p (79 + c * 2 + n) := by unfold flC; rw [hc, Int.toNat_natCast]
  refine ⟨c, n, f, t, hm, hc, hc2, hn, hf64, ht64, ?_, ?_, ⟨by omega, by omega⟩, ?_, by rw [← hfl]; omega, by rw [← hm]; exact hsd⟩
  · rw [of_at (by decide) hf64 hfb, hc]
  · rw [of_at (by decide) ht64 hrk, hc]
  · rw [hm] at hsd g1 g2 g4 g5 g6 g7
    rw [sdC_yes' g1 g2 g3 ⟨g4, g5⟩ ⟨g6, g7⟩] at hsd
    by_cases e : (f : Int) < (t : Int)
    · have e' : decide ((⟨(f : Int), (t : Int), 0, 0, true⟩ : Mv).f < (⟨(f : Int), (t : Int), 0, 0, true⟩ : Mv).t) = true := decide_eq_true e
      rw [e', cond_true] at hsd
      rw [if_pos (by omega)]; omega
    · have e' : decide ((⟨(f : Int), (t : Int), 0, 0, true⟩ : Mv).f < (⟨(f : Int), (t : Int), 0, 0, true⟩ : Mv).t) = false := decide_eq_false e
      rw [e', cond_false] at hsd
      have g2' : (f : Int) ≠ (t : Int) := g2
      rw [if_neg (by omega)]; omega
end Go.Proofs.YtmlmilmfnioheaaDoor
