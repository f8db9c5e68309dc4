/-
  The document's own Side and Goals of layer 14.
-/
import Derived.Test.YtmlmilmfnioheaaDoorCsA
namespace Go.Proofs.YtmlmilmfnioheaaDoor
open Go.RowKit Go.Shelf
set_option linter.unusedVariables false
set_option linter.unusedSimpArgs false
attribute [local go_sem] Oper.semAt_some

theorem sd_no {c : Int} {m : Mv} (h : ¬ (m.ca = true ∧ m.f ≠ m.t ∧ c ≤ 1 ∧ hmC c ≤ m.f ∧ m.f < hmC c + 8 ∧ hmC c ≤ m.t ∧ m.t < hmC c + 8)) : sdC c m = -1 := by
  rcases sdC_cases c m with e | e
  · exact e
  · exact absurd (sdC_at (c := c) (m := m) (by omega)) h
theorem sd_yes {c : Int} {m : Mv} (h0 : m.ca = true) (h1 : m.f ≠ m.t) (h2 : c ≤ 1) (h3 : hmC c ≤ m.f ∧ m.f < hmC c + 8) (h4 : hmC c ≤ m.t ∧ m.t < hmC c + 8) : sdC c m = bif decide (m.f < m.t) then 0 else 1 := by
  have a1 : atC c m.f = true := by unfold atC; simp only [Bool.and_eq_true, decide_eq_true_eq]; exact ⟨h2, h3⟩
  have a2 : atC c m.t = true := by unfold atC; simp only [Bool.and_eq_true, decide_eq_true_eq]; exact ⟨h2, h4⟩
  unfold sdC
  rw [h0, a1, a2, beq_eq_false_iff_ne.2 h1]; rfl
def IntPL (a b : Int) (w : World) (e : Ending) (w' : World) : Prop := e = .returned (.tuple #[.int .i64 a, .int .i64 b]) ∧ w = w'
theorem cs_rgoals (n : Int) (w : World) : Calls Tryd.prog 15 #[.int .i64 n] w (IntPL (gkC n) (grC n) w) := by
  unfold gkC grC
  cases g : (n == 0)
  all_goals
    go_enter Tryd.func15, Tryd.ntmps15
    go_wp2
    go_ret2
    exact ⟨rfl, rfl⟩
set_option maxRecDepth 100000 in
set_option maxHeartbeats 2000000 in
theorem cs_rside (p : Nat → Int) (m : Mv) (w : World) (hm : FitV m) (hp : 0 ≤ p 78) : Calls Tryd.prog 12 #[.agg (posA p), .agg (mvA m)] w (IntL (sdC (p 78) m) w) := by
  have hf := hm.f
  have ht := hm.t
  clear hm
  have HB := Lib.hid (Below.refl w.heap.size w)
  by_cases h1 : 1 < p 78
  · have q1 : decide (1 < p 78) = true := decide_eq_true h1
    obtain ⟨u, hu⟩ : ∃ u, p 78 = u := ⟨_, rfl⟩
    rw [hu] at q1
    have HC := Lib.hid hu
    have HS := Lib.hid (show sdC (p 78) m = -1 from sd_no (fun ⟨_, _, _, _, _, _, _⟩ => by omega))
    go_enter Tryd.func12, Tryd.ntmps12
    go_wp2_with (first
      | (guard_target = Go.wpList _ _ _ ((⟨some 2, .box _ _, _, _, _, _⟩ : Go.Oper) :: _) _ _; refine step_box rfl _ rfl p rfl ?_; intro b2 w1 N R; have HG2 := Lib.hid (show w.heap.size ≤ b2 by have := HB.out.size; have := N.at_; omega); have HB := Lib.hid (below_on HB.out N.below); have HR2 := Lib.hid R; clear N R)
      | (guard_target = Go.wpList _ _ _ ((⟨some 3, .box _ _, _, _, _, _⟩ : Go.Oper) :: _) _ _; refine blk_box rfl 36 _ rfl (mvA m) rfl ?_; intro b3 w1 N R; have HG3 := Lib.hid (show w.heap.size ≤ b3 by have := HB.out.size; have := N.at_; omega); have HR2 := Lib.hid (HR2.out.later N.below); have HB := Lib.hid (below_on HB.out N.below); have HR3 := Lib.hid R; clear N R)
      | (guard_target = Go.wpList _ _ _ ((⟨some _, .load _ (.tmp 9), _, _, _, _⟩ : Go.Oper) :: _) _ _; refine step_get rfl 4 _ rfl b3 4 rfl Tryd.underlying4 rfl (.bool m.ca) ?_ ?_; exact (HR3.out.cell 4).trans rfl)
      | (guard_target = Go.wpList _ _ _ ((⟨some _, .load _ (.tmp 14), _, _, _, _⟩ : Go.Oper) :: _) _ _; refine step_get rfl 26 _ rfl b3 0 rfl Tryd.underlying26 rfl (.int .i8 m.f) ?_ ?_; exact (HR3.out.cell 0).trans rfl)
      | (guard_target = Go.wpList _ _ _ ((⟨some _, .load _ (.tmp 21), _, _, _, _⟩ : Go.Oper) :: _) _ _; refine step_get rfl 26 _ rfl b3 0 rfl Tryd.underlying26 rfl (.int .i8 m.f) ?_ ?_; exact (HR3.out.cell 0).trans rfl)
      | (guard_target = Go.wpList _ _ _ ((⟨some _, .load _ (.tmp 26), _, _, _, _⟩ : Go.Oper) :: _) _ _; refine step_get rfl 26 _ rfl b3 0 rfl Tryd.underlying26 rfl (.int .i8 m.f) ?_ ?_; exact (HR3.out.cell 0).trans rfl)
      | (guard_target = Go.wpList _ _ _ ((⟨some _, .load _ (.tmp 41), _, _, _, _⟩ : Go.Oper) :: _) _ _; refine step_get rfl 26 _ rfl b3 0 rfl Tryd.underlying26 rfl (.int .i8 m.f) ?_ ?_; exact (HR3.out.cell 0).trans rfl)
      | (guard_target = Go.wpList _ _ _ ((⟨some _, .load _ (.tmp 62), _, _, _, _⟩ : Go.Oper) :: _) _ _; refine step_get rfl 26 _ rfl b3 0 rfl Tryd.underlying26 rfl (.int .i8 m.f) ?_ ?_; exact (HR3.out.cell 0).trans rfl)
      | (guard_target = Go.wpList _ _ _ ((⟨some _, .load _ (.tmp 16), _, _, _, _⟩ : Go.Oper) :: _) _ _; refine step_get rfl 26 _ rfl b3 1 rfl Tryd.underlying26 rfl (.int .i8 m.t) ?_ ?_; exact (HR3.out.cell 1).trans rfl)
      | (guard_target = Go.wpList _ _ _ ((⟨some _, .load _ (.tmp 31), _, _, _, _⟩ : Go.Oper) :: _) _ _; refine step_get rfl 26 _ rfl b3 1 rfl Tryd.underlying26 rfl (.int .i8 m.t) ?_ ?_; exact (HR3.out.cell 1).trans rfl)
      | (guard_target = Go.wpList _ _ _ ((⟨some _, .load _ (.tmp 36), _, _, _, _⟩ : Go.Oper) :: _) _ _; refine step_get rfl 26 _ rfl b3 1 rfl Tryd.underlying26 rfl (.int .i8 m.t) ?_ ?_; exact (HR3.out.cell 1).trans rfl)
      | (guard_target = Go.wpList _ _ _ ((⟨some _, .load _ (.tmp 51), _, _, _, _⟩ : Go.Oper) :: _) _ _; refine step_get rfl 26 _ rfl b3 1 rfl Tryd.underlying26 rfl (.int .i8 m.t) ?_ ?_; exact (HR3.out.cell 1).trans rfl)
      | (guard_target = Go.wpList _ _ _ ((⟨some _, .load _ (.tmp 60), _, _, _, _⟩ : Go.Oper) :: _) _ _; refine step_get rfl 26 _ rfl b3 1 rfl Tryd.underlying26 rfl (.int .i8 m.t) ?_ ?_; exact (HR3.out.cell 1).trans rfl)
      | (guard_target = Go.wpList _ _ _ ((⟨some _, .load _ (.tmp 5), _, _, _, _⟩ : Go.Oper) :: _) _ _; refine step_get rfl 5 _ rfl b2 78 rfl Tryd.underlying5 rfl (.int .u8 u) ?_ ?_; exact (HR2.out.cell 78 (by decide)).trans (by rw [HC.out]; rfl))
      | (guard_target = Go.wpList _ _ _ ((⟨some _, .load _ (.tmp 44), _, _, _, _⟩ : Go.Oper) :: _) _ _; refine step_get rfl 5 _ rfl b2 78 rfl Tryd.underlying5 rfl (.int .u8 u) ?_ ?_; exact (HR2.out.cell 78 (by decide)).trans (by rw [HC.out]; rfl))
      | (guard_target = Go.wpList _ _ _ ((⟨some _, .load _ (.tmp 54), _, _, _, _⟩ : Go.Oper) :: _) _ _; refine step_get rfl 5 _ rfl b2 78 rfl Tryd.underlying5 rfl (.int .u8 u) ?_ ?_; exact (HR2.out.cell 78 (by decide)).trans (by rw [HC.out]; rfl)))
    go_ret
    exact ⟨by rw [HS.out]; rfl, HB.out⟩
  · rcases (by omega : p 78 = 0 ∨ p 78 = 1) with hc | hc
    · skip
      have HC := Lib.hid hc
      rw [hc]
      clear hc h1 hp
      have hm : hmC 0 = 0 := rfl
      cases g1 : m.ca
      · have g5 := g1
        have HS := Lib.hid (show sdC 0 m = -1 from sd_no (by rw [g1]; simp))
        go_enter Tryd.func12, Tryd.ntmps12
        go_wp2_with (first
          | (guard_target = Go.wpList _ _ _ ((⟨some 2, .box _ _, _, _, _, _⟩ : Go.Oper) :: _) _ _; refine step_box rfl _ rfl p rfl ?_; intro b2 w1 N R; have HG2 := Lib.hid (show w.heap.size ≤ b2 by have := HB.out.size; have := N.at_; omega); have HB := Lib.hid (below_on HB.out N.below); have HR2 := Lib.hid R; clear N R)
          | (guard_target = Go.wpList _ _ _ ((⟨some 3, .box _ _, _, _, _, _⟩ : Go.Oper) :: _) _ _; refine blk_box rfl 36 _ rfl (mvA m) rfl ?_; intro b3 w1 N R; have HG3 := Lib.hid (show w.heap.size ≤ b3 by have := HB.out.size; have := N.at_; omega); have HR2 := Lib.hid (HR2.out.later N.below); have HB := Lib.hid (below_on HB.out N.below); have HR3 := Lib.hid R; clear N R)
          | (guard_target = Go.wpList _ _ _ ((⟨some _, .load _ (.tmp 9), _, _, _, _⟩ : Go.Oper) :: _) _ _; refine step_get rfl 4 _ rfl b3 4 rfl Tryd.underlying4 rfl (.bool m.ca) ?_ ?_; exact (HR3.out.cell 4).trans rfl)
          | (guard_target = Go.wpList _ _ _ ((⟨some _, .load _ (.tmp 14), _, _, _, _⟩ : Go.Oper) :: _) _ _; refine step_get rfl 26 _ rfl b3 0 rfl Tryd.underlying26 rfl (.int .i8 m.f) ?_ ?_; exact (HR3.out.cell 0).trans rfl)
          | (guard_target = Go.wpList _ _ _ ((⟨some _, .load _ (.tmp 21), _, _, _, _⟩ : Go.Oper) :: _) _ _; refine step_get rfl 26 _ rfl b3 0 rfl Tryd.underlying26 rfl (.int .i8 m.f) ?_ ?_; exact (HR3.out.cell 0).trans rfl)
          | (guard_target = Go.wpList _ _ _ ((⟨some _, .load _ (.tmp 26), _, _, _, _⟩ : Go.Oper) :: _) _ _; refine step_get rfl 26 _ rfl b3 0 rfl Tryd.underlying26 rfl (.int .i8 m.f) ?_ ?_; exact (HR3.out.cell 0).trans rfl)
          | (guard_target = Go.wpList _ _ _ ((⟨some _, .load _ (.tmp 41), _, _, _, _⟩ : Go.Oper) :: _) _ _; refine step_get rfl 26 _ rfl b3 0 rfl Tryd.underlying26 rfl (.int .i8 m.f) ?_ ?_; exact (HR3.out.cell 0).trans rfl)
          | (guard_target = Go.wpList _ _ _ ((⟨some _, .load _ (.tmp 62), _, _, _, _⟩ : Go.Oper) :: _) _ _; refine step_get rfl 26 _ rfl b3 0 rfl Tryd.underlying26 rfl (.int .i8 m.f) ?_ ?_; exact (HR3.out.cell 0).trans rfl)
          | (guard_target = Go.wpList _ _ _ ((⟨some _, .load _ (.tmp 16), _, _, _, _⟩ : Go.Oper) :: _) _ _; refine step_get rfl 26 _ rfl b3 1 rfl Tryd.underlying26 rfl (.int .i8 m.t) ?_ ?_; exact (HR3.out.cell 1).trans rfl)
          | (guard_target = Go.wpList _ _ _ ((⟨some _, .load _ (.tmp 31), _, _, _, _⟩ : Go.Oper) :: _) _ _; refine step_get rfl 26 _ rfl b3 1 rfl Tryd.underlying26 rfl (.int .i8 m.t) ?_ ?_; exact (HR3.out.cell 1).trans rfl)
          | (guard_target = Go.wpList _ _ _ ((⟨some _, .load _ (.tmp 36), _, _, _, _⟩ : Go.Oper) :: _) _ _; refine step_get rfl 26 _ rfl b3 1 rfl Tryd.underlying26 rfl (.int .i8 m.t) ?_ ?_; exact (HR3.out.cell 1).trans rfl)
          | (guard_target = Go.wpList _ _ _ ((⟨some _, .load _ (.tmp 51), _, _, _, _⟩ : Go.Oper) :: _) _ _; refine step_get rfl 26 _ rfl b3 1 rfl Tryd.underlying26 rfl (.int .i8 m.t) ?_ ?_; exact (HR3.out.cell 1).trans rfl)
          | (guard_target = Go.wpList _ _ _ ((⟨some _, .load _ (.tmp 60), _, _, _, _⟩ : Go.Oper) :: _) _ _; refine step_get rfl 26 _ rfl b3 1 rfl Tryd.underlying26 rfl (.int .i8 m.t) ?_ ?_; exact (HR3.out.cell 1).trans rfl)
          | (guard_target = Go.wpList _ _ _ ((⟨some _, .load _ (.tmp 5), _, _, _, _⟩ : Go.Oper) :: _) _ _; refine step_get rfl 5 _ rfl b2 78 rfl Tryd.underlying5 rfl (.int .u8 0) ?_ ?_; exact (HR2.out.cell 78 (by decide)).trans (by rw [HC.out]; rfl))
          | (guard_target = Go.wpList _ _ _ ((⟨some _, .load _ (.tmp 44), _, _, _, _⟩ : Go.Oper) :: _) _ _; refine step_get rfl 5 _ rfl b2 78 rfl Tryd.underlying5 rfl (.int .u8 0) ?_ ?_; exact (HR2.out.cell 78 (by decide)).trans (by rw [HC.out]; rfl))
          | (guard_target = Go.wpList _ _ _ ((⟨some _, .load _ (.tmp 54), _, _, _, _⟩ : Go.Oper) :: _) _ _; refine step_get rfl 5 _ rfl b2 78 rfl Tryd.underlying5 rfl (.int .u8 0) ?_ ?_; exact (HR2.out.cell 78 (by decide)).trans (by rw [HC.out]; rfl)))
        go_ret
        exact ⟨by rw [HS.out]; rfl, HB.out⟩
      · by_cases g2 : m.f = m.t
        · have q2 : (m.f == m.t) = true := beq_iff_eq.2 g2
          have HS := Lib.hid (show sdC 0 m = -1 from sd_no (fun ⟨_, _, _, _, _, _, _⟩ => by omega))
          go_enter Tryd.func12, Tryd.ntmps12
          go_wp2_with (first
            | (guard_target = Go.wpList _ _ _ ((⟨some 2, .box _ _, _, _, _, _⟩ : Go.Oper) :: _) _ _; refine step_box rfl _ rfl p rfl ?_; intro b2 w1 N R; have HG2 := Lib.hid (show w.heap.size ≤ b2 by have := HB.out.size; have := N.at_; omega); have HB := Lib.hid (below_on HB.out N.below); have HR2 := Lib.hid R; clear N R)
            | (guard_target = Go.wpList _ _ _ ((⟨some 3, .box _ _, _, _, _, _⟩ : Go.Oper) :: _) _ _; refine blk_box rfl 36 _ rfl (mvA m) rfl ?_; intro b3 w1 N R; have HG3 := Lib.hid (show w.heap.size ≤ b3 by have := HB.out.size; have := N.at_; omega); have HR2 := Lib.hid (HR2.out.later N.below); have HB := Lib.hid (below_on HB.out N.below); have HR3 := Lib.hid R; clear N R)
            | (guard_target = Go.wpList _ _ _ ((⟨some _, .load _ (.tmp 9), _, _, _, _⟩ : Go.Oper) :: _) _ _; refine step_get rfl 4 _ rfl b3 4 rfl Tryd.underlying4 rfl (.bool m.ca) ?_ ?_; exact (HR3.out.cell 4).trans rfl)
            | (guard_target = Go.wpList _ _ _ ((⟨some _, .load _ (.tmp 14), _, _, _, _⟩ : Go.Oper) :: _) _ _; refine step_get rfl 26 _ rfl b3 0 rfl Tryd.underlying26 rfl (.int .i8 m.f) ?_ ?_; exact (HR3.out.cell 0).trans rfl)
            | (guard_target = Go.wpList _ _ _ ((⟨some _, .load _ (.tmp 21), _, _, _, _⟩ : Go.Oper) :: _) _ _; refine step_get rfl 26 _ rfl b3 0 rfl Tryd.underlying26 rfl (.int .i8 m.f) ?_ ?_; exact (HR3.out.cell 0).trans rfl)
            | (guard_target = Go.wpList _ _ _ ((⟨some _, .load _ (.tmp 26), _, _, _, _⟩ : Go.Oper) :: _) _ _; refine step_get rfl 26 _ rfl b3 0 rfl Tryd.underlying26 rfl (.int .i8 m.f) ?_ ?_; exact (HR3.out.cell 0).trans rfl)
            | (guard_target = Go.wpList _ _ _ ((⟨some _, .load _ (.tmp 41), _, _, _, _⟩ : Go.Oper) :: _) _ _; refine step_get rfl 26 _ rfl b3 0 rfl Tryd.underlying26 rfl (.int .i8 m.f) ?_ ?_; exact (HR3.out.cell 0).trans rfl)
            | (guard_target = Go.wpList _ _ _ ((⟨some _, .load _ (.tmp 62), _, _, _, _⟩ : Go.Oper) :: _) _ _; refine step_get rfl 26 _ rfl b3 0 rfl Tryd.underlying26 rfl (.int .i8 m.f) ?_ ?_; exact (HR3.out.cell 0).trans rfl)
            | (guard_target = Go.wpList _ _ _ ((⟨some _, .load _ (.tmp 16), _, _, _, _⟩ : Go.Oper) :: _) _ _; refine step_get rfl 26 _ rfl b3 1 rfl Tryd.underlying26 rfl (.int .i8 m.t) ?_ ?_; exact (HR3.out.cell 1).trans rfl)
            | (guard_target = Go.wpList _ _ _ ((⟨some _, .load _ (.tmp 31), _, _, _, _⟩ : Go.Oper) :: _) _ _; refine step_get rfl 26 _ rfl b3 1 rfl Tryd.underlying26 rfl (.int .i8 m.t) ?_ ?_; exact (HR3.out.cell 1).trans rfl)
            | (guard_target = Go.wpList _ _ _ ((⟨some _, .load _ (.tmp 36), _, _, _, _⟩ : Go.Oper) :: _) _ _; refine step_get rfl 26 _ rfl b3 1 rfl Tryd.underlying26 rfl (.int .i8 m.t) ?_ ?_; exact (HR3.out.cell 1).trans rfl)
            | (guard_target = Go.wpList _ _ _ ((⟨some _, .load _ (.tmp 51), _, _, _, _⟩ : Go.Oper) :: _) _ _; refine step_get rfl 26 _ rfl b3 1 rfl Tryd.underlying26 rfl (.int .i8 m.t) ?_ ?_; exact (HR3.out.cell 1).trans rfl)
            | (guard_target = Go.wpList _ _ _ ((⟨some _, .load _ (.tmp 60), _, _, _, _⟩ : Go.Oper) :: _) _ _; refine step_get rfl 26 _ rfl b3 1 rfl Tryd.underlying26 rfl (.int .i8 m.t) ?_ ?_; exact (HR3.out.cell 1).trans rfl)
            | (guard_target = Go.wpList _ _ _ ((⟨some _, .load _ (.tmp 5), _, _, _, _⟩ : Go.Oper) :: _) _ _; refine step_get rfl 5 _ rfl b2 78 rfl Tryd.underlying5 rfl (.int .u8 0) ?_ ?_; exact (HR2.out.cell 78 (by decide)).trans (by rw [HC.out]; rfl))
            | (guard_target = Go.wpList _ _ _ ((⟨some _, .load _ (.tmp 44), _, _, _, _⟩ : Go.Oper) :: _) _ _; refine step_get rfl 5 _ rfl b2 78 rfl Tryd.underlying5 rfl (.int .u8 0) ?_ ?_; exact (HR2.out.cell 78 (by decide)).trans (by rw [HC.out]; rfl))
            | (guard_target = Go.wpList _ _ _ ((⟨some _, .load _ (.tmp 54), _, _, _, _⟩ : Go.Oper) :: _) _ _; refine step_get rfl 5 _ rfl b2 78 rfl Tryd.underlying5 rfl (.int .u8 0) ?_ ?_; exact (HR2.out.cell 78 (by decide)).trans (by rw [HC.out]; rfl)))
          go_ret
          exact ⟨by rw [HS.out]; rfl, HB.out⟩
        · have q2 : (m.f == m.t) = false := beq_eq_false_iff_ne.2 g2
          by_cases g3 : m.f < 0
          · have q3 : decide (m.f < 0) = true := decide_eq_true g3
            have HS := Lib.hid (show sdC 0 m = -1 from sd_no (fun ⟨_, _, _, _, _, _, _⟩ => by omega))
            go_enter Tryd.func12, Tryd.ntmps12
            go_wp2_with (first
              | (guard_target = Go.wpList _ _ _ ((⟨some 2, .box _ _, _, _, _, _⟩ : Go.Oper) :: _) _ _; refine step_box rfl _ rfl p rfl ?_; intro b2 w1 N R; have HG2 := Lib.hid (show w.heap.size ≤ b2 by have := HB.out.size; have := N.at_; omega); have HB := Lib.hid (below_on HB.out N.below); have HR2 := Lib.hid R; clear N R)
              | (guard_target = Go.wpList _ _ _ ((⟨some 3, .box _ _, _, _, _, _⟩ : Go.Oper) :: _) _ _; refine blk_box rfl 36 _ rfl (mvA m) rfl ?_; intro b3 w1 N R; have HG3 := Lib.hid (show w.heap.size ≤ b3 by have := HB.out.size; have := N.at_; omega); have HR2 := Lib.hid (HR2.out.later N.below); have HB := Lib.hid (below_on HB.out N.below); have HR3 := Lib.hid R; clear N R)
              | (guard_target = Go.wpList _ _ _ ((⟨some _, .load _ (.tmp 9), _, _, _, _⟩ : Go.Oper) :: _) _ _; refine step_get rfl 4 _ rfl b3 4 rfl Tryd.underlying4 rfl (.bool m.ca) ?_ ?_; exact (HR3.out.cell 4).trans rfl)
              | (guard_target = Go.wpList _ _ _ ((⟨some _, .load _ (.tmp 14), _, _, _, _⟩ : Go.Oper) :: _) _ _; refine step_get rfl 26 _ rfl b3 0 rfl Tryd.underlying26 rfl (.int .i8 m.f) ?_ ?_; exact (HR3.out.cell 0).trans rfl)
              | (guard_target = Go.wpList _ _ _ ((⟨some _, .load _ (.tmp 21), _, _, _, _⟩ : Go.Oper) :: _) _ _; refine step_get rfl 26 _ rfl b3 0 rfl Tryd.underlying26 rfl (.int .i8 m.f) ?_ ?_; exact (HR3.out.cell 0).trans rfl)
              | (guard_target = Go.wpList _ _ _ ((⟨some _, .load _ (.tmp 26), _, _, _, _⟩ : Go.Oper) :: _) _ _; refine step_get rfl 26 _ rfl b3 0 rfl Tryd.underlying26 rfl (.int .i8 m.f) ?_ ?_; exact (HR3.out.cell 0).trans rfl)
              | (guard_target = Go.wpList _ _ _ ((⟨some _, .load _ (.tmp 41), _, _, _, _⟩ : Go.Oper) :: _) _ _; refine step_get rfl 26 _ rfl b3 0 rfl Tryd.underlying26 rfl (.int .i8 m.f) ?_ ?_; exact (HR3.out.cell 0).trans rfl)
              | (guard_target = Go.wpList _ _ _ ((⟨some _, .load _ (.tmp 62), _, _, _, _⟩ : Go.Oper) :: _) _ _; refine step_get rfl 26 _ rfl b3 0 rfl Tryd.underlying26 rfl (.int .i8 m.f) ?_ ?_; exact (HR3.out.cell 0).trans rfl)
              | (guard_target = Go.wpList _ _ _ ((⟨some _, .load _ (.tmp 16), _, _, _, _⟩ : Go.Oper) :: _) _ _; refine step_get rfl 26 _ rfl b3 1 rfl Tryd.underlying26 rfl (.int .i8 m.t) ?_ ?_; exact (HR3.out.cell 1).trans rfl)
              | (guard_target = Go.wpList _ _ _ ((⟨some _, .load _ (.tmp 31), _, _, _, _⟩ : Go.Oper) :: _) _ _; refine step_get rfl 26 _ rfl b3 1 rfl Tryd.underlying26 rfl (.int .i8 m.t) ?_ ?_; exact (HR3.out.cell 1).trans rfl)
              | (guard_target = Go.wpList _ _ _ ((⟨some _, .load _ (.tmp 36), _, _, _, _⟩ : Go.Oper) :: _) _ _; refine step_get rfl 26 _ rfl b3 1 rfl Tryd.underlying26 rfl (.int .i8 m.t) ?_ ?_; exact (HR3.out.cell 1).trans rfl)
              | (guard_target = Go.wpList _ _ _ ((⟨some _, .load _ (.tmp 51), _, _, _, _⟩ : Go.Oper) :: _) _ _; refine step_get rfl 26 _ rfl b3 1 rfl Tryd.underlying26 rfl (.int .i8 m.t) ?_ ?_; exact (HR3.out.cell 1).trans rfl)
              | (guard_target = Go.wpList _ _ _ ((⟨some _, .load _ (.tmp 60), _, _, _, _⟩ : Go.Oper) :: _) _ _; refine step_get rfl 26 _ rfl b3 1 rfl Tryd.underlying26 rfl (.int .i8 m.t) ?_ ?_; exact (HR3.out.cell 1).trans rfl)
              | (guard_target = Go.wpList _ _ _ ((⟨some _, .load _ (.tmp 5), _, _, _, _⟩ : Go.Oper) :: _) _ _; refine step_get rfl 5 _ rfl b2 78 rfl Tryd.underlying5 rfl (.int .u8 0) ?_ ?_; exact (HR2.out.cell 78 (by decide)).trans (by rw [HC.out]; rfl))
              | (guard_target = Go.wpList _ _ _ ((⟨some _, .load _ (.tmp 44), _, _, _, _⟩ : Go.Oper) :: _) _ _; refine step_get rfl 5 _ rfl b2 78 rfl Tryd.underlying5 rfl (.int .u8 0) ?_ ?_; exact (HR2.out.cell 78 (by decide)).trans (by rw [HC.out]; rfl))
              | (guard_target = Go.wpList _ _ _ ((⟨some _, .load _ (.tmp 54), _, _, _, _⟩ : Go.Oper) :: _) _ _; refine step_get rfl 5 _ rfl b2 78 rfl Tryd.underlying5 rfl (.int .u8 0) ?_ ?_; exact (HR2.out.cell 78 (by decide)).trans (by rw [HC.out]; rfl)))
            go_ret
            exact ⟨by rw [HS.out]; rfl, HB.out⟩
          · have q3 : decide (m.f < 0) = false := decide_eq_false g3
            by_cases g4 : 63 < m.f
            · have q4 : decide (63 < m.f) = true := decide_eq_true g4
              have HS := Lib.hid (show sdC 0 m = -1 from sd_no (fun ⟨_, _, _, _, _, _, _⟩ => by omega))
              go_enter Tryd.func12, Tryd.ntmps12
              go_wp2_with (first
                | (guard_target = Go.wpList _ _ _ ((⟨some 2, .box _ _, _, _, _, _⟩ : Go.Oper) :: _) _ _; refine step_box rfl _ rfl p rfl ?_; intro b2 w1 N R; have HG2 := Lib.hid (show w.heap.size ≤ b2 by have := HB.out.size; have := N.at_; omega); have HB := Lib.hid (below_on HB.out N.below); have HR2 := Lib.hid R; clear N R)
                | (guard_target = Go.wpList _ _ _ ((⟨some 3, .box _ _, _, _, _, _⟩ : Go.Oper) :: _) _ _; refine blk_box rfl 36 _ rfl (mvA m) rfl ?_; intro b3 w1 N R; have HG3 := Lib.hid (show w.heap.size ≤ b3 by have := HB.out.size; have := N.at_; omega); have HR2 := Lib.hid (HR2.out.later N.below); have HB := Lib.hid (below_on HB.out N.below); have HR3 := Lib.hid R; clear N R)
                | (guard_target = Go.wpList _ _ _ ((⟨some _, .load _ (.tmp 9), _, _, _, _⟩ : Go.Oper) :: _) _ _; refine step_get rfl 4 _ rfl b3 4 rfl Tryd.underlying4 rfl (.bool m.ca) ?_ ?_; exact (HR3.out.cell 4).trans rfl)
                | (guard_target = Go.wpList _ _ _ ((⟨some _, .load _ (.tmp 14), _, _, _, _⟩ : Go.Oper) :: _) _ _; refine step_get rfl 26 _ rfl b3 0 rfl Tryd.underlying26 rfl (.int .i8 m.f) ?_ ?_; exact (HR3.out.cell 0).trans rfl)
                | (guard_target = Go.wpList _ _ _ ((⟨some _, .load _ (.tmp 21), _, _, _, _⟩ : Go.Oper) :: _) _ _; refine step_get rfl 26 _ rfl b3 0 rfl Tryd.underlying26 rfl (.int .i8 m.f) ?_ ?_; exact (HR3.out.cell 0).trans rfl)
                | (guard_target = Go.wpList _ _ _ ((⟨some _, .load _ (.tmp 26), _, _, _, _⟩ : Go.Oper) :: _) _ _; refine step_get rfl 26 _ rfl b3 0 rfl Tryd.underlying26 rfl (.int .i8 m.f) ?_ ?_; exact (HR3.out.cell 0).trans rfl)
                | (guard_target = Go.wpList _ _ _ ((⟨some _, .load _ (.tmp 41), _, _, _, _⟩ : Go.Oper) :: _) _ _; refine step_get rfl 26 _ rfl b3 0 rfl Tryd.underlying26 rfl (.int .i8 m.f) ?_ ?_; exact (HR3.out.cell 0).trans rfl)
                | (guard_target = Go.wpList _ _ _ ((⟨some _, .load _ (.tmp 62), _, _, _, _⟩ : Go.Oper) :: _) _ _; refine step_get rfl 26 _ rfl b3 0 rfl Tryd.underlying26 rfl (.int .i8 m.f) ?_ ?_; exact (HR3.out.cell 0).trans rfl)
                | (guard_target = Go.wpList _ _ _ ((⟨some _, .load _ (.tmp 16), _, _, _, _⟩ : Go.Oper) :: _) _ _; refine step_get rfl 26 _ rfl b3 1 rfl Tryd.underlying26 rfl (.int .i8 m.t) ?_ ?_; exact (HR3.out.cell 1).trans rfl)
                | (guard_target = Go.wpList _ _ _ ((⟨some _, .load _ (.tmp 31), _, _, _, _⟩ : Go.Oper) :: _) _ _; refine step_get rfl 26 _ rfl b3 1 rfl Tryd.underlying26 rfl (.int .i8 m.t) ?_ ?_; exact (HR3.out.cell 1).trans rfl)
                | (guard_target = Go.wpList _ _ _ ((⟨some _, .load _ (.tmp 36), _, _, _, _⟩ : Go.Oper) :: _) _ _; refine step_get rfl 26 _ rfl b3 1 rfl Tryd.underlying26 rfl (.int .i8 m.t) ?_ ?_; exact (HR3.out.cell 1).trans rfl)
                | (guard_target = Go.wpList _ _ _ ((⟨some _, .load _ (.tmp 51), _, _, _, _⟩ : Go.Oper) :: _) _ _; refine step_get rfl 26 _ rfl b3 1 rfl Tryd.underlying26 rfl (.int .i8 m.t) ?_ ?_; exact (HR3.out.cell 1).trans rfl)
                | (guard_target = Go.wpList _ _ _ ((⟨some _, .load _ (.tmp 60), _, _, _, _⟩ : Go.Oper) :: _) _ _; refine step_get rfl 26 _ rfl b3 1 rfl Tryd.underlying26 rfl (.int .i8 m.t) ?_ ?_; exact (HR3.out.cell 1).trans rfl)
                | (guard_target = Go.wpList _ _ _ ((⟨some _, .load _ (.tmp 5), _, _, _, _⟩ : Go.Oper) :: _) _ _; refine step_get rfl 5 _ rfl b2 78 rfl Tryd.underlying5 rfl (.int .u8 0) ?_ ?_; exact (HR2.out.cell 78 (by decide)).trans (by rw [HC.out]; rfl))
                | (guard_target = Go.wpList _ _ _ ((⟨some _, .load _ (.tmp 44), _, _, _, _⟩ : Go.Oper) :: _) _ _; refine step_get rfl 5 _ rfl b2 78 rfl Tryd.underlying5 rfl (.int .u8 0) ?_ ?_; exact (HR2.out.cell 78 (by decide)).trans (by rw [HC.out]; rfl))
                | (guard_target = Go.wpList _ _ _ ((⟨some _, .load _ (.tmp 54), _, _, _, _⟩ : Go.Oper) :: _) _ _; refine step_get rfl 5 _ rfl b2 78 rfl Tryd.underlying5 rfl (.int .u8 0) ?_ ?_; exact (HR2.out.cell 78 (by decide)).trans (by rw [HC.out]; rfl)))
              go_ret
              exact ⟨by rw [HS.out]; rfl, HB.out⟩
            · have q4 : decide (63 < m.f) = false := decide_eq_false g4
              by_cases g5 : m.t < 0
              · have q5 : decide (m.t < 0) = true := decide_eq_true g5
                have HS := Lib.hid (show sdC 0 m = -1 from sd_no (fun ⟨_, _, _, _, _, _, _⟩ => by omega))
                go_enter Tryd.func12, Tryd.ntmps12
                go_wp2_with (first
                  | (guard_target = Go.wpList _ _ _ ((⟨some 2, .box _ _, _, _, _, _⟩ : Go.Oper) :: _) _ _; refine step_box rfl _ rfl p rfl ?_; intro b2 w1 N R; have HG2 := Lib.hid (show w.heap.size ≤ b2 by have := HB.out.size; have := N.at_; omega); have HB := Lib.hid (below_on HB.out N.below); have HR2 := Lib.hid R; clear N R)
                  | (guard_target = Go.wpList _ _ _ ((⟨some 3, .box _ _, _, _, _, _⟩ : Go.Oper) :: _) _ _; refine blk_box rfl 36 _ rfl (mvA m) rfl ?_; intro b3 w1 N R; have HG3 := Lib.hid (show w.heap.size ≤ b3 by have := HB.out.size; have := N.at_; omega); have HR2 := Lib.hid (HR2.out.later N.below); have HB := Lib.hid (below_on HB.out N.below); have HR3 := Lib.hid R; clear N R)
                  | (guard_target = Go.wpList _ _ _ ((⟨some _, .load _ (.tmp 9), _, _, _, _⟩ : Go.Oper) :: _) _ _; refine step_get rfl 4 _ rfl b3 4 rfl Tryd.underlying4 rfl (.bool m.ca) ?_ ?_; exact (HR3.out.cell 4).trans rfl)
                  | (guard_target = Go.wpList _ _ _ ((⟨some _, .load _ (.tmp 14), _, _, _, _⟩ : Go.Oper) :: _) _ _; refine step_get rfl 26 _ rfl b3 0 rfl Tryd.underlying26 rfl (.int .i8 m.f) ?_ ?_; exact (HR3.out.cell 0).trans rfl)
                  | (guard_target = Go.wpList _ _ _ ((⟨some _, .load _ (.tmp 21), _, _, _, _⟩ : Go.Oper) :: _) _ _; refine step_get rfl 26 _ rfl b3 0 rfl Tryd.underlying26 rfl (.int .i8 m.f) ?_ ?_; exact (HR3.out.cell 0).trans rfl)
                  | (guard_target = Go.wpList _ _ _ ((⟨some _, .load _ (.tmp 26), _, _, _, _⟩ : Go.Oper) :: _) _ _; refine step_get rfl 26 _ rfl b3 0 rfl Tryd.underlying26 rfl (.int .i8 m.f) ?_ ?_; exact (HR3.out.cell 0).trans rfl)
                  | (guard_target = Go.wpList _ _ _ ((⟨some _, .load _ (.tmp 41), _, _, _, _⟩ : Go.Oper) :: _) _ _; refine step_get rfl 26 _ rfl b3 0 rfl Tryd.underlying26 rfl (.int .i8 m.f) ?_ ?_; exact (HR3.out.cell 0).trans rfl)
                  | (guard_target = Go.wpList _ _ _ ((⟨some _, .load _ (.tmp 62), _, _, _, _⟩ : Go.Oper) :: _) _ _; refine step_get rfl 26 _ rfl b3 0 rfl Tryd.underlying26 rfl (.int .i8 m.f) ?_ ?_; exact (HR3.out.cell 0).trans rfl)
                  | (guard_target = Go.wpList _ _ _ ((⟨some _, .load _ (.tmp 16), _, _, _, _⟩ : Go.Oper) :: _) _ _; refine step_get rfl 26 _ rfl b3 1 rfl Tryd.underlying26 rfl (.int .i8 m.t) ?_ ?_; exact (HR3.out.cell 1).trans rfl)
                  | (guard_target = Go.wpList _ _ _ ((⟨some _, .load _ (.tmp 31), _, _, _, _⟩ : Go.Oper) :: _) _ _; refine step_get rfl 26 _ rfl b3 1 rfl Tryd.underlying26 rfl (.int .i8 m.t) ?_ ?_; exact (HR3.out.cell 1).trans rfl)
                  | (guard_target = Go.wpList _ _ _ ((⟨some _, .load _ (.tmp 36), _, _, _, _⟩ : Go.Oper) :: _) _ _; refine step_get rfl 26 _ rfl b3 1 rfl Tryd.underlying26 rfl (.int .i8 m.t) ?_ ?_; exact (HR3.out.cell 1).trans rfl)
                  | (guard_target = Go.wpList _ _ _ ((⟨some _, .load _ (.tmp 51), _, _, _, _⟩ : Go.Oper) :: _) _ _; refine step_get rfl 26 _ rfl b3 1 rfl Tryd.underlying26 rfl (.int .i8 m.t) ?_ ?_; exact (HR3.out.cell 1).trans rfl)
                  | (guard_target = Go.wpList _ _ _ ((⟨some _, .load _ (.tmp 60), _, _, _, _⟩ : Go.Oper) :: _) _ _; refine step_get rfl 26 _ rfl b3 1 rfl Tryd.underlying26 rfl (.int .i8 m.t) ?_ ?_; exact (HR3.out.cell 1).trans rfl)
                  | (guard_target = Go.wpList _ _ _ ((⟨some _, .load _ (.tmp 5), _, _, _, _⟩ : Go.Oper) :: _) _ _; refine step_get rfl 5 _ rfl b2 78 rfl Tryd.underlying5 rfl (.int .u8 0) ?_ ?_; exact (HR2.out.cell 78 (by decide)).trans (by rw [HC.out]; rfl))
                  | (guard_target = Go.wpList _ _ _ ((⟨some _, .load _ (.tmp 44), _, _, _, _⟩ : Go.Oper) :: _) _ _; refine step_get rfl 5 _ rfl b2 78 rfl Tryd.underlying5 rfl (.int .u8 0) ?_ ?_; exact (HR2.out.cell 78 (by decide)).trans (by rw [HC.out]; rfl))
                  | (guard_target = Go.wpList _ _ _ ((⟨some _, .load _ (.tmp 54), _, _, _, _⟩ : Go.Oper) :: _) _ _; refine step_get rfl 5 _ rfl b2 78 rfl Tryd.underlying5 rfl (.int .u8 0) ?_ ?_; exact (HR2.out.cell 78 (by decide)).trans (by rw [HC.out]; rfl)))
                go_ret
                exact ⟨by rw [HS.out]; rfl, HB.out⟩
              · have q5 : decide (m.t < 0) = false := decide_eq_false g5
                by_cases g6 : 63 < m.t
                · have q6 : decide (63 < m.t) = true := decide_eq_true g6
                  have HS := Lib.hid (show sdC 0 m = -1 from sd_no (fun ⟨_, _, _, _, _, _, _⟩ => by omega))
                  go_enter Tryd.func12, Tryd.ntmps12
                  go_wp2_with (first
                    | (guard_target = Go.wpList _ _ _ ((⟨some 2, .box _ _, _, _, _, _⟩ : Go.Oper) :: _) _ _; refine step_box rfl _ rfl p rfl ?_; intro b2 w1 N R; have HG2 := Lib.hid (show w.heap.size ≤ b2 by have := HB.out.size; have := N.at_; omega); have HB := Lib.hid (below_on HB.out N.below); have HR2 := Lib.hid R; clear N R)
                    | (guard_target = Go.wpList _ _ _ ((⟨some 3, .box _ _, _, _, _, _⟩ : Go.Oper) :: _) _ _; refine blk_box rfl 36 _ rfl (mvA m) rfl ?_; intro b3 w1 N R; have HG3 := Lib.hid (show w.heap.size ≤ b3 by have := HB.out.size; have := N.at_; omega); have HR2 := Lib.hid (HR2.out.later N.below); have HB := Lib.hid (below_on HB.out N.below); have HR3 := Lib.hid R; clear N R)
                    | (guard_target = Go.wpList _ _ _ ((⟨some _, .load _ (.tmp 9), _, _, _, _⟩ : Go.Oper) :: _) _ _; refine step_get rfl 4 _ rfl b3 4 rfl Tryd.underlying4 rfl (.bool m.ca) ?_ ?_; exact (HR3.out.cell 4).trans rfl)
                    | (guard_target = Go.wpList _ _ _ ((⟨some _, .load _ (.tmp 14), _, _, _, _⟩ : Go.Oper) :: _) _ _; refine step_get rfl 26 _ rfl b3 0 rfl Tryd.underlying26 rfl (.int .i8 m.f) ?_ ?_; exact (HR3.out.cell 0).trans rfl)
                    | (guard_target = Go.wpList _ _ _ ((⟨some _, .load _ (.tmp 21), _, _, _, _⟩ : Go.Oper) :: _) _ _; refine step_get rfl 26 _ rfl b3 0 rfl Tryd.underlying26 rfl (.int .i8 m.f) ?_ ?_; exact (HR3.out.cell 0).trans rfl)
                    | (guard_target = Go.wpList _ _ _ ((⟨some _, .load _ (.tmp 26), _, _, _, _⟩ : Go.Oper) :: _) _ _; refine step_get rfl 26 _ rfl b3 0 rfl Tryd.underlying26 rfl (.int .i8 m.f) ?_ ?_; exact (HR3.out.cell 0).trans rfl)
                    | (guard_target = Go.wpList _ _ _ ((⟨some _, .load _ (.tmp 41), _, _, _, _⟩ : Go.Oper) :: _) _ _; refine step_get rfl 26 _ rfl b3 0 rfl Tryd.underlying26 rfl (.int .i8 m.f) ?_ ?_; exact (HR3.out.cell 0).trans rfl)
                    | (guard_target = Go.wpList _ _ _ ((⟨some _, .load _ (.tmp 62), _, _, _, _⟩ : Go.Oper) :: _) _ _; refine step_get rfl 26 _ rfl b3 0 rfl Tryd.underlying26 rfl (.int .i8 m.f) ?_ ?_; exact (HR3.out.cell 0).trans rfl)
                    | (guard_target = Go.wpList _ _ _ ((⟨some _, .load _ (.tmp 16), _, _, _, _⟩ : Go.Oper) :: _) _ _; refine step_get rfl 26 _ rfl b3 1 rfl Tryd.underlying26 rfl (.int .i8 m.t) ?_ ?_; exact (HR3.out.cell 1).trans rfl)
                    | (guard_target = Go.wpList _ _ _ ((⟨some _, .load _ (.tmp 31), _, _, _, _⟩ : Go.Oper) :: _) _ _; refine step_get rfl 26 _ rfl b3 1 rfl Tryd.underlying26 rfl (.int .i8 m.t) ?_ ?_; exact (HR3.out.cell 1).trans rfl)
                    | (guard_target = Go.wpList _ _ _ ((⟨some _, .load _ (.tmp 36), _, _, _, _⟩ : Go.Oper) :: _) _ _; refine step_get rfl 26 _ rfl b3 1 rfl Tryd.underlying26 rfl (.int .i8 m.t) ?_ ?_; exact (HR3.out.cell 1).trans rfl)
                    | (guard_target = Go.wpList _ _ _ ((⟨some _, .load _ (.tmp 51), _, _, _, _⟩ : Go.Oper) :: _) _ _; refine step_get rfl 26 _ rfl b3 1 rfl Tryd.underlying26 rfl (.int .i8 m.t) ?_ ?_; exact (HR3.out.cell 1).trans rfl)
                    | (guard_target = Go.wpList _ _ _ ((⟨some _, .load _ (.tmp 60), _, _, _, _⟩ : Go.Oper) :: _) _ _; refine step_get rfl 26 _ rfl b3 1 rfl Tryd.underlying26 rfl (.int .i8 m.t) ?_ ?_; exact (HR3.out.cell 1).trans rfl)
                    | (guard_target = Go.wpList _ _ _ ((⟨some _, .load _ (.tmp 5), _, _, _, _⟩ : Go.Oper) :: _) _ _; refine step_get rfl 5 _ rfl b2 78 rfl Tryd.underlying5 rfl (.int .u8 0) ?_ ?_; exact (HR2.out.cell 78 (by decide)).trans (by rw [HC.out]; rfl))
                    | (guard_target = Go.wpList _ _ _ ((⟨some _, .load _ (.tmp 44), _, _, _, _⟩ : Go.Oper) :: _) _ _; refine step_get rfl 5 _ rfl b2 78 rfl Tryd.underlying5 rfl (.int .u8 0) ?_ ?_; exact (HR2.out.cell 78 (by decide)).trans (by rw [HC.out]; rfl))
                    | (guard_target = Go.wpList _ _ _ ((⟨some _, .load _ (.tmp 54), _, _, _, _⟩ : Go.Oper) :: _) _ _; refine step_get rfl 5 _ rfl b2 78 rfl Tryd.underlying5 rfl (.int .u8 0) ?_ ?_; exact (HR2.out.cell 78 (by decide)).trans (by rw [HC.out]; rfl)))
                  go_ret
                  exact ⟨by rw [HS.out]; rfl, HB.out⟩
                · have q6 : decide (63 < m.t) = false := decide_eq_false g6
                  have e1 : m.f.tdiv 8 = m.f / 8 := Int.tdiv_eq_ediv_of_nonneg (by omega)
                  have e2 : m.t.tdiv 8 = m.t / 8 := Int.tdiv_eq_ediv_of_nonneg (by omega)
                  by_cases g7 : m.f / 8 = 0
                  · have q7 : (m.f / 8 != 0) = false := by simp [g7]
                    by_cases g8 : m.t / 8 = 0
                    · have q8 : (m.t / 8 != 0) = false := by simp [g8]
                      by_cases g9 : m.f < m.t
                      · have q9 : decide (m.f < m.t) = true := decide_eq_true g9
                        have HS := Lib.hid (show sdC 0 m = 0 by rw [sd_yes g1 g2 (by omega) (by omega) (by omega), q9]; rfl)
                        go_enter Tryd.func12, Tryd.ntmps12
                        go_wp2_with (first
                          | (guard_target = Go.wpList _ _ _ ((⟨some 2, .box _ _, _, _, _, _⟩ : Go.Oper) :: _) _ _; refine step_box rfl _ rfl p rfl ?_; intro b2 w1 N R; have HG2 := Lib.hid (show w.heap.size ≤ b2 by have := HB.out.size; have := N.at_; omega); have HB := Lib.hid (below_on HB.out N.below); have HR2 := Lib.hid R; clear N R)
                          | (guard_target = Go.wpList _ _ _ ((⟨some 3, .box _ _, _, _, _, _⟩ : Go.Oper) :: _) _ _; refine blk_box rfl 36 _ rfl (mvA m) rfl ?_; intro b3 w1 N R; have HG3 := Lib.hid (show w.heap.size ≤ b3 by have := HB.out.size; have := N.at_; omega); have HR2 := Lib.hid (HR2.out.later N.below); have HB := Lib.hid (below_on HB.out N.below); have HR3 := Lib.hid R; clear N R)
                          | (guard_target = Go.wpList _ _ _ ((⟨some _, .load _ (.tmp 9), _, _, _, _⟩ : Go.Oper) :: _) _ _; refine step_get rfl 4 _ rfl b3 4 rfl Tryd.underlying4 rfl (.bool m.ca) ?_ ?_; exact (HR3.out.cell 4).trans rfl)
                          | (guard_target = Go.wpList _ _ _ ((⟨some _, .load _ (.tmp 14), _, _, _, _⟩ : Go.Oper) :: _) _ _; refine step_get rfl 26 _ rfl b3 0 rfl Tryd.underlying26 rfl (.int .i8 m.f) ?_ ?_; exact (HR3.out.cell 0).trans rfl)
                          | (guard_target = Go.wpList _ _ _ ((⟨some _, .load _ (.tmp 21), _, _, _, _⟩ : Go.Oper) :: _) _ _; refine step_get rfl 26 _ rfl b3 0 rfl Tryd.underlying26 rfl (.int .i8 m.f) ?_ ?_; exact (HR3.out.cell 0).trans rfl)
                          | (guard_target = Go.wpList _ _ _ ((⟨some _, .load _ (.tmp 26), _, _, _, _⟩ : Go.Oper) :: _) _ _; refine step_get rfl 26 _ rfl b3 0 rfl Tryd.underlying26 rfl (.int .i8 m.f) ?_ ?_; exact (HR3.out.cell 0).trans rfl)
                          | (guard_target = Go.wpList _ _ _ ((⟨some _, .load _ (.tmp 41), _, _, _, _⟩ : Go.Oper) :: _) _ _; refine step_get rfl 26 _ rfl b3 0 rfl Tryd.underlying26 rfl (.int .i8 m.f) ?_ ?_; exact (HR3.out.cell 0).trans rfl)
                          | (guard_target = Go.wpList _ _ _ ((⟨some _, .load _ (.tmp 62), _, _, _, _⟩ : Go.Oper) :: _) _ _; refine step_get rfl 26 _ rfl b3 0 rfl Tryd.underlying26 rfl (.int .i8 m.f) ?_ ?_; exact (HR3.out.cell 0).trans rfl)
                          | (guard_target = Go.wpList _ _ _ ((⟨some _, .load _ (.tmp 16), _, _, _, _⟩ : Go.Oper) :: _) _ _; refine step_get rfl 26 _ rfl b3 1 rfl Tryd.underlying26 rfl (.int .i8 m.t) ?_ ?_; exact (HR3.out.cell 1).trans rfl)
                          | (guard_target = Go.wpList _ _ _ ((⟨some _, .load _ (.tmp 31), _, _, _, _⟩ : Go.Oper) :: _) _ _; refine step_get rfl 26 _ rfl b3 1 rfl Tryd.underlying26 rfl (.int .i8 m.t) ?_ ?_; exact (HR3.out.cell 1).trans rfl)
                          | (guard_target = Go.wpList _ _ _ ((⟨some _, .load _ (.tmp 36), _, _, _, _⟩ : Go.Oper) :: _) _ _; refine step_get rfl 26 _ rfl b3 1 rfl Tryd.underlying26 rfl (.int .i8 m.t) ?_ ?_; exact (HR3.out.cell 1).trans rfl)
                          | (guard_target = Go.wpList _ _ _ ((⟨some _, .load _ (.tmp 51), _, _, _, _⟩ : Go.Oper) :: _) _ _; refine step_get rfl 26 _ rfl b3 1 rfl Tryd.underlying26 rfl (.int .i8 m.t) ?_ ?_; exact (HR3.out.cell 1).trans rfl)
                          | (guard_target = Go.wpList _ _ _ ((⟨some _, .load _ (.tmp 60), _, _, _, _⟩ : Go.Oper) :: _) _ _; refine step_get rfl 26 _ rfl b3 1 rfl Tryd.underlying26 rfl (.int .i8 m.t) ?_ ?_; exact (HR3.out.cell 1).trans rfl)
                          | (guard_target = Go.wpList _ _ _ ((⟨some _, .load _ (.tmp 5), _, _, _, _⟩ : Go.Oper) :: _) _ _; refine step_get rfl 5 _ rfl b2 78 rfl Tryd.underlying5 rfl (.int .u8 0) ?_ ?_; exact (HR2.out.cell 78 (by decide)).trans (by rw [HC.out]; rfl))
                          | (guard_target = Go.wpList _ _ _ ((⟨some _, .load _ (.tmp 44), _, _, _, _⟩ : Go.Oper) :: _) _ _; refine step_get rfl 5 _ rfl b2 78 rfl Tryd.underlying5 rfl (.int .u8 0) ?_ ?_; exact (HR2.out.cell 78 (by decide)).trans (by rw [HC.out]; rfl))
                          | (guard_target = Go.wpList _ _ _ ((⟨some _, .load _ (.tmp 54), _, _, _, _⟩ : Go.Oper) :: _) _ _; refine step_get rfl 5 _ rfl b2 78 rfl Tryd.underlying5 rfl (.int .u8 0) ?_ ?_; exact (HR2.out.cell 78 (by decide)).trans (by rw [HC.out]; rfl)))
                        go_ret
                        exact ⟨by rw [HS.out]; rfl, HB.out⟩
                      · have q9 : decide (m.f < m.t) = false := decide_eq_false g9
                        have HS := Lib.hid (show sdC 0 m = 1 by rw [sd_yes g1 g2 (by omega) (by omega) (by omega), q9]; rfl)
                        go_enter Tryd.func12, Tryd.ntmps12
                        go_wp2_with (first
                          | (guard_target = Go.wpList _ _ _ ((⟨some 2, .box _ _, _, _, _, _⟩ : Go.Oper) :: _) _ _; refine step_box rfl _ rfl p rfl ?_; intro b2 w1 N R; have HG2 := Lib.hid (show w.heap.size ≤ b2 by have := HB.out.size; have := N.at_; omega); have HB := Lib.hid (below_on HB.out N.below); have HR2 := Lib.hid R; clear N R)
                          | (guard_target = Go.wpList _ _ _ ((⟨some 3, .box _ _, _, _, _, _⟩ : Go.Oper) :: _) _ _; refine blk_box rfl 36 _ rfl (mvA m) rfl ?_; intro b3 w1 N R; have HG3 := Lib.hid (show w.heap.size ≤ b3 by have := HB.out.size; have := N.at_; omega); have HR2 := Lib.hid (HR2.out.later N.below); have HB := Lib.hid (below_on HB.out N.below); have HR3 := Lib.hid R; clear N R)
                          | (guard_target = Go.wpList _ _ _ ((⟨some _, .load _ (.tmp 9), _, _, _, _⟩ : Go.Oper) :: _) _ _; refine step_get rfl 4 _ rfl b3 4 rfl Tryd.underlying4 rfl (.bool m.ca) ?_ ?_; exact (HR3.out.cell 4).trans rfl)
                          | (guard_target = Go.wpList _ _ _ ((⟨some _, .load _ (.tmp 14), _, _, _, _⟩ : Go.Oper) :: _) _ _; refine step_get rfl 26 _ rfl b3 0 rfl Tryd.underlying26 rfl (.int .i8 m.f) ?_ ?_; exact (HR3.out.cell 0).trans rfl)
                          | (guard_target = Go.wpList _ _ _ ((⟨some _, .load _ (.tmp 21), _, _, _, _⟩ : Go.Oper) :: _) _ _; refine step_get rfl 26 _ rfl b3 0 rfl Tryd.underlying26 rfl (.int .i8 m.f) ?_ ?_; exact (HR3.out.cell 0).trans rfl)
                          | (guard_target = Go.wpList _ _ _ ((⟨some _, .load _ (.tmp 26), _, _, _, _⟩ : Go.Oper) :: _) _ _; refine step_get rfl 26 _ rfl b3 0 rfl Tryd.underlying26 rfl (.int .i8 m.f) ?_ ?_; exact (HR3.out.cell 0).trans rfl)
                          | (guard_target = Go.wpList _ _ _ ((⟨some _, .load _ (.tmp 41), _, _, _, _⟩ : Go.Oper) :: _) _ _; refine step_get rfl 26 _ rfl b3 0 rfl Tryd.underlying26 rfl (.int .i8 m.f) ?_ ?_; exact (HR3.out.cell 0).trans rfl)
                          | (guard_target = Go.wpList _ _ _ ((⟨some _, .load _ (.tmp 62), _, _, _, _⟩ : Go.Oper) :: _) _ _; refine step_get rfl 26 _ rfl b3 0 rfl Tryd.underlying26 rfl (.int .i8 m.f) ?_ ?_; exact (HR3.out.cell 0).trans rfl)
                          | (guard_target = Go.wpList _ _ _ ((⟨some _, .load _ (.tmp 16), _, _, _, _⟩ : Go.Oper) :: _) _ _; refine step_get rfl 26 _ rfl b3 1 rfl Tryd.underlying26 rfl (.int .i8 m.t) ?_ ?_; exact (HR3.out.cell 1).trans rfl)
                          | (guard_target = Go.wpList _ _ _ ((⟨some _, .load _ (.tmp 31), _, _, _, _⟩ : Go.Oper) :: _) _ _; refine step_get rfl 26 _ rfl b3 1 rfl Tryd.underlying26 rfl (.int .i8 m.t) ?_ ?_; exact (HR3.out.cell 1).trans rfl)
                          | (guard_target = Go.wpList _ _ _ ((⟨some _, .load _ (.tmp 36), _, _, _, _⟩ : Go.Oper) :: _) _ _; refine step_get rfl 26 _ rfl b3 1 rfl Tryd.underlying26 rfl (.int .i8 m.t) ?_ ?_; exact (HR3.out.cell 1).trans rfl)
                          | (guard_target = Go.wpList _ _ _ ((⟨some _, .load _ (.tmp 51), _, _, _, _⟩ : Go.Oper) :: _) _ _; refine step_get rfl 26 _ rfl b3 1 rfl Tryd.underlying26 rfl (.int .i8 m.t) ?_ ?_; exact (HR3.out.cell 1).trans rfl)
                          | (guard_target = Go.wpList _ _ _ ((⟨some _, .load _ (.tmp 60), _, _, _, _⟩ : Go.Oper) :: _) _ _; refine step_get rfl 26 _ rfl b3 1 rfl Tryd.underlying26 rfl (.int .i8 m.t) ?_ ?_; exact (HR3.out.cell 1).trans rfl)
                          | (guard_target = Go.wpList _ _ _ ((⟨some _, .load _ (.tmp 5), _, _, _, _⟩ : Go.Oper) :: _) _ _; refine step_get rfl 5 _ rfl b2 78 rfl Tryd.underlying5 rfl (.int .u8 0) ?_ ?_; exact (HR2.out.cell 78 (by decide)).trans (by rw [HC.out]; rfl))
                          | (guard_target = Go.wpList _ _ _ ((⟨some _, .load _ (.tmp 44), _, _, _, _⟩ : Go.Oper) :: _) _ _; refine step_get rfl 5 _ rfl b2 78 rfl Tryd.underlying5 rfl (.int .u8 0) ?_ ?_; exact (HR2.out.cell 78 (by decide)).trans (by rw [HC.out]; rfl))
                          | (guard_target = Go.wpList _ _ _ ((⟨some _, .load _ (.tmp 54), _, _, _, _⟩ : Go.Oper) :: _) _ _; refine step_get rfl 5 _ rfl b2 78 rfl Tryd.underlying5 rfl (.int .u8 0) ?_ ?_; exact (HR2.out.cell 78 (by decide)).trans (by rw [HC.out]; rfl)))
                        go_ret
                        exact ⟨by rw [HS.out]; rfl, HB.out⟩
                    · have q8 : (m.t / 8 != 0) = true := bne_iff_ne.2 g8
                      have HS := Lib.hid (show sdC 0 m = -1 from sd_no (fun ⟨_, _, _, _, _, _, _⟩ => by omega))
                      go_enter Tryd.func12, Tryd.ntmps12
                      go_wp2_with (first
                        | (guard_target = Go.wpList _ _ _ ((⟨some 2, .box _ _, _, _, _, _⟩ : Go.Oper) :: _) _ _; refine step_box rfl _ rfl p rfl ?_; intro b2 w1 N R; have HG2 := Lib.hid (show w.heap.size ≤ b2 by have := HB.out.size; have := N.at_; omega); have HB := Lib.hid (below_on HB.out N.below); have HR2 := Lib.hid R; clear N R)
                        | (guard_target = Go.wpList _ _ _ ((⟨some 3, .box _ _, _, _, _, _⟩ : Go.Oper) :: _) _ _; refine blk_box rfl 36 _ rfl (mvA m) rfl ?_; intro b3 w1 N R; have HG3 := Lib.hid (show w.heap.size ≤ b3 by have := HB.out.size; have := N.at_; omega); have HR2 := Lib.hid (HR2.out.later N.below); have HB := Lib.hid (below_on HB.out N.below); have HR3 := Lib.hid R; clear N R)
                        | (guard_target = Go.wpList _ _ _ ((⟨some _, .load _ (.tmp 9), _, _, _, _⟩ : Go.Oper) :: _) _ _; refine step_get rfl 4 _ rfl b3 4 rfl Tryd.underlying4 rfl (.bool m.ca) ?_ ?_; exact (HR3.out.cell 4).trans rfl)
                        | (guard_target = Go.wpList _ _ _ ((⟨some _, .load _ (.tmp 14), _, _, _, _⟩ : Go.Oper) :: _) _ _; refine step_get rfl 26 _ rfl b3 0 rfl Tryd.underlying26 rfl (.int .i8 m.f) ?_ ?_; exact (HR3.out.cell 0).trans rfl)
                        | (guard_target = Go.wpList _ _ _ ((⟨some _, .load _ (.tmp 21), _, _, _, _⟩ : Go.Oper) :: _) _ _; refine step_get rfl 26 _ rfl b3 0 rfl Tryd.underlying26 rfl (.int .i8 m.f) ?_ ?_; exact (HR3.out.cell 0).trans rfl)
                        | (guard_target = Go.wpList _ _ _ ((⟨some _, .load _ (.tmp 26), _, _, _, _⟩ : Go.Oper) :: _) _ _; refine step_get rfl 26 _ rfl b3 0 rfl Tryd.underlying26 rfl (.int .i8 m.f) ?_ ?_; exact (HR3.out.cell 0).trans rfl)
                        | (guard_target = Go.wpList _ _ _ ((⟨some _, .load _ (.tmp 41), _, _, _, _⟩ : Go.Oper) :: _) _ _; refine step_get rfl 26 _ rfl b3 0 rfl Tryd.underlying26 rfl (.int .i8 m.f) ?_ ?_; exact (HR3.out.cell 0).trans rfl)
                        | (guard_target = Go.wpList _ _ _ ((⟨some _, .load _ (.tmp 62), _, _, _, _⟩ : Go.Oper) :: _) _ _; refine step_get rfl 26 _ rfl b3 0 rfl Tryd.underlying26 rfl (.int .i8 m.f) ?_ ?_; exact (HR3.out.cell 0).trans rfl)
                        | (guard_target = Go.wpList _ _ _ ((⟨some _, .load _ (.tmp 16), _, _, _, _⟩ : Go.Oper) :: _) _ _; refine step_get rfl 26 _ rfl b3 1 rfl Tryd.underlying26 rfl (.int .i8 m.t) ?_ ?_; exact (HR3.out.cell 1).trans rfl)
                        | (guard_target = Go.wpList _ _ _ ((⟨some _, .load _ (.tmp 31), _, _, _, _⟩ : Go.Oper) :: _) _ _; refine step_get rfl 26 _ rfl b3 1 rfl Tryd.underlying26 rfl (.int .i8 m.t) ?_ ?_; exact (HR3.out.cell 1).trans rfl)
                        | (guard_target = Go.wpList _ _ _ ((⟨some _, .load _ (.tmp 36), _, _, _, _⟩ : Go.Oper) :: _) _ _; refine step_get rfl 26 _ rfl b3 1 rfl Tryd.underlying26 rfl (.int .i8 m.t) ?_ ?_; exact (HR3.out.cell 1).trans rfl)
                        | (guard_target = Go.wpList _ _ _ ((⟨some _, .load _ (.tmp 51), _, _, _, _⟩ : Go.Oper) :: _) _ _; refine step_get rfl 26 _ rfl b3 1 rfl Tryd.underlying26 rfl (.int .i8 m.t) ?_ ?_; exact (HR3.out.cell 1).trans rfl)
                        | (guard_target = Go.wpList _ _ _ ((⟨some _, .load _ (.tmp 60), _, _, _, _⟩ : Go.Oper) :: _) _ _; refine step_get rfl 26 _ rfl b3 1 rfl Tryd.underlying26 rfl (.int .i8 m.t) ?_ ?_; exact (HR3.out.cell 1).trans rfl)
                        | (guard_target = Go.wpList _ _ _ ((⟨some _, .load _ (.tmp 5), _, _, _, _⟩ : Go.Oper) :: _) _ _; refine step_get rfl 5 _ rfl b2 78 rfl Tryd.underlying5 rfl (.int .u8 0) ?_ ?_; exact (HR2.out.cell 78 (by decide)).trans (by rw [HC.out]; rfl))
                        | (guard_target = Go.wpList _ _ _ ((⟨some _, .load _ (.tmp 44), _, _, _, _⟩ : Go.Oper) :: _) _ _; refine step_get rfl 5 _ rfl b2 78 rfl Tryd.underlying5 rfl (.int .u8 0) ?_ ?_; exact (HR2.out.cell 78 (by decide)).trans (by rw [HC.out]; rfl))
                        | (guard_target = Go.wpList _ _ _ ((⟨some _, .load _ (.tmp 54), _, _, _, _⟩ : Go.Oper) :: _) _ _; refine step_get rfl 5 _ rfl b2 78 rfl Tryd.underlying5 rfl (.int .u8 0) ?_ ?_; exact (HR2.out.cell 78 (by decide)).trans (by rw [HC.out]; rfl)))
                      go_ret
                      exact ⟨by rw [HS.out]; rfl, HB.out⟩
                  · have q7 : (m.f / 8 != 0) = true := bne_iff_ne.2 g7
                    have HS := Lib.hid (show sdC 0 m = -1 from sd_no (fun ⟨_, _, _, _, _, _, _⟩ => by omega))
                    go_enter Tryd.func12, Tryd.ntmps12
                    go_wp2_with (first
                      | (guard_target = Go.wpList _ _ _ ((⟨some 2, .box _ _, _, _, _, _⟩ : Go.Oper) :: _) _ _; refine step_box rfl _ rfl p rfl ?_; intro b2 w1 N R; have HG2 := Lib.hid (show w.heap.size ≤ b2 by have := HB.out.size; have := N.at_; omega); have HB := Lib.hid (below_on HB.out N.below); have HR2 := Lib.hid R; clear N R)
                      | (guard_target = Go.wpList _ _ _ ((⟨some 3, .box _ _, _, _, _, _⟩ : Go.Oper) :: _) _ _; refine blk_box rfl 36 _ rfl (mvA m) rfl ?_; intro b3 w1 N R; have HG3 := Lib.hid (show w.heap.size ≤ b3 by have := HB.out.size; have := N.at_; omega); have HR2 := Lib.hid (HR2.out.later N.below); have HB := Lib.hid (below_on HB.out N.below); have HR3 := Lib.hid R; clear N R)
                      | (guard_target = Go.wpList _ _ _ ((⟨some _, .load _ (.tmp 9), _, _, _, _⟩ : Go.Oper) :: _) _ _; refine step_get rfl 4 _ rfl b3 4 rfl Tryd.underlying4 rfl (.bool m.ca) ?_ ?_; exact (HR3.out.cell 4).trans rfl)
                      | (guard_target = Go.wpList _ _ _ ((⟨some _, .load _ (.tmp 14), _, _, _, _⟩ : Go.Oper) :: _) _ _; refine step_get rfl 26 _ rfl b3 0 rfl Tryd.underlying26 rfl (.int .i8 m.f) ?_ ?_; exact (HR3.out.cell 0).trans rfl)
                      | (guard_target = Go.wpList _ _ _ ((⟨some _, .load _ (.tmp 21), _, _, _, _⟩ : Go.Oper) :: _) _ _; refine step_get rfl 26 _ rfl b3 0 rfl Tryd.underlying26 rfl (.int .i8 m.f) ?_ ?_; exact (HR3.out.cell 0).trans rfl)
                      | (guard_target = Go.wpList _ _ _ ((⟨some _, .load _ (.tmp 26), _, _, _, _⟩ : Go.Oper) :: _) _ _; refine step_get rfl 26 _ rfl b3 0 rfl Tryd.underlying26 rfl (.int .i8 m.f) ?_ ?_; exact (HR3.out.cell 0).trans rfl)
                      | (guard_target = Go.wpList _ _ _ ((⟨some _, .load _ (.tmp 41), _, _, _, _⟩ : Go.Oper) :: _) _ _; refine step_get rfl 26 _ rfl b3 0 rfl Tryd.underlying26 rfl (.int .i8 m.f) ?_ ?_; exact (HR3.out.cell 0).trans rfl)
                      | (guard_target = Go.wpList _ _ _ ((⟨some _, .load _ (.tmp 62), _, _, _, _⟩ : Go.Oper) :: _) _ _; refine step_get rfl 26 _ rfl b3 0 rfl Tryd.underlying26 rfl (.int .i8 m.f) ?_ ?_; exact (HR3.out.cell 0).trans rfl)
                      | (guard_target = Go.wpList _ _ _ ((⟨some _, .load _ (.tmp 16), _, _, _, _⟩ : Go.Oper) :: _) _ _; refine step_get rfl 26 _ rfl b3 1 rfl Tryd.underlying26 rfl (.int .i8 m.t) ?_ ?_; exact (HR3.out.cell 1).trans rfl)
                      | (guard_target = Go.wpList _ _ _ ((⟨some _, .load _ (.tmp 31), _, _, _, _⟩ : Go.Oper) :: _) _ _; refine step_get rfl 26 _ rfl b3 1 rfl Tryd.underlying26 rfl (.int .i8 m.t) ?_ ?_; exact (HR3.out.cell 1).trans rfl)
                      | (guard_target = Go.wpList _ _ _ ((⟨some _, .load _ (.tmp 36), _, _, _, _⟩ : Go.Oper) :: _) _ _; refine step_get rfl 26 _ rfl b3 1 rfl Tryd.underlying26 rfl (.int .i8 m.t) ?_ ?_; exact (HR3.out.cell 1).trans rfl)
                      | (guard_target = Go.wpList _ _ _ ((⟨some _, .load _ (.tmp 51), _, _, _, _⟩ : Go.Oper) :: _) _ _; refine step_get rfl 26 _ rfl b3 1 rfl Tryd.underlying26 rfl (.int .i8 m.t) ?_ ?_; exact (HR3.out.cell 1).trans rfl)
                      | (guard_target = Go.wpList _ _ _ ((⟨some _, .load _ (.tmp 60), _, _, _, _⟩ : Go.Oper) :: _) _ _; refine step_get rfl 26 _ rfl b3 1 rfl Tryd.underlying26 rfl (.int .i8 m.t) ?_ ?_; exact (HR3.out.cell 1).trans rfl)
                      | (guard_target = Go.wpList _ _ _ ((⟨some _, .load _ (.tmp 5), _, _, _, _⟩ : Go.Oper) :: _) _ _; refine step_get rfl 5 _ rfl b2 78 rfl Tryd.underlying5 rfl (.int .u8 0) ?_ ?_; exact (HR2.out.cell 78 (by decide)).trans (by rw [HC.out]; rfl))
                      | (guard_target = Go.wpList _ _ _ ((⟨some _, .load _ (.tmp 44), _, _, _, _⟩ : Go.Oper) :: _) _ _; refine step_get rfl 5 _ rfl b2 78 rfl Tryd.underlying5 rfl (.int .u8 0) ?_ ?_; exact (HR2.out.cell 78 (by decide)).trans (by rw [HC.out]; rfl))
                      | (guard_target = Go.wpList _ _ _ ((⟨some _, .load _ (.tmp 54), _, _, _, _⟩ : Go.Oper) :: _) _ _; refine step_get rfl 5 _ rfl b2 78 rfl Tryd.underlying5 rfl (.int .u8 0) ?_ ?_; exact (HR2.out.cell 78 (by decide)).trans (by rw [HC.out]; rfl)))
                    go_ret
                    exact ⟨by rw [HS.out]; rfl, HB.out⟩
    · skip
      have HC := Lib.hid hc
      rw [hc]
      clear hc h1 hp
      have hm : hmC 1 = 56 := rfl
      cases g1 : m.ca
      · have g5 := g1
        have HS := Lib.hid (show sdC 1 m = -1 from sd_no (by rw [g1]; simp))
        go_enter Tryd.func12, Tryd.ntmps12
        go_wp2_with (first
          | (guard_target = Go.wpList _ _ _ ((⟨some 2, .box _ _, _, _, _, _⟩ : Go.Oper) :: _) _ _; refine step_box rfl _ rfl p rfl ?_; intro b2 w1 N R; have HG2 := Lib.hid (show w.heap.size ≤ b2 by have := HB.out.size; have := N.at_; omega); have HB := Lib.hid (below_on HB.out N.below); have HR2 := Lib.hid R; clear N R)
          | (guard_target = Go.wpList _ _ _ ((⟨some 3, .box _ _, _, _, _, _⟩ : Go.Oper) :: _) _ _; refine blk_box rfl 36 _ rfl (mvA m) rfl ?_; intro b3 w1 N R; have HG3 := Lib.hid (show w.heap.size ≤ b3 by have := HB.out.size; have := N.at_; omega); have HR2 := Lib.hid (HR2.out.later N.below); have HB := Lib.hid (below_on HB.out N.below); have HR3 := Lib.hid R; clear N R)
          | (guard_target = Go.wpList _ _ _ ((⟨some _, .load _ (.tmp 9), _, _, _, _⟩ : Go.Oper) :: _) _ _; refine step_get rfl 4 _ rfl b3 4 rfl Tryd.underlying4 rfl (.bool m.ca) ?_ ?_; exact (HR3.out.cell 4).trans rfl)
          | (guard_target = Go.wpList _ _ _ ((⟨some _, .load _ (.tmp 14), _, _, _, _⟩ : Go.Oper) :: _) _ _; refine step_get rfl 26 _ rfl b3 0 rfl Tryd.underlying26 rfl (.int .i8 m.f) ?_ ?_; exact (HR3.out.cell 0).trans rfl)
          | (guard_target = Go.wpList _ _ _ ((⟨some _, .load _ (.tmp 21), _, _, _, _⟩ : Go.Oper) :: _) _ _; refine step_get rfl 26 _ rfl b3 0 rfl Tryd.underlying26 rfl (.int .i8 m.f) ?_ ?_; exact (HR3.out.cell 0).trans rfl)
          | (guard_target = Go.wpList _ _ _ ((⟨some _, .load _ (.tmp 26), _, _, _, _⟩ : Go.Oper) :: _) _ _; refine step_get rfl 26 _ rfl b3 0 rfl Tryd.underlying26 rfl (.int .i8 m.f) ?_ ?_; exact (HR3.out.cell 0).trans rfl)
          | (guard_target = Go.wpList _ _ _ ((⟨some _, .load _ (.tmp 41), _, _, _, _⟩ : Go.Oper) :: _) _ _; refine step_get rfl 26 _ rfl b3 0 rfl Tryd.underlying26 rfl (.int .i8 m.f) ?_ ?_; exact (HR3.out.cell 0).trans rfl)
          | (guard_target = Go.wpList _ _ _ ((⟨some _, .load _ (.tmp 62), _, _, _, _⟩ : Go.Oper) :: _) _ _; refine step_get rfl 26 _ rfl b3 0 rfl Tryd.underlying26 rfl (.int .i8 m.f) ?_ ?_; exact (HR3.out.cell 0).trans rfl)
          | (guard_target = Go.wpList _ _ _ ((⟨some _, .load _ (.tmp 16), _, _, _, _⟩ : Go.Oper) :: _) _ _; refine step_get rfl 26 _ rfl b3 1 rfl Tryd.underlying26 rfl (.int .i8 m.t) ?_ ?_; exact (HR3.out.cell 1).trans rfl)
          | (guard_target = Go.wpList _ _ _ ((⟨some _, .load _ (.tmp 31), _, _, _, _⟩ : Go.Oper) :: _) _ _; refine step_get rfl 26 _ rfl b3 1 rfl Tryd.underlying26 rfl (.int .i8 m.t) ?_ ?_; exact (HR3.out.cell 1).trans rfl)
          | (guard_target = Go.wpList _ _ _ ((⟨some _, .load _ (.tmp 36), _, _, _, _⟩ : Go.Oper) :: _) _ _; refine step_get rfl 26 _ rfl b3 1 rfl Tryd.underlying26 rfl (.int .i8 m.t) ?_ ?_; exact (HR3.out.cell 1).trans rfl)
          | (guard_target = Go.wpList _ _ _ ((⟨some _, .load _ (.tmp 51), _, _, _, _⟩ : Go.Oper) :: _) _ _; refine step_get rfl 26 _ rfl b3 1 rfl Tryd.underlying26 rfl (.int .i8 m.t) ?_ ?_; exact (HR3.out.cell 1).trans rfl)
          | (guard_target = Go.wpList _ _ _ ((⟨some _, .load _ (.tmp 60), _, _, _, _⟩ : Go.Oper) :: _) _ _; refine step_get rfl 26 _ rfl b3 1 rfl Tryd.underlying26 rfl (.int .i8 m.t) ?_ ?_; exact (HR3.out.cell 1).trans rfl)
          | (guard_target = Go.wpList _ _ _ ((⟨some _, .load _ (.tmp 5), _, _, _, _⟩ : Go.Oper) :: _) _ _; refine step_get rfl 5 _ rfl b2 78 rfl Tryd.underlying5 rfl (.int .u8 1) ?_ ?_; exact (HR2.out.cell 78 (by decide)).trans (by rw [HC.out]; rfl))
          | (guard_target = Go.wpList _ _ _ ((⟨some _, .load _ (.tmp 44), _, _, _, _⟩ : Go.Oper) :: _) _ _; refine step_get rfl 5 _ rfl b2 78 rfl Tryd.underlying5 rfl (.int .u8 1) ?_ ?_; exact (HR2.out.cell 78 (by decide)).trans (by rw [HC.out]; rfl))
          | (guard_target = Go.wpList _ _ _ ((⟨some _, .load _ (.tmp 54), _, _, _, _⟩ : Go.Oper) :: _) _ _; refine step_get rfl 5 _ rfl b2 78 rfl Tryd.underlying5 rfl (.int .u8 1) ?_ ?_; exact (HR2.out.cell 78 (by decide)).trans (by rw [HC.out]; rfl)))
        go_ret
        exact ⟨by rw [HS.out]; rfl, HB.out⟩
      · by_cases g2 : m.f = m.t
        · have q2 : (m.f == m.t) = true := beq_iff_eq.2 g2
          have HS := Lib.hid (show sdC 1 m = -1 from sd_no (fun ⟨_, _, _, _, _, _, _⟩ => by omega))
          go_enter Tryd.func12, Tryd.ntmps12
          go_wp2_with (first
            | (guard_target = Go.wpList _ _ _ ((⟨some 2, .box _ _, _, _, _, _⟩ : Go.Oper) :: _) _ _; refine step_box rfl _ rfl p rfl ?_; intro b2 w1 N R; have HG2 := Lib.hid (show w.heap.size ≤ b2 by have := HB.out.size; have := N.at_; omega); have HB := Lib.hid (below_on HB.out N.below); have HR2 := Lib.hid R; clear N R)
            | (guard_target = Go.wpList _ _ _ ((⟨some 3, .box _ _, _, _, _, _⟩ : Go.Oper) :: _) _ _; refine blk_box rfl 36 _ rfl (mvA m) rfl ?_; intro b3 w1 N R; have HG3 := Lib.hid (show w.heap.size ≤ b3 by have := HB.out.size; have := N.at_; omega); have HR2 := Lib.hid (HR2.out.later N.below); have HB := Lib.hid (below_on HB.out N.below); have HR3 := Lib.hid R; clear N R)
            | (guard_target = Go.wpList _ _ _ ((⟨some _, .load _ (.tmp 9), _, _, _, _⟩ : Go.Oper) :: _) _ _; refine step_get rfl 4 _ rfl b3 4 rfl Tryd.underlying4 rfl (.bool m.ca) ?_ ?_; exact (HR3.out.cell 4).trans rfl)
            | (guard_target = Go.wpList _ _ _ ((⟨some _, .load _ (.tmp 14), _, _, _, _⟩ : Go.Oper) :: _) _ _; refine step_get rfl 26 _ rfl b3 0 rfl Tryd.underlying26 rfl (.int .i8 m.f) ?_ ?_; exact (HR3.out.cell 0).trans rfl)
            | (guard_target = Go.wpList _ _ _ ((⟨some _, .load _ (.tmp 21), _, _, _, _⟩ : Go.Oper) :: _) _ _; refine step_get rfl 26 _ rfl b3 0 rfl Tryd.underlying26 rfl (.int .i8 m.f) ?_ ?_; exact (HR3.out.cell 0).trans rfl)
            | (guard_target = Go.wpList _ _ _ ((⟨some _, .load _ (.tmp 26), _, _, _, _⟩ : Go.Oper) :: _) _ _; refine step_get rfl 26 _ rfl b3 0 rfl Tryd.underlying26 rfl (.int .i8 m.f) ?_ ?_; exact (HR3.out.cell 0).trans rfl)
            | (guard_target = Go.wpList _ _ _ ((⟨some _, .load _ (.tmp 41), _, _, _, _⟩ : Go.Oper) :: _) _ _; refine step_get rfl 26 _ rfl b3 0 rfl Tryd.underlying26 rfl (.int .i8 m.f) ?_ ?_; exact (HR3.out.cell 0).trans rfl)
            | (guard_target = Go.wpList _ _ _ ((⟨some _, .load _ (.tmp 62), _, _, _, _⟩ : Go.Oper) :: _) _ _; refine step_get rfl 26 _ rfl b3 0 rfl Tryd.underlying26 rfl (.int .i8 m.f) ?_ ?_; exact (HR3.out.cell 0).trans rfl)
            | (guard_target = Go.wpList _ _ _ ((⟨some _, .load _ (.tmp 16), _, _, _, _⟩ : Go.Oper) :: _) _ _; refine step_get rfl 26 _ rfl b3 1 rfl Tryd.underlying26 rfl (.int .i8 m.t) ?_ ?_; exact (HR3.out.cell 1).trans rfl)
            | (guard_target = Go.wpList _ _ _ ((⟨some _, .load _ (.tmp 31), _, _, _, _⟩ : Go.Oper) :: _) _ _; refine step_get rfl 26 _ rfl b3 1 rfl Tryd.underlying26 rfl (.int .i8 m.t) ?_ ?_; exact (HR3.out.cell 1).trans rfl)
            | (guard_target = Go.wpList _ _ _ ((⟨some _, .load _ (.tmp 36), _, _, _, _⟩ : Go.Oper) :: _) _ _; refine step_get rfl 26 _ rfl b3 1 rfl Tryd.underlying26 rfl (.int .i8 m.t) ?_ ?_; exact (HR3.out.cell 1).trans rfl)
            | (guard_target = Go.wpList _ _ _ ((⟨some _, .load _ (.tmp 51), _, _, _, _⟩ : Go.Oper) :: _) _ _; refine step_get rfl 26 _ rfl b3 1 rfl Tryd.underlying26 rfl (.int .i8 m.t) ?_ ?_; exact (HR3.out.cell 1).trans rfl)
            | (guard_target = Go.wpList _ _ _ ((⟨some _, .load _ (.tmp 60), _, _, _, _⟩ : Go.Oper) :: _) _ _; refine step_get rfl 26 _ rfl b3 1 rfl Tryd.underlying26 rfl (.int .i8 m.t) ?_ ?_; exact (HR3.out.cell 1).trans rfl)
            | (guard_target = Go.wpList _ _ _ ((⟨some _, .load _ (.tmp 5), _, _, _, _⟩ : Go.Oper) :: _) _ _; refine step_get rfl 5 _ rfl b2 78 rfl Tryd.underlying5 rfl (.int .u8 1) ?_ ?_; exact (HR2.out.cell 78 (by decide)).trans (by rw [HC.out]; rfl))
            | (guard_target = Go.wpList _ _ _ ((⟨some _, .load _ (.tmp 44), _, _, _, _⟩ : Go.Oper) :: _) _ _; refine step_get rfl 5 _ rfl b2 78 rfl Tryd.underlying5 rfl (.int .u8 1) ?_ ?_; exact (HR2.out.cell 78 (by decide)).trans (by rw [HC.out]; rfl))
            | (guard_target = Go.wpList _ _ _ ((⟨some _, .load _ (.tmp 54), _, _, _, _⟩ : Go.Oper) :: _) _ _; refine step_get rfl 5 _ rfl b2 78 rfl Tryd.underlying5 rfl (.int .u8 1) ?_ ?_; exact (HR2.out.cell 78 (by decide)).trans (by rw [HC.out]; rfl)))
          go_ret
          exact ⟨by rw [HS.out]; rfl, HB.out⟩
        · have q2 : (m.f == m.t) = false := beq_eq_false_iff_ne.2 g2
          by_cases g3 : m.f < 0
          · have q3 : decide (m.f < 0) = true := decide_eq_true g3
            have HS := Lib.hid (show sdC 1 m = -1 from sd_no (fun ⟨_, _, _, _, _, _, _⟩ => by omega))
            go_enter Tryd.func12, Tryd.ntmps12
            go_wp2_with (first
              | (guard_target = Go.wpList _ _ _ ((⟨some 2, .box _ _, _, _, _, _⟩ : Go.Oper) :: _) _ _; refine step_box rfl _ rfl p rfl ?_; intro b2 w1 N R; have HG2 := Lib.hid (show w.heap.size ≤ b2 by have := HB.out.size; have := N.at_; omega); have HB := Lib.hid (below_on HB.out N.below); have HR2 := Lib.hid R; clear N R)
              | (guard_target = Go.wpList _ _ _ ((⟨some 3, .box _ _, _, _, _, _⟩ : Go.Oper) :: _) _ _; refine blk_box rfl 36 _ rfl (mvA m) rfl ?_; intro b3 w1 N R; have HG3 := Lib.hid (show w.heap.size ≤ b3 by have := HB.out.size; have := N.at_; omega); have HR2 := Lib.hid (HR2.out.later N.below); have HB := Lib.hid (below_on HB.out N.below); have HR3 := Lib.hid R; clear N R)
              | (guard_target = Go.wpList _ _ _ ((⟨some _, .load _ (.tmp 9), _, _, _, _⟩ : Go.Oper) :: _) _ _; refine step_get rfl 4 _ rfl b3 4 rfl Tryd.underlying4 rfl (.bool m.ca) ?_ ?_; exact (HR3.out.cell 4).trans rfl)
              | (guard_target = Go.wpList _ _ _ ((⟨some _, .load _ (.tmp 14), _, _, _, _⟩ : Go.Oper) :: _) _ _; refine step_get rfl 26 _ rfl b3 0 rfl Tryd.underlying26 rfl (.int .i8 m.f) ?_ ?_; exact (HR3.out.cell 0).trans rfl)
              | (guard_target = Go.wpList _ _ _ ((⟨some _, .load _ (.tmp 21), _, _, _, _⟩ : Go.Oper) :: _) _ _; refine step_get rfl 26 _ rfl b3 0 rfl Tryd.underlying26 rfl (.int .i8 m.f) ?_ ?_; exact (HR3.out.cell 0).trans rfl)
              | (guard_target = Go.wpList _ _ _ ((⟨some _, .load _ (.tmp 26), _, _, _, _⟩ : Go.Oper) :: _) _ _; refine step_get rfl 26 _ rfl b3 0 rfl Tryd.underlying26 rfl (.int .i8 m.f) ?_ ?_; exact (HR3.out.cell 0).trans rfl)
              | (guard_target = Go.wpList _ _ _ ((⟨some _, .load _ (.tmp 41), _, _, _, _⟩ : Go.Oper) :: _) _ _; refine step_get rfl 26 _ rfl b3 0 rfl Tryd.underlying26 rfl (.int .i8 m.f) ?_ ?_; exact (HR3.out.cell 0).trans rfl)
              | (guard_target = Go.wpList _ _ _ ((⟨some _, .load _ (.tmp 62), _, _, _, _⟩ : Go.Oper) :: _) _ _; refine step_get rfl 26 _ rfl b3 0 rfl Tryd.underlying26 rfl (.int .i8 m.f) ?_ ?_; exact (HR3.out.cell 0).trans rfl)
              | (guard_target = Go.wpList _ _ _ ((⟨some _, .load _ (.tmp 16), _, _, _, _⟩ : Go.Oper) :: _) _ _; refine step_get rfl 26 _ rfl b3 1 rfl Tryd.underlying26 rfl (.int .i8 m.t) ?_ ?_; exact (HR3.out.cell 1).trans rfl)
              | (guard_target = Go.wpList _ _ _ ((⟨some _, .load _ (.tmp 31), _, _, _, _⟩ : Go.Oper) :: _) _ _; refine step_get rfl 26 _ rfl b3 1 rfl Tryd.underlying26 rfl (.int .i8 m.t) ?_ ?_; exact (HR3.out.cell 1).trans rfl)
              | (guard_target = Go.wpList _ _ _ ((⟨some _, .load _ (.tmp 36), _, _, _, _⟩ : Go.Oper) :: _) _ _; refine step_get rfl 26 _ rfl b3 1 rfl Tryd.underlying26 rfl (.int .i8 m.t) ?_ ?_; exact (HR3.out.cell 1).trans rfl)
              | (guard_target = Go.wpList _ _ _ ((⟨some _, .load _ (.tmp 51), _, _, _, _⟩ : Go.Oper) :: _) _ _; refine step_get rfl 26 _ rfl b3 1 rfl Tryd.underlying26 rfl (.int .i8 m.t) ?_ ?_; exact (HR3.out.cell 1).trans rfl)
              | (guard_target = Go.wpList _ _ _ ((⟨some _, .load _ (.tmp 60), _, _, _, _⟩ : Go.Oper) :: _) _ _; refine step_get rfl 26 _ rfl b3 1 rfl Tryd.underlying26 rfl (.int .i8 m.t) ?_ ?_; exact (HR3.out.cell 1).trans rfl)
              | (guard_target = Go.wpList _ _ _ ((⟨some _, .load _ (.tmp 5), _, _, _, _⟩ : Go.Oper) :: _) _ _; refine step_get rfl 5 _ rfl b2 78 rfl Tryd.underlying5 rfl (.int .u8 1) ?_ ?_; exact (HR2.out.cell 78 (by decide)).trans (by rw [HC.out]; rfl))
              | (guard_target = Go.wpList _ _ _ ((⟨some _, .load _ (.tmp 44), _, _, _, _⟩ : Go.Oper) :: _) _ _; refine step_get rfl 5 _ rfl b2 78 rfl Tryd.underlying5 rfl (.int .u8 1) ?_ ?_; exact (HR2.out.cell 78 (by decide)).trans (by rw [HC.out]; rfl))
              | (guard_target = Go.wpList _ _ _ ((⟨some _, .load _ (.tmp 54), _, _, _, _⟩ : Go.Oper) :: _) _ _; refine step_get rfl 5 _ rfl b2 78 rfl Tryd.underlying5 rfl (.int .u8 1) ?_ ?_; exact (HR2.out.cell 78 (by decide)).trans (by rw [HC.out]; rfl)))
            go_ret
            exact ⟨by rw [HS.out]; rfl, HB.out⟩
          · have q3 : decide (m.f < 0) = false := decide_eq_false g3
            by_cases g4 : 63 < m.f
            · have q4 : decide (63 < m.f) = true := decide_eq_true g4
              have HS := Lib.hid (show sdC 1 m = -1 from sd_no (fun ⟨_, _, _, _, _, _, _⟩ => by omega))
              go_enter Tryd.func12, Tryd.ntmps12
              go_wp2_with (first
                | (guard_target = Go.wpList _ _ _ ((⟨some 2, .box _ _, _, _, _, _⟩ : Go.Oper) :: _) _ _; refine step_box rfl _ rfl p rfl ?_; intro b2 w1 N R; have HG2 := Lib.hid (show w.heap.size ≤ b2 by have := HB.out.size; have := N.at_; omega); have HB := Lib.hid (below_on HB.out N.below); have HR2 := Lib.hid R; clear N R)
                | (guard_target = Go.wpList _ _ _ ((⟨some 3, .box _ _, _, _, _, _⟩ : Go.Oper) :: _) _ _; refine blk_box rfl 36 _ rfl (mvA m) rfl ?_; intro b3 w1 N R; have HG3 := Lib.hid (show w.heap.size ≤ b3 by have := HB.out.size; have := N.at_; omega); have HR2 := Lib.hid (HR2.out.later N.below); have HB := Lib.hid (below_on HB.out N.below); have HR3 := Lib.hid R; clear N R)
                | (guard_target = Go.wpList _ _ _ ((⟨some _, .load _ (.tmp 9), _, _, _, _⟩ : Go.Oper) :: _) _ _; refine step_get rfl 4 _ rfl b3 4 rfl Tryd.underlying4 rfl (.bool m.ca) ?_ ?_; exact (HR3.out.cell 4).trans rfl)
                | (guard_target = Go.wpList _ _ _ ((⟨some _, .load _ (.tmp 14), _, _, _, _⟩ : Go.Oper) :: _) _ _; refine step_get rfl 26 _ rfl b3 0 rfl Tryd.underlying26 rfl (.int .i8 m.f) ?_ ?_; exact (HR3.out.cell 0).trans rfl)
                | (guard_target = Go.wpList _ _ _ ((⟨some _, .load _ (.tmp 21), _, _, _, _⟩ : Go.Oper) :: _) _ _; refine step_get rfl 26 _ rfl b3 0 rfl Tryd.underlying26 rfl (.int .i8 m.f) ?_ ?_; exact (HR3.out.cell 0).trans rfl)
                | (guard_target = Go.wpList _ _ _ ((⟨some _, .load _ (.tmp 26), _, _, _, _⟩ : Go.Oper) :: _) _ _; refine step_get rfl 26 _ rfl b3 0 rfl Tryd.underlying26 rfl (.int .i8 m.f) ?_ ?_; exact (HR3.out.cell 0).trans rfl)
                | (guard_target = Go.wpList _ _ _ ((⟨some _, .load _ (.tmp 41), _, _, _, _⟩ : Go.Oper) :: _) _ _; refine step_get rfl 26 _ rfl b3 0 rfl Tryd.underlying26 rfl (.int .i8 m.f) ?_ ?_; exact (HR3.out.cell 0).trans rfl)
                | (guard_target = Go.wpList _ _ _ ((⟨some _, .load _ (.tmp 62), _, _, _, _⟩ : Go.Oper) :: _) _ _; refine step_get rfl 26 _ rfl b3 0 rfl Tryd.underlying26 rfl (.int .i8 m.f) ?_ ?_; exact (HR3.out.cell 0).trans rfl)
                | (guard_target = Go.wpList _ _ _ ((⟨some _, .load _ (.tmp 16), _, _, _, _⟩ : Go.Oper) :: _) _ _; refine step_get rfl 26 _ rfl b3 1 rfl Tryd.underlying26 rfl (.int .i8 m.t) ?_ ?_; exact (HR3.out.cell 1).trans rfl)
                | (guard_target = Go.wpList _ _ _ ((⟨some _, .load _ (.tmp 31), _, _, _, _⟩ : Go.Oper) :: _) _ _; refine step_get rfl 26 _ rfl b3 1 rfl Tryd.underlying26 rfl (.int .i8 m.t) ?_ ?_; exact (HR3.out.cell 1).trans rfl)
                | (guard_target = Go.wpList _ _ _ ((⟨some _, .load _ (.tmp 36), _, _, _, _⟩ : Go.Oper) :: _) _ _; refine step_get rfl 26 _ rfl b3 1 rfl Tryd.underlying26 rfl (.int .i8 m.t) ?_ ?_; exact (HR3.out.cell 1).trans rfl)
                | (guard_target = Go.wpList _ _ _ ((⟨some _, .load _ (.tmp 51), _, _, _, _⟩ : Go.Oper) :: _) _ _; refine step_get rfl 26 _ rfl b3 1 rfl Tryd.underlying26 rfl (.int .i8 m.t) ?_ ?_; exact (HR3.out.cell 1).trans rfl)
                | (guard_target = Go.wpList _ _ _ ((⟨some _, .load _ (.tmp 60), _, _, _, _⟩ : Go.Oper) :: _) _ _; refine step_get rfl 26 _ rfl b3 1 rfl Tryd.underlying26 rfl (.int .i8 m.t) ?_ ?_; exact (HR3.out.cell 1).trans rfl)
                | (guard_target = Go.wpList _ _ _ ((⟨some _, .load _ (.tmp 5), _, _, _, _⟩ : Go.Oper) :: _) _ _; refine step_get rfl 5 _ rfl b2 78 rfl Tryd.underlying5 rfl (.int .u8 1) ?_ ?_; exact (HR2.out.cell 78 (by decide)).trans (by rw [HC.out]; rfl))
                | (guard_target = Go.wpList _ _ _ ((⟨some _, .load _ (.tmp 44), _, _, _, _⟩ : Go.Oper) :: _) _ _; refine step_get rfl 5 _ rfl b2 78 rfl Tryd.underlying5 rfl (.int .u8 1) ?_ ?_; exact (HR2.out.cell 78 (by decide)).trans (by rw [HC.out]; rfl))
                | (guard_target = Go.wpList _ _ _ ((⟨some _, .load _ (.tmp 54), _, _, _, _⟩ : Go.Oper) :: _) _ _; refine step_get rfl 5 _ rfl b2 78 rfl Tryd.underlying5 rfl (.int .u8 1) ?_ ?_; exact (HR2.out.cell 78 (by decide)).trans (by rw [HC.out]; rfl)))
              go_ret
              exact ⟨by rw [HS.out]; rfl, HB.out⟩
            · have q4 : decide (63 < m.f) = false := decide_eq_false g4
              by_cases g5 : m.t < 0
              · have q5 : decide (m.t < 0) = true := decide_eq_true g5
                have HS := Lib.hid (show sdC 1 m = -1 from sd_no (fun ⟨_, _, _, _, _, _, _⟩ => by omega))
                go_enter Tryd.func12, Tryd.ntmps12
                go_wp2_with (first
                  | (guard_target = Go.wpList _ _ _ ((⟨some 2, .box _ _, _, _, _, _⟩ : Go.Oper) :: _) _ _; refine step_box rfl _ rfl p rfl ?_; intro b2 w1 N R; have HG2 := Lib.hid (show w.heap.size ≤ b2 by have := HB.out.size; have := N.at_; omega); have HB := Lib.hid (below_on HB.out N.below); have HR2 := Lib.hid R; clear N R)
                  | (guard_target = Go.wpList _ _ _ ((⟨some 3, .box _ _, _, _, _, _⟩ : Go.Oper) :: _) _ _; refine blk_box rfl 36 _ rfl (mvA m) rfl ?_; intro b3 w1 N R; have HG3 := Lib.hid (show w.heap.size ≤ b3 by have := HB.out.size; have := N.at_; omega); have HR2 := Lib.hid (HR2.out.later N.below); have HB := Lib.hid (below_on HB.out N.below); have HR3 := Lib.hid R; clear N R)
                  | (guard_target = Go.wpList _ _ _ ((⟨some _, .load _ (.tmp 9), _, _, _, _⟩ : Go.Oper) :: _) _ _; refine step_get rfl 4 _ rfl b3 4 rfl Tryd.underlying4 rfl (.bool m.ca) ?_ ?_; exact (HR3.out.cell 4).trans rfl)
                  | (guard_target = Go.wpList _ _ _ ((⟨some _, .load _ (.tmp 14), _, _, _, _⟩ : Go.Oper) :: _) _ _; refine step_get rfl 26 _ rfl b3 0 rfl Tryd.underlying26 rfl (.int .i8 m.f) ?_ ?_; exact (HR3.out.cell 0).trans rfl)
                  | (guard_target = Go.wpList _ _ _ ((⟨some _, .load _ (.tmp 21), _, _, _, _⟩ : Go.Oper) :: _) _ _; refine step_get rfl 26 _ rfl b3 0 rfl Tryd.underlying26 rfl (.int .i8 m.f) ?_ ?_; exact (HR3.out.cell 0).trans rfl)
                  | (guard_target = Go.wpList _ _ _ ((⟨some _, .load _ (.tmp 26), _, _, _, _⟩ : Go.Oper) :: _) _ _; refine step_get rfl 26 _ rfl b3 0 rfl Tryd.underlying26 rfl (.int .i8 m.f) ?_ ?_; exact (HR3.out.cell 0).trans rfl)
                  | (guard_target = Go.wpList _ _ _ ((⟨some _, .load _ (.tmp 41), _, _, _, _⟩ : Go.Oper) :: _) _ _; refine step_get rfl 26 _ rfl b3 0 rfl Tryd.underlying26 rfl (.int .i8 m.f) ?_ ?_; exact (HR3.out.cell 0).trans rfl)
                  | (guard_target = Go.wpList _ _ _ ((⟨some _, .load _ (.tmp 62), _, _, _, _⟩ : Go.Oper) :: _) _ _; refine step_get rfl 26 _ rfl b3 0 rfl Tryd.underlying26 rfl (.int .i8 m.f) ?_ ?_; exact (HR3.out.cell 0).trans rfl)
                  | (guard_target = Go.wpList _ _ _ ((⟨some _, .load _ (.tmp 16), _, _, _, _⟩ : Go.Oper) :: _) _ _; refine step_get rfl 26 _ rfl b3 1 rfl Tryd.underlying26 rfl (.int .i8 m.t) ?_ ?_; exact (HR3.out.cell 1).trans rfl)
                  | (guard_target = Go.wpList _ _ _ ((⟨some _, .load _ (.tmp 31), _, _, _, _⟩ : Go.Oper) :: _) _ _; refine step_get rfl 26 _ rfl b3 1 rfl Tryd.underlying26 rfl (.int .i8 m.t) ?_ ?_; exact (HR3.out.cell 1).trans rfl)
                  | (guard_target = Go.wpList _ _ _ ((⟨some _, .load _ (.tmp 36), _, _, _, _⟩ : Go.Oper) :: _) _ _; refine step_get rfl 26 _ rfl b3 1 rfl Tryd.underlying26 rfl (.int .i8 m.t) ?_ ?_; exact (HR3.out.cell 1).trans rfl)
                  | (guard_target = Go.wpList _ _ _ ((⟨some _, .load _ (.tmp 51), _, _, _, _⟩ : Go.Oper) :: _) _ _; refine step_get rfl 26 _ rfl b3 1 rfl Tryd.underlying26 rfl (.int .i8 m.t) ?_ ?_; exact (HR3.out.cell 1).trans rfl)
                  | (guard_target = Go.wpList _ _ _ ((⟨some _, .load _ (.tmp 60), _, _, _, _⟩ : Go.Oper) :: _) _ _; refine step_get rfl 26 _ rfl b3 1 rfl Tryd.underlying26 rfl (.int .i8 m.t) ?_ ?_; exact (HR3.out.cell 1).trans rfl)
                  | (guard_target = Go.wpList _ _ _ ((⟨some _, .load _ (.tmp 5), _, _, _, _⟩ : Go.Oper) :: _) _ _; refine step_get rfl 5 _ rfl b2 78 rfl Tryd.underlying5 rfl (.int .u8 1) ?_ ?_; exact (HR2.out.cell 78 (by decide)).trans (by rw [HC.out]; rfl))
                  | (guard_target = Go.wpList _ _ _ ((⟨some _, .load _ (.tmp 44), _, _, _, _⟩ : Go.Oper) :: _) _ _; refine step_get rfl 5 _ rfl b2 78 rfl Tryd.underlying5 rfl (.int .u8 1) ?_ ?_; exact (HR2.out.cell 78 (by decide)).trans (by rw [HC.out]; rfl))
                  | (guard_target = Go.wpList _ _ _ ((⟨some _, .load _ (.tmp 54), _, _, _, _⟩ : Go.Oper) :: _) _ _; refine step_get rfl 5 _ rfl b2 78 rfl Tryd.underlying5 rfl (.int .u8 1) ?_ ?_; exact (HR2.out.cell 78 (by decide)).trans (by rw [HC.out]; rfl)))
                go_ret
                exact ⟨by rw [HS.out]; rfl, HB.out⟩
              · have q5 : decide (m.t < 0) = false := decide_eq_false g5
                by_cases g6 : 63 < m.t
                · have q6 : decide (63 < m.t) = true := decide_eq_true g6
                  have HS := Lib.hid (show sdC 1 m = -1 from sd_no (fun ⟨_, _, _, _, _, _, _⟩ => by omega))
                  go_enter Tryd.func12, Tryd.ntmps12
                  go_wp2_with (first
                    | (guard_target = Go.wpList _ _ _ ((⟨some 2, .box _ _, _, _, _, _⟩ : Go.Oper) :: _) _ _; refine step_box rfl _ rfl p rfl ?_; intro b2 w1 N R; have HG2 := Lib.hid (show w.heap.size ≤ b2 by have := HB.out.size; have := N.at_; omega); have HB := Lib.hid (below_on HB.out N.below); have HR2 := Lib.hid R; clear N R)
                    | (guard_target = Go.wpList _ _ _ ((⟨some 3, .box _ _, _, _, _, _⟩ : Go.Oper) :: _) _ _; refine blk_box rfl 36 _ rfl (mvA m) rfl ?_; intro b3 w1 N R; have HG3 := Lib.hid (show w.heap.size ≤ b3 by have := HB.out.size; have := N.at_; omega); have HR2 := Lib.hid (HR2.out.later N.below); have HB := Lib.hid (below_on HB.out N.below); have HR3 := Lib.hid R; clear N R)
                    | (guard_target = Go.wpList _ _ _ ((⟨some _, .load _ (.tmp 9), _, _, _, _⟩ : Go.Oper) :: _) _ _; refine step_get rfl 4 _ rfl b3 4 rfl Tryd.underlying4 rfl (.bool m.ca) ?_ ?_; exact (HR3.out.cell 4).trans rfl)
                    | (guard_target = Go.wpList _ _ _ ((⟨some _, .load _ (.tmp 14), _, _, _, _⟩ : Go.Oper) :: _) _ _; refine step_get rfl 26 _ rfl b3 0 rfl Tryd.underlying26 rfl (.int .i8 m.f) ?_ ?_; exact (HR3.out.cell 0).trans rfl)
                    | (guard_target = Go.wpList _ _ _ ((⟨some _, .load _ (.tmp 21), _, _, _, _⟩ : Go.Oper) :: _) _ _; refine step_get rfl 26 _ rfl b3 0 rfl Tryd.underlying26 rfl (.int .i8 m.f) ?_ ?_; exact (HR3.out.cell 0).trans rfl)
                    | (guard_target = Go.wpList _ _ _ ((⟨some _, .load _ (.tmp 26), _, _, _, _⟩ : Go.Oper) :: _) _ _; refine step_get rfl 26 _ rfl b3 0 rfl Tryd.underlying26 rfl (.int .i8 m.f) ?_ ?_; exact (HR3.out.cell 0).trans rfl)
                    | (guard_target = Go.wpList _ _ _ ((⟨some _, .load _ (.tmp 41), _, _, _, _⟩ : Go.Oper) :: _) _ _; refine step_get rfl 26 _ rfl b3 0 rfl Tryd.underlying26 rfl (.int .i8 m.f) ?_ ?_; exact (HR3.out.cell 0).trans rfl)
                    | (guard_target = Go.wpList _ _ _ ((⟨some _, .load _ (.tmp 62), _, _, _, _⟩ : Go.Oper) :: _) _ _; refine step_get rfl 26 _ rfl b3 0 rfl Tryd.underlying26 rfl (.int .i8 m.f) ?_ ?_; exact (HR3.out.cell 0).trans rfl)
                    | (guard_target = Go.wpList _ _ _ ((⟨some _, .load _ (.tmp 16), _, _, _, _⟩ : Go.Oper) :: _) _ _; refine step_get rfl 26 _ rfl b3 1 rfl Tryd.underlying26 rfl (.int .i8 m.t) ?_ ?_; exact (HR3.out.cell 1).trans rfl)
                    | (guard_target = Go.wpList _ _ _ ((⟨some _, .load _ (.tmp 31), _, _, _, _⟩ : Go.Oper) :: _) _ _; refine step_get rfl 26 _ rfl b3 1 rfl Tryd.underlying26 rfl (.int .i8 m.t) ?_ ?_; exact (HR3.out.cell 1).trans rfl)
                    | (guard_target = Go.wpList _ _ _ ((⟨some _, .load _ (.tmp 36), _, _, _, _⟩ : Go.Oper) :: _) _ _; refine step_get rfl 26 _ rfl b3 1 rfl Tryd.underlying26 rfl (.int .i8 m.t) ?_ ?_; exact (HR3.out.cell 1).trans rfl)
                    | (guard_target = Go.wpList _ _ _ ((⟨some _, .load _ (.tmp 51), _, _, _, _⟩ : Go.Oper) :: _) _ _; refine step_get rfl 26 _ rfl b3 1 rfl Tryd.underlying26 rfl (.int .i8 m.t) ?_ ?_; exact (HR3.out.cell 1).trans rfl)
                    | (guard_target = Go.wpList _ _ _ ((⟨some _, .load _ (.tmp 60), _, _, _, _⟩ : Go.Oper) :: _) _ _; refine step_get rfl 26 _ rfl b3 1 rfl Tryd.underlying26 rfl (.int .i8 m.t) ?_ ?_; exact (HR3.out.cell 1).trans rfl)
                    | (guard_target = Go.wpList _ _ _ ((⟨some _, .load _ (.tmp 5), _, _, _, _⟩ : Go.Oper) :: _) _ _; refine step_get rfl 5 _ rfl b2 78 rfl Tryd.underlying5 rfl (.int .u8 1) ?_ ?_; exact (HR2.out.cell 78 (by decide)).trans (by rw [HC.out]; rfl))
                    | (guard_target = Go.wpList _ _ _ ((⟨some _, .load _ (.tmp 44), _, _, _, _⟩ : Go.Oper) :: _) _ _; refine step_get rfl 5 _ rfl b2 78 rfl Tryd.underlying5 rfl (.int .u8 1) ?_ ?_; exact (HR2.out.cell 78 (by decide)).trans (by rw [HC.out]; rfl))
                    | (guard_target = Go.wpList _ _ _ ((⟨some _, .load _ (.tmp 54), _, _, _, _⟩ : Go.Oper) :: _) _ _; refine step_get rfl 5 _ rfl b2 78 rfl Tryd.underlying5 rfl (.int .u8 1) ?_ ?_; exact (HR2.out.cell 78 (by decide)).trans (by rw [HC.out]; rfl)))
                  go_ret
                  exact ⟨by rw [HS.out]; rfl, HB.out⟩
                · have q6 : decide (63 < m.t) = false := decide_eq_false g6
                  have e1 : m.f.tdiv 8 = m.f / 8 := Int.tdiv_eq_ediv_of_nonneg (by omega)
                  have e2 : m.t.tdiv 8 = m.t / 8 := Int.tdiv_eq_ediv_of_nonneg (by omega)
                  by_cases g7 : m.f / 8 = 7
                  · have q7 : (m.f / 8 != 7) = false := by simp [g7]
                    by_cases g8 : m.t / 8 = 7
                    · have q8 : (m.t / 8 != 7) = false := by simp [g8]
                      by_cases g9 : m.f < m.t
                      · have q9 : decide (m.f < m.t) = true := decide_eq_true g9
                        have HS := Lib.hid (show sdC 1 m = 0 by rw [sd_yes g1 g2 (by omega) (by omega) (by omega), q9]; rfl)
                        go_enter Tryd.func12, Tryd.ntmps12
                        go_wp2_with (first
                          | (guard_target = Go.wpList _ _ _ ((⟨some 2, .box _ _, _, _, _, _⟩ : Go.Oper) :: _) _ _; refine step_box rfl _ rfl p rfl ?_; intro b2 w1 N R; have HG2 := Lib.hid (show w.heap.size ≤ b2 by have := HB.out.size; have := N.at_; omega); have HB := Lib.hid (below_on HB.out N.below); have HR2 := Lib.hid R; clear N R)
                          | (guard_target = Go.wpList _ _ _ ((⟨some 3, .box _ _, _, _, _, _⟩ : Go.Oper) :: _) _ _; refine blk_box rfl 36 _ rfl (mvA m) rfl ?_; intro b3 w1 N R; have HG3 := Lib.hid (show w.heap.size ≤ b3 by have := HB.out.size; have := N.at_; omega); have HR2 := Lib.hid (HR2.out.later N.below); have HB := Lib.hid (below_on HB.out N.below); have HR3 := Lib.hid R; clear N R)
                          | (guard_target = Go.wpList _ _ _ ((⟨some _, .load _ (.tmp 9), _, _, _, _⟩ : Go.Oper) :: _) _ _; refine step_get rfl 4 _ rfl b3 4 rfl Tryd.underlying4 rfl (.bool m.ca) ?_ ?_; exact (HR3.out.cell 4).trans rfl)
                          | (guard_target = Go.wpList _ _ _ ((⟨some _, .load _ (.tmp 14), _, _, _, _⟩ : Go.Oper) :: _) _ _; refine step_get rfl 26 _ rfl b3 0 rfl Tryd.underlying26 rfl (.int .i8 m.f) ?_ ?_; exact (HR3.out.cell 0).trans rfl)
                          | (guard_target = Go.wpList _ _ _ ((⟨some _, .load _ (.tmp 21), _, _, _, _⟩ : Go.Oper) :: _) _ _; refine step_get rfl 26 _ rfl b3 0 rfl Tryd.underlying26 rfl (.int .i8 m.f) ?_ ?_; exact (HR3.out.cell 0).trans rfl)
                          | (guard_target = Go.wpList _ _ _ ((⟨some _, .load _ (.tmp 26), _, _, _, _⟩ : Go.Oper) :: _) _ _; refine step_get rfl 26 _ rfl b3 0 rfl Tryd.underlying26 rfl (.int .i8 m.f) ?_ ?_; exact (HR3.out.cell 0).trans rfl)
                          | (guard_target = Go.wpList _ _ _ ((⟨some _, .load _ (.tmp 41), _, _, _, _⟩ : Go.Oper) :: _) _ _; refine step_get rfl 26 _ rfl b3 0 rfl Tryd.underlying26 rfl (.int .i8 m.f) ?_ ?_; exact (HR3.out.cell 0).trans rfl)
                          | (guard_target = Go.wpList _ _ _ ((⟨some _, .load _ (.tmp 62), _, _, _, _⟩ : Go.Oper) :: _) _ _; refine step_get rfl 26 _ rfl b3 0 rfl Tryd.underlying26 rfl (.int .i8 m.f) ?_ ?_; exact (HR3.out.cell 0).trans rfl)
                          | (guard_target = Go.wpList _ _ _ ((⟨some _, .load _ (.tmp 16), _, _, _, _⟩ : Go.Oper) :: _) _ _; refine step_get rfl 26 _ rfl b3 1 rfl Tryd.underlying26 rfl (.int .i8 m.t) ?_ ?_; exact (HR3.out.cell 1).trans rfl)
                          | (guard_target = Go.wpList _ _ _ ((⟨some _, .load _ (.tmp 31), _, _, _, _⟩ : Go.Oper) :: _) _ _; refine step_get rfl 26 _ rfl b3 1 rfl Tryd.underlying26 rfl (.int .i8 m.t) ?_ ?_; exact (HR3.out.cell 1).trans rfl)
                          | (guard_target = Go.wpList _ _ _ ((⟨some _, .load _ (.tmp 36), _, _, _, _⟩ : Go.Oper) :: _) _ _; refine step_get rfl 26 _ rfl b3 1 rfl Tryd.underlying26 rfl (.int .i8 m.t) ?_ ?_; exact (HR3.out.cell 1).trans rfl)
                          | (guard_target = Go.wpList _ _ _ ((⟨some _, .load _ (.tmp 51), _, _, _, _⟩ : Go.Oper) :: _) _ _; refine step_get rfl 26 _ rfl b3 1 rfl Tryd.underlying26 rfl (.int .i8 m.t) ?_ ?_; exact (HR3.out.cell 1).trans rfl)
                          | (guard_target = Go.wpList _ _ _ ((⟨some _, .load _ (.tmp 60), _, _, _, _⟩ : Go.Oper) :: _) _ _; refine step_get rfl 26 _ rfl b3 1 rfl Tryd.underlying26 rfl (.int .i8 m.t) ?_ ?_; exact (HR3.out.cell 1).trans rfl)
                          | (guard_target = Go.wpList _ _ _ ((⟨some _, .load _ (.tmp 5), _, _, _, _⟩ : Go.Oper) :: _) _ _; refine step_get rfl 5 _ rfl b2 78 rfl Tryd.underlying5 rfl (.int .u8 1) ?_ ?_; exact (HR2.out.cell 78 (by decide)).trans (by rw [HC.out]; rfl))
                          | (guard_target = Go.wpList _ _ _ ((⟨some _, .load _ (.tmp 44), _, _, _, _⟩ : Go.Oper) :: _) _ _; refine step_get rfl 5 _ rfl b2 78 rfl Tryd.underlying5 rfl (.int .u8 1) ?_ ?_; exact (HR2.out.cell 78 (by decide)).trans (by rw [HC.out]; rfl))
                          | (guard_target = Go.wpList _ _ _ ((⟨some _, .load _ (.tmp 54), _, _, _, _⟩ : Go.Oper) :: _) _ _; refine step_get rfl 5 _ rfl b2 78 rfl Tryd.underlying5 rfl (.int .u8 1) ?_ ?_; exact (HR2.out.cell 78 (by decide)).trans (by rw [HC.out]; rfl)))
                        go_ret
                        exact ⟨by rw [HS.out]; rfl, HB.out⟩
                      · have q9 : decide (m.f < m.t) = false := decide_eq_false g9
                        have HS := Lib.hid (show sdC 1 m = 1 by rw [sd_yes g1 g2 (by omega) (by omega) (by omega), q9]; rfl)
                        go_enter Tryd.func12, Tryd.ntmps12
                        go_wp2_with (first
                          | (guard_target = Go.wpList _ _ _ ((⟨some 2, .box _ _, _, _, _, _⟩ : Go.Oper) :: _) _ _; refine step_box rfl _ rfl p rfl ?_; intro b2 w1 N R; have HG2 := Lib.hid (show w.heap.size ≤ b2 by have := HB.out.size; have := N.at_; omega); have HB := Lib.hid (below_on HB.out N.below); have HR2 := Lib.hid R; clear N R)
                          | (guard_target = Go.wpList _ _ _ ((⟨some 3, .box _ _, _, _, _, _⟩ : Go.Oper) :: _) _ _; refine blk_box rfl 36 _ rfl (mvA m) rfl ?_; intro b3 w1 N R; have HG3 := Lib.hid (show w.heap.size ≤ b3 by have := HB.out.size; have := N.at_; omega); have HR2 := Lib.hid (HR2.out.later N.below); have HB := Lib.hid (below_on HB.out N.below); have HR3 := Lib.hid R; clear N R)
                          | (guard_target = Go.wpList _ _ _ ((⟨some _, .load _ (.tmp 9), _, _, _, _⟩ : Go.Oper) :: _) _ _; refine step_get rfl 4 _ rfl b3 4 rfl Tryd.underlying4 rfl (.bool m.ca) ?_ ?_; exact (HR3.out.cell 4).trans rfl)
                          | (guard_target = Go.wpList _ _ _ ((⟨some _, .load _ (.tmp 14), _, _, _, _⟩ : Go.Oper) :: _) _ _; refine step_get rfl 26 _ rfl b3 0 rfl Tryd.underlying26 rfl (.int .i8 m.f) ?_ ?_; exact (HR3.out.cell 0).trans rfl)
                          | (guard_target = Go.wpList _ _ _ ((⟨some _, .load _ (.tmp 21), _, _, _, _⟩ : Go.Oper) :: _) _ _; refine step_get rfl 26 _ rfl b3 0 rfl Tryd.underlying26 rfl (.int .i8 m.f) ?_ ?_; exact (HR3.out.cell 0).trans rfl)
                          | (guard_target = Go.wpList _ _ _ ((⟨some _, .load _ (.tmp 26), _, _, _, _⟩ : Go.Oper) :: _) _ _; refine step_get rfl 26 _ rfl b3 0 rfl Tryd.underlying26 rfl (.int .i8 m.f) ?_ ?_; exact (HR3.out.cell 0).trans rfl)
                          | (guard_target = Go.wpList _ _ _ ((⟨some _, .load _ (.tmp 41), _, _, _, _⟩ : Go.Oper) :: _) _ _; refine step_get rfl 26 _ rfl b3 0 rfl Tryd.underlying26 rfl (.int .i8 m.f) ?_ ?_; exact (HR3.out.cell 0).trans rfl)
                          | (guard_target = Go.wpList _ _ _ ((⟨some _, .load _ (.tmp 62), _, _, _, _⟩ : Go.Oper) :: _) _ _; refine step_get rfl 26 _ rfl b3 0 rfl Tryd.underlying26 rfl (.int .i8 m.f) ?_ ?_; exact (HR3.out.cell 0).trans rfl)
                          | (guard_target = Go.wpList _ _ _ ((⟨some _, .load _ (.tmp 16), _, _, _, _⟩ : Go.Oper) :: _) _ _; refine step_get rfl 26 _ rfl b3 1 rfl Tryd.underlying26 rfl (.int .i8 m.t) ?_ ?_; exact (HR3.out.cell 1).trans rfl)
                          | (guard_target = Go.wpList _ _ _ ((⟨some _, .load _ (.tmp 31), _, _, _, _⟩ : Go.Oper) :: _) _ _; refine step_get rfl 26 _ rfl b3 1 rfl Tryd.underlying26 rfl (.int .i8 m.t) ?_ ?_; exact (HR3.out.cell 1).trans rfl)
                          | (guard_target = Go.wpList _ _ _ ((⟨some _, .load _ (.tmp 36), _, _, _, _⟩ : Go.Oper) :: _) _ _; refine step_get rfl 26 _ rfl b3 1 rfl Tryd.underlying26 rfl (.int .i8 m.t) ?_ ?_; exact (HR3.out.cell 1).trans rfl)
                          | (guard_target = Go.wpList _ _ _ ((⟨some _, .load _ (.tmp 51), _, _, _, _⟩ : Go.Oper) :: _) _ _; refine step_get rfl 26 _ rfl b3 1 rfl Tryd.underlying26 rfl (.int .i8 m.t) ?_ ?_; exact (HR3.out.cell 1).trans rfl)
                          | (guard_target = Go.wpList _ _ _ ((⟨some _, .load _ (.tmp 60), _, _, _, _⟩ : Go.Oper) :: _) _ _; refine step_get rfl 26 _ rfl b3 1 rfl Tryd.underlying26 rfl (.int .i8 m.t) ?_ ?_; exact (HR3.out.cell 1).trans rfl)
                          | (guard_target = Go.wpList _ _ _ ((⟨some _, .load _ (.tmp 5), _, _, _, _⟩ : Go.Oper) :: _) _ _; refine step_get rfl 5 _ rfl b2 78 rfl Tryd.underlying5 rfl (.int .u8 1) ?_ ?_; exact (HR2.out.cell 78 (by decide)).trans (by rw [HC.out]; rfl))
                          | (guard_target = Go.wpList _ _ _ ((⟨some _, .load _ (.tmp 44), _, _, _, _⟩ : Go.Oper) :: _) _ _; refine step_get rfl 5 _ rfl b2 78 rfl Tryd.underlying5 rfl (.int .u8 1) ?_ ?_; exact (HR2.out.cell 78 (by decide)).trans (by rw [HC.out]; rfl))
                          | (guard_target = Go.wpList _ _ _ ((⟨some _, .load _ (.tmp 54), _, _, _, _⟩ : Go.Oper) :: _) _ _; refine step_get rfl 5 _ rfl b2 78 rfl Tryd.underlying5 rfl (.int .u8 1) ?_ ?_; exact (HR2.out.cell 78 (by decide)).trans (by rw [HC.out]; rfl)))
                        go_ret
                        exact ⟨by rw [HS.out]; rfl, HB.out⟩
                    · have q8 : (m.t / 8 != 7) = true := bne_iff_ne.2 g8
                      have HS := Lib.hid (show sdC 1 m = -1 from sd_no (fun ⟨_, _, _, _, _, _, _⟩ => by omega))
                      go_enter Tryd.func12, Tryd.ntmps12
                      go_wp2_with (first
                        | (guard_target = Go.wpList _ _ _ ((⟨some 2, .box _ _, _, _, _, _⟩ : Go.Oper) :: _) _ _; refine step_box rfl _ rfl p rfl ?_; intro b2 w1 N R; have HG2 := Lib.hid (show w.heap.size ≤ b2 by have := HB.out.size; have := N.at_; omega); have HB := Lib.hid (below_on HB.out N.below); have HR2 := Lib.hid R; clear N R)
                        | (guard_target = Go.wpList _ _ _ ((⟨some 3, .box _ _, _, _, _, _⟩ : Go.Oper) :: _) _ _; refine blk_box rfl 36 _ rfl (mvA m) rfl ?_; intro b3 w1 N R; have HG3 := Lib.hid (show w.heap.size ≤ b3 by have := HB.out.size; have := N.at_; omega); have HR2 := Lib.hid (HR2.out.later N.below); have HB := Lib.hid (below_on HB.out N.below); have HR3 := Lib.hid R; clear N R)
                        | (guard_target = Go.wpList _ _ _ ((⟨some _, .load _ (.tmp 9), _, _, _, _⟩ : Go.Oper) :: _) _ _; refine step_get rfl 4 _ rfl b3 4 rfl Tryd.underlying4 rfl (.bool m.ca) ?_ ?_; exact (HR3.out.cell 4).trans rfl)
                        | (guard_target = Go.wpList _ _ _ ((⟨some _, .load _ (.tmp 14), _, _, _, _⟩ : Go.Oper) :: _) _ _; refine step_get rfl 26 _ rfl b3 0 rfl Tryd.underlying26 rfl (.int .i8 m.f) ?_ ?_; exact (HR3.out.cell 0).trans rfl)
                        | (guard_target = Go.wpList _ _ _ ((⟨some _, .load _ (.tmp 21), _, _, _, _⟩ : Go.Oper) :: _) _ _; refine step_get rfl 26 _ rfl b3 0 rfl Tryd.underlying26 rfl (.int .i8 m.f) ?_ ?_; exact (HR3.out.cell 0).trans rfl)
                        | (guard_target = Go.wpList _ _ _ ((⟨some _, .load _ (.tmp 26), _, _, _, _⟩ : Go.Oper) :: _) _ _; refine step_get rfl 26 _ rfl b3 0 rfl Tryd.underlying26 rfl (.int .i8 m.f) ?_ ?_; exact (HR3.out.cell 0).trans rfl)
                        | (guard_target = Go.wpList _ _ _ ((⟨some _, .load _ (.tmp 41), _, _, _, _⟩ : Go.Oper) :: _) _ _; refine step_get rfl 26 _ rfl b3 0 rfl Tryd.underlying26 rfl (.int .i8 m.f) ?_ ?_; exact (HR3.out.cell 0).trans rfl)
                        | (guard_target = Go.wpList _ _ _ ((⟨some _, .load _ (.tmp 62), _, _, _, _⟩ : Go.Oper) :: _) _ _; refine step_get rfl 26 _ rfl b3 0 rfl Tryd.underlying26 rfl (.int .i8 m.f) ?_ ?_; exact (HR3.out.cell 0).trans rfl)
                        | (guard_target = Go.wpList _ _ _ ((⟨some _, .load _ (.tmp 16), _, _, _, _⟩ : Go.Oper) :: _) _ _; refine step_get rfl 26 _ rfl b3 1 rfl Tryd.underlying26 rfl (.int .i8 m.t) ?_ ?_; exact (HR3.out.cell 1).trans rfl)
                        | (guard_target = Go.wpList _ _ _ ((⟨some _, .load _ (.tmp 31), _, _, _, _⟩ : Go.Oper) :: _) _ _; refine step_get rfl 26 _ rfl b3 1 rfl Tryd.underlying26 rfl (.int .i8 m.t) ?_ ?_; exact (HR3.out.cell 1).trans rfl)
                        | (guard_target = Go.wpList _ _ _ ((⟨some _, .load _ (.tmp 36), _, _, _, _⟩ : Go.Oper) :: _) _ _; refine step_get rfl 26 _ rfl b3 1 rfl Tryd.underlying26 rfl (.int .i8 m.t) ?_ ?_; exact (HR3.out.cell 1).trans rfl)
                        | (guard_target = Go.wpList _ _ _ ((⟨some _, .load _ (.tmp 51), _, _, _, _⟩ : Go.Oper) :: _) _ _; refine step_get rfl 26 _ rfl b3 1 rfl Tryd.underlying26 rfl (.int .i8 m.t) ?_ ?_; exact (HR3.out.cell 1).trans rfl)
                        | (guard_target = Go.wpList _ _ _ ((⟨some _, .load _ (.tmp 60), _, _, _, _⟩ : Go.Oper) :: _) _ _; refine step_get rfl 26 _ rfl b3 1 rfl Tryd.underlying26 rfl (.int .i8 m.t) ?_ ?_; exact (HR3.out.cell 1).trans rfl)
                        | (guard_target = Go.wpList _ _ _ ((⟨some _, .load _ (.tmp 5), _, _, _, _⟩ : Go.Oper) :: _) _ _; refine step_get rfl 5 _ rfl b2 78 rfl Tryd.underlying5 rfl (.int .u8 1) ?_ ?_; exact (HR2.out.cell 78 (by decide)).trans (by rw [HC.out]; rfl))
                        | (guard_target = Go.wpList _ _ _ ((⟨some _, .load _ (.tmp 44), _, _, _, _⟩ : Go.Oper) :: _) _ _; refine step_get rfl 5 _ rfl b2 78 rfl Tryd.underlying5 rfl (.int .u8 1) ?_ ?_; exact (HR2.out.cell 78 (by decide)).trans (by rw [HC.out]; rfl))
                        | (guard_target = Go.wpList _ _ _ ((⟨some _, .load _ (.tmp 54), _, _, _, _⟩ : Go.Oper) :: _) _ _; refine step_get rfl 5 _ rfl b2 78 rfl Tryd.underlying5 rfl (.int .u8 1) ?_ ?_; exact (HR2.out.cell 78 (by decide)).trans (by rw [HC.out]; rfl)))
                      go_ret
                      exact ⟨by rw [HS.out]; rfl, HB.out⟩
                  · have q7 : (m.f / 8 != 7) = true := bne_iff_ne.2 g7
                    have HS := Lib.hid (show sdC 1 m = -1 from sd_no (fun ⟨_, _, _, _, _, _, _⟩ => by omega))
                    go_enter Tryd.func12, Tryd.ntmps12
                    go_wp2_with (first
                      | (guard_target = Go.wpList _ _ _ ((⟨some 2, .box _ _, _, _, _, _⟩ : Go.Oper) :: _) _ _; refine step_box rfl _ rfl p rfl ?_; intro b2 w1 N R; have HG2 := Lib.hid (show w.heap.size ≤ b2 by have := HB.out.size; have := N.at_; omega); have HB := Lib.hid (below_on HB.out N.below); have HR2 := Lib.hid R; clear N R)
                      | (guard_target = Go.wpList _ _ _ ((⟨some 3, .box _ _, _, _, _, _⟩ : Go.Oper) :: _) _ _; refine blk_box rfl 36 _ rfl (mvA m) rfl ?_; intro b3 w1 N R; have HG3 := Lib.hid (show w.heap.size ≤ b3 by have := HB.out.size; have := N.at_; omega); have HR2 := Lib.hid (HR2.out.later N.below); have HB := Lib.hid (below_on HB.out N.below); have HR3 := Lib.hid R; clear N R)
                      | (guard_target = Go.wpList _ _ _ ((⟨some _, .load _ (.tmp 9), _, _, _, _⟩ : Go.Oper) :: _) _ _; refine step_get rfl 4 _ rfl b3 4 rfl Tryd.underlying4 rfl (.bool m.ca) ?_ ?_; exact (HR3.out.cell 4).trans rfl)
                      | (guard_target = Go.wpList _ _ _ ((⟨some _, .load _ (.tmp 14), _, _, _, _⟩ : Go.Oper) :: _) _ _; refine step_get rfl 26 _ rfl b3 0 rfl Tryd.underlying26 rfl (.int .i8 m.f) ?_ ?_; exact (HR3.out.cell 0).trans rfl)
                      | (guard_target = Go.wpList _ _ _ ((⟨some _, .load _ (.tmp 21), _, _, _, _⟩ : Go.Oper) :: _) _ _; refine step_get rfl 26 _ rfl b3 0 rfl Tryd.underlying26 rfl (.int .i8 m.f) ?_ ?_; exact (HR3.out.cell 0).trans rfl)
                      | (guard_target = Go.wpList _ _ _ ((⟨some _, .load _ (.tmp 26), _, _, _, _⟩ : Go.Oper) :: _) _ _; refine step_get rfl 26 _ rfl b3 0 rfl Tryd.underlying26 rfl (.int .i8 m.f) ?_ ?_; exact (HR3.out.cell 0).trans rfl)
                      | (guard_target = Go.wpList _ _ _ ((⟨some _, .load _ (.tmp 41), _, _, _, _⟩ : Go.Oper) :: _) _ _; refine step_get rfl 26 _ rfl b3 0 rfl Tryd.underlying26 rfl (.int .i8 m.f) ?_ ?_; exact (HR3.out.cell 0).trans rfl)
                      | (guard_target = Go.wpList _ _ _ ((⟨some _, .load _ (.tmp 62), _, _, _, _⟩ : Go.Oper) :: _) _ _; refine step_get rfl 26 _ rfl b3 0 rfl Tryd.underlying26 rfl (.int .i8 m.f) ?_ ?_; exact (HR3.out.cell 0).trans rfl)
                      | (guard_target = Go.wpList _ _ _ ((⟨some _, .load _ (.tmp 16), _, _, _, _⟩ : Go.Oper) :: _) _ _; refine step_get rfl 26 _ rfl b3 1 rfl Tryd.underlying26 rfl (.int .i8 m.t) ?_ ?_; exact (HR3.out.cell 1).trans rfl)
                      | (guard_target = Go.wpList _ _ _ ((⟨some _, .load _ (.tmp 31), _, _, _, _⟩ : Go.Oper) :: _) _ _; refine step_get rfl 26 _ rfl b3 1 rfl Tryd.underlying26 rfl (.int .i8 m.t) ?_ ?_; exact (HR3.out.cell 1).trans rfl)
                      | (guard_target = Go.wpList _ _ _ ((⟨some _, .load _ (.tmp 36), _, _, _, _⟩ : Go.Oper) :: _) _ _; refine step_get rfl 26 _ rfl b3 1 rfl Tryd.underlying26 rfl (.int .i8 m.t) ?_ ?_; exact (HR3.out.cell 1).trans rfl)
                      | (guard_target = Go.wpList _ _ _ ((⟨some _, .load _ (.tmp 51), _, _, _, _⟩ : Go.Oper) :: _) _ _; refine step_get rfl 26 _ rfl b3 1 rfl Tryd.underlying26 rfl (.int .i8 m.t) ?_ ?_; exact (HR3.out.cell 1).trans rfl)
                      | (guard_target = Go.wpList _ _ _ ((⟨some _, .load _ (.tmp 60), _, _, _, _⟩ : Go.Oper) :: _) _ _; refine step_get rfl 26 _ rfl b3 1 rfl Tryd.underlying26 rfl (.int .i8 m.t) ?_ ?_; exact (HR3.out.cell 1).trans rfl)
                      | (guard_target = Go.wpList _ _ _ ((⟨some _, .load _ (.tmp 5), _, _, _, _⟩ : Go.Oper) :: _) _ _; refine step_get rfl 5 _ rfl b2 78 rfl Tryd.underlying5 rfl (.int .u8 1) ?_ ?_; exact (HR2.out.cell 78 (by decide)).trans (by rw [HC.out]; rfl))
                      | (guard_target = Go.wpList _ _ _ ((⟨some _, .load _ (.tmp 44), _, _, _, _⟩ : Go.Oper) :: _) _ _; refine step_get rfl 5 _ rfl b2 78 rfl Tryd.underlying5 rfl (.int .u8 1) ?_ ?_; exact (HR2.out.cell 78 (by decide)).trans (by rw [HC.out]; rfl))
                      | (guard_target = Go.wpList _ _ _ ((⟨some _, .load _ (.tmp 54), _, _, _, _⟩ : Go.Oper) :: _) _ _; refine step_get rfl 5 _ rfl b2 78 rfl Tryd.underlying5 rfl (.int .u8 1) ?_ ?_; exact (HR2.out.cell 78 (by decide)).trans (by rw [HC.out]; rfl)))
                    go_ret
                    exact ⟨by rw [HS.out]; rfl, HB.out⟩
end Go.Proofs.YtmlmilmfnioheaaDoor
