/-
  Layer 13's PseudoLess.
-/
import Derived.Test.YtfdheeogpndklaaDoorPsN
import Derived.IntWalk
namespace Go.Proofs.YtfdheeogpndklaaDoor
open Go.RowKit Go.Shelf
set_option linter.unusedVariables false
set_option linter.unusedSimpArgs false
theorem step_mvK {ops : Array Oper} {rest : List Oper} {op : Oper} {a : Act} {w : World} {Q : Exit → Act → World → Prop} (hw : Region.wanted op (yielded ops a.tmps) = true) (x : Operand) (ho : op.op = .load 36 x) (g i off : Nat) (hx : a.eval x = .pointer (some ⟨g, off, none⟩)) (hi : off = 5 * i) (m : Pm) (hr : w.rangeAt g (5 * i) (pmA m).toList)
    (h : wpList Tryd.prog ops Q rest (a.put op.dst (.agg (pmA m))) w) : wpList Tryd.prog ops Q (op :: rest) a w := by
  subst hi
  exact wpList_want hw fun _ hK => wp_load_mid 36 x ho g (5 * i) hx (pmA m).toList _ hr Tryd.underlying36 rfl sizePm (hK _ _ h)
theorem Pms.cell {L : List Pm} {g : Nat} {w : World} (h : Pms L (some ⟨g, 0, none⟩) w) {i : Nat} {m : Pm} (hm : L[i]? = some m) (j off : Nat) (hj : j < 5) (ho : off = i * 5 + j) : w.cell? ⟨g, off, none⟩ = (pmA m)[j]? := by
  subst ho
  have e : i * 5 + j = 5 * i + j := by omega
  have hs : j < (pmA m).toList.length := by show j < 5; exact hj
  have := h.get hm j _ (List.getElem?_eq_getElem hs)
  rw [e, this, ← List.getElem?_eq_getElem hs]; simp
theorem fit_all {p : Nat → Int} {m : Pm} (h : m ∈ allL p) : FitV (pmM m) := by
  unfold allL at h
  obtain ⟨a, _, h⟩ := List.mem_flatMap.1 h
  exact fit_pm h
theorem any_next {α : Type} {f : α → Bool} {L : List α} {i : Nat} {m : α} (h : L[i]? = some m) : (L.take (i + 1)).any f = ((L.take i).any f || f m) := by
  rw [List.take_add_one, h, List.any_append]; simp
theorem any_zero {α : Type} (f : α → Bool) (L : List α) : (L.take 0).any f = false := rfl
theorem any_len {α : Type} {f : α → Bool} {L : List α} {m : α} (h : m ∈ L) (hf : f m = true) : (L.take L.length).any f = true := by
  rw [List.take_length, List.any_eq_true]; exact ⟨m, h, hf⟩
theorem psr_upd {p : Nat → Int} (h : PsR p) {i : Nat} (hi : i < 64) {v : Int} (hv : 0 ≤ v ∧ v ≤ 255) : PsR (upd p (1 + i) v) := by
  refine ⟨fun j hj => ?_, by rw [upd_other _ _ _ _ (by omega)]; exact h.var, by rw [upd_other _ _ _ _ (by omega)]; exact h.turn, by rw [upd_other _ _ _ _ (by omega)]; exact h.pass⟩
  by_cases e : j = i
  · subst e; rw [upd_same]; exact hv
  · rw [upd_other _ _ _ _ (by omega)]; exact h.bd j hj
theorem pm_mv (f : Int) (t k : Nat) : mvE (pmM ⟨f, t, k⟩) ⟨f, (t : Int), (k : Int), 0, false⟩ = true := mvE_true.2 rfl
theorem ps_sq64 (a : Int) : ∃ n : Nat, n < 64 ∧ wrap64 ((IntKind.u64.wrap a).tmod 64) = (n : Int) := by
  have h0 : 0 ≤ IntKind.u64.wrap a := by rw [IntKind.wrap_u64]; omega
  refine ⟨(IntKind.u64.wrap a % 64).toNat, by omega, ?_⟩
  rw [Int.tmod_eq_emod_of_nonneg h0, IntWalk.wrap64_in _ ⟨by omega, by omega⟩]
  omega
theorem lawK {p : Nat → Int} {b : Bool} (h : lawQ p = b) (w : World) (hp : PsR p) : Calls Tryd.prog 11 #[.agg (posA p)] w (BoL b w) := h ▸ ps_lawful p w hp
set_option maxRecDepth 100000 in
set_option maxHeartbeats 8000000 in
theorem psLess_any (p : Nat → Int) (a1 : Int) (w : World) (hp : PsR p) (hT : PsT w) (hK : TabKn w) : Calls Tryd.prog 6 #[.agg (posA p), .int .i64 a1] w (BoL true w) := by
  have HF := Lib.hid hp
  have HT := Lib.hid hT
  have HK := Lib.hid hK
  clear hp hT hK
  have HB := Lib.hid (Below.refl w.heap.size w)
  obtain ⟨s, hs, es⟩ := ps_sq64 a1
  have hx1 := HF.out.bd s hs
  have HS := Lib.hid hs
  have ed : IntKind.u8.wrap ((p (1 + s)).tdiv 8) = p (1 + s) / 8 := by rw [Int.tdiv_eq_ediv_of_nonneg hx1.1, IntKind.wrap_u8]; omega
  cases hL : lawQ p
  · have HQ := Lib.hid hL
    clear hL
    go_enter Tryd.func6, Tryd.ntmps6
    go_wp2_with (first
      | (guard_target = Go.wpList _ _ _ ((⟨some 2, .box _ _, _, _, _, _⟩ : Go.Oper) :: _) _ _; refine step_box rfl _ rfl p rfl ?_; intro b2 w1 N R; have HG2 := Lib.hid (show w.heap.size ≤ b2 by have := HB.out.size; have := N.at_; omega); have HB := Lib.hid (below_on HB.out N.below); have HR2 := Lib.hid R; clear N R))
    refine late_begin 20 (by kernel_rfl) ?_
    refine ltk 0 (by kernel_rfl) (fun _ _ d _ _ h => by cases d <;> exact h) (fun o ho => ?_)
    simp only [qa, qb, qc, qd] at ho; subst ho
    refine ⟨.agg (posA p), Or.inl ⟨by kernel_rfl, fun w' hl => Or.inl (run_posP _ rfl b2 rfl p (HR2.out.later hl))⟩, ?_⟩
    simp only [Act.put, pa, pb, pc]
    refine late_one 1 (by kernel_rfl) (by kernel_rfl) (fun o ho => ?_)
    simp only [qa, qb, qc, qd] at ho; subst ho
    refine ⟨by kernel_rfl, fun wn hl K hK => ?_⟩
    have HR2 := Lib.hid (HR2.out.later hl); have HB := Lib.hid (below_on HB.out hl); clear hl
    refine wp_enter _ _ (by go_simp; exact ⟨rfl, rfl⟩) ?_
    refine (lawK HQ.out _ HF.out).mono ?_; rintro e wm ⟨rfl, hb⟩; refine ⟨_, rfl, ?_⟩
    refine hK.out _ _ hb ?_
    have HR2 := Lib.hid (HR2.out.later hb); have HB := Lib.hid (below_on HB.out hb); clear hb
    clear hK K
    simp only [Act.put, pa, pb, pc]
    refine ltk 2 (by kernel_rfl) (fun _ _ d _ _ h => by cases d <;> exact h) (fun o ho => ?_)
    simp only [qa, qb, qc, qd] at ho; subst ho
    apply Exists.intro
    refine ⟨Or.inl ⟨by kernel_rfl, fun w' hl => Or.inl ?_⟩, ?_⟩
    · (go_simp; try with_reducible rfl)
    simp only [Act.put, pa, pb, pc]
    refine ltk 3 (by kernel_rfl) (fun _ _ d _ _ h => by cases d <;> exact h) (fun o ho => ?_)
    simp only [qa, qb, qc, qd] at ho; subst ho
    apply Exists.intro
    refine ⟨Or.inl ⟨by kernel_rfl, fun w' hl => Or.inl ?_⟩, ?_⟩
    · (go_simp; try with_reducible rfl)
    simp only [Act.put, pa, pb, pc]
    refine ltk 4 (by kernel_rfl) (fun _ _ d _ _ h => by cases d <;> exact h) (fun o ho => ?_)
    simp only [qa, qb, qc, qd] at ho; subst ho
    refine ⟨_, Or.inr ⟨by kernel_rfl, rfl⟩, ?_⟩
    simp only [Act.put, pa, pb, pc]
    refine ltk 5 (by kernel_rfl) (fun _ _ d _ _ h => by cases d <;> exact h) (fun o ho => ?_)
    simp only [qa, qb, qc, qd] at ho; subst ho
    refine ⟨_, Or.inr ⟨by kernel_rfl, rfl⟩, ?_⟩
    simp only [Act.put, pa, pb, pc]
    refine ltk 6 (by kernel_rfl) (fun _ _ d _ _ h => by cases d <;> exact h) (fun o ho => ?_)
    simp only [qa, qb, qc, qd] at ho; subst ho
    refine ⟨_, Or.inr ⟨by kernel_rfl, rfl⟩, ?_⟩
    simp only [Act.put, pa, pb, pc]
    refine ltk 7 (by kernel_rfl) (fun _ _ d _ _ h => by cases d <;> exact h) (fun o ho => ?_)
    simp only [qa, qb, qc, qd] at ho; subst ho
    refine ⟨_, Or.inr ⟨by kernel_rfl, rfl⟩, ?_⟩
    simp only [Act.put, pa, pb, pc]
    refine ltk 8 (by kernel_rfl) (fun _ _ d _ _ h => by cases d <;> exact h) (fun o ho => ?_)
    simp only [qa, qb, qc, qd] at ho; subst ho
    refine ⟨_, Or.inr ⟨by kernel_rfl, rfl⟩, ?_⟩
    simp only [Act.put, pa, pb, pc]
    refine ltk 9 (by kernel_rfl) (fun _ _ d _ _ h => by cases d <;> exact h) (fun o ho => ?_)
    simp only [qa, qb, qc, qd] at ho; subst ho
    apply Exists.intro
    refine ⟨Or.inl ⟨by kernel_rfl, fun w' hl => Or.inl ?_⟩, ?_⟩
    · (go_simp; try with_reducible rfl)
    simp only [Act.put, pa, pb, pc]
    refine ltk 10 (by kernel_rfl) (fun _ _ d _ _ h => by cases d <;> exact h) (fun o ho => ?_)
    simp only [qa, qb, qc, qd] at ho; subst ho
    apply Exists.intro
    refine ⟨Or.inl ⟨by kernel_rfl, fun w' hl => Or.inl ?_⟩, ?_⟩
    · (go_simp; try with_reducible rfl)
    simp only [Act.put, pa, pb, pc]
    refine ltk 11 (by kernel_rfl) (fun _ _ d _ _ h => by cases d <;> exact h) (fun o ho => ?_)
    simp only [qa, qb, qc, qd] at ho; subst ho
    refine ⟨_, Or.inr ⟨by kernel_rfl, rfl⟩, ?_⟩
    simp only [Act.put, pa, pb, pc]
    refine ltk 12 (by kernel_rfl) (fun _ _ d _ _ h => by cases d <;> exact h) (fun o ho => ?_)
    simp only [qa, qb, qc, qd] at ho; subst ho
    refine ⟨_, Or.inr ⟨by kernel_rfl, rfl⟩, ?_⟩
    simp only [Act.put, pa, pb, pc]
    refine ltk 13 (by kernel_rfl) (fun _ _ d _ _ h => by cases d <;> exact h) (fun o ho => ?_)
    simp only [qa, qb, qc, qd] at ho; subst ho
    refine ⟨_, Or.inr ⟨by kernel_rfl, rfl⟩, ?_⟩
    simp only [Act.put, pa, pb, pc]
    refine ltk 14 (by kernel_rfl) (fun _ _ d _ _ h => by cases d <;> exact h) (fun o ho => ?_)
    simp only [qa, qb, qc, qd] at ho; subst ho
    refine ⟨_, Or.inr ⟨by kernel_rfl, rfl⟩, ?_⟩
    simp only [Act.put, pa, pb, pc]
    refine ltk 15 (by kernel_rfl) (fun _ _ d _ _ h => by cases d <;> exact h) (fun o ho => ?_)
    simp only [qa, qb, qc, qd] at ho; subst ho
    refine ⟨_, Or.inr ⟨by kernel_rfl, rfl⟩, ?_⟩
    simp only [Act.put, pa, pb, pc]
    refine ltk 16 (by kernel_rfl) (fun _ _ d _ _ h => by cases d <;> exact h) (fun o ho => ?_)
    simp only [qa, qb, qc, qd] at ho; subst ho
    refine ⟨_, Or.inr ⟨by kernel_rfl, rfl⟩, ?_⟩
    simp only [Act.put, pa, pb, pc]
    refine ltk 17 (by kernel_rfl) (fun _ _ d _ _ h => by cases d <;> exact h) (fun o ho => ?_)
    simp only [qa, qb, qc, qd] at ho; subst ho
    refine ⟨_, Or.inr ⟨by kernel_rfl, rfl⟩, ?_⟩
    simp only [Act.put, pa, pb, pc]
    refine ltk 18 (by kernel_rfl) (fun _ _ d _ _ h => by cases d <;> exact h) (fun o ho => ?_)
    simp only [qa, qb, qc, qd] at ho; subst ho
    refine ⟨_, Or.inr ⟨by kernel_rfl, rfl⟩, ?_⟩
    simp only [Act.put, pa, pb, pc]
    refine ltk 19 (by kernel_rfl) (fun _ _ d _ _ h => by cases d <;> exact h) (fun o ho => ?_)
    simp only [qa, qb, qc, qd] at ho; subst ho
    apply Exists.intro
    refine ⟨Or.inl ⟨by kernel_rfl, fun w' hl => Or.inl ?_⟩, ?_⟩
    · (go_simp; try with_reducible rfl)
    simp only [Act.put, pa, pb, pc]
    refine late_end (by kernel_rfl) (fun wn hl => ?_)
    have HR2 := Lib.hid (HR2.out.later hl); have HB := Lib.hid (below_on HB.out hl); clear hl
    go_wp2_with (first
      | (go_at_call 10; refine (ps_awake _ (HT.out.on HB.out) (HK.out.on HB.out)).mono ?_; rintro e w4 ⟨rfl, hb⟩; have HB := Lib.hid (below_on HB.out hb); clear hb))
    go_ret
    exact ⟨rfl, HB.out⟩
  · have HQ := Lib.hid hL
    cases g1 : (p (1 + s) == 0)
    · cases g2 : (p (1 + s) / 8 != p 78)
      · have HC := Lib.hid (show p (1 + s) / 8 = p 78 by simpa using g2)
        obtain ⟨L, HL⟩ : ∃ L, Hid (allL p = L) := ⟨_, Lib.hid rfl⟩
        obtain ⟨Q0, HQ0⟩ : ∃ Q0, Hid (upd p (1 + s) 0 = Q0) := ⟨_, Lib.hid rfl⟩
        obtain ⟨L2, HL2⟩ : ∃ L2, Hid (allL Q0 = L2) := ⟨_, Lib.hid rfl⟩
        have HF2 := Lib.hid (show PsR Q0 by rw [← HQ0.out]; exact psr_upd HF.out hs ⟨by decide, by decide⟩)
        have HM := Lib.hid (show ∀ (i : Nat) (m : Pm), L[i]? = some m → OwnM p m by rw [← HL.out]; exact fun i m h => all_own HF.out hL (List.mem_of_getElem? h))
        have HI := Lib.hid (show ∀ (i : Nat) (m : Pm), L[i]? = some m → m.f ≠ (s : Int) → m ∈ L2 by rw [← HL.out, ← HL2.out, ← HQ0.out]; exact fun i m h e => less_all hL HF.out.turn.1 HS.out HC.out (List.mem_of_getElem? h) e)
        have HV := Lib.hid (show ∀ (i : Nat) (m : Pm), L[i]? = some m → FitV (pmM m) by rw [← HL.out]; exact fun i m h => fit_all (List.mem_of_getElem? h))
        have HV2 := Lib.hid (show ∀ (i : Nat) (m : Pm), L2[i]? = some m → FitV (pmM m) by rw [← HL2.out]; exact fun i m h => fit_all (List.mem_of_getElem? h))
        have HZ := Lib.hid (show L.length ≤ 262144 by rw [← HL.out]; exact all_len p)
        have HZ2 := Lib.hid (show L2.length ≤ 262144 by rw [← HL2.out]; exact all_len _)
        clear hL
        go_enter Tryd.func6, Tryd.ntmps6
        go_wp2_with (first
          | (guard_target = Go.wpList _ _ _ ((⟨some 2, .box _ _, _, _, _, _⟩ : Go.Oper) :: _) _ _; refine step_box rfl _ rfl p rfl ?_; intro b2 w1 N R; have HG2 := Lib.hid (show w.heap.size ≤ b2 by have := HB.out.size; have := N.at_; omega); have HB := Lib.hid (below_on HB.out N.below); have HR2 := Lib.hid R; clear N R))
        refine late_begin 20 (by kernel_rfl) ?_
        refine ltk 0 (by kernel_rfl) (fun _ _ d _ _ h => by cases d <;> exact h) (fun o ho => ?_)
        simp only [qa, qb, qc, qd] at ho; subst ho
        refine ⟨.agg (posA p), Or.inl ⟨by kernel_rfl, fun w' hl => Or.inl (run_posP _ rfl b2 rfl p (HR2.out.later hl))⟩, ?_⟩
        simp only [Act.put, pa, pb, pc]
        refine late_one 1 (by kernel_rfl) (by kernel_rfl) (fun o ho => ?_)
        simp only [qa, qb, qc, qd] at ho; subst ho
        refine ⟨by kernel_rfl, fun wn hl K hK => ?_⟩
        have HR2 := Lib.hid (HR2.out.later hl); have HB := Lib.hid (below_on HB.out hl); clear hl
        refine wp_enter _ _ (by go_simp; exact ⟨rfl, rfl⟩) ?_
        refine (lawK HQ.out _ HF.out).mono ?_; rintro e wm ⟨rfl, hb⟩; refine ⟨_, rfl, ?_⟩
        refine hK.out _ _ hb ?_
        have HR2 := Lib.hid (HR2.out.later hb); have HB := Lib.hid (below_on HB.out hb); clear hb
        clear hK K
        simp only [Act.put, pa, pb, pc]
        refine ltk 2 (by kernel_rfl) (fun _ _ d _ _ h => by cases d <;> exact h) (fun o ho => ?_)
        simp only [qa, qb, qc, qd] at ho; subst ho
        apply Exists.intro
        refine ⟨Or.inl ⟨by kernel_rfl, fun w' hl => Or.inl ?_⟩, ?_⟩
        · (go_simp; try with_reducible rfl)
        simp only [Act.put, pa, pb, pc]
        refine ltk 3 (by kernel_rfl) (fun _ _ d _ _ h => by cases d <;> exact h) (fun o ho => ?_)
        simp only [qa, qb, qc, qd] at ho; subst ho
        apply Exists.intro
        refine ⟨Or.inl ⟨by kernel_rfl, fun w' hl => Or.inl ?_⟩, ?_⟩
        · (go_simp; try with_reducible rfl)
        simp only [Act.put, pa, pb, pc]
        refine ltk 4 (by kernel_rfl) (fun _ _ d _ _ h => by cases d <;> exact h) (fun o ho => ?_)
        simp only [qa, qb, qc, qd] at ho; subst ho
        apply Exists.intro
        refine ⟨Or.inl ⟨by kernel_rfl, fun w' hl => Or.inl ?_⟩, ?_⟩
        · (go_simp; try with_reducible rfl)
        simp only [Act.put, pa, pb, pc]
        refine ltk 5 (by kernel_rfl) (fun _ _ d _ _ h => by cases d <;> exact h) (fun o ho => ?_)
        simp only [qa, qb, qc, qd] at ho; subst ho
        apply Exists.intro
        refine ⟨Or.inl ⟨by kernel_rfl, fun w' hl => Or.inl ?_⟩, ?_⟩
        · (go_simp; try with_reducible rfl)
        simp only [Act.put, pa, pb, pc]
        refine ltk 6 (by kernel_rfl) (fun _ _ d _ _ h => by cases d <;> exact h) (fun o ho => ?_)
        simp only [qa, qb, qc, qd] at ho; subst ho
        refine ⟨.pointer (some ⟨b2, 1 + s, none⟩), Or.inl ⟨by kernel_rfl, fun w' hl => Or.inl ?_⟩, ?_⟩
        · (go_simp <;> (intro hbad; omega))
        simp only [Act.put, pa, pb, pc]
        refine ltk 7 (by kernel_rfl) (fun _ _ d _ _ h => by cases d <;> exact h) (fun o ho => ?_)
        simp only [qa, qb, qc, qd] at ho; subst ho
        refine ⟨.int .u8 (p (1 + s)), Or.inl ⟨by kernel_rfl, fun w' hl => Or.inl (run_get 5 _ rfl b2 (1 + s) rfl Tryd.underlying5 rfl (.int .u8 (p (1 + s))) (kAt_board (Nat.zero_le _) HS.out ▸ (HR2.out.later hl).cell (1 + s) (by omega)))⟩, ?_⟩
        simp only [Act.put, pa, pb, pc]
        refine ltk 8 (by kernel_rfl) (fun _ _ d _ _ h => by cases d <;> exact h) (fun o ho => ?_)
        simp only [qa, qb, qc, qd] at ho; subst ho
        apply Exists.intro
        refine ⟨Or.inl ⟨by kernel_rfl, fun w' hl => Or.inl ?_⟩, ?_⟩
        · (go_simp; try with_reducible rfl)
        simp only [Act.put, pa, pb, pc]
        refine ltk 9 (by kernel_rfl) (fun _ _ d _ _ h => by cases d <;> exact h) (fun o ho => ?_)
        simp only [qa, qb, qc, qd] at ho; subst ho
        apply Exists.intro
        refine ⟨Or.inl ⟨by kernel_rfl, fun w' hl => Or.inl ?_⟩, ?_⟩
        · (go_simp; try with_reducible rfl)
        simp only [Act.put, pa, pb, pc]
        refine ltk 10 (by kernel_rfl) (fun _ _ d _ _ h => by cases d <;> exact h) (fun o ho => ?_)
        simp only [qa, qb, qc, qd] at ho; subst ho
        apply Exists.intro
        refine ⟨Or.inl ⟨by kernel_rfl, fun w' hl => Or.inl ?_⟩, ?_⟩
        · (go_simp; try with_reducible rfl)
        simp only [Act.put, pa, pb, pc]
        refine ltk 11 (by kernel_rfl) (fun _ _ d _ _ h => by cases d <;> exact h) (fun o ho => ?_)
        simp only [qa, qb, qc, qd] at ho; subst ho
        apply Exists.intro
        refine ⟨Or.inl ⟨by kernel_rfl, fun w' hl => Or.inl ?_⟩, ?_⟩
        · (go_simp; try with_reducible rfl)
        simp only [Act.put, pa, pb, pc]
        refine ltk 12 (by kernel_rfl) (fun _ _ d _ _ h => by cases d <;> exact h) (fun o ho => ?_)
        simp only [qa, qb, qc, qd] at ho; subst ho
        apply Exists.intro
        refine ⟨Or.inl ⟨by kernel_rfl, fun w' hl => Or.inl ?_⟩, ?_⟩
        · (go_simp; try with_reducible rfl)
        simp only [Act.put, pa, pb, pc]
        refine ltk 13 (by kernel_rfl) (fun _ _ d _ _ h => by cases d <;> exact h) (fun o ho => ?_)
        simp only [qa, qb, qc, qd] at ho; subst ho
        refine ⟨.pointer (some ⟨b2, 1 + s, none⟩), Or.inl ⟨by kernel_rfl, fun w' hl => Or.inl ?_⟩, ?_⟩
        · (go_simp <;> (intro hbad; omega))
        simp only [Act.put, pa, pb, pc]
        refine ltk 14 (by kernel_rfl) (fun _ _ d _ _ h => by cases d <;> exact h) (fun o ho => ?_)
        simp only [qa, qb, qc, qd] at ho; subst ho
        refine ⟨.int .u8 (p (1 + s)), Or.inl ⟨by kernel_rfl, fun w' hl => Or.inl (run_get 5 _ rfl b2 (1 + s) rfl Tryd.underlying5 rfl (.int .u8 (p (1 + s))) (kAt_board (Nat.zero_le _) HS.out ▸ (HR2.out.later hl).cell (1 + s) (by omega)))⟩, ?_⟩
        simp only [Act.put, pa, pb, pc]
        refine ltk 15 (by kernel_rfl) (fun _ _ d _ _ h => by cases d <;> exact h) (fun o ho => ?_)
        simp only [qa, qb, qc, qd] at ho; subst ho
        refine ⟨.int .u8 (p (1 + s) / 8), Or.inl ⟨by kernel_rfl, fun w' hl => Or.inl ?_⟩, ?_⟩
        · (go_simp <;> rw [ed])
        simp only [Act.put, pa, pb, pc]
        refine ltk 16 (by kernel_rfl) (fun _ _ d _ _ h => by cases d <;> exact h) (fun o ho => ?_)
        simp only [qa, qb, qc, qd] at ho; subst ho
        apply Exists.intro
        refine ⟨Or.inl ⟨by kernel_rfl, fun w' hl => Or.inl ?_⟩, ?_⟩
        · (go_simp; try with_reducible rfl)
        simp only [Act.put, pa, pb, pc]
        refine ltk 17 (by kernel_rfl) (fun _ _ d _ _ h => by cases d <;> exact h) (fun o ho => ?_)
        simp only [qa, qb, qc, qd] at ho; subst ho
        refine ⟨.int .u8 (p 78), Or.inl ⟨by kernel_rfl, fun w' hl => Or.inl (run_get 5 _ rfl b2 78 rfl Tryd.underlying5 rfl (.int .u8 (p 78)) ((HR2.out.later hl).cell 78 (by decide)))⟩, ?_⟩
        simp only [Act.put, pa, pb, pc]
        refine ltk 18 (by kernel_rfl) (fun _ _ d _ _ h => by cases d <;> exact h) (fun o ho => ?_)
        simp only [qa, qb, qc, qd] at ho; subst ho
        apply Exists.intro
        refine ⟨Or.inl ⟨by kernel_rfl, fun w' hl => Or.inl ?_⟩, ?_⟩
        · (go_simp; try with_reducible rfl)
        simp only [Act.put, pa, pb, pc]
        refine ltk 19 (by kernel_rfl) (fun _ _ d _ _ h => by cases d <;> exact h) (fun o ho => ?_)
        simp only [qa, qb, qc, qd] at ho; subst ho
        apply Exists.intro
        refine ⟨Or.inl ⟨by kernel_rfl, fun w' hl => Or.inl ?_⟩, ?_⟩
        · (go_simp; try with_reducible rfl)
        simp only [Act.put, pa, pb, pc]
        refine late_end (by kernel_rfl) (fun wn hl => ?_)
        have HR2 := Lib.hid (HR2.out.later hl); have HB := Lib.hid (below_on HB.out hl); clear hl
        go_wp2_with (first
          | (guard_target = Go.wpList _ _ _ ((⟨some 5, .alloc _, _, _, _, _⟩ : Go.Oper) :: _) _ _; refine step_alloc (op := ⟨some 5, _, _, _, _, _⟩) rfl rfl ?_; intro b5 wn N R; have HG5 := Lib.hid (show w.heap.size ≤ b5 by have := HB.out.size; have := N.at_; omega); have HYHR2 := Lib.hid (show b2 ≠ b5 from Nat.ne_of_lt (by have h1 := HR2.out.lt; have := N.at_; omega)); have HR2 := Lib.hid (HR2.out.later N.below); have HR5 := Lib.hid R; have HB := Lib.hid (below_on HB.out N.below); clear N R)
          | (guard_target = Go.wpList _ _ _ ((⟨some _, .load _ (.tmp 2), _, _, _, _⟩ : Go.Oper) :: _) _ _; refine step_load rfl _ rfl b2 rfl p HR2.out ?_)
          | (guard_target = Go.wpList _ _ _ ((⟨none, .store _ (.tmp 5) _, _, _, _, _⟩ : Go.Oper) :: _) _ _; refine step_store (op := ⟨none, .store _ (.tmp 5) _, _, _, _, _⟩) rfl _ _ rfl b5 rfl zeroP p rfl HR5.out ?_; intro wn U R; have HR2 := Lib.hid (HR2.out.apart U HYHR2.out); have HR5 := Lib.hid R; have HB := Lib.hid (HB.out.trans (U.below HG5.out)); clear U R)
          | (guard_target = Go.wpList _ _ _ ((⟨none, .store _ (.tmp 39) _, _, _, _, _⟩ : Go.Oper) :: _) _ _; refine step_cell (op := ⟨none, .store _ (.tmp 39) _, _, _, _, _⟩) rfl 5 _ _ rfl b5 (1 + s) rfl .u8 0 rfl _ HR5.out (by omega) (kAt_board (Nat.zero_le _) hs) size5 ?_; intro wn U R; rw [HQ0.out] at R; have HR2 := Lib.hid (HR2.out.apart U HYHR2.out); have HR5 := Lib.hid R; have HB := Lib.hid (HB.out.trans (U.below HG5.out)); clear U R))
        refine late_begin 6 (by kernel_rfl) ?_
        refine ltk 0 (by kernel_rfl) (fun _ _ d _ _ h => by cases d <;> exact h) (fun o ho => ?_)
        simp only [qa, qb, qc, qd] at ho; subst ho
        refine ⟨.agg (posA p), Or.inl ⟨by kernel_rfl, fun w' hl => Or.inl (run_posP _ rfl b2 rfl p (HR2.out.later hl))⟩, ?_⟩
        simp only [Act.put, pa, pb, pc]
        refine ltk 2 (by kernel_rfl) (fun _ _ d _ _ h => by cases d <;> exact h) (fun o ho => ?_)
        simp only [qa, qb, qc, qd] at ho; subst ho
        refine ⟨.agg (posA Q0), Or.inl ⟨by kernel_rfl, fun w' hl => Or.inl (run_posP _ rfl b5 rfl Q0 (HR5.out.later hl))⟩, ?_⟩
        simp only [Act.put, pa, pb, pc]
        refine late_one 1 (by kernel_rfl) (by kernel_rfl) (fun o ho => ?_)
        simp only [qa, qb, qc, qd] at ho; subst ho
        refine ⟨by kernel_rfl, fun wn hl K hK => ?_⟩
        have HR2 := Lib.hid (HR2.out.later hl); have HR5 := Lib.hid (HR5.out.later hl); have HB := Lib.hid (below_on HB.out hl); clear hl
        refine wp_enter _ _ (by go_simp; exact ⟨rfl, rfl⟩) ?_
        refine (list_ps p _ HF.out (HT.out.on HB.out)).mono ?_; rintro e wm ⟨v, rfl, hv, hb⟩; refine ⟨_, rfl, ?_⟩
        rw [HL.out] at hv; obtain ⟨a6, c6, rfl, hE⟩ := pms_of hv; have HEn := Lib.hid hE; clear hv hE
        refine hK.out _ _ hb ?_
        have HR2 := Lib.hid (HR2.out.later hb); have HR5 := Lib.hid (HR5.out.later hb); have HB := Lib.hid (below_on HB.out hb); clear hb
        have HE := HEn; clear HEn
        clear hK K
        simp only [Act.put, pa, pb, pc]
        refine late_one 3 (by kernel_rfl) (by kernel_rfl) (fun o ho => ?_)
        simp only [qa, qb, qc, qd] at ho; subst ho
        refine ⟨by kernel_rfl, fun wn hl K hK => ?_⟩
        have HR2 := Lib.hid (HR2.out.later hl); have HR5 := Lib.hid (HR5.out.later hl); have HE := Lib.hid (HE.out.later hl); have HB := Lib.hid (below_on HB.out hl); clear hl
        refine wp_enter _ _ (by go_simp; exact ⟨rfl, rfl⟩) ?_
        refine (list_ps Q0 _ HF2.out (HT.out.on HB.out)).mono ?_; rintro e wm ⟨v, rfl, hv, hb⟩; refine ⟨_, rfl, ?_⟩
        rw [HL2.out] at hv; obtain ⟨a7, c7, rfl, hE⟩ := pms_of hv; have HE2n := Lib.hid hE; clear hv hE
        refine hK.out _ _ hb ?_
        have HR2 := Lib.hid (HR2.out.later hb); have HR5 := Lib.hid (HR5.out.later hb); have HE := Lib.hid (HE.out.later hb); have HB := Lib.hid (below_on HB.out hb); clear hb
        have HE2 := HE2n; clear HE2n
        clear hK K
        simp only [Act.put, pa, pb, pc]
        refine ltk 4 (by kernel_rfl) (fun _ _ d _ _ h => by cases d <;> exact h) (fun o ho => ?_)
        simp only [qa, qb, qc, qd] at ho; subst ho
        apply Exists.intro
        refine ⟨Or.inl ⟨by kernel_rfl, fun w' hl => Or.inl ?_⟩, ?_⟩
        · (go_simp; try with_reducible rfl)
        simp only [Act.put, pa, pb, pc]
        refine ltk 5 (by kernel_rfl) (fun _ _ d _ _ h => by cases d <;> exact h) (fun o ho => ?_)
        simp only [qa, qb, qc, qd] at ho; subst ho
        apply Exists.intro
        refine ⟨Or.inl ⟨by kernel_rfl, fun w' hl => Or.inl ?_⟩, ?_⟩
        · (go_simp; try with_reducible rfl)
        simp only [Act.put, pa, pb, pc]
        refine late_end (by kernel_rfl) (fun wn hl => ?_)
        have HR2 := Lib.hid (HR2.out.later hl); have HR5 := Lib.hid (HR5.out.later hl); have HE := Lib.hid (HE.out.later hl); have HE2 := Lib.hid (HE2.out.later hl); have HB := Lib.hid (below_on HB.out hl); clear hl
        clear HR2 HR5 g1 g2
        go_wp2_with fail
        go_loopw [8] (fun i wr => ∃ k : Nat, k ≤ L.length ∧ i = .int .i64 (k : Int) ∧ Pms L a6 wr ∧ Pms L2 a7 wr ∧ Below w.heap.size w wr) (fun i _ => L.length - (intOf i).toNat)
        case atStart => exact ⟨0, by omega, rfl, HE.out, HE2.out, HB.out⟩
        case round =>
          clear HE HE2 HB
          obtain ⟨k, hk, rfl, he, he2, hb⟩ := hrel
          have HE := Lib.hid he
          have HE2 := Lib.hid he2
          have HB := Lib.hid hb
          clear he he2 hb
          by_cases hlt : k < L.length
          · obtain ⟨m, hm⟩ : ∃ m, L[k]? = some m := ⟨_, List.getElem?_eq_getElem hlt⟩
            obtain ⟨g6, rfl, _⟩ := HE.out.at hm
            have HX := Lib.hid hm
            obtain ⟨⟨a, ha, hf, hx0, hxc, hpk⟩, ht, hto⟩ := HM.out k m hm
            have HIm := Lib.hid (HI.out k m hm)
            have HVT := Lib.hid (HV.out k m hm)
            obtain ⟨f, t, q⟩ := m
            obtain rfl : f = (a : Int) := hf
            have hw0 : (k : Int) < 262144 := by have := HZ.out; omega
            have hw2 : (k : Int) + 1 ≤ 262144 := by omega
            clear hm hx0 hxc hpk hto ht
            by_cases e : a = s
            · have g3 : ((a : Int) == (s : Int)) = true := beq_iff_eq.2 (by omega)
              have g3' : (a == s) = true := beq_iff_eq.2 e
              clear e
              go_wp2_with (first
                | (guard_target = Go.wpList _ _ _ ((⟨some 54, .load _ (.tmp 53), _, _, _, _⟩ : Go.Oper) :: _) _ _; refine step_get rfl 26 _ rfl g6 (k * 5) rfl Tryd.underlying26 rfl (.int .i8 (a : Int)) ?_ ?_; exact (Pms.cell HE.out HX.out 0 _ (by decide) (by omega)).trans rfl))
              go_roundw
              case rel => exact ⟨k + 1, by omega, by go_num, HE.out, HE2.out, HB.out⟩
              case measure => simp [intOf]; omega
            · have HI2 := Lib.hid (show (⟨(a : Int), t, q⟩ : Pm) ∈ L2 from HIm.out (by show (a : Int) ≠ (s : Int); omega))
              have g3 : ((a : Int) == (s : Int)) = false := beq_eq_false_iff_ne.2 (by omega)
              have g3' : (a == s) = false := beq_eq_false_iff_ne.2 e
              obtain ⟨fn, HFn⟩ : ∃ fn : Pm → Bool, Hid (∀ x, fn x = mvE (pmM x) (pmM ⟨(a : Int), t, q⟩)) := ⟨_, Lib.hid fun _ => rfl⟩
              have HS2 := Lib.hid (show (L2.take L2.length).any fn = true from any_len HI2.out (by rw [HFn.out]; exact mvE_true.2 rfl))
              clear e HIm
              go_wp2_with (first
                | (guard_target = Go.wpList _ _ _ ((⟨some 54, .load _ (.tmp 53), _, _, _, _⟩ : Go.Oper) :: _) _ _; refine step_get rfl 26 _ rfl g6 (k * 5) rfl Tryd.underlying26 rfl (.int .i8 (a : Int)) ?_ ?_; exact (Pms.cell HE.out HX.out 0 _ (by decide) (by omega)).trans rfl))
              obtain ⟨i0, hi0⟩ := List.getElem?_of_mem HI2.out
              obtain ⟨g7, rfl, _⟩ := HE2.out.at hi0
              clear hi0 g3 g3'
              go_loopw [9, 10] (fun bk i wr => ∃ j : Nat, j ≤ L2.length ∧ i = .int .i64 (j : Int) ∧ bk = .bool ((L2.take j).any fn) ∧ Pms L (some ⟨g6, 0, none⟩) wr ∧ Pms L2 (some ⟨g7, 0, none⟩) wr ∧ Below w.heap.size w wr) (fun _ i _ => L2.length - (intOf i).toNat)
              case atStart => exact ⟨0, by omega, rfl, rfl, HE.out, HE2.out, HB.out⟩
              case round =>
                clear HE HE2 HB
                obtain ⟨j, hj, rfl, rfl, he, he2, hb⟩ := hrel
                have HE := Lib.hid he
                have HE2 := Lib.hid he2
                have HB := Lib.hid hb
                clear he he2 hb
                by_cases hl2 : j < L2.length
                · obtain ⟨m4, hm4⟩ : ∃ m4, L2[j]? = some m4 := ⟨_, List.getElem?_eq_getElem hl2⟩
                  have HX4 := Lib.hid hm4
                  have HV4 := Lib.hid (HV2.out j m4 hm4)
                  have HN4 := Lib.hid (any_next (f := fn) hm4)
                  have HLt := Lib.hid hl2
                  obtain ⟨r, hr⟩ : ∃ r, fn m4 = r := ⟨_, rfl⟩
                  have HG4 := Lib.hid (show mvE (pmM m4) (pmM ⟨(a : Int), t, q⟩) = r by rw [← HFn.out]; exact hr)
                  have HR := Lib.hid hr
                  have hw1 : (j : Int) < 262144 := by have := HZ2.out; omega
                  clear hm4 hr
                  obtain ⟨bb, hbb⟩ : ∃ bb, (L2.take j).any fn = bb := ⟨_, rfl⟩
                  have HBB := Lib.hid hbb
                  rw [hbb]
                  clear hbb
                  cases bb
                  · go_wp2_with fail
                    refine late_begin 13 (by kernel_rfl) ?_
                    refine ltk 0 (by kernel_rfl) (fun _ _ d _ _ h => by cases d <;> exact h) (fun o ho => ?_)
                    simp only [qa, qb, qc, qd] at ho; subst ho
                    apply Exists.intro
                    refine ⟨Or.inl ⟨by kernel_rfl, fun w' hl => Or.inl ?_⟩, ?_⟩
                    · (go_simp; try with_reducible rfl)
                    simp only [Act.put, pa, pb, pc]
                    refine ltk 1 (by kernel_rfl) (fun _ _ d _ _ h => by cases d <;> exact h) (fun o ho => ?_)
                    simp only [qa, qb, qc, qd] at ho; subst ho
                    apply Exists.intro
                    refine ⟨Or.inl ⟨by kernel_rfl, fun w' hl => Or.inl ?_⟩, ?_⟩
                    · (go_simp; try with_reducible rfl)
                    simp only [Act.put, pa, pb, pc]
                    refine ltk 2 (by kernel_rfl) (fun _ _ d _ _ h => by cases d <;> exact h) (fun o ho => ?_)
                    simp only [qa, qb, qc, qd] at ho; subst ho
                    apply Exists.intro
                    refine ⟨Or.inl ⟨by kernel_rfl, fun w' hl => Or.inl ?_⟩, ?_⟩
                    · (go_simp; try with_reducible rfl)
                    simp only [Act.put, pa, pb, pc]
                    refine ltk 3 (by kernel_rfl) (fun _ _ d _ _ h => by cases d <;> exact h) (fun o ho => ?_)
                    simp only [qa, qb, qc, qd] at ho; subst ho
                    apply Exists.intro
                    refine ⟨Or.inl ⟨by kernel_rfl, fun w' hl => Or.inl ?_⟩, ?_⟩
                    · (go_simp; try with_reducible rfl)
                    simp only [Act.put, pa, pb, pc]
                    refine ltk 4 (by kernel_rfl) (fun _ _ d _ _ h => by cases d <;> exact h) (fun o ho => ?_)
                    simp only [qa, qb, qc, qd] at ho; subst ho
                    refine ⟨.pointer (some ⟨g7, j * 5, none⟩), Or.inl ⟨by kernel_rfl, fun w' hl => Or.inl ?_⟩, ?_⟩
                    · (go_simp <;> (intro hbad; omega))
                    simp only [Act.put, pa, pb, pc]
                    refine ltk 5 (by kernel_rfl) (fun _ _ d _ _ h => by cases d <;> exact h) (fun o ho => ?_)
                    simp only [qa, qb, qc, qd] at ho; subst ho
                    refine ⟨.agg (mvA (pmM m4)), Or.inl ⟨by kernel_rfl, fun w' hl => Or.inl (run_mvAt _ rfl g7 j _ rfl (by first | omega | (simp; omega)) m4 ((HE2.out.later hl).get HX4.out))⟩, ?_⟩
                    simp only [Act.put, pa, pb, pc]
                    refine ltk 6 (by kernel_rfl) (fun _ _ d _ _ h => by cases d <;> exact h) (fun o ho => ?_)
                    simp only [qa, qb, qc, qd] at ho; subst ho
                    apply Exists.intro
                    refine ⟨Or.inl ⟨by kernel_rfl, fun w' hl => Or.inl ?_⟩, ?_⟩
                    · (go_simp; try with_reducible rfl)
                    simp only [Act.put, pa, pb, pc]
                    refine ltk 7 (by kernel_rfl) (fun _ _ d _ _ h => by cases d <;> exact h) (fun o ho => ?_)
                    simp only [qa, qb, qc, qd] at ho; subst ho
                    apply Exists.intro
                    refine ⟨Or.inl ⟨by kernel_rfl, fun w' hl => Or.inl ?_⟩, ?_⟩
                    · (go_simp; try with_reducible rfl)
                    simp only [Act.put, pa, pb, pc]
                    refine ltk 8 (by kernel_rfl) (fun _ _ d _ _ h => by cases d <;> exact h) (fun o ho => ?_)
                    simp only [qa, qb, qc, qd] at ho; subst ho
                    refine ⟨.pointer (some ⟨g6, k * 5, none⟩), Or.inl ⟨by kernel_rfl, fun w' hl => Or.inl ?_⟩, ?_⟩
                    · (go_simp <;> (intro hbad; omega))
                    simp only [Act.put, pa, pb, pc]
                    refine ltk 9 (by kernel_rfl) (fun _ _ d _ _ h => by cases d <;> exact h) (fun o ho => ?_)
                    simp only [qa, qb, qc, qd] at ho; subst ho
                    refine ⟨.agg (mvA (pmM ⟨(a : Int), t, q⟩)), Or.inl ⟨by kernel_rfl, fun w' hl => Or.inl (run_mvAt _ rfl g6 k _ rfl (by first | omega | (simp; omega)) ⟨(a : Int), t, q⟩ ((HE.out.later hl).get HX.out))⟩, ?_⟩
                    simp only [Act.put, pa, pb, pc]
                    refine ltk 10 (by kernel_rfl) (fun _ _ d _ _ h => by cases d <;> exact h) (fun o ho => ?_)
                    simp only [qa, qb, qc, qd] at ho; subst ho
                    refine ⟨.bool r, Or.inl ⟨by kernel_rfl, fun w' hl => Or.inl (run_mvE _ _ rfl (pmM m4) (pmM ⟨(a : Int), t, q⟩) rfl rfl HV4.out HVT.out _ HG4.out)⟩, ?_⟩
                    simp only [Act.put, pa, pb, pc]
                    refine ltk 11 (by kernel_rfl) (fun _ _ d _ _ h => by cases d <;> exact h) (fun o ho => ?_)
                    simp only [qa, qb, qc, qd] at ho; subst ho
                    apply Exists.intro
                    refine ⟨Or.inl ⟨by kernel_rfl, fun w' hl => Or.inl ?_⟩, ?_⟩
                    · (go_simp; try with_reducible rfl)
                    simp only [Act.put, pa, pb, pc]
                    refine ltk 12 (by kernel_rfl) (fun _ _ d _ _ h => by cases d <;> exact h) (fun o ho => ?_)
                    simp only [qa, qb, qc, qd] at ho; subst ho
                    apply Exists.intro
                    refine ⟨Or.inl ⟨by kernel_rfl, fun w' hl => Or.inl ?_⟩, ?_⟩
                    · (go_simp; try with_reducible rfl)
                    simp only [Act.put, pa, pb, pc]
                    refine late_end (by kernel_rfl) (fun wn hl => ?_)
                    have HE := Lib.hid (HE.out.later hl); have HE2 := Lib.hid (HE2.out.later hl); have HB := Lib.hid (below_on HB.out hl); clear hl
                    go_wp2_with fail
                    go_roundw
                    case rel => exact ⟨j + 1, by have := HLt.out; omega, by go_num, by rw [HN4.out, HBB.out, HR.out]; rfl, HE.out, HE2.out, HB.out⟩
                    case measure => simp [intOf]; have := HLt.out; omega
                  · go_wp2_with fail
                    refine late_begin 13 (by kernel_rfl) ?_
                    refine ltk 0 (by kernel_rfl) (fun _ _ d _ _ h => by cases d <;> exact h) (fun o ho => ?_)
                    simp only [qa, qb, qc, qd] at ho; subst ho
                    apply Exists.intro
                    refine ⟨Or.inl ⟨by kernel_rfl, fun w' hl => Or.inl ?_⟩, ?_⟩
                    · (go_simp; try with_reducible rfl)
                    simp only [Act.put, pa, pb, pc]
                    refine ltk 1 (by kernel_rfl) (fun _ _ d _ _ h => by cases d <;> exact h) (fun o ho => ?_)
                    simp only [qa, qb, qc, qd] at ho; subst ho
                    apply Exists.intro
                    refine ⟨Or.inl ⟨by kernel_rfl, fun w' hl => Or.inl ?_⟩, ?_⟩
                    · (go_simp; try with_reducible rfl)
                    simp only [Act.put, pa, pb, pc]
                    refine ltk 2 (by kernel_rfl) (fun _ _ d _ _ h => by cases d <;> exact h) (fun o ho => ?_)
                    simp only [qa, qb, qc, qd] at ho; subst ho
                    refine ⟨_, Or.inr ⟨by kernel_rfl, rfl⟩, ?_⟩
                    simp only [Act.put, pa, pb, pc]
                    refine ltk 3 (by kernel_rfl) (fun _ _ d _ _ h => by cases d <;> exact h) (fun o ho => ?_)
                    simp only [qa, qb, qc, qd] at ho; subst ho
                    refine ⟨_, Or.inr ⟨by kernel_rfl, rfl⟩, ?_⟩
                    simp only [Act.put, pa, pb, pc]
                    refine ltk 4 (by kernel_rfl) (fun _ _ d _ _ h => by cases d <;> exact h) (fun o ho => ?_)
                    simp only [qa, qb, qc, qd] at ho; subst ho
                    refine ⟨_, Or.inr ⟨by kernel_rfl, rfl⟩, ?_⟩
                    simp only [Act.put, pa, pb, pc]
                    refine ltk 5 (by kernel_rfl) (fun _ _ d _ _ h => by cases d <;> exact h) (fun o ho => ?_)
                    simp only [qa, qb, qc, qd] at ho; subst ho
                    refine ⟨_, Or.inr ⟨by kernel_rfl, rfl⟩, ?_⟩
                    simp only [Act.put, pa, pb, pc]
                    refine ltk 6 (by kernel_rfl) (fun _ _ d _ _ h => by cases d <;> exact h) (fun o ho => ?_)
                    simp only [qa, qb, qc, qd] at ho; subst ho
                    refine ⟨_, Or.inr ⟨by kernel_rfl, rfl⟩, ?_⟩
                    simp only [Act.put, pa, pb, pc]
                    refine ltk 7 (by kernel_rfl) (fun _ _ d _ _ h => by cases d <;> exact h) (fun o ho => ?_)
                    simp only [qa, qb, qc, qd] at ho; subst ho
                    refine ⟨_, Or.inr ⟨by kernel_rfl, rfl⟩, ?_⟩
                    simp only [Act.put, pa, pb, pc]
                    refine ltk 8 (by kernel_rfl) (fun _ _ d _ _ h => by cases d <;> exact h) (fun o ho => ?_)
                    simp only [qa, qb, qc, qd] at ho; subst ho
                    refine ⟨_, Or.inr ⟨by kernel_rfl, rfl⟩, ?_⟩
                    simp only [Act.put, pa, pb, pc]
                    refine ltk 9 (by kernel_rfl) (fun _ _ d _ _ h => by cases d <;> exact h) (fun o ho => ?_)
                    simp only [qa, qb, qc, qd] at ho; subst ho
                    refine ⟨_, Or.inr ⟨by kernel_rfl, rfl⟩, ?_⟩
                    simp only [Act.put, pa, pb, pc]
                    refine ltk 10 (by kernel_rfl) (fun _ _ d _ _ h => by cases d <;> exact h) (fun o ho => ?_)
                    simp only [qa, qb, qc, qd] at ho; subst ho
                    refine ⟨_, Or.inr ⟨by kernel_rfl, rfl⟩, ?_⟩
                    simp only [Act.put, pa, pb, pc]
                    refine ltk 11 (by kernel_rfl) (fun _ _ d _ _ h => by cases d <;> exact h) (fun o ho => ?_)
                    simp only [qa, qb, qc, qd] at ho; subst ho
                    apply Exists.intro
                    refine ⟨Or.inl ⟨by kernel_rfl, fun w' hl => Or.inl ?_⟩, ?_⟩
                    · (go_simp; try with_reducible rfl)
                    simp only [Act.put, pa, pb, pc]
                    refine ltk 12 (by kernel_rfl) (fun _ _ d _ _ h => by cases d <;> exact h) (fun o ho => ?_)
                    simp only [qa, qb, qc, qd] at ho; subst ho
                    apply Exists.intro
                    refine ⟨Or.inl ⟨by kernel_rfl, fun w' hl => Or.inl ?_⟩, ?_⟩
                    · (go_simp; try with_reducible rfl)
                    simp only [Act.put, pa, pb, pc]
                    refine late_end (by kernel_rfl) (fun wn hl => ?_)
                    have HE := Lib.hid (HE.out.later hl); have HE2 := Lib.hid (HE2.out.later hl); have HB := Lib.hid (below_on HB.out hl); clear hl
                    go_wp2_with fail
                    go_roundw
                    case rel => exact ⟨j + 1, by have := HLt.out; omega, by go_num, by rw [HN4.out, HBB.out]; rfl, HE.out, HE2.out, HB.out⟩
                    case measure => simp [intOf]; have := HLt.out; omega
                · obtain rfl : j = L2.length := by omega
                  rw [HS2.out]
                  go_wp2_with fail
                  go_roundw
                  case rel => exact ⟨k + 1, by omega, by go_num, HE.out, HE2.out, HB.out⟩
                  case measure => simp [intOf]; omega
          · obtain rfl : k = L.length := by omega
            go_wp2_with (first
      | (go_at_call 10; refine (ps_awake _ (HT.out.on HB.out) (HK.out.on HB.out)).mono ?_; rintro e w4 ⟨rfl, hb⟩; have HB := Lib.hid (below_on HB.out hb); clear hb))
            go_ret
            exact ⟨rfl, HB.out⟩
      · clear hL
        go_enter Tryd.func6, Tryd.ntmps6
        go_wp2_with (first
          | (guard_target = Go.wpList _ _ _ ((⟨some 2, .box _ _, _, _, _, _⟩ : Go.Oper) :: _) _ _; refine step_box rfl _ rfl p rfl ?_; intro b2 w1 N R; have HG2 := Lib.hid (show w.heap.size ≤ b2 by have := HB.out.size; have := N.at_; omega); have HB := Lib.hid (below_on HB.out N.below); have HR2 := Lib.hid R; clear N R))
        refine late_begin 20 (by kernel_rfl) ?_
        refine ltk 0 (by kernel_rfl) (fun _ _ d _ _ h => by cases d <;> exact h) (fun o ho => ?_)
        simp only [qa, qb, qc, qd] at ho; subst ho
        refine ⟨.agg (posA p), Or.inl ⟨by kernel_rfl, fun w' hl => Or.inl (run_posP _ rfl b2 rfl p (HR2.out.later hl))⟩, ?_⟩
        simp only [Act.put, pa, pb, pc]
        refine late_one 1 (by kernel_rfl) (by kernel_rfl) (fun o ho => ?_)
        simp only [qa, qb, qc, qd] at ho; subst ho
        refine ⟨by kernel_rfl, fun wn hl K hK => ?_⟩
        have HR2 := Lib.hid (HR2.out.later hl); have HB := Lib.hid (below_on HB.out hl); clear hl
        refine wp_enter _ _ (by go_simp; exact ⟨rfl, rfl⟩) ?_
        refine (lawK HQ.out _ HF.out).mono ?_; rintro e wm ⟨rfl, hb⟩; refine ⟨_, rfl, ?_⟩
        refine hK.out _ _ hb ?_
        have HR2 := Lib.hid (HR2.out.later hb); have HB := Lib.hid (below_on HB.out hb); clear hb
        clear hK K
        simp only [Act.put, pa, pb, pc]
        refine ltk 2 (by kernel_rfl) (fun _ _ d _ _ h => by cases d <;> exact h) (fun o ho => ?_)
        simp only [qa, qb, qc, qd] at ho; subst ho
        apply Exists.intro
        refine ⟨Or.inl ⟨by kernel_rfl, fun w' hl => Or.inl ?_⟩, ?_⟩
        · (go_simp; try with_reducible rfl)
        simp only [Act.put, pa, pb, pc]
        refine ltk 3 (by kernel_rfl) (fun _ _ d _ _ h => by cases d <;> exact h) (fun o ho => ?_)
        simp only [qa, qb, qc, qd] at ho; subst ho
        apply Exists.intro
        refine ⟨Or.inl ⟨by kernel_rfl, fun w' hl => Or.inl ?_⟩, ?_⟩
        · (go_simp; try with_reducible rfl)
        simp only [Act.put, pa, pb, pc]
        refine ltk 4 (by kernel_rfl) (fun _ _ d _ _ h => by cases d <;> exact h) (fun o ho => ?_)
        simp only [qa, qb, qc, qd] at ho; subst ho
        apply Exists.intro
        refine ⟨Or.inl ⟨by kernel_rfl, fun w' hl => Or.inl ?_⟩, ?_⟩
        · (go_simp; try with_reducible rfl)
        simp only [Act.put, pa, pb, pc]
        refine ltk 5 (by kernel_rfl) (fun _ _ d _ _ h => by cases d <;> exact h) (fun o ho => ?_)
        simp only [qa, qb, qc, qd] at ho; subst ho
        apply Exists.intro
        refine ⟨Or.inl ⟨by kernel_rfl, fun w' hl => Or.inl ?_⟩, ?_⟩
        · (go_simp; try with_reducible rfl)
        simp only [Act.put, pa, pb, pc]
        refine ltk 6 (by kernel_rfl) (fun _ _ d _ _ h => by cases d <;> exact h) (fun o ho => ?_)
        simp only [qa, qb, qc, qd] at ho; subst ho
        refine ⟨.pointer (some ⟨b2, 1 + s, none⟩), Or.inl ⟨by kernel_rfl, fun w' hl => Or.inl ?_⟩, ?_⟩
        · (go_simp <;> (intro hbad; omega))
        simp only [Act.put, pa, pb, pc]
        refine ltk 7 (by kernel_rfl) (fun _ _ d _ _ h => by cases d <;> exact h) (fun o ho => ?_)
        simp only [qa, qb, qc, qd] at ho; subst ho
        refine ⟨.int .u8 (p (1 + s)), Or.inl ⟨by kernel_rfl, fun w' hl => Or.inl (run_get 5 _ rfl b2 (1 + s) rfl Tryd.underlying5 rfl (.int .u8 (p (1 + s))) (kAt_board (Nat.zero_le _) HS.out ▸ (HR2.out.later hl).cell (1 + s) (by omega)))⟩, ?_⟩
        simp only [Act.put, pa, pb, pc]
        refine ltk 8 (by kernel_rfl) (fun _ _ d _ _ h => by cases d <;> exact h) (fun o ho => ?_)
        simp only [qa, qb, qc, qd] at ho; subst ho
        apply Exists.intro
        refine ⟨Or.inl ⟨by kernel_rfl, fun w' hl => Or.inl ?_⟩, ?_⟩
        · (go_simp; try with_reducible rfl)
        simp only [Act.put, pa, pb, pc]
        refine ltk 9 (by kernel_rfl) (fun _ _ d _ _ h => by cases d <;> exact h) (fun o ho => ?_)
        simp only [qa, qb, qc, qd] at ho; subst ho
        apply Exists.intro
        refine ⟨Or.inl ⟨by kernel_rfl, fun w' hl => Or.inl ?_⟩, ?_⟩
        · (go_simp; try with_reducible rfl)
        simp only [Act.put, pa, pb, pc]
        refine ltk 10 (by kernel_rfl) (fun _ _ d _ _ h => by cases d <;> exact h) (fun o ho => ?_)
        simp only [qa, qb, qc, qd] at ho; subst ho
        apply Exists.intro
        refine ⟨Or.inl ⟨by kernel_rfl, fun w' hl => Or.inl ?_⟩, ?_⟩
        · (go_simp; try with_reducible rfl)
        simp only [Act.put, pa, pb, pc]
        refine ltk 11 (by kernel_rfl) (fun _ _ d _ _ h => by cases d <;> exact h) (fun o ho => ?_)
        simp only [qa, qb, qc, qd] at ho; subst ho
        apply Exists.intro
        refine ⟨Or.inl ⟨by kernel_rfl, fun w' hl => Or.inl ?_⟩, ?_⟩
        · (go_simp; try with_reducible rfl)
        simp only [Act.put, pa, pb, pc]
        refine ltk 12 (by kernel_rfl) (fun _ _ d _ _ h => by cases d <;> exact h) (fun o ho => ?_)
        simp only [qa, qb, qc, qd] at ho; subst ho
        apply Exists.intro
        refine ⟨Or.inl ⟨by kernel_rfl, fun w' hl => Or.inl ?_⟩, ?_⟩
        · (go_simp; try with_reducible rfl)
        simp only [Act.put, pa, pb, pc]
        refine ltk 13 (by kernel_rfl) (fun _ _ d _ _ h => by cases d <;> exact h) (fun o ho => ?_)
        simp only [qa, qb, qc, qd] at ho; subst ho
        refine ⟨.pointer (some ⟨b2, 1 + s, none⟩), Or.inl ⟨by kernel_rfl, fun w' hl => Or.inl ?_⟩, ?_⟩
        · (go_simp <;> (intro hbad; omega))
        simp only [Act.put, pa, pb, pc]
        refine ltk 14 (by kernel_rfl) (fun _ _ d _ _ h => by cases d <;> exact h) (fun o ho => ?_)
        simp only [qa, qb, qc, qd] at ho; subst ho
        refine ⟨.int .u8 (p (1 + s)), Or.inl ⟨by kernel_rfl, fun w' hl => Or.inl (run_get 5 _ rfl b2 (1 + s) rfl Tryd.underlying5 rfl (.int .u8 (p (1 + s))) (kAt_board (Nat.zero_le _) HS.out ▸ (HR2.out.later hl).cell (1 + s) (by omega)))⟩, ?_⟩
        simp only [Act.put, pa, pb, pc]
        refine ltk 15 (by kernel_rfl) (fun _ _ d _ _ h => by cases d <;> exact h) (fun o ho => ?_)
        simp only [qa, qb, qc, qd] at ho; subst ho
        refine ⟨.int .u8 (p (1 + s) / 8), Or.inl ⟨by kernel_rfl, fun w' hl => Or.inl ?_⟩, ?_⟩
        · (go_simp <;> rw [ed])
        simp only [Act.put, pa, pb, pc]
        refine ltk 16 (by kernel_rfl) (fun _ _ d _ _ h => by cases d <;> exact h) (fun o ho => ?_)
        simp only [qa, qb, qc, qd] at ho; subst ho
        apply Exists.intro
        refine ⟨Or.inl ⟨by kernel_rfl, fun w' hl => Or.inl ?_⟩, ?_⟩
        · (go_simp; try with_reducible rfl)
        simp only [Act.put, pa, pb, pc]
        refine ltk 17 (by kernel_rfl) (fun _ _ d _ _ h => by cases d <;> exact h) (fun o ho => ?_)
        simp only [qa, qb, qc, qd] at ho; subst ho
        refine ⟨.int .u8 (p 78), Or.inl ⟨by kernel_rfl, fun w' hl => Or.inl (run_get 5 _ rfl b2 78 rfl Tryd.underlying5 rfl (.int .u8 (p 78)) ((HR2.out.later hl).cell 78 (by decide)))⟩, ?_⟩
        simp only [Act.put, pa, pb, pc]
        refine ltk 18 (by kernel_rfl) (fun _ _ d _ _ h => by cases d <;> exact h) (fun o ho => ?_)
        simp only [qa, qb, qc, qd] at ho; subst ho
        apply Exists.intro
        refine ⟨Or.inl ⟨by kernel_rfl, fun w' hl => Or.inl ?_⟩, ?_⟩
        · (go_simp; try with_reducible rfl)
        simp only [Act.put, pa, pb, pc]
        refine ltk 19 (by kernel_rfl) (fun _ _ d _ _ h => by cases d <;> exact h) (fun o ho => ?_)
        simp only [qa, qb, qc, qd] at ho; subst ho
        apply Exists.intro
        refine ⟨Or.inl ⟨by kernel_rfl, fun w' hl => Or.inl ?_⟩, ?_⟩
        · (go_simp; try with_reducible rfl)
        simp only [Act.put, pa, pb, pc]
        refine late_end (by kernel_rfl) (fun wn hl => ?_)
        have HR2 := Lib.hid (HR2.out.later hl); have HB := Lib.hid (below_on HB.out hl); clear hl
        go_wp2_with (first
      | (go_at_call 10; refine (ps_awake _ (HT.out.on HB.out) (HK.out.on HB.out)).mono ?_; rintro e w4 ⟨rfl, hb⟩; have HB := Lib.hid (below_on HB.out hb); clear hb))
        go_ret
        exact ⟨rfl, HB.out⟩
    · clear hL
      go_enter Tryd.func6, Tryd.ntmps6
      go_wp2_with (first
        | (guard_target = Go.wpList _ _ _ ((⟨some 2, .box _ _, _, _, _, _⟩ : Go.Oper) :: _) _ _; refine step_box rfl _ rfl p rfl ?_; intro b2 w1 N R; have HG2 := Lib.hid (show w.heap.size ≤ b2 by have := HB.out.size; have := N.at_; omega); have HB := Lib.hid (below_on HB.out N.below); have HR2 := Lib.hid R; clear N R))
      refine late_begin 20 (by kernel_rfl) ?_
      refine ltk 0 (by kernel_rfl) (fun _ _ d _ _ h => by cases d <;> exact h) (fun o ho => ?_)
      simp only [qa, qb, qc, qd] at ho; subst ho
      refine ⟨.agg (posA p), Or.inl ⟨by kernel_rfl, fun w' hl => Or.inl (run_posP _ rfl b2 rfl p (HR2.out.later hl))⟩, ?_⟩
      simp only [Act.put, pa, pb, pc]
      refine late_one 1 (by kernel_rfl) (by kernel_rfl) (fun o ho => ?_)
      simp only [qa, qb, qc, qd] at ho; subst ho
      refine ⟨by kernel_rfl, fun wn hl K hK => ?_⟩
      have HR2 := Lib.hid (HR2.out.later hl); have HB := Lib.hid (below_on HB.out hl); clear hl
      refine wp_enter _ _ (by go_simp; exact ⟨rfl, rfl⟩) ?_
      refine (lawK HQ.out _ HF.out).mono ?_; rintro e wm ⟨rfl, hb⟩; refine ⟨_, rfl, ?_⟩
      refine hK.out _ _ hb ?_
      have HR2 := Lib.hid (HR2.out.later hb); have HB := Lib.hid (below_on HB.out hb); clear hb
      clear hK K
      simp only [Act.put, pa, pb, pc]
      refine ltk 2 (by kernel_rfl) (fun _ _ d _ _ h => by cases d <;> exact h) (fun o ho => ?_)
      simp only [qa, qb, qc, qd] at ho; subst ho
      apply Exists.intro
      refine ⟨Or.inl ⟨by kernel_rfl, fun w' hl => Or.inl ?_⟩, ?_⟩
      · (go_simp; try with_reducible rfl)
      simp only [Act.put, pa, pb, pc]
      refine ltk 3 (by kernel_rfl) (fun _ _ d _ _ h => by cases d <;> exact h) (fun o ho => ?_)
      simp only [qa, qb, qc, qd] at ho; subst ho
      apply Exists.intro
      refine ⟨Or.inl ⟨by kernel_rfl, fun w' hl => Or.inl ?_⟩, ?_⟩
      · (go_simp; try with_reducible rfl)
      simp only [Act.put, pa, pb, pc]
      refine ltk 4 (by kernel_rfl) (fun _ _ d _ _ h => by cases d <;> exact h) (fun o ho => ?_)
      simp only [qa, qb, qc, qd] at ho; subst ho
      apply Exists.intro
      refine ⟨Or.inl ⟨by kernel_rfl, fun w' hl => Or.inl ?_⟩, ?_⟩
      · (go_simp; try with_reducible rfl)
      simp only [Act.put, pa, pb, pc]
      refine ltk 5 (by kernel_rfl) (fun _ _ d _ _ h => by cases d <;> exact h) (fun o ho => ?_)
      simp only [qa, qb, qc, qd] at ho; subst ho
      apply Exists.intro
      refine ⟨Or.inl ⟨by kernel_rfl, fun w' hl => Or.inl ?_⟩, ?_⟩
      · (go_simp; try with_reducible rfl)
      simp only [Act.put, pa, pb, pc]
      refine ltk 6 (by kernel_rfl) (fun _ _ d _ _ h => by cases d <;> exact h) (fun o ho => ?_)
      simp only [qa, qb, qc, qd] at ho; subst ho
      refine ⟨.pointer (some ⟨b2, 1 + s, none⟩), Or.inl ⟨by kernel_rfl, fun w' hl => Or.inl ?_⟩, ?_⟩
      · (go_simp <;> (intro hbad; omega))
      simp only [Act.put, pa, pb, pc]
      refine ltk 7 (by kernel_rfl) (fun _ _ d _ _ h => by cases d <;> exact h) (fun o ho => ?_)
      simp only [qa, qb, qc, qd] at ho; subst ho
      refine ⟨.int .u8 (p (1 + s)), Or.inl ⟨by kernel_rfl, fun w' hl => Or.inl (run_get 5 _ rfl b2 (1 + s) rfl Tryd.underlying5 rfl (.int .u8 (p (1 + s))) (kAt_board (Nat.zero_le _) HS.out ▸ (HR2.out.later hl).cell (1 + s) (by omega)))⟩, ?_⟩
      simp only [Act.put, pa, pb, pc]
      refine ltk 8 (by kernel_rfl) (fun _ _ d _ _ h => by cases d <;> exact h) (fun o ho => ?_)
      simp only [qa, qb, qc, qd] at ho; subst ho
      apply Exists.intro
      refine ⟨Or.inl ⟨by kernel_rfl, fun w' hl => Or.inl ?_⟩, ?_⟩
      · (go_simp; try with_reducible rfl)
      simp only [Act.put, pa, pb, pc]
      refine ltk 9 (by kernel_rfl) (fun _ _ d _ _ h => by cases d <;> exact h) (fun o ho => ?_)
      simp only [qa, qb, qc, qd] at ho; subst ho
      apply Exists.intro
      refine ⟨Or.inl ⟨by kernel_rfl, fun w' hl => Or.inl ?_⟩, ?_⟩
      · (go_simp; try with_reducible rfl)
      simp only [Act.put, pa, pb, pc]
      refine ltk 10 (by kernel_rfl) (fun _ _ d _ _ h => by cases d <;> exact h) (fun o ho => ?_)
      simp only [qa, qb, qc, qd] at ho; subst ho
      apply Exists.intro
      refine ⟨Or.inl ⟨by kernel_rfl, fun w' hl => Or.inl ?_⟩, ?_⟩
      · (go_simp; try with_reducible rfl)
      simp only [Act.put, pa, pb, pc]
      refine ltk 11 (by kernel_rfl) (fun _ _ d _ _ h => by cases d <;> exact h) (fun o ho => ?_)
      simp only [qa, qb, qc, qd] at ho; subst ho
      refine ⟨_, Or.inr ⟨by kernel_rfl, rfl⟩, ?_⟩
      simp only [Act.put, pa, pb, pc]
      refine ltk 12 (by kernel_rfl) (fun _ _ d _ _ h => by cases d <;> exact h) (fun o ho => ?_)
      simp only [qa, qb, qc, qd] at ho; subst ho
      refine ⟨_, Or.inr ⟨by kernel_rfl, rfl⟩, ?_⟩
      simp only [Act.put, pa, pb, pc]
      refine ltk 13 (by kernel_rfl) (fun _ _ d _ _ h => by cases d <;> exact h) (fun o ho => ?_)
      simp only [qa, qb, qc, qd] at ho; subst ho
      refine ⟨_, Or.inr ⟨by kernel_rfl, rfl⟩, ?_⟩
      simp only [Act.put, pa, pb, pc]
      refine ltk 14 (by kernel_rfl) (fun _ _ d _ _ h => by cases d <;> exact h) (fun o ho => ?_)
      simp only [qa, qb, qc, qd] at ho; subst ho
      refine ⟨_, Or.inr ⟨by kernel_rfl, rfl⟩, ?_⟩
      simp only [Act.put, pa, pb, pc]
      refine ltk 15 (by kernel_rfl) (fun _ _ d _ _ h => by cases d <;> exact h) (fun o ho => ?_)
      simp only [qa, qb, qc, qd] at ho; subst ho
      refine ⟨_, Or.inr ⟨by kernel_rfl, rfl⟩, ?_⟩
      simp only [Act.put, pa, pb, pc]
      refine ltk 16 (by kernel_rfl) (fun _ _ d _ _ h => by cases d <;> exact h) (fun o ho => ?_)
      simp only [qa, qb, qc, qd] at ho; subst ho
      refine ⟨_, Or.inr ⟨by kernel_rfl, rfl⟩, ?_⟩
      simp only [Act.put, pa, pb, pc]
      refine ltk 17 (by kernel_rfl) (fun _ _ d _ _ h => by cases d <;> exact h) (fun o ho => ?_)
      simp only [qa, qb, qc, qd] at ho; subst ho
      refine ⟨_, Or.inr ⟨by kernel_rfl, rfl⟩, ?_⟩
      simp only [Act.put, pa, pb, pc]
      refine ltk 18 (by kernel_rfl) (fun _ _ d _ _ h => by cases d <;> exact h) (fun o ho => ?_)
      simp only [qa, qb, qc, qd] at ho; subst ho
      refine ⟨_, Or.inr ⟨by kernel_rfl, rfl⟩, ?_⟩
      simp only [Act.put, pa, pb, pc]
      refine ltk 19 (by kernel_rfl) (fun _ _ d _ _ h => by cases d <;> exact h) (fun o ho => ?_)
      simp only [qa, qb, qc, qd] at ho; subst ho
      apply Exists.intro
      refine ⟨Or.inl ⟨by kernel_rfl, fun w' hl => Or.inl ?_⟩, ?_⟩
      · (go_simp; try with_reducible rfl)
      simp only [Act.put, pa, pb, pc]
      refine late_end (by kernel_rfl) (fun wn hl => ?_)
      have HR2 := Lib.hid (HR2.out.later hl); have HB := Lib.hid (below_on HB.out hl); clear hl
      go_wp2_with (first
      | (go_at_call 10; refine (ps_awake _ (HT.out.on HB.out) (HK.out.on HB.out)).mono ?_; rintro e w4 ⟨rfl, hb⟩; have HB := Lib.hid (below_on HB.out hb); clear hb))
      go_ret
      exact ⟨rfl, HB.out⟩
end Go.Proofs.YtfdheeogpndklaaDoor
