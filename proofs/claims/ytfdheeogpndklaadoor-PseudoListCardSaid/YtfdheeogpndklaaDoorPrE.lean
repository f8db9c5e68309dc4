/-
  Lists of moves held against one another (as in the castle's seat).
-/
import Derived.Test.YtfdheeogpndklaaDoorPrD
import Derived.Test.YtfdheeogpndklaaDoorPsI
namespace Go.Proofs.YtfdheeogpndklaaDoor
open Go.RowKit Go.Shelf
set_option linter.unusedVariables false
set_option linter.unusedSimpArgs false
attribute [local go_sem] Oper.semAt_some

set_option maxRecDepth 100000 in
set_option maxHeartbeats 1000000 in
theorem same_any (L : List Mv) (a1 a2 : Option Addr) (c1 c2 : Nat) (w : World) (hn : L.length ≤ 1000000) (hv : ∀ (i : Nat) (m : Mv), L[i]? = some m → FitV m) (h1 : Mvs L a1 w) (h2 : Mvs L a2 w) : Calls Tryd.prog 8 #[.slice a1 L.length c1, .slice a2 L.length c2] w (BoL true w) := by
  have HV := Lib.hid hv
  have HE1 := Lib.hid h1
  have HE2 := Lib.hid h2
  have HN := Lib.hid hn
  clear hv h1 h2 hn
  have HB := Lib.hid (Below.refl w.heap.size w)
  go_enter Tryd.func8, Tryd.ntmps8
  go_wp2_with fail
  go_loopw [5] (fun i wr => ∃ k : Nat, k ≤ L.length ∧ i = .int .i64 (k : Int) ∧ Mvs L a1 wr ∧ Mvs L a2 wr ∧ Below w.heap.size w wr) (fun i _ => L.length - (intOf i).toNat)
  case atStart => exact ⟨0, by omega, rfl, HE1.out, HE2.out, HB.out⟩
  case round =>
    clear HE1 HE2 HB
    obtain ⟨k, hk, rfl, he1, he2, hb⟩ := hrel
    have HE1 := Lib.hid he1
    have HE2 := Lib.hid he2
    have HB := Lib.hid hb
    clear he1 he2 hb
    by_cases hlt : k < L.length
    · obtain ⟨m, hm⟩ : ∃ m, L[k]? = some m := ⟨_, List.getElem?_eq_getElem hlt⟩
      obtain ⟨g1, rfl, _⟩ := HE1.out.at hm
      obtain ⟨g2, rfl, _⟩ := HE2.out.at hm
      have HX := Lib.hid hm
      have HVm := Lib.hid (HV.out k m hm)
      have hw1 : (k : Int) < 1000000 := by have := HN.out; omega
      clear hm
      go_wp2_with fail
      refine late_begin 9 (by kernel_rfl) ?_
      refine ltk 0 (by kernel_rfl) (fun _ _ d _ _ h => by cases d <;> exact h) (fun o ho => ?_)
      simp only [qa, qb, qc, qd] at ho; subst ho
      apply Exists.intro
      refine ⟨Or.inl ⟨by kernel_rfl, fun w' hl => Or.inl ?_⟩, ?_⟩
      · (go_simp; try with_reducible rfl)
      simp only [Act.put, pa, pb, pc]
      refine ltk 1 (by kernel_rfl) (fun _ _ d _ _ h => by cases d <;> exact h) (fun o ho => ?_)
      simp only [qa, qb, qc, qd] at ho; subst ho
      apply Exists.intro
      refine ⟨Or.inl ⟨by kernel_rfl, fun w' hl => Or.inl ?_⟩, ?_⟩
      · (go_simp; try with_reducible rfl)
      simp only [Act.put, pa, pb, pc]
      refine ltk 2 (by kernel_rfl) (fun _ _ d _ _ h => by cases d <;> exact h) (fun o ho => ?_)
      simp only [qa, qb, qc, qd] at ho; subst ho
      refine ⟨.pointer (some ⟨g1, k * 5, none⟩), Or.inl ⟨by kernel_rfl, fun w' hl => Or.inl ?_⟩, ?_⟩
      · (go_simp <;> (intro hbad; omega))
      simp only [Act.put, pa, pb, pc]
      refine ltk 3 (by kernel_rfl) (fun _ _ d _ _ h => by cases d <;> exact h) (fun o ho => ?_)
      simp only [qa, qb, qc, qd] at ho; subst ho
      refine ⟨.agg (mvA m), Or.inl ⟨by kernel_rfl, fun w' hl => Or.inl (run_mvK _ rfl g1 k _ rfl (by first | omega | (simp; omega)) m ((HE1.out.later hl).get HX.out))⟩, ?_⟩
      simp only [Act.put, pa, pb, pc]
      refine ltk 4 (by kernel_rfl) (fun _ _ d _ _ h => by cases d <;> exact h) (fun o ho => ?_)
      simp only [qa, qb, qc, qd] at ho; subst ho
      apply Exists.intro
      refine ⟨Or.inl ⟨by kernel_rfl, fun w' hl => Or.inl ?_⟩, ?_⟩
      · (go_simp; try with_reducible rfl)
      simp only [Act.put, pa, pb, pc]
      refine ltk 5 (by kernel_rfl) (fun _ _ d _ _ h => by cases d <;> exact h) (fun o ho => ?_)
      simp only [qa, qb, qc, qd] at ho; subst ho
      apply Exists.intro
      refine ⟨Or.inl ⟨by kernel_rfl, fun w' hl => Or.inl ?_⟩, ?_⟩
      · (go_simp; try with_reducible rfl)
      simp only [Act.put, pa, pb, pc]
      refine ltk 6 (by kernel_rfl) (fun _ _ d _ _ h => by cases d <;> exact h) (fun o ho => ?_)
      simp only [qa, qb, qc, qd] at ho; subst ho
      refine ⟨.pointer (some ⟨g2, k * 5, none⟩), Or.inl ⟨by kernel_rfl, fun w' hl => Or.inl ?_⟩, ?_⟩
      · (go_simp <;> (intro hbad; omega))
      simp only [Act.put, pa, pb, pc]
      refine ltk 7 (by kernel_rfl) (fun _ _ d _ _ h => by cases d <;> exact h) (fun o ho => ?_)
      simp only [qa, qb, qc, qd] at ho; subst ho
      refine ⟨.agg (mvA m), Or.inl ⟨by kernel_rfl, fun w' hl => Or.inl (run_mvK _ rfl g2 k _ rfl (by first | omega | (simp; omega)) m ((HE2.out.later hl).get HX.out))⟩, ?_⟩
      simp only [Act.put, pa, pb, pc]
      refine ltk 8 (by kernel_rfl) (fun _ _ d _ _ h => by cases d <;> exact h) (fun o ho => ?_)
      simp only [qa, qb, qc, qd] at ho; subst ho
      refine ⟨.bool false, Or.inl ⟨by kernel_rfl, fun w' hl => Or.inl (run_mvN _ _ rfl m m rfl rfl HVm.out HVm.out true (mvE_true.2 rfl))⟩, ?_⟩
      simp only [Act.put, pa, pb, pc]
      refine late_end (by kernel_rfl) (fun wn hl => ?_)
      have HE1 := Lib.hid (HE1.out.later hl); have HE2 := Lib.hid (HE2.out.later hl); have HB := Lib.hid (below_on HB.out hl); clear hl
      go_wp2_with fail
      go_roundw
      case rel => exact ⟨k + 1, by omega, by go_num, HE1.out, HE2.out, HB.out⟩
      case measure => simp [intOf]; omega
    · obtain rfl : k = L.length := by omega
      go_wp2_with fail
      go_ret
      exact ⟨rfl, HB.out⟩
end Go.Proofs.YtfdheeogpndklaaDoor
