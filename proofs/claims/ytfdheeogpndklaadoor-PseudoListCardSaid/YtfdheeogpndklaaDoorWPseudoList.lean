/-
  The walk of PseudoList.
-/
import Derived.Test.YtfdheeogpndklaaDoorPrE
import Derived.WalkKit
import Derived.OpenShut
namespace Go.Proofs.YtfdheeogpndklaaDoor.pseudoList
open Go.RowKit
set_option linter.unusedVariables false
set_option linter.unusedSimpArgs false
section laws
variable {ops : Array Oper} {rest : List Oper} {op : Oper} {a : Act} {w : World} {Q : Exit → Act → World → Prop}
theorem blk_mvZ (hw : Region.wanted op (yielded ops a.tmps) = true) (x y : Operand) (ho : op.op = .store 36 x y) (b o : Nat) (hx : a.eval x = .pointer (some ⟨b, o, none⟩)) (hy : a.eval y = .agg (mvA mv0))
    (T : TypeId) (cs : Array Value) (hr : Blk w b T cs) (hn : o + 5 ≤ cs.size)
    (h : ∀ w', Upd b w w' → Blk w' b T (putsA (mvA mv0).toList o cs) → wpList Tryd.prog ops Q rest (a.put op.dst undef) w') : wpList Tryd.prog ops Q (op :: rest) a w :=
  wpList_want hw fun _ hK => wp_store_mid 36 x y ho b o (mvA mv0) hx hy (hr.there o 5 hn) sizeMv (mv_one _) (hK _ _ (h _ (Upd.setCells _ _ _ _) (Blk.sets _ o w cs hr)))
end laws
theorem pmL_lm : ∀ l : List Pm, pmL l = cmL (lm l)
  | [] => rfl
  | m :: l => by
    show (pmA m).toList ++ pmL l = (mvA (pmM m)).toList ++ cmL (lm l)
    rw [pmL_lm l]; rfl
theorem pms_mvs {B : Nat} {L : List Pm} {v : Value} {w : World} (h : PmsO B L v w) : MvsO B (lm L) v w := by
  unfold MvsO; rw [lm_len, ← pmL_lm]; exact h
theorem fit_lm {p : Nat → Int} {m : Mv} (h : m ∈ lm (allL p)) : FitV m := by
  obtain ⟨x, hx, rfl⟩ := List.mem_map.1 h
  unfold allL at hx
  obtain ⟨a, _, hx⟩ := List.mem_flatMap.1 hx
  exact fit_pm hx

/-- Where a list of n moves may be written to. -/
def Roomy (n B : Nat) (a : Option Addr) (w : World) : Prop := 0 < n → ∃ g cur, a = some ⟨g, 0, none⟩ ∧ Blk w g 36 cur ∧ 5 * n ≤ cur.size ∧ B ≤ g
theorem roomy_of {L : List Mv} {B : Nat} {v : Value} {w : World} (h : MvsO B L v w) : ∃ a cap, v = .slice a L.length cap ∧ Mvs L a w ∧ Roomy L.length B a w := by
  have hfr := fun k (e : v.ownBlock = some k) => MvsO.from h e
  obtain ⟨a, cap, rfl, hm⟩ := mvs_of h
  refine ⟨a, cap, rfl, hm, fun hn => ?_⟩
  have hl : L[L.length - 1]? = some (L[L.length - 1]'(by omega)) := List.getElem?_eq_getElem _
  obtain ⟨g, cur, rfl, hb, hc⟩ := hm _ _ hl
  have h4 := hc 4 (by decide)
  have h5 : (mvA (L[L.length - 1]'(by omega)))[4]? = some (.bool (L[L.length - 1]'(by omega)).ca) := rfl
  rw [h5] at h4
  have := (Array.getElem?_eq_some_iff.1 h4).1
  exact ⟨g, cur, rfl, hb, by omega, hfr g rfl⟩
theorem Roomy.later {n B : Nat} {a : Option Addr} {w w' : World} (h : Roomy n B a w) (hb : Below w.heap.size w w') : Roomy n B a w' := fun hn => by
  obtain ⟨g, cur, e, h1, h2, h3⟩ := h hn
  exact ⟨g, cur, e, h1.later hb, h2, h3⟩
theorem run_posQ {o : Oper} {a : Act} {w : World} (x : Operand) (ho : o.op = .load 31 x) (b : Nat) (hx : a.eval x = .pointer (some ⟨b, 0, none⟩)) (p : Nat → Int) (hr : Row w b p) : (execOp a.eval o).run Tryd.prog w = .ok (.value (.agg (posA p))) w := run_load x ho b hx p hr
set_option maxRecDepth 100000 in
set_option maxHeartbeats 4000000 in
theorem walk (p : Nat → Int) (w0 : WfP p) (w : World) (hD : TabDb w) (hL : TabLead w) (hV : TabVar w) (hKn : TabKn w) : Calls Tryd.prog 3 #[.agg (posA p)] w fun e w' => e = .returned (.bool true) ∧ Below w.heap.size w w' := by
  have HT := Lib.hid (show PsT w from ⟨hV, hD, hL⟩)
  have HK := Lib.hid hKn
  have HP := Lib.hid (PsR.of w0)
  obtain ⟨L, hL0⟩ : ∃ L, lm (allL p) = L := ⟨_, rfl⟩
  have HL := Lib.hid hL0
  have HV := Lib.hid (show ∀ (i : Nat) (m : Mv), L[i]? = some m → FitV m by rw [← hL0]; exact fun i m h => fit_lm (List.mem_of_getElem? h))
  have HLn := Lib.hid (show L.length ≤ 262144 by rw [← hL0, lm_len]; exact all_len p)
  clear hD hL hV hKn w0 hL0
  have HB := Lib.hid (Below.refl w.heap.size w)
  go_enter Tryd.func3, Tryd.ntmps3
  go_wp2_with (first
      | (guard_target = Go.wpList _ _ _ ((⟨some 1, .box _ _, _, _, _, _⟩ : Go.Oper) :: _) _ _; refine step_box rfl _ rfl p rfl ?_; intro b1 w1 N R; have HG1 := Lib.hid (show w.heap.size ≤ b1 by have := HB.out.size; have := N.at_; omega); have HB := Lib.hid (below_on HB.out N.below); have HR1 := Lib.hid R; clear N R)
      | (guard_target = Go.wpList _ _ _ ((⟨some _, .load _ (.tmp 1), _, _, _, _⟩ : Go.Oper) :: _) _ _; refine step_load rfl _ rfl b1 rfl p HR1.out ?_)
      | (go_at_call 7; refine (list_ps p _ HP.out (HT.out.on HB.out)).mono ?_; rintro e w5 ⟨v, rfl, hv, hb⟩; have hv := pms_mvs hv; rw [HL.out] at hv; obtain ⟨a4, c4, rfl, hE, hRo⟩ := roomy_of hv; have HE := Lib.hid hE; have HRo := Lib.hid hRo; have HW5 := Lib.hid HR1.out.lt; have HW6 := Lib.hid HB.out.size; have HR1 := Lib.hid (HR1.out.later hb); have HB := Lib.hid (below_on HB.out hb); clear hE hv hb hRo)
      | (go_at_call 9; refine (rlist_pr p _ HP.out).mono ?_; rintro e w6 ⟨v, rfl, hv, hb⟩; rw [HL.out] at hv; obtain ⟨a5, c5, rfl, hE2⟩ := mvs_of hv; have HE2 := Lib.hid hE2; have HE := Lib.hid (HE.out.later hb); have HRo := Lib.hid (HRo.out.later hb); have HR1 := Lib.hid (HR1.out.later hb); have HB := Lib.hid (below_on HB.out hb); clear hE2 hv hb)
      | (go_at_call 8; refine (same_any L a4 a5 c4 c5 _ (by have := HLn.out; omega) HV.out HE.out HE2.out).mono ?_; rintro e w7 ⟨rfl, hb⟩; have HRo := Lib.hid (HRo.out.later hb); have HR1 := Lib.hid (HR1.out.later hb); have HB := Lib.hid (below_on HB.out hb); clear hb))
  go_loopw [5] (fun i wr => ∃ k : Nat, k ≤ L.length ∧ i = .int .i64 (k : Int) ∧ Roomy L.length (b1 + 1) a4 wr ∧ Row wr b1 p ∧ Below w.heap.size w wr) (fun i _ => L.length - (intOf i).toNat)
  case atStart => exact ⟨0, by omega, rfl, fun hn => by obtain ⟨g, cur, e, h1, h2, h3⟩ := HRo.out hn; exact ⟨g, cur, e, h1, h2, by have := HW5.out; omega⟩, HR1.out, HB.out⟩
  case round =>
    have HGw := Lib.hid HG1.out
    clear HR1 HB HE HE2 HRo
    obtain ⟨k, hk, rfl, hro, hr1, hb⟩ := hrel
    have HR1 := Lib.hid hr1
    have HB := Lib.hid hb
    clear hr1 hb
    by_cases hlt : k < L.length
    · obtain ⟨g4, cur, rfl, hcu, hsz, hge⟩ := hro (by omega)
      have HCu := Lib.hid hcu
      have HSz := Lib.hid (show 5 * k + 5 ≤ cur.size by omega)
      have HSz2 := Lib.hid hsz
      have HNe := Lib.hid (show b1 ≠ g4 by omega)
      have HGe := Lib.hid (show w.heap.size ≤ g4 by have := HGw.out; omega)
      have HGe2 := Lib.hid hge
      have HLt := Lib.hid hlt
      have hw1 : (k : Int) < 262144 := by have := HLn.out; omega
      clear hro hcu hsz hge
      go_wp2_with (first
      | (guard_target = Go.wpList _ _ _ ((⟨some 20, .build _ _, _, _, _, _⟩ : Go.Oper) :: _) _ _; refine step_build (op := ⟨some 20, .build _ _, _, _, _, _⟩) rfl 36 _ rfl (mvA mv0) (by kernel_rfl) ?_)
      | (guard_target = Go.wpList _ _ _ ((⟨none, .store _ (.tmp 21) _, _, _, _, _⟩ : Go.Oper) :: _) _ _; refine blk_mvZ (op := ⟨none, .store _ (.tmp 21) _, _, _, _, _⟩) rfl _ _ rfl g4 (k * 5) rfl rfl 36 cur HCu.out (by have := HSz.out; omega) ?_; intro wn U R; have HR1 := Lib.hid (HR1.out.apart U HNe.out); have HCu := Lib.hid R; have HB := Lib.hid (HB.out.trans (U.below HGe.out)); clear U R))
      go_roundw
      case rel => exact ⟨k + 1, by have := HLt.out; omega, by go_num, fun hn => ⟨g4, _, rfl, HCu.out, by rw [putsA_size]; exact HSz2.out, HGe2.out⟩, HR1.out, HB.out⟩
      case measure => simp [intOf]; have := HLt.out; omega
    · obtain rfl : k = L.length := by omega
      clear hro
      go_wp2_with fail
      refine late_begin 12 (by kernel_rfl) ?_
      refine ltk 0 (by kernel_rfl) (fun _ _ d _ _ h => by cases d <;> exact h) (fun o ho => ?_)
      simp only [qa, qb, qc, qd] at ho; subst ho
      apply Exists.intro
      refine ⟨Or.inl ⟨by kernel_rfl, fun w' hl => Or.inl ?_⟩, ?_⟩
      · (go_simp; try with_reducible rfl)
      simp only [Act.put, pa, pb, pc]
      refine ltk 1 (by kernel_rfl) (fun _ _ d _ _ h => by cases d <;> exact h) (fun o ho => ?_)
      simp only [qa, qb, qc, qd] at ho; subst ho
      apply Exists.intro
      refine ⟨Or.inl ⟨by kernel_rfl, fun w' hl => Or.inl ?_⟩, ?_⟩
      · (go_simp; try with_reducible rfl)
      simp only [Act.put, pa, pb, pc]
      refine ltk 2 (by kernel_rfl) (fun _ _ d _ _ h => by cases d <;> exact h) (fun o ho => ?_)
      simp only [qa, qb, qc, qd] at ho; subst ho
      refine ⟨.agg (posA p), Or.inl ⟨by kernel_rfl, fun w' hl => Or.inl (run_posQ _ rfl b1 rfl p (HR1.out.later hl))⟩, ?_⟩
      simp only [Act.put, pa, pb, pc]
      refine ltk 4 (by kernel_rfl) (fun _ _ d _ _ h => by cases d <;> exact h) (fun o ho => ?_)
      simp only [qa, qb, qc, qd] at ho; subst ho
      refine ⟨.agg (posA p), Or.inl ⟨by kernel_rfl, fun w' hl => Or.inl (run_posQ _ rfl b1 rfl p (HR1.out.later hl))⟩, ?_⟩
      simp only [Act.put, pa, pb, pc]
      refine late_one 3 (by kernel_rfl) (by kernel_rfl) (fun o ho => ?_)
      simp only [qa, qb, qc, qd] at ho; subst ho
      refine ⟨by kernel_rfl, fun wn hl K hK => ?_⟩
      have HR1 := Lib.hid (HR1.out.later hl); have HB := Lib.hid (below_on HB.out hl); clear hl
      refine wp_enter _ _ (by go_simp; exact ⟨rfl, rfl⟩) ?_
      refine (list_ps p _ HP.out (HT.out.on HB.out)).mono ?_; rintro e wm ⟨v, rfl, hv, hb⟩; refine ⟨_, rfl, ?_⟩
      have hv := pms_mvs hv; rw [HL.out] at hv; obtain ⟨a6, c6, rfl, hE⟩ := mvs_of hv; have HE6n := Lib.hid hE; clear hv hE
      refine hK.out _ _ hb ?_
      have HR1 := Lib.hid (HR1.out.later hb); have HB := Lib.hid (below_on HB.out hb); clear hb
      have HE6 := HE6n; clear HE6n
      clear hK K
      simp only [Act.put, pa, pb, pc]
      refine late_one 5 (by kernel_rfl) (by kernel_rfl) (fun o ho => ?_)
      simp only [qa, qb, qc, qd] at ho; subst ho
      refine ⟨by kernel_rfl, fun wn hl K hK => ?_⟩
      have HR1 := Lib.hid (HR1.out.later hl); have HE6 := Lib.hid (HE6.out.later hl); have HB := Lib.hid (below_on HB.out hl); clear hl
      refine wp_enter _ _ (by go_simp; exact ⟨rfl, rfl⟩) ?_
      refine (rlist_pr p _ HP.out).mono ?_; rintro e wm ⟨v, rfl, hv, hb⟩; refine ⟨_, rfl, ?_⟩
      rw [HL.out] at hv; obtain ⟨a7, c7, rfl, hE⟩ := mvs_of hv; have HE7n := Lib.hid hE; clear hv hE
      refine hK.out _ _ hb ?_
      have HR1 := Lib.hid (HR1.out.later hb); have HE6 := Lib.hid (HE6.out.later hb); have HB := Lib.hid (below_on HB.out hb); clear hb
      have HE7 := HE7n; clear HE7n
      clear hK K
      simp only [Act.put, pa, pb, pc]
      refine late_one 6 (by kernel_rfl) (by kernel_rfl) (fun o ho => ?_)
      simp only [qa, qb, qc, qd] at ho; subst ho
      refine ⟨by kernel_rfl, fun wn hl K hK => ?_⟩
      have HR1 := Lib.hid (HR1.out.later hl); have HE6 := Lib.hid (HE6.out.later hl); have HE7 := Lib.hid (HE7.out.later hl); have HB := Lib.hid (below_on HB.out hl); clear hl
      refine wp_enter _ _ (by go_simp; exact ⟨rfl, rfl⟩) ?_
      refine (same_any L a6 a7 c6 c7 _ (by have := HLn.out; omega) HV.out HE6.out HE7.out).mono ?_; rintro e wm ⟨rfl, hb⟩; refine ⟨_, rfl, ?_⟩
      refine hK.out _ _ hb ?_
      have HR1 := Lib.hid (HR1.out.later hb); have HE6 := Lib.hid (HE6.out.later hb); have HE7 := Lib.hid (HE7.out.later hb); have HB := Lib.hid (below_on HB.out hb); clear hb
      clear hK K
      simp only [Act.put, pa, pb, pc]
      refine ltk 7 (by kernel_rfl) (fun _ _ d _ _ h => by cases d <;> exact h) (fun o ho => ?_)
      simp only [qa, qb, qc, qd] at ho; subst ho
      apply Exists.intro
      refine ⟨Or.inl ⟨by kernel_rfl, fun w' hl => Or.inl ?_⟩, ?_⟩
      · (go_simp; try with_reducible rfl)
      simp only [Act.put, pa, pb, pc]
      refine ltk 8 (by kernel_rfl) (fun _ _ d _ _ h => by cases d <;> exact h) (fun o ho => ?_)
      simp only [qa, qb, qc, qd] at ho; subst ho
      apply Exists.intro
      refine ⟨Or.inl ⟨by kernel_rfl, fun w' hl => Or.inl ?_⟩, ?_⟩
      · (go_simp; try with_reducible rfl)
      simp only [Act.put, pa, pb, pc]
      refine late_one 9 (by kernel_rfl) (by kernel_rfl) (fun o ho => ?_)
      simp only [qa, qb, qc, qd] at ho; subst ho
      refine ⟨by kernel_rfl, fun wn hl K hK => ?_⟩
      have HR1 := Lib.hid (HR1.out.later hl); have HE6 := Lib.hid (HE6.out.later hl); have HE7 := Lib.hid (HE7.out.later hl); have HB := Lib.hid (below_on HB.out hl); clear hl
      refine wp_enter _ _ (by go_simp; exact ⟨rfl, rfl⟩) ?_
      refine (ps_awake _ (HT.out.on HB.out) (HK.out.on HB.out)).mono ?_; rintro e wm ⟨rfl, hb⟩; refine ⟨_, rfl, ?_⟩
      refine hK.out _ _ hb ?_
      have HR1 := Lib.hid (HR1.out.later hb); have HE6 := Lib.hid (HE6.out.later hb); have HE7 := Lib.hid (HE7.out.later hb); have HB := Lib.hid (below_on HB.out hb); clear hb
      clear hK K
      simp only [Act.put, pa, pb, pc]
      refine ltk 10 (by kernel_rfl) (fun _ _ d _ _ h => by cases d <;> exact h) (fun o ho => ?_)
      simp only [qa, qb, qc, qd] at ho; subst ho
      apply Exists.intro
      refine ⟨Or.inl ⟨by kernel_rfl, fun w' hl => Or.inl ?_⟩, ?_⟩
      · (go_simp; try with_reducible rfl)
      simp only [Act.put, pa, pb, pc]
      refine ltk 11 (by kernel_rfl) (fun _ _ d _ _ h => by cases d <;> exact h) (fun o ho => ?_)
      simp only [qa, qb, qc, qd] at ho; subst ho
      apply Exists.intro
      refine ⟨Or.inl ⟨by kernel_rfl, fun w' hl => Or.inl ?_⟩, ?_⟩
      · (go_simp; try with_reducible rfl)
      simp only [Act.put, pa, pb, pc]
      refine late_end (by kernel_rfl) (fun wn hl => ?_)
      have HR1 := Lib.hid (HR1.out.later hl); have HE6 := Lib.hid (HE6.out.later hl); have HE7 := Lib.hid (HE7.out.later hl); have HB := Lib.hid (below_on HB.out hl); clear hl
      go_wp2_with fail
      go_ret
      exact ⟨rfl, HB.out⟩
end Go.Proofs.YtfdheeogpndklaaDoor.pseudoList
