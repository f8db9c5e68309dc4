/-
  The walk of AttackLess.
-/
import Derived.Test.YtlhepfighelijaaDoorAtLaw
import Derived.WalkKit
import Derived.OpenShut
namespace Go.Proofs.YtlhepfighelijaaDoor.attackLess
open Go.RowKit
set_option linter.unusedVariables false
set_option linter.unusedSimpArgs false
set_option maxRecDepth 100000 in
set_option maxHeartbeats 4000000 in
theorem walk (p : Nat → Int) (a1 a2 a3 : Int) (hp : WfP p) (w1 : (Lit.int .i64 a1).wf = true) (w2 : (Lit.int .u8 a2).wf = true) (w3 : (Lit.int .i64 a3).wf = true) (w : World) (hD : TabDb w) (hL : TabLead w) (hT : TabVar w) :
    Calls Tryd.prog 7 #[.agg (posA p), .int .i64 a1, .int .u8 a2, .int .i64 a3] w fun e w' => e = .returned (.bool true) ∧ Below w.heap.size w w' := by
  have HP := Lib.hid (AtR.of hp)
  have HD := Lib.hid hD
  have HL := Lib.hid hL
  have HT := Lib.hid hT
  obtain ⟨s, hs, es⟩ := sq64 a1
  obtain ⟨a, ha, ea⟩ := sq64 a3
  have HS := Lib.hid hs
  have HA := Lib.hid ha
  obtain ⟨y0, y1⟩ := u8_rng w2
  have l0 : (s : Int) ≤ 63 := by omega
  have l1 : (a : Int) ≤ 63 := by omega
  obtain ⟨m2, e2⟩ : ∃ r : Int, a2 % 2 = r := ⟨_, rfl⟩
  obtain ⟨m6, e6⟩ : ∃ r : Int, a2 % 6 = r := ⟨_, rfl⟩
  have b1 : 0 ≤ m2 := by omega
  have b2 : m2 ≤ 1 := by omega
  have b3 : 0 ≤ m6 := by omega
  have b4 : m6 ≤ 5 := by omega
  obtain ⟨x, HX⟩ : ∃ x, Hid (p (1 + s) = x) := ⟨_, Lib.hid rfl⟩
  clear w1 w2 w3
  clear hp hD hL hT
  cases gl : lawB p 64
  · have Hgl := Lib.hid gl
    clear gl
    go_enter Tryd.func7, Tryd.ntmps7
    go_wp2_with (first | (refine step_box rfl _ rfl p rfl ?_; intro b1 w1 N R; have HB := Lib.hid N.below; have HR1 := Lib.hid R; have HG1 := Lib.hid (Nat.le_of_eq N.at_.symm); clear N R) | (refine step_load (by rfl) _ rfl _ rfl p HR1.out ?_))
    refine (lawful_any p _ HP.out.bd).mono ?_; rintro e wn ⟨rfl, hb9⟩; have HR1 := Lib.hid (HR1.out.later hb9); have HB := Lib.hid (below_on HB.out hb9); clear hb9; rw [Hgl.out]
    go_wp2_with fail
    refine (at_awake _ (HD.out.next HB.out) (HL.out.next HB.out) (HT.out.on HB.out)).mono ?_; rintro e wn ⟨rfl, hb9⟩; have HB := Lib.hid (below_on HB.out hb9); clear hb9
    go_wp2_with fail
    go_ret
    exact ⟨rfl, HB.out⟩
  · have Hgl := Lib.hid gl
    clear gl
    cases g0 : (x != 0)
    · cases g1 : ((a : Int) == (s : Int))
      · have hne : a ≠ s := by rw [beq_eq_false_iff_ne] at g1; omega
        have hx0 : p (1 + s) = 0 := by have := HX.out; simp only [bne, Bool.not_eq_false', beq_iff_eq] at g0; omega
        obtain ⟨y, HY⟩ : ∃ y : Int, Hid (m2 * 8 + 1 + m6 = y) := ⟨_, Lib.hid rfl⟩
        have HYr := Lib.hid (show 0 ≤ y ∧ y ≤ 255 by have := HY.out; omega)
        have HQ := Lib.hid (HP.out.put (1 + s) y HYr.out)
        have HN := Lib.hid (from_less p HS.out HA.out hne hx0 y)
        have HAn := Lib.hid (andNot_nat (fromN_lt (upd p (1 + s) y) (a : Int)) (fromN_lt p (a : Int)))
        clear hne hx0
        go_enter Tryd.func7, Tryd.ntmps7
        go_wp2_with (first | (refine step_box rfl _ rfl p rfl ?_; intro b1 w1 N R; have HB := Lib.hid N.below; have HR1 := Lib.hid R; have HG1 := Lib.hid (Nat.le_of_eq N.at_.symm); clear N R) | (refine step_load (by rfl) _ rfl _ rfl p HR1.out ?_))
        refine (lawful_any p _ HP.out.bd).mono ?_; rintro e wn ⟨rfl, hb9⟩; have HR1 := Lib.hid (HR1.out.later hb9); have HB := Lib.hid (below_on HB.out hb9); clear hb9; rw [Hgl.out]
        have hcell := HR1.out.cell (1 + s) (by have := HS.out; omega)
        rw [HX.out, kAt_board (by omega) HS.out] at hcell
        go_wp2_with (first
          | (refine step_load (by rfl) _ rfl _ rfl p HR1.out ?_)
          | (refine step_alloc (op := ⟨some 9, _, _, _, _, _⟩) rfl rfl ?_; intro b9 wn N R; have HD12 := Lib.hid (new_ne N HR1.out); have HR1 := Lib.hid (new_row N HR1.out); have HR2 := Lib.hid R; have HG2 := Lib.hid (show w.heap.size ≤ b9 by have := HB.out.size; have := N.at_; omega); have HB := Lib.hid (below_on HB.out N.below); clear N R hcell)
          | (refine step_store rfl _ _ rfl b9 rfl _ p rfl HR2.out ?_; intro wn U R; have HR1 := Lib.hid (HR1.out.apart U HD12.out); have HR2 := Lib.hid R; have HB := Lib.hid (HB.out.trans (U.below HG2.out)); clear U R)
          | (refine step_cell (by rfl) 5 _ _ rfl b9 (1 + s) rfl .u8 (m2 * 8 + 1 + m6) rfl _ HR2.out (by have := HS.out; omega) (kAt_board (by omega) HS.out) size5 ?_; intro wn U R; have HR1 := Lib.hid (HR1.out.apart U HD12.out); have HR2 := Lib.hid R; have HB := Lib.hid (HB.out.trans (U.below HG2.out)); clear U R))
        have HR2 := Lib.hid (show Row _ b9 (upd p (1 + s) y) by rw [← HY.out]; exact HR2.out)
        refine late_begin 8 (by kernel_rfl) ?_
        refine late_take 0 (by kernel_rfl) (by kernel_rfl) (by kernel_rfl) (by kernel_rfl) (by kernel_rfl) (fun _ _ d _ _ h => by cases d <;> exact h) (fun o ho => ?_)
        simp only [List.getElem?_toArray, List.getElem?_cons_zero, List.getElem?_cons_succ, Option.some.injEq] at ho; subst ho
        refine ⟨_, Or.inl ⟨by kernel_rfl, fun w' hl => Or.inl (run_load _ rfl _ rfl (p) (HR1.out.later hl))⟩, ?_⟩
        simp only [Act.put, List.setIfInBounds_toArray, List.set_cons_zero, List.set_cons_succ]
        refine late_take 1 (by kernel_rfl) (by kernel_rfl) (by kernel_rfl) (by kernel_rfl) (by kernel_rfl) (fun _ _ d _ _ h => by cases d <;> exact h) (fun o ho => ?_)
        simp only [List.getElem?_toArray, List.getElem?_cons_zero, List.getElem?_cons_succ, Option.some.injEq] at ho; subst ho
        apply Exists.intro
        refine ⟨Or.inl ⟨by kernel_rfl, fun w' hl => Or.inl ?_⟩, ?_⟩
        · (go_simp; try with_reducible rfl)
        simp only [Act.put, List.setIfInBounds_toArray, List.set_cons_zero, List.set_cons_succ]
        refine late_take 3 (by kernel_rfl) (by kernel_rfl) (by kernel_rfl) (by kernel_rfl) (by kernel_rfl) (fun _ _ d _ _ h => by cases d <;> exact h) (fun o ho => ?_)
        simp only [List.getElem?_toArray, List.getElem?_cons_zero, List.getElem?_cons_succ, Option.some.injEq] at ho; subst ho
        refine ⟨_, Or.inl ⟨by kernel_rfl, fun w' hl => Or.inl (run_load _ rfl _ rfl (upd p (1 + s) y) (HR2.out.later hl))⟩, ?_⟩
        simp only [Act.put, List.setIfInBounds_toArray, List.set_cons_zero, List.set_cons_succ]
        refine late_take 4 (by kernel_rfl) (by kernel_rfl) (by kernel_rfl) (by kernel_rfl) (by kernel_rfl) (fun _ _ d _ _ h => by cases d <;> exact h) (fun o ho => ?_)
        simp only [List.getElem?_toArray, List.getElem?_cons_zero, List.getElem?_cons_succ, Option.some.injEq] at ho; subst ho
        apply Exists.intro
        refine ⟨Or.inl ⟨by kernel_rfl, fun w' hl => Or.inl ?_⟩, ?_⟩
        · (go_simp; try with_reducible rfl)
        simp only [Act.put, List.setIfInBounds_toArray, List.set_cons_zero, List.set_cons_succ]
        refine late_one 2 (by kernel_rfl) (by kernel_rfl) (fun o ho => ?_)
        simp only [List.getElem?_toArray, List.getElem?_cons_zero, List.getElem?_cons_succ, Option.some.injEq] at ho; subst ho
        refine ⟨by kernel_rfl, fun wn hl K hK => ?_⟩
        have HR1 := Lib.hid (HR1.out.later hl); have HR2 := Lib.hid (HR2.out.later hl); have HB := Lib.hid (below_on HB.out hl); clear hl
        refine wp_enter _ _ (by go_simp; exact ⟨rfl, rfl⟩) ?_
        refine (from_any p (a : Int) _ HP.out.bd (HD.out.next HB.out) (HL.out.next HB.out)).mono ?_; rintro e wm ⟨rfl, hb⟩; refine ⟨_, rfl, ?_⟩
        refine hK.out _ _ hb ?_
        have HR1 := Lib.hid (HR1.out.later hb); have HR2 := Lib.hid (HR2.out.later hb); have HB := Lib.hid (below_on HB.out hb); clear hb
        clear hK K
        simp only [Act.put, List.setIfInBounds_toArray, List.set_cons_zero, List.set_cons_succ]
        refine late_one 5 (by kernel_rfl) (by kernel_rfl) (fun o ho => ?_)
        simp only [List.getElem?_toArray, List.getElem?_cons_zero, List.getElem?_cons_succ, Option.some.injEq] at ho; subst ho
        refine ⟨by kernel_rfl, fun wn hl K hK => ?_⟩
        have HR1 := Lib.hid (HR1.out.later hl); have HR2 := Lib.hid (HR2.out.later hl); have HB := Lib.hid (below_on HB.out hl); clear hl
        refine wp_enter _ _ (by go_simp; exact ⟨rfl, rfl⟩) ?_
        refine (from_any (upd p (1 + s) y) (a : Int) _ HQ.out.bd (HD.out.next HB.out) (HL.out.next HB.out)).mono ?_; rintro e wm ⟨rfl, hb⟩; refine ⟨_, rfl, ?_⟩
        refine hK.out _ _ hb ?_
        have HR1 := Lib.hid (HR1.out.later hb); have HR2 := Lib.hid (HR2.out.later hb); have HB := Lib.hid (below_on HB.out hb); clear hb
        clear hK K
        simp only [Act.put, List.setIfInBounds_toArray, List.set_cons_zero, List.set_cons_succ]
        refine late_take 6 (by kernel_rfl) (by kernel_rfl) (by kernel_rfl) (by kernel_rfl) (by kernel_rfl) (fun _ _ d _ _ h => by cases d <;> exact h) (fun o ho => ?_)
        simp only [List.getElem?_toArray, List.getElem?_cons_zero, List.getElem?_cons_succ, Option.some.injEq] at ho; subst ho
        apply Exists.intro
        refine ⟨Or.inl ⟨by kernel_rfl, fun w' hl => Or.inl ?_⟩, ?_⟩
        · (go_simp; try with_reducible rfl)
        simp only [Act.put, List.setIfInBounds_toArray, List.set_cons_zero, List.set_cons_succ]
        refine late_take 7 (by kernel_rfl) (by kernel_rfl) (by kernel_rfl) (by kernel_rfl) (by kernel_rfl) (fun _ _ d _ _ h => by cases d <;> exact h) (fun o ho => ?_)
        simp only [List.getElem?_toArray, List.getElem?_cons_zero, List.getElem?_cons_succ, Option.some.injEq] at ho; subst ho
        apply Exists.intro
        refine ⟨Or.inl ⟨by kernel_rfl, fun w' hl => Or.inl ?_⟩, ?_⟩
        · (go_simp; try with_reducible rfl)
        simp only [Act.put, List.setIfInBounds_toArray, List.set_cons_zero, List.set_cons_succ]
        refine late_end (by kernel_rfl) (fun wn hl => ?_)
        have HR1 := Lib.hid (HR1.out.later hl); have HR2 := Lib.hid (HR2.out.later hl); have HB := Lib.hid (below_on HB.out hl); clear hl
        have hz := HAn.out
        rw [HN.out, show ((0 : Nat) : Int) = 0 from rfl] at hz
        go_wp2_with fail
        refine (at_awake _ (HD.out.next HB.out) (HL.out.next HB.out) (HT.out.on HB.out)).mono ?_; rintro e wn ⟨rfl, hb9⟩; have HB := Lib.hid (below_on HB.out hb9); clear hb9
        go_wp2_with fail
        go_ret
        exact ⟨rfl, HB.out⟩
      · go_enter Tryd.func7, Tryd.ntmps7
        go_wp2_with (first | (refine step_box rfl _ rfl p rfl ?_; intro b1 w1 N R; have HB := Lib.hid N.below; have HR1 := Lib.hid R; have HG1 := Lib.hid (Nat.le_of_eq N.at_.symm); clear N R) | (refine step_load (by rfl) _ rfl _ rfl p HR1.out ?_))
        refine (lawful_any p _ HP.out.bd).mono ?_; rintro e wn ⟨rfl, hb9⟩; have HR1 := Lib.hid (HR1.out.later hb9); have HB := Lib.hid (below_on HB.out hb9); clear hb9; rw [Hgl.out]
        have hcell := HR1.out.cell (1 + s) (by have := HS.out; omega)
        rw [HX.out, kAt_board (by omega) HS.out] at hcell
        go_wp2_with fail
        refine (at_awake _ (HD.out.next HB.out) (HL.out.next HB.out) (HT.out.on HB.out)).mono ?_; rintro e wn ⟨rfl, hb9⟩; have HB := Lib.hid (below_on HB.out hb9); clear hb9
        go_wp2_with fail
        go_ret
        exact ⟨rfl, HB.out⟩
    · go_enter Tryd.func7, Tryd.ntmps7
      go_wp2_with (first | (refine step_box rfl _ rfl p rfl ?_; intro b1 w1 N R; have HB := Lib.hid N.below; have HR1 := Lib.hid R; have HG1 := Lib.hid (Nat.le_of_eq N.at_.symm); clear N R) | (refine step_load (by rfl) _ rfl _ rfl p HR1.out ?_))
      refine (lawful_any p _ HP.out.bd).mono ?_; rintro e wn ⟨rfl, hb9⟩; have HR1 := Lib.hid (HR1.out.later hb9); have HB := Lib.hid (below_on HB.out hb9); clear hb9; rw [Hgl.out]
      have hcell := HR1.out.cell (1 + s) (by have := HS.out; omega)
      rw [HX.out, kAt_board (by omega) HS.out] at hcell
      go_wp2_with fail
      refine (at_awake _ (HD.out.next HB.out) (HL.out.next HB.out) (HT.out.on HB.out)).mono ?_; rintro e wn ⟨rfl, hb9⟩; have HB := Lib.hid (below_on HB.out hb9); clear hb9
      go_wp2_with fail
      go_ret
      exact ⟨rfl, HB.out⟩
end Go.Proofs.YtlhepfighelijaaDoor.attackLess
