/-
  The walk of AttackChecks.
-/
import Derived.Test.YtlhepfighelijaaDoorAtLaw
import Derived.WalkKit
import Derived.OpenShut
namespace Go.Proofs.YtlhepfighelijaaDoor.attackChecks
open Go.RowKit
set_option linter.unusedVariables false
set_option linter.unusedSimpArgs false
set_option maxRecDepth 100000 in
set_option maxHeartbeats 4000000 in
theorem walk (p : Nat → Int) (hp : WfP p) (w : World) (hD : TabDb w) (hL : TabLead w) (hT : TabVar w) :
    Calls Tryd.prog 9 #[.agg (posA p)] w fun e w' => e = .returned (.bool true) ∧ Below w.heap.size w w' := by
  have HP := Lib.hid (AtR.of hp)
  have HD := Lib.hid hD
  have HL := Lib.hid hL
  have HT := Lib.hid hT
  obtain ⟨t, HTt⟩ : ∃ t, Hid (p 78 = t) := ⟨_, Lib.hid rfl⟩
  obtain ⟨t0, t1⟩ := AtR.turn HP.out
  rw [HTt.out] at t0 t1
  have Ht := Lib.hid (And.intro t0 t1)
  clear hp hD hL hT
  cases gl : lawB p 64
  · have Hgl := Lib.hid gl
    clear gl
    go_enter Tryd.func9, Tryd.ntmps9
    go_wp2_with (first | (refine step_box rfl _ rfl p rfl ?_; intro b1 w1 N R; have HB := Lib.hid N.below; have HR1 := Lib.hid R; have HG1 := Lib.hid (Nat.le_of_eq N.at_.symm); clear N R) | (refine step_load (by rfl) _ rfl _ rfl p HR1.out ?_))
    refine (lawful_any p _ HP.out.bd).mono ?_; rintro e wn ⟨rfl, hb9⟩; have HR1 := Lib.hid (HR1.out.later hb9); have HB := Lib.hid (below_on HB.out hb9); clear hb9; rw [Hgl.out]
    go_wp2_with fail
    refine (at_awake _ (HD.out.next HB.out) (HL.out.next HB.out) (HT.out.on HB.out)).mono ?_; rintro e wn ⟨rfl, hb9⟩; have HB := Lib.hid (below_on HB.out hb9); clear hb9
    go_wp2_with fail
    go_ret
    exact ⟨rfl, HB.out⟩
  · have Hgl := Lib.hid gl
    clear gl
    by_cases h1 : 1 < t
    · have g1 : decide (1 < t) = true := decide_eq_true h1
      clear h1
      go_enter Tryd.func9, Tryd.ntmps9
      go_wp2_with (first | (refine step_box rfl _ rfl p rfl ?_; intro b1 w1 N R; have HB := Lib.hid N.below; have HR1 := Lib.hid R; have HG1 := Lib.hid (Nat.le_of_eq N.at_.symm); clear N R) | (refine step_load (by rfl) _ rfl _ rfl p HR1.out ?_))
      refine (lawful_any p _ HP.out.bd).mono ?_; rintro e wn ⟨rfl, hb9⟩; have HR1 := Lib.hid (HR1.out.later hb9); have HB := Lib.hid (below_on HB.out hb9); clear hb9; rw [Hgl.out]
      have hcell := HR1.out.cell 78 (by omega)
      rw [HTt.out, show kAt 78 = .u8 from rfl] at hcell
      go_wp2_with fail
      refine (at_awake _ (HD.out.next HB.out) (HL.out.next HB.out) (HT.out.on HB.out)).mono ?_; rintro e wn ⟨rfl, hb9⟩; have HB := Lib.hid (below_on HB.out hb9); clear hb9
      go_wp2_with fail
      go_ret
      exact ⟨rfl, HB.out⟩
    · have g1 : decide (1 < t) = false := decide_eq_false h1
      have hck := chk_nat p t HTt.out
      have Hck := Lib.hid hck
      obtain ⟨cs, HCs⟩ : ∃ cs, Hid (chksN p = cs) := ⟨_, Lib.hid rfl⟩
      have HCl := Lib.hid (show cs < W64 by rw [← HCs.out]; exact chks_lt p)
      have HAt := Lib.hid (fun (a : Nat) (ha : a < 64) (h : cs.testBit a = true) => chks_at HTt.out Ht.out.1 (by omega) ha (HCs.out.symm ▸ h))
      have HQ5 := Lib.hid (HP.out.put 0 4 (by decide))
      have HQ6 := Lib.hid atoP_at
      have K1 := Lib.hid (chk_anti p 0)
      have K2 := Lib.hid (chk_anti p 1)
      have K3 := Lib.hid (chks_anti p)
      have K4 := Lib.hid ato_0
      have K5 := Lib.hid ato_1
      clear h1 hck
      go_enter Tryd.func9, Tryd.ntmps9
      go_wp2_with (first | (refine step_box rfl _ rfl p rfl ?_; intro b1 w1 N R; have HB := Lib.hid N.below; have HR1 := Lib.hid R; have HG1 := Lib.hid (Nat.le_of_eq N.at_.symm); clear N R) | (refine step_load (by rfl) _ rfl _ rfl p HR1.out ?_))
      refine (lawful_any p _ HP.out.bd).mono ?_; rintro e wn ⟨rfl, hb9⟩; have HR1 := Lib.hid (HR1.out.later hb9); have HB := Lib.hid (below_on HB.out hb9); clear hb9; rw [Hgl.out]
      have hcell := HR1.out.cell 78 (by omega)
      rw [HTt.out, show kAt 78 = .u8 from rfl] at hcell
      go_wp2_with (first | (refine step_load (by rfl) _ rfl b1 rfl p HR1.out ?_) | (refine step_load (by rfl) _ rfl b5 rfl (upd p 0 4) HR5.out ?_) | (refine step_load (by rfl) _ rfl b6 rfl atoP HR6.out ?_))
      refine (checkers_any p _ HP.out (HD.out.next HB.out) (HL.out.next HB.out) (HT.out.on HB.out)).mono ?_; rintro e wn ⟨rfl, hb9⟩; have HR1 := Lib.hid (HR1.out.later hb9); have HB := Lib.hid (below_on HB.out hb9); clear hb9; rw [HCs.out]
      clear hcell
      have hcell := HR1.out.cell 78 (by omega)
      rw [HTt.out, show kAt 78 = .u8 from rfl] at hcell
      go_wp2_with (first | (refine step_load (by rfl) _ rfl b1 rfl p HR1.out ?_) | (refine step_load (by rfl) _ rfl b5 rfl (upd p 0 4) HR5.out ?_) | (refine step_load (by rfl) _ rfl b6 rfl atoP HR6.out ?_))
      refine (check_any p t _ HP.out Ht.out (HD.out.next HB.out) (HL.out.next HB.out) (HT.out.on HB.out)).mono ?_; rintro e wn ⟨rfl, hb9⟩; have HR1 := Lib.hid (HR1.out.later hb9); have HB := Lib.hid (below_on HB.out hb9); clear hb9; rw [Hck.out, HCs.out]
      clear hcell
      go_wp2_with fail
      go_loopw [4] (fun i wr => ∃ a : Nat, a ≤ 64 ∧ i = .int .i64 (a : Int) ∧ Below w.heap.size w wr ∧ Row wr b1 p) (fun i _ => 64 - (intOf i).toNat)
      case atStart => exact ⟨0, by omega, rfl, HB.out, HR1.out⟩
      case round =>
        clear HB HR1
        obtain ⟨a, ha, rfl, hb9, hr⟩ := hrel
        have HB := Lib.hid hb9
        have HR1 := Lib.hid hr
        clear hb9 hr
        by_cases hlt : a < 64
        · have ga : decide ((a : Int) < 64) = true := decide_eq_true (by omega)
          have l0 : (a : Int) ≤ 63 := by omega
          have Hlt := Lib.hid hlt
          have la : (a : Int) < 64 := by omega
          have HWa := Lib.hid (wrap_nat a (by unfold W64; omega))
          have HMin := Lib.hid (Nat.min_eq_left (Nat.le_of_lt hlt))
          obtain ⟨x, HX⟩ : ∃ x, Hid (p (1 + a) = x) := ⟨_, Lib.hid rfl⟩
          have hx := HP.out.bd a hlt
          rw [HX.out] at hx
          obtain ⟨x0, x1⟩ := hx
          have HDiv := Lib.hid (show IntKind.u8.wrap (x.tdiv 8) = x / 8 by show (x.tdiv 8) % 256 = x / 8; rw [Int.tdiv_eq_ediv_of_nonneg x0]; omega)
          cases gb : cs.testBit a
          · have HBit := Lib.hid (show (bits .and .u64 ((cs : Int) / 2 ^ a) 1 == 1) = false by rw [shr_bit HCl.out, gb])
            clear hlt gb
            go_wp2_with fail
            refine late_begin 23 (by kernel_rfl) ?_
            refine late_take 0 (by kernel_rfl) (by kernel_rfl) (by kernel_rfl) (by kernel_rfl) (by kernel_rfl) (fun _ _ d _ _ h => by cases d <;> exact h) (fun o ho => ?_)
            simp only [List.getElem?_toArray, List.getElem?_cons_zero, List.getElem?_cons_succ, Option.some.injEq] at ho; subst ho
            apply Exists.intro
            refine ⟨Or.inl ⟨by kernel_rfl, fun w' hl => Or.inl ?_⟩, ?_⟩
            · (go_simp; try with_reducible rfl)
            simp only [Act.put, List.setIfInBounds_toArray, List.set_cons_zero, List.set_cons_succ]
            refine late_take 1 (by kernel_rfl) (by kernel_rfl) (by kernel_rfl) (by kernel_rfl) (by kernel_rfl) (fun _ _ d _ _ h => by cases d <;> exact h) (fun o ho => ?_)
            simp only [List.getElem?_toArray, List.getElem?_cons_zero, List.getElem?_cons_succ, Option.some.injEq] at ho; subst ho
            apply Exists.intro
            refine ⟨Or.inl ⟨by kernel_rfl, fun w' hl => Or.inl ?_⟩, ?_⟩
            · (go_simp; try with_reducible rfl)
            simp only [Act.put, List.setIfInBounds_toArray, List.set_cons_zero, List.set_cons_succ]
            refine late_take 2 (by kernel_rfl) (by kernel_rfl) (by kernel_rfl) (by kernel_rfl) (by kernel_rfl) (fun _ _ d _ _ h => by cases d <;> exact h) (fun o ho => ?_)
            simp only [List.getElem?_toArray, List.getElem?_cons_zero, List.getElem?_cons_succ, Option.some.injEq] at ho; subst ho
            refine ⟨.int .u64 (a : Int), Or.inl ⟨by kernel_rfl, fun w' hl => Or.inl ?_⟩, ?_⟩
            · (go_simp; rw [HWa.out])
            simp only [Act.put, List.setIfInBounds_toArray, List.set_cons_zero, List.set_cons_succ]
            refine late_take 3 (by kernel_rfl) (by kernel_rfl) (by kernel_rfl) (by kernel_rfl) (by kernel_rfl) (fun _ _ d _ _ h => by cases d <;> exact h) (fun o ho => ?_)
            simp only [List.getElem?_toArray, List.getElem?_cons_zero, List.getElem?_cons_succ, Option.some.injEq] at ho; subst ho
            refine ⟨.int .u64 ((cs : Int) / 2 ^ a), Or.inl ⟨by kernel_rfl, fun w' hl => Or.inl ?_⟩, ?_⟩
            · (go_simp; try rw [HMin.out])
            simp only [Act.put, List.setIfInBounds_toArray, List.set_cons_zero, List.set_cons_succ]
            refine late_take 4 (by kernel_rfl) (by kernel_rfl) (by kernel_rfl) (by kernel_rfl) (by kernel_rfl) (fun _ _ d _ _ h => by cases d <;> exact h) (fun o ho => ?_)
            simp only [List.getElem?_toArray, List.getElem?_cons_zero, List.getElem?_cons_succ, Option.some.injEq] at ho; subst ho
            apply Exists.intro
            refine ⟨Or.inl ⟨by kernel_rfl, fun w' hl => Or.inl ?_⟩, ?_⟩
            · (go_simp; try with_reducible rfl)
            simp only [Act.put, List.setIfInBounds_toArray, List.set_cons_zero, List.set_cons_succ]
            refine late_take 5 (by kernel_rfl) (by kernel_rfl) (by kernel_rfl) (by kernel_rfl) (by kernel_rfl) (fun _ _ d _ _ h => by cases d <;> exact h) (fun o ho => ?_)
            simp only [List.getElem?_toArray, List.getElem?_cons_zero, List.getElem?_cons_succ, Option.some.injEq] at ho; subst ho
            refine ⟨.bool false, Or.inl ⟨by kernel_rfl, fun w' hl => Or.inl ?_⟩, ?_⟩
            · (go_simp; simpa using HBit.out)
            simp only [Act.put, List.setIfInBounds_toArray, List.set_cons_zero, List.set_cons_succ]
            refine late_take 6 (by kernel_rfl) (by kernel_rfl) (by kernel_rfl) (by kernel_rfl) (by kernel_rfl) (fun _ _ d _ _ h => by cases d <;> exact h) (fun o ho => ?_)
            simp only [List.getElem?_toArray, List.getElem?_cons_zero, List.getElem?_cons_succ, Option.some.injEq] at ho; subst ho
            apply Exists.intro
            refine ⟨Or.inl ⟨by kernel_rfl, fun w' hl => Or.inl ?_⟩, ?_⟩
            · (go_simp; try with_reducible rfl)
            simp only [Act.put, List.setIfInBounds_toArray, List.set_cons_zero, List.set_cons_succ]
            refine late_take 7 (by kernel_rfl) (by kernel_rfl) (by kernel_rfl) (by kernel_rfl) (by kernel_rfl) (fun _ _ d _ _ h => by cases d <;> exact h) (fun o ho => ?_)
            simp only [List.getElem?_toArray, List.getElem?_cons_zero, List.getElem?_cons_succ, Option.some.injEq] at ho; subst ho
            refine ⟨_, Or.inr ⟨by kernel_rfl, rfl⟩, ?_⟩
            simp only [Act.put, List.setIfInBounds_toArray, List.set_cons_zero, List.set_cons_succ]
            refine late_take 8 (by kernel_rfl) (by kernel_rfl) (by kernel_rfl) (by kernel_rfl) (by kernel_rfl) (fun _ _ d _ _ h => by cases d <;> exact h) (fun o ho => ?_)
            simp only [List.getElem?_toArray, List.getElem?_cons_zero, List.getElem?_cons_succ, Option.some.injEq] at ho; subst ho
            refine ⟨_, Or.inr ⟨by kernel_rfl, rfl⟩, ?_⟩
            simp only [Act.put, List.setIfInBounds_toArray, List.set_cons_zero, List.set_cons_succ]
            refine late_take 9 (by kernel_rfl) (by kernel_rfl) (by kernel_rfl) (by kernel_rfl) (by kernel_rfl) (fun _ _ d _ _ h => by cases d <;> exact h) (fun o ho => ?_)
            simp only [List.getElem?_toArray, List.getElem?_cons_zero, List.getElem?_cons_succ, Option.some.injEq] at ho; subst ho
            refine ⟨_, Or.inr ⟨by kernel_rfl, rfl⟩, ?_⟩
            simp only [Act.put, List.setIfInBounds_toArray, List.set_cons_zero, List.set_cons_succ]
            refine late_take 10 (by kernel_rfl) (by kernel_rfl) (by kernel_rfl) (by kernel_rfl) (by kernel_rfl) (fun _ _ d _ _ h => by cases d <;> exact h) (fun o ho => ?_)
            simp only [List.getElem?_toArray, List.getElem?_cons_zero, List.getElem?_cons_succ, Option.some.injEq] at ho; subst ho
            refine ⟨_, Or.inr ⟨by kernel_rfl, rfl⟩, ?_⟩
            simp only [Act.put, List.setIfInBounds_toArray, List.set_cons_zero, List.set_cons_succ]
            refine late_take 11 (by kernel_rfl) (by kernel_rfl) (by kernel_rfl) (by kernel_rfl) (by kernel_rfl) (fun _ _ d _ _ h => by cases d <;> exact h) (fun o ho => ?_)
            simp only [List.getElem?_toArray, List.getElem?_cons_zero, List.getElem?_cons_succ, Option.some.injEq] at ho; subst ho
            refine ⟨_, Or.inr ⟨by kernel_rfl, rfl⟩, ?_⟩
            simp only [Act.put, List.setIfInBounds_toArray, List.set_cons_zero, List.set_cons_succ]
            refine late_take 12 (by kernel_rfl) (by kernel_rfl) (by kernel_rfl) (by kernel_rfl) (by kernel_rfl) (fun _ _ d _ _ h => by cases d <;> exact h) (fun o ho => ?_)
            simp only [List.getElem?_toArray, List.getElem?_cons_zero, List.getElem?_cons_succ, Option.some.injEq] at ho; subst ho
            refine ⟨_, Or.inr ⟨by kernel_rfl, rfl⟩, ?_⟩
            simp only [Act.put, List.setIfInBounds_toArray, List.set_cons_zero, List.set_cons_succ]
            refine late_take 13 (by kernel_rfl) (by kernel_rfl) (by kernel_rfl) (by kernel_rfl) (by kernel_rfl) (fun _ _ d _ _ h => by cases d <;> exact h) (fun o ho => ?_)
            simp only [List.getElem?_toArray, List.getElem?_cons_zero, List.getElem?_cons_succ, Option.some.injEq] at ho; subst ho
            refine ⟨_, Or.inr ⟨by kernel_rfl, rfl⟩, ?_⟩
            simp only [Act.put, List.setIfInBounds_toArray, List.set_cons_zero, List.set_cons_succ]
            refine late_take 14 (by kernel_rfl) (by kernel_rfl) (by kernel_rfl) (by kernel_rfl) (by kernel_rfl) (fun _ _ d _ _ h => by cases d <;> exact h) (fun o ho => ?_)
            simp only [List.getElem?_toArray, List.getElem?_cons_zero, List.getElem?_cons_succ, Option.some.injEq] at ho; subst ho
            refine ⟨_, Or.inr ⟨by kernel_rfl, rfl⟩, ?_⟩
            simp only [Act.put, List.setIfInBounds_toArray, List.set_cons_zero, List.set_cons_succ]
            refine late_take 15 (by kernel_rfl) (by kernel_rfl) (by kernel_rfl) (by kernel_rfl) (by kernel_rfl) (fun _ _ d _ _ h => by cases d <;> exact h) (fun o ho => ?_)
            simp only [List.getElem?_toArray, List.getElem?_cons_zero, List.getElem?_cons_succ, Option.some.injEq] at ho; subst ho
            refine ⟨_, Or.inr ⟨by kernel_rfl, rfl⟩, ?_⟩
            simp only [Act.put, List.setIfInBounds_toArray, List.set_cons_zero, List.set_cons_succ]
            refine late_take 16 (by kernel_rfl) (by kernel_rfl) (by kernel_rfl) (by kernel_rfl) (by kernel_rfl) (fun _ _ d _ _ h => by cases d <;> exact h) (fun o ho => ?_)
            simp only [List.getElem?_toArray, List.getElem?_cons_zero, List.getElem?_cons_succ, Option.some.injEq] at ho; subst ho
            refine ⟨_, Or.inr ⟨by kernel_rfl, rfl⟩, ?_⟩
            simp only [Act.put, List.setIfInBounds_toArray, List.set_cons_zero, List.set_cons_succ]
            refine late_take 17 (by kernel_rfl) (by kernel_rfl) (by kernel_rfl) (by kernel_rfl) (by kernel_rfl) (fun _ _ d _ _ h => by cases d <;> exact h) (fun o ho => ?_)
            simp only [List.getElem?_toArray, List.getElem?_cons_zero, List.getElem?_cons_succ, Option.some.injEq] at ho; subst ho
            refine ⟨_, Or.inr ⟨by kernel_rfl, rfl⟩, ?_⟩
            simp only [Act.put, List.setIfInBounds_toArray, List.set_cons_zero, List.set_cons_succ]
            refine late_take 18 (by kernel_rfl) (by kernel_rfl) (by kernel_rfl) (by kernel_rfl) (by kernel_rfl) (fun _ _ d _ _ h => by cases d <;> exact h) (fun o ho => ?_)
            simp only [List.getElem?_toArray, List.getElem?_cons_zero, List.getElem?_cons_succ, Option.some.injEq] at ho; subst ho
            refine ⟨_, Or.inr ⟨by kernel_rfl, rfl⟩, ?_⟩
            simp only [Act.put, List.setIfInBounds_toArray, List.set_cons_zero, List.set_cons_succ]
            refine late_take 19 (by kernel_rfl) (by kernel_rfl) (by kernel_rfl) (by kernel_rfl) (by kernel_rfl) (fun _ _ d _ _ h => by cases d <;> exact h) (fun o ho => ?_)
            simp only [List.getElem?_toArray, List.getElem?_cons_zero, List.getElem?_cons_succ, Option.some.injEq] at ho; subst ho
            refine ⟨_, Or.inr ⟨by kernel_rfl, rfl⟩, ?_⟩
            simp only [Act.put, List.setIfInBounds_toArray, List.set_cons_zero, List.set_cons_succ]
            refine late_take 20 (by kernel_rfl) (by kernel_rfl) (by kernel_rfl) (by kernel_rfl) (by kernel_rfl) (fun _ _ d _ _ h => by cases d <;> exact h) (fun o ho => ?_)
            simp only [List.getElem?_toArray, List.getElem?_cons_zero, List.getElem?_cons_succ, Option.some.injEq] at ho; subst ho
            refine ⟨_, Or.inr ⟨by kernel_rfl, rfl⟩, ?_⟩
            simp only [Act.put, List.setIfInBounds_toArray, List.set_cons_zero, List.set_cons_succ]
            refine late_take 21 (by kernel_rfl) (by kernel_rfl) (by kernel_rfl) (by kernel_rfl) (by kernel_rfl) (fun _ _ d _ _ h => by cases d <;> exact h) (fun o ho => ?_)
            simp only [List.getElem?_toArray, List.getElem?_cons_zero, List.getElem?_cons_succ, Option.some.injEq] at ho; subst ho
            refine ⟨_, Or.inr ⟨by kernel_rfl, rfl⟩, ?_⟩
            simp only [Act.put, List.setIfInBounds_toArray, List.set_cons_zero, List.set_cons_succ]
            refine late_take 22 (by kernel_rfl) (by kernel_rfl) (by kernel_rfl) (by kernel_rfl) (by kernel_rfl) (fun _ _ d _ _ h => by cases d <;> exact h) (fun o ho => ?_)
            simp only [List.getElem?_toArray, List.getElem?_cons_zero, List.getElem?_cons_succ, Option.some.injEq] at ho; subst ho
            apply Exists.intro
            refine ⟨Or.inl ⟨by kernel_rfl, fun w' hl => Or.inl ?_⟩, ?_⟩
            · (go_simp; try with_reducible rfl)
            simp only [Act.put, List.setIfInBounds_toArray, List.set_cons_zero, List.set_cons_succ]
            refine late_end (by kernel_rfl) (fun wn hl => ?_)
            have HR1 := Lib.hid (HR1.out.later hl); have HB := Lib.hid (below_on HB.out hl); clear hl
            go_wp2_with fail
            go_roundw
            case rel => exact ⟨a + 1, by have := Hlt.out; omega, by go_num, HB.out, HR1.out⟩
            case measure => simp [intOf]; have := Hlt.out; omega
          · have HBit := Lib.hid (show (bits .and .u64 ((cs : Int) / 2 ^ a) 1 == 1) = true by rw [shr_bit HCl.out, gb])
            obtain ⟨q1, q2⟩ := HAt.out a hlt gb
            rw [HX.out] at q1 q2
            have g2 : (x == 0) = false := by rw [beq_eq_false_iff_ne]; exact q1
            have g3 : (x / 8 == t) = false := by rw [beq_eq_false_iff_ne]; exact q2
            clear hlt gb q1 q2
            go_wp2_with fail
            refine late_begin 23 (by kernel_rfl) ?_
            refine late_take 0 (by kernel_rfl) (by kernel_rfl) (by kernel_rfl) (by kernel_rfl) (by kernel_rfl) (fun _ _ d _ _ h => by cases d <;> exact h) (fun o ho => ?_)
            simp only [List.getElem?_toArray, List.getElem?_cons_zero, List.getElem?_cons_succ, Option.some.injEq] at ho; subst ho
            apply Exists.intro
            refine ⟨Or.inl ⟨by kernel_rfl, fun w' hl => Or.inl ?_⟩, ?_⟩
            · (go_simp; try with_reducible rfl)
            simp only [Act.put, List.setIfInBounds_toArray, List.set_cons_zero, List.set_cons_succ]
            refine late_take 1 (by kernel_rfl) (by kernel_rfl) (by kernel_rfl) (by kernel_rfl) (by kernel_rfl) (fun _ _ d _ _ h => by cases d <;> exact h) (fun o ho => ?_)
            simp only [List.getElem?_toArray, List.getElem?_cons_zero, List.getElem?_cons_succ, Option.some.injEq] at ho; subst ho
            apply Exists.intro
            refine ⟨Or.inl ⟨by kernel_rfl, fun w' hl => Or.inl ?_⟩, ?_⟩
            · (go_simp; try with_reducible rfl)
            simp only [Act.put, List.setIfInBounds_toArray, List.set_cons_zero, List.set_cons_succ]
            refine late_take 2 (by kernel_rfl) (by kernel_rfl) (by kernel_rfl) (by kernel_rfl) (by kernel_rfl) (fun _ _ d _ _ h => by cases d <;> exact h) (fun o ho => ?_)
            simp only [List.getElem?_toArray, List.getElem?_cons_zero, List.getElem?_cons_succ, Option.some.injEq] at ho; subst ho
            refine ⟨.int .u64 (a : Int), Or.inl ⟨by kernel_rfl, fun w' hl => Or.inl ?_⟩, ?_⟩
            · (go_simp; rw [HWa.out])
            simp only [Act.put, List.setIfInBounds_toArray, List.set_cons_zero, List.set_cons_succ]
            refine late_take 3 (by kernel_rfl) (by kernel_rfl) (by kernel_rfl) (by kernel_rfl) (by kernel_rfl) (fun _ _ d _ _ h => by cases d <;> exact h) (fun o ho => ?_)
            simp only [List.getElem?_toArray, List.getElem?_cons_zero, List.getElem?_cons_succ, Option.some.injEq] at ho; subst ho
            refine ⟨.int .u64 ((cs : Int) / 2 ^ a), Or.inl ⟨by kernel_rfl, fun w' hl => Or.inl ?_⟩, ?_⟩
            · (go_simp; try rw [HMin.out])
            simp only [Act.put, List.setIfInBounds_toArray, List.set_cons_zero, List.set_cons_succ]
            refine late_take 4 (by kernel_rfl) (by kernel_rfl) (by kernel_rfl) (by kernel_rfl) (by kernel_rfl) (fun _ _ d _ _ h => by cases d <;> exact h) (fun o ho => ?_)
            simp only [List.getElem?_toArray, List.getElem?_cons_zero, List.getElem?_cons_succ, Option.some.injEq] at ho; subst ho
            apply Exists.intro
            refine ⟨Or.inl ⟨by kernel_rfl, fun w' hl => Or.inl ?_⟩, ?_⟩
            · (go_simp; try with_reducible rfl)
            simp only [Act.put, List.setIfInBounds_toArray, List.set_cons_zero, List.set_cons_succ]
            refine late_take 5 (by kernel_rfl) (by kernel_rfl) (by kernel_rfl) (by kernel_rfl) (by kernel_rfl) (fun _ _ d _ _ h => by cases d <;> exact h) (fun o ho => ?_)
            simp only [List.getElem?_toArray, List.getElem?_cons_zero, List.getElem?_cons_succ, Option.some.injEq] at ho; subst ho
            refine ⟨.bool true, Or.inl ⟨by kernel_rfl, fun w' hl => Or.inl ?_⟩, ?_⟩
            · (go_simp; simpa using HBit.out)
            simp only [Act.put, List.setIfInBounds_toArray, List.set_cons_zero, List.set_cons_succ]
            refine late_take 6 (by kernel_rfl) (by kernel_rfl) (by kernel_rfl) (by kernel_rfl) (by kernel_rfl) (fun _ _ d _ _ h => by cases d <;> exact h) (fun o ho => ?_)
            simp only [List.getElem?_toArray, List.getElem?_cons_zero, List.getElem?_cons_succ, Option.some.injEq] at ho; subst ho
            apply Exists.intro
            refine ⟨Or.inl ⟨by kernel_rfl, fun w' hl => Or.inl ?_⟩, ?_⟩
            · (go_simp; try with_reducible rfl)
            simp only [Act.put, List.setIfInBounds_toArray, List.set_cons_zero, List.set_cons_succ]
            refine late_take 7 (by kernel_rfl) (by kernel_rfl) (by kernel_rfl) (by kernel_rfl) (by kernel_rfl) (fun _ _ d _ _ h => by cases d <;> exact h) (fun o ho => ?_)
            simp only [List.getElem?_toArray, List.getElem?_cons_zero, List.getElem?_cons_succ, Option.some.injEq] at ho; subst ho
            apply Exists.intro
            refine ⟨Or.inl ⟨by kernel_rfl, fun w' hl => Or.inl ?_⟩, ?_⟩
            · (go_simp; try with_reducible rfl)
            simp only [Act.put, List.setIfInBounds_toArray, List.set_cons_zero, List.set_cons_succ]
            refine late_take 8 (by kernel_rfl) (by kernel_rfl) (by kernel_rfl) (by kernel_rfl) (by kernel_rfl) (fun _ _ d _ _ h => by cases d <;> exact h) (fun o ho => ?_)
            simp only [List.getElem?_toArray, List.getElem?_cons_zero, List.getElem?_cons_succ, Option.some.injEq] at ho; subst ho
            apply Exists.intro
            refine ⟨Or.inl ⟨by kernel_rfl, fun w' hl => Or.inl ?_⟩, ?_⟩
            · (go_simp; try with_reducible rfl)
            simp only [Act.put, List.setIfInBounds_toArray, List.set_cons_zero, List.set_cons_succ]
            refine late_take 9 (by kernel_rfl) (by kernel_rfl) (by kernel_rfl) (by kernel_rfl) (by kernel_rfl) (fun _ _ d _ _ h => by cases d <;> exact h) (fun o ho => ?_)
            simp only [List.getElem?_toArray, List.getElem?_cons_zero, List.getElem?_cons_succ, Option.some.injEq] at ho; subst ho
            apply Exists.intro
            refine ⟨Or.inl ⟨by kernel_rfl, fun w' hl => Or.inl ?_⟩, ?_⟩
            · (go_simp; try with_reducible rfl)
            simp only [Act.put, List.setIfInBounds_toArray, List.set_cons_zero, List.set_cons_succ]
            refine late_take 10 (by kernel_rfl) (by kernel_rfl) (by kernel_rfl) (by kernel_rfl) (by kernel_rfl) (fun _ _ d _ _ h => by cases d <;> exact h) (fun o ho => ?_)
            simp only [List.getElem?_toArray, List.getElem?_cons_zero, List.getElem?_cons_succ, Option.some.injEq] at ho; subst ho
            refine ⟨_, Or.inl ⟨by kernel_rfl, fun w' hl => Or.inl (run_get 5 _ rfl b1 (1 + a) rfl Tryd.underlying5 rfl (.int .u8 x) (by rw [(HR1.out.later hl).cell (1 + a) (by have := Hlt.out; omega), kAt_board (by omega) Hlt.out, HX.out]))⟩, ?_⟩
            simp only [Act.put, List.setIfInBounds_toArray, List.set_cons_zero, List.set_cons_succ]
            refine late_take 11 (by kernel_rfl) (by kernel_rfl) (by kernel_rfl) (by kernel_rfl) (by kernel_rfl) (fun _ _ d _ _ h => by cases d <;> exact h) (fun o ho => ?_)
            simp only [List.getElem?_toArray, List.getElem?_cons_zero, List.getElem?_cons_succ, Option.some.injEq] at ho; subst ho
            refine ⟨.bool false, Or.inl ⟨by kernel_rfl, fun w' hl => Or.inl ?_⟩, ?_⟩
            · (first | (go_simp; done) | (go_simp; simpa using g2))
            simp only [Act.put, List.setIfInBounds_toArray, List.set_cons_zero, List.set_cons_succ]
            refine late_take 12 (by kernel_rfl) (by kernel_rfl) (by kernel_rfl) (by kernel_rfl) (by kernel_rfl) (fun _ _ d _ _ h => by cases d <;> exact h) (fun o ho => ?_)
            simp only [List.getElem?_toArray, List.getElem?_cons_zero, List.getElem?_cons_succ, Option.some.injEq] at ho; subst ho
            apply Exists.intro
            refine ⟨Or.inl ⟨by kernel_rfl, fun w' hl => Or.inl ?_⟩, ?_⟩
            · (go_simp; try with_reducible rfl)
            simp only [Act.put, List.setIfInBounds_toArray, List.set_cons_zero, List.set_cons_succ]
            refine late_take 13 (by kernel_rfl) (by kernel_rfl) (by kernel_rfl) (by kernel_rfl) (by kernel_rfl) (fun _ _ d _ _ h => by cases d <;> exact h) (fun o ho => ?_)
            simp only [List.getElem?_toArray, List.getElem?_cons_zero, List.getElem?_cons_succ, Option.some.injEq] at ho; subst ho
            apply Exists.intro
            refine ⟨Or.inl ⟨by kernel_rfl, fun w' hl => Or.inl ?_⟩, ?_⟩
            · (go_simp; try with_reducible rfl)
            simp only [Act.put, List.setIfInBounds_toArray, List.set_cons_zero, List.set_cons_succ]
            refine late_take 14 (by kernel_rfl) (by kernel_rfl) (by kernel_rfl) (by kernel_rfl) (by kernel_rfl) (fun _ _ d _ _ h => by cases d <;> exact h) (fun o ho => ?_)
            simp only [List.getElem?_toArray, List.getElem?_cons_zero, List.getElem?_cons_succ, Option.some.injEq] at ho; subst ho
            apply Exists.intro
            refine ⟨Or.inl ⟨by kernel_rfl, fun w' hl => Or.inl ?_⟩, ?_⟩
            · (go_simp; try with_reducible rfl)
            simp only [Act.put, List.setIfInBounds_toArray, List.set_cons_zero, List.set_cons_succ]
            refine late_take 15 (by kernel_rfl) (by kernel_rfl) (by kernel_rfl) (by kernel_rfl) (by kernel_rfl) (fun _ _ d _ _ h => by cases d <;> exact h) (fun o ho => ?_)
            simp only [List.getElem?_toArray, List.getElem?_cons_zero, List.getElem?_cons_succ, Option.some.injEq] at ho; subst ho
            apply Exists.intro
            refine ⟨Or.inl ⟨by kernel_rfl, fun w' hl => Or.inl ?_⟩, ?_⟩
            · (go_simp; try with_reducible rfl)
            simp only [Act.put, List.setIfInBounds_toArray, List.set_cons_zero, List.set_cons_succ]
            refine late_take 16 (by kernel_rfl) (by kernel_rfl) (by kernel_rfl) (by kernel_rfl) (by kernel_rfl) (fun _ _ d _ _ h => by cases d <;> exact h) (fun o ho => ?_)
            simp only [List.getElem?_toArray, List.getElem?_cons_zero, List.getElem?_cons_succ, Option.some.injEq] at ho; subst ho
            refine ⟨_, Or.inl ⟨by kernel_rfl, fun w' hl => Or.inl (run_get 5 _ rfl b1 (1 + a) rfl Tryd.underlying5 rfl (.int .u8 x) (by rw [(HR1.out.later hl).cell (1 + a) (by have := Hlt.out; omega), kAt_board (by omega) Hlt.out, HX.out]))⟩, ?_⟩
            simp only [Act.put, List.setIfInBounds_toArray, List.set_cons_zero, List.set_cons_succ]
            refine late_take 17 (by kernel_rfl) (by kernel_rfl) (by kernel_rfl) (by kernel_rfl) (by kernel_rfl) (fun _ _ d _ _ h => by cases d <;> exact h) (fun o ho => ?_)
            simp only [List.getElem?_toArray, List.getElem?_cons_zero, List.getElem?_cons_succ, Option.some.injEq] at ho; subst ho
            refine ⟨.int .u8 (x / 8), Or.inl ⟨by kernel_rfl, fun w' hl => Or.inl ?_⟩, ?_⟩
            · (go_simp; rw [HDiv.out])
            simp only [Act.put, List.setIfInBounds_toArray, List.set_cons_zero, List.set_cons_succ]
            refine late_take 18 (by kernel_rfl) (by kernel_rfl) (by kernel_rfl) (by kernel_rfl) (by kernel_rfl) (fun _ _ d _ _ h => by cases d <;> exact h) (fun o ho => ?_)
            simp only [List.getElem?_toArray, List.getElem?_cons_zero, List.getElem?_cons_succ, Option.some.injEq] at ho; subst ho
            apply Exists.intro
            refine ⟨Or.inl ⟨by kernel_rfl, fun w' hl => Or.inl ?_⟩, ?_⟩
            · (go_simp; try with_reducible rfl)
            simp only [Act.put, List.setIfInBounds_toArray, List.set_cons_zero, List.set_cons_succ]
            refine late_take 19 (by kernel_rfl) (by kernel_rfl) (by kernel_rfl) (by kernel_rfl) (by kernel_rfl) (fun _ _ d _ _ h => by cases d <;> exact h) (fun o ho => ?_)
            simp only [List.getElem?_toArray, List.getElem?_cons_zero, List.getElem?_cons_succ, Option.some.injEq] at ho; subst ho
            refine ⟨_, Or.inl ⟨by kernel_rfl, fun w' hl => Or.inl (run_get 5 _ rfl b1 (78) rfl Tryd.underlying5 rfl (.int .u8 t) (by rw [(HR1.out.later hl).cell (78) (by have := Hlt.out; omega), show kAt 78 = .u8 from rfl, HTt.out]))⟩, ?_⟩
            simp only [Act.put, List.setIfInBounds_toArray, List.set_cons_zero, List.set_cons_succ]
            refine late_take 20 (by kernel_rfl) (by kernel_rfl) (by kernel_rfl) (by kernel_rfl) (by kernel_rfl) (fun _ _ d _ _ h => by cases d <;> exact h) (fun o ho => ?_)
            simp only [List.getElem?_toArray, List.getElem?_cons_zero, List.getElem?_cons_succ, Option.some.injEq] at ho; subst ho
            refine ⟨.bool false, Or.inl ⟨by kernel_rfl, fun w' hl => Or.inl ?_⟩, ?_⟩
            · (first | (go_simp; done) | (go_simp; simpa using g3))
            simp only [Act.put, List.setIfInBounds_toArray, List.set_cons_zero, List.set_cons_succ]
            refine late_take 21 (by kernel_rfl) (by kernel_rfl) (by kernel_rfl) (by kernel_rfl) (by kernel_rfl) (fun _ _ d _ _ h => by cases d <;> exact h) (fun o ho => ?_)
            simp only [List.getElem?_toArray, List.getElem?_cons_zero, List.getElem?_cons_succ, Option.some.injEq] at ho; subst ho
            apply Exists.intro
            refine ⟨Or.inl ⟨by kernel_rfl, fun w' hl => Or.inl ?_⟩, ?_⟩
            · (go_simp; try with_reducible rfl)
            simp only [Act.put, List.setIfInBounds_toArray, List.set_cons_zero, List.set_cons_succ]
            refine late_take 22 (by kernel_rfl) (by kernel_rfl) (by kernel_rfl) (by kernel_rfl) (by kernel_rfl) (fun _ _ d _ _ h => by cases d <;> exact h) (fun o ho => ?_)
            simp only [List.getElem?_toArray, List.getElem?_cons_zero, List.getElem?_cons_succ, Option.some.injEq] at ho; subst ho
            apply Exists.intro
            refine ⟨Or.inl ⟨by kernel_rfl, fun w' hl => Or.inl ?_⟩, ?_⟩
            · (go_simp; try with_reducible rfl)
            simp only [Act.put, List.setIfInBounds_toArray, List.set_cons_zero, List.set_cons_succ]
            refine late_end (by kernel_rfl) (fun wn hl => ?_)
            have HR1 := Lib.hid (HR1.out.later hl); have HB := Lib.hid (below_on HB.out hl); clear hl
            go_wp2_with fail
            go_roundw
            case rel => exact ⟨a + 1, by have := Hlt.out; omega, by go_num, HB.out, HR1.out⟩
            case measure => simp [intOf]; have := Hlt.out; omega
        · obtain rfl : a = 64 := by omega
          go_wp2_with (first
            | (refine step_load (by rfl) _ rfl b1 rfl p HR1.out ?_)
            | (refine step_alloc (op := ⟨some 5, _, _, _, _, _⟩) rfl rfl ?_; intro b5 wn N R; have HR5 := Lib.hid R; have HG5 := Lib.hid (show w.heap.size ≤ b5 by have := HB.out.size; have := N.at_; omega); have HB := Lib.hid (below_on HB.out N.below); clear N R)
            | (refine step_store rfl _ _ rfl b5 rfl _ p rfl HR5.out ?_; intro wn U R; have HR5 := Lib.hid R; have HB := Lib.hid (HB.out.trans (U.below HG5.out)); clear U R)
            | (refine step_cell (by rfl) 5 _ _ rfl b5 0 rfl .u8 4 rfl _ HR5.out (by omega) rfl size5 ?_; intro wn U R; have HR5 := Lib.hid R; have HB := Lib.hid (HB.out.trans (U.below HG5.out)); clear U R))
          refine (none_any _).mono ?_; rintro e wn ⟨rfl, hb9⟩; have HR5 := Lib.hid (HR5.out.later hb9); have HB := Lib.hid (below_on HB.out hb9); clear hb9
          have HR5 := Lib.hid (show Row _ b5 (upd p 0 4) from HR5.out)
          go_wp2_with (first
            | (refine step_alloc (op := ⟨some 6, _, _, _, _, _⟩) rfl rfl ?_; intro b6 wn N R; have HD56 := Lib.hid (new_ne N HR5.out); have HR5 := Lib.hid (new_row N HR5.out); have HR6 := Lib.hid R; have HG6 := Lib.hid (show w.heap.size ≤ b6 by have := HB.out.size; have := N.at_; omega); have HB := Lib.hid (below_on HB.out N.below); clear N R)
            | (refine step_store rfl _ _ rfl b6 rfl _ noneP rfl HR6.out ?_; intro wn U R; have HR5 := Lib.hid (HR5.out.apart U HD56.out); have HR6 := Lib.hid R; have HB := Lib.hid (HB.out.trans (U.below HG6.out)); clear U R)
            | (refine step_cell (by rfl) 5 _ _ rfl b6 0 rfl .u8 3 rfl _ HR6.out (by omega) rfl size5 ?_; intro wn U R; have HR5 := Lib.hid (HR5.out.apart U HD56.out); have HR6 := Lib.hid R; have HB := Lib.hid (HB.out.trans (U.below HG6.out)); clear U R)
            | (refine step_cell (by rfl) 5 _ _ rfl b6 28 rfl .u8 6 rfl _ HR6.out (by omega) rfl size5 ?_; intro wn U R; have HR5 := Lib.hid (HR5.out.apart U HD56.out); have HR6 := Lib.hid R; have HB := Lib.hid (HB.out.trans (U.below HG6.out)); clear U R)
            | (refine step_cell (by rfl) 5 _ _ rfl b6 29 rfl .u8 14 rfl _ HR6.out (by omega) rfl size5 ?_; intro wn U R; have HR5 := Lib.hid (HR5.out.apart U HD56.out); have HR6 := Lib.hid R; have HB := Lib.hid (HB.out.trans (U.below HG6.out)); clear U R)
            | (refine step_cell (by rfl) 5 _ _ rfl b6 4 rfl .u8 13 rfl _ HR6.out (by omega) rfl size5 ?_; intro wn U R; have HR5 := Lib.hid (HR5.out.apart U HD56.out); have HR6 := Lib.hid R; have HB := Lib.hid (HB.out.trans (U.below HG6.out)); clear U R)
            | (refine step_load (by rfl) _ rfl b5 rfl (upd p 0 4) HR5.out ?_))
          have HR6 := Lib.hid (show Row _ b6 atoP from HR6.out)
          refine (check_k K1.out _ HQ5.out (by decide) (HD.out.next HB.out) (HL.out.next HB.out) (HT.out.on HB.out)).mono ?_; rintro e wn ⟨rfl, hb9⟩; have HR5 := Lib.hid (HR5.out.later hb9); have HR6 := Lib.hid (HR6.out.later hb9); have HB := Lib.hid (below_on HB.out hb9); clear hb9
          go_wp2_with (first | (refine step_load (by rfl) _ rfl b5 rfl (upd p 0 4) HR5.out ?_) | (refine step_load (by rfl) _ rfl b6 rfl atoP HR6.out ?_))
          refine (check_k K2.out _ HQ5.out (by decide) (HD.out.next HB.out) (HL.out.next HB.out) (HT.out.on HB.out)).mono ?_; rintro e wn ⟨rfl, hb9⟩; have HR5 := Lib.hid (HR5.out.later hb9); have HR6 := Lib.hid (HR6.out.later hb9); have HB := Lib.hid (below_on HB.out hb9); clear hb9
          go_wp2_with (first | (refine step_load (by rfl) _ rfl b5 rfl (upd p 0 4) HR5.out ?_) | (refine step_load (by rfl) _ rfl b6 rfl atoP HR6.out ?_))
          refine (checkers_k K3.out _ HQ5.out (HD.out.next HB.out) (HL.out.next HB.out) (HT.out.on HB.out)).mono ?_; rintro e wn ⟨rfl, hb9⟩; have HR5 := Lib.hid (HR5.out.later hb9); have HR6 := Lib.hid (HR6.out.later hb9); have HB := Lib.hid (below_on HB.out hb9); clear hb9
          go_wp2_with (first | (refine step_load (by rfl) _ rfl b5 rfl (upd p 0 4) HR5.out ?_) | (refine step_load (by rfl) _ rfl b6 rfl atoP HR6.out ?_))
          refine (check_k K4.out _ HQ6.out (by decide) (HD.out.next HB.out) (HL.out.next HB.out) (HT.out.on HB.out)).mono ?_; rintro e wn ⟨rfl, hb9⟩; have HR5 := Lib.hid (HR5.out.later hb9); have HR6 := Lib.hid (HR6.out.later hb9); have HB := Lib.hid (below_on HB.out hb9); clear hb9
          go_wp2_with (first | (refine step_load (by rfl) _ rfl b5 rfl (upd p 0 4) HR5.out ?_) | (refine step_load (by rfl) _ rfl b6 rfl atoP HR6.out ?_))
          refine (check_k K5.out _ HQ6.out (by decide) (HD.out.next HB.out) (HL.out.next HB.out) (HT.out.on HB.out)).mono ?_; rintro e wn ⟨rfl, hb9⟩; have HR5 := Lib.hid (HR5.out.later hb9); have HR6 := Lib.hid (HR6.out.later hb9); have HB := Lib.hid (below_on HB.out hb9); clear hb9
          go_wp2_with fail
          refine (at_awake _ (HD.out.next HB.out) (HL.out.next HB.out) (HT.out.on HB.out)).mono ?_; rintro e wn ⟨rfl, hb9⟩; have HB := Lib.hid (below_on HB.out hb9); clear hb9
          go_wp2_with fail
          go_ret
          exact ⟨rfl, HB.out⟩
end Go.Proofs.YtlhepfighelijaaDoor.attackChecks
