/-
  The walk of AttackTurned.
-/
import Derived.Test.YtlhepfighelijaaDoorAtTurn
import Derived.WalkKit
import Derived.OpenShut
namespace Go.Proofs.YtlhepfighelijaaDoor.attackTurned
open Go.RowKit
set_option linter.unusedVariables false
set_option linter.unusedSimpArgs false
theorem row_eq {w : World} {b : Nat} {p q : Nat → Int} (h : Row w b p) (e : posA p = posA q) : Row w b q := by unfold Row at *; rw [h, e]
set_option maxRecDepth 100000 in
set_option maxHeartbeats 4000000 in
theorem walk (p : Nat → Int) (a1 : Int) (hp : WfP p) (w1 : (Lit.int .i64 a1).wf = true) (w : World) (hD : TabDb w) (hL : TabLead w) (hT : TabVar w) :
    Calls Tryd.prog 8 #[.agg (posA p), .int .i64 a1] w fun e w' => e = .returned (.bool true) ∧ Below w.heap.size w w' := by
  have HP := Lib.hid (AtR.of hp)
  have HD := Lib.hid hD
  have HL := Lib.hid hL
  have HT := Lib.hid hT
  obtain ⟨t, HTt⟩ : ∃ t, Hid (p 78 = t) := ⟨_, Lib.hid rfl⟩
  obtain ⟨t0, t1⟩ := AtR.turn HP.out
  rw [HTt.out] at t0 t1
  obtain ⟨v, HV⟩ : ∃ v, Hid (p 0 = v) := ⟨_, Lib.hid rfl⟩
  have hv := AtR.var HP.out
  rw [HV.out] at hv
  have HVr := Lib.hid hv
  obtain ⟨s, hs, es⟩ := sq64 a1
  have Hs := Lib.hid hs
  clear hp hD hL hT w1 hv hs
  cases gl : lawB p 64
  · have Hgl := Lib.hid gl
    clear gl
    go_enter Tryd.func8, Tryd.ntmps8
    go_wp2_with (first | (refine step_box rfl _ rfl p rfl ?_; intro b1 w1 N R; have HB := Lib.hid N.below; have HR1 := Lib.hid R; clear N R) | (refine step_load (by rfl) _ rfl _ rfl p HR1.out ?_))
    refine (lawful_any p _ HP.out.bd).mono ?_; rintro e wn ⟨rfl, hb9⟩; have HR1 := Lib.hid (HR1.out.later hb9); have HB := Lib.hid (below_on HB.out hb9); clear hb9; rw [Hgl.out]
    go_wp2_with fail
    refine (at_awake _ (HD.out.next HB.out) (HL.out.next HB.out) (HT.out.on HB.out)).mono ?_; rintro e wn ⟨rfl, hb9⟩; have HB := Lib.hid (below_on HB.out hb9); clear hb9
    go_wp2_with fail
    go_ret
    exact ⟨rfl, HB.out⟩
  · have Hgl := Lib.hid gl
    clear gl
    cases g7 : (v == 7)
    · by_cases h1 : 1 < t
      · have g1 : decide (1 < t) = true := decide_eq_true h1
        clear h1
        go_enter Tryd.func8, Tryd.ntmps8
        go_wp2_with (first | (refine step_box rfl _ rfl p rfl ?_; intro b1 w1 N R; have HB := Lib.hid N.below; have HR1 := Lib.hid R; clear N R) | (refine step_load (by rfl) _ rfl _ rfl p HR1.out ?_))
        refine (lawful_any p _ HP.out.bd).mono ?_; rintro e wn ⟨rfl, hb9⟩; have HR1 := Lib.hid (HR1.out.later hb9); have HB := Lib.hid (below_on HB.out hb9); clear hb9; rw [Hgl.out]
        have hc0 := HR1.out.cell 0 (by omega)
        rw [HV.out, show kAt 0 = .u8 from rfl] at hc0
        have hc78 := HR1.out.cell 78 (by omega)
        rw [HTt.out, show kAt 78 = .u8 from rfl] at hc78
        go_wp2_with fail
        refine (at_awake _ (HD.out.next HB.out) (HL.out.next HB.out) (HT.out.on HB.out)).mono ?_; rintro e wn ⟨rfl, hb9⟩; have HB := Lib.hid (below_on HB.out hb9); clear hb9
        go_wp2_with fail
        go_ret
        exact ⟨rfl, HB.out⟩
      · have g1 : decide (1 < t) = false := decide_eq_false h1
        have ht1 : t ≤ 1 := by omega
        have Ht1 := Lib.hid ht1
        have Hv7 := Lib.hid (show (p 0).toNat ≠ 7 by rw [HV.out]; rw [beq_eq_false_iff_ne] at g7; have := HVr.out; omega)
        have HQ := Lib.hid (allT_at HP.out Hgl.out (by rw [HTt.out]; exact ht1))
        have HF := Lib.hid (from_turn Hgl.out Hs.out)
        have hbs := bx_fl s Hs.out
        have hfs := flT_lt Hs.out
        have l0 : (s : Int) ≤ 63 := by have := Hs.out; omega
        clear h1 ht1
        go_enter Tryd.func8, Tryd.ntmps8
        go_wp2_with (first | (refine step_box rfl _ rfl p rfl ?_; intro b1 w1 N R; have HB := Lib.hid N.below; have HR1 := Lib.hid R; clear N R) | (refine step_load (by rfl) _ rfl _ rfl p HR1.out ?_))
        refine (lawful_any p _ HP.out.bd).mono ?_; rintro e wn ⟨rfl, hb9⟩; have HR1 := Lib.hid (HR1.out.later hb9); have HB := Lib.hid (below_on HB.out hb9); clear hb9; rw [Hgl.out]
        have hc0 := HR1.out.cell 0 (by omega)
        rw [HV.out, show kAt 0 = .u8 from rfl] at hc0
        have hc78 := HR1.out.cell 78 (by omega)
        rw [HTt.out, show kAt 78 = .u8 from rfl] at hc78
        go_wp2_with (first
          | (refine step_load (by rfl) _ rfl b1 rfl p HR1.out ?_)
          | (refine step_alloc (op := ⟨some 5, _, _, _, _, _⟩) rfl rfl ?_; intro b5 wn N R; have HD15 := Lib.hid (new_ne N HR1.out); have HR1 := Lib.hid (new_row N HR1.out); have HR5 := Lib.hid R; have HG5 := Lib.hid (show w.heap.size ≤ b5 by have := HB.out.size; have := N.at_; omega); have HB := Lib.hid (below_on HB.out N.below); clear N R hc0 hc78)
          | (refine step_store rfl _ _ rfl b5 rfl _ p rfl HR5.out ?_; intro wn U R; have HR1 := Lib.hid (HR1.out.apart U HD15.out); have HR5 := Lib.hid R; have HB := Lib.hid (HB.out.trans (U.below HG5.out)); clear U R))
        go_loopw [6] (fun i wr => ∃ k : Nat, k ≤ 64 ∧ i = .int .i64 (k : Int) ∧ Below w.heap.size w wr ∧ Row wr b1 p ∧ Row wr b5 (turnP p k)) (fun i _ => 64 - (intOf i).toNat)
        case atStart => exact ⟨0, by omega, rfl, HB.out, HR1.out, row_eq HR5.out (turn_zero p).symm⟩
        case round =>
          clear HB HR1 HR5
          obtain ⟨k, hk, rfl, hb9, hr1, hr5⟩ := hrel
          have HB := Lib.hid hb9
          have HR1 := Lib.hid hr1
          have HR5 := Lib.hid hr5
          clear hb9 hr1 hr5
          by_cases hlt : k < 64
          · have gk : decide ((k : Int) < 64) = true := decide_eq_true (by omega)
            have l1 : (k : Int) ≤ 63 := by omega
            have Hlt := Lib.hid hlt
            have hbx := bx_fl k hlt
            have hfl := flT_lt hlt
            have Hfl := Lib.hid hfl
            have l2 : ((flT k : Nat) : Int) ≤ 63 := by omega
            obtain ⟨x, HX⟩ : ∃ x, Hid (p (1 + k) = x) := ⟨_, Lib.hid rfl⟩
            have hx := HP.out.bd k hlt
            have hl := lawB_at Hgl.out k hlt
            rw [HX.out] at hx hl
            obtain ⟨x0, _⟩ := hx
            have x14 : x ≤ 14 := by rcases hl with h | h; { omega }; { rw [pcB_true] at h; omega }
            have HS2 := Lib.hid (turn_succ p hlt)
            rw [HX.out] at HS2
            obtain ⟨f, HFl⟩ : ∃ f, Hid (flT k = f) := ⟨_, Lib.hid rfl⟩
            rw [HFl.out] at hbx l2 Hfl HS2
            have hcell := HR1.out.cell (1 + k) (by omega)
            rw [HX.out, kAt_board (by omega) hlt] at hcell
            clear hl hlt hfl
            cases gx : (x != 0)
            · have HTr := Lib.hid (show trnX x = x by unfold trnX; simp only [bne, Bool.not_eq_false', beq_iff_eq] at gx; rw [if_pos gx, gx])
              go_wp2_with (refine step_cell (by rfl) 5 _ _ rfl b5 (1 + f) rfl .u8 x rfl _ HR5.out (by have := Hfl.out; omega) (kAt_board (by omega) Hfl.out) size5 ?_; intro wn U R; have HR1 := Lib.hid (HR1.out.apart U HD15.out); have HR5 := Lib.hid R; have HB := Lib.hid (HB.out.trans (U.below HG5.out)); clear U R hcell)
              go_roundw
              case rel => exact ⟨k + 1, by have := Hlt.out; omega, by go_num, HB.out, HR1.out, row_eq HR5.out (by have := HS2.out; rw [HTr.out] at this; exact this)⟩
              case measure => simp [intOf]; have := Hlt.out; omega
            · have HTr := Lib.hid (show trnX x = (x + 8) % 16 by unfold trnX; rw [bne_iff_ne] at gx; rw [if_neg gx])
              go_wp2_with (refine step_cell (by rfl) 5 _ _ rfl b5 (1 + f) rfl .u8 ((x + 8) % 16) rfl _ HR5.out (by have := Hfl.out; omega) (kAt_board (by omega) Hfl.out) size5 ?_; intro wn U R; have HR1 := Lib.hid (HR1.out.apart U HD15.out); have HR5 := Lib.hid R; have HB := Lib.hid (HB.out.trans (U.below HG5.out)); clear U R hcell)
              go_roundw
              case rel => exact ⟨k + 1, by have := Hlt.out; omega, by go_num, HB.out, HR1.out, row_eq HR5.out (by have := HS2.out; rw [HTr.out] at this; exact this)⟩
              case measure => simp [intOf]; have := Hlt.out; omega
          · obtain rfl : k = 64 := by omega
            clear hlt hk
            have hc78 := HR1.out.cell 78 (by omega)
            rw [HTt.out, show kAt 78 = .u8 from rfl] at hc78
            go_wp2_with (refine step_cell (by rfl) 5 _ _ rfl b5 78 rfl .u8 ((1 - t) % 256) rfl _ HR5.out (by omega) rfl size5 ?_; intro wn U R; have HR1 := Lib.hid (HR1.out.apart U HD15.out); have HR5 := Lib.hid R; have HB := Lib.hid (HB.out.trans (U.below HG5.out)); clear U R hc78)
            have HR5 := Lib.hid (show Row _ b5 (allT p) by have h := HR5.out; rw [show (1 - t) % 256 = 1 - p 78 by rw [HTt.out]; have := Ht1.out; omega] at h; exact h)
            refine late_begin 9 (by kernel_rfl) ?_
            refine late_take 0 (by kernel_rfl) (by kernel_rfl) (by kernel_rfl) (by kernel_rfl) (by kernel_rfl) (fun _ _ d _ _ h => by cases d <;> exact h) (fun o ho => ?_)
            simp only [List.getElem?_toArray, List.getElem?_cons_zero, List.getElem?_cons_succ, Option.some.injEq] at ho; subst ho
            refine ⟨_, Or.inl ⟨by kernel_rfl, fun w' hl => Or.inl (run_load _ rfl _ rfl (p) (HR1.out.later hl))⟩, ?_⟩
            simp only [Act.put, List.setIfInBounds_toArray, List.set_cons_zero, List.set_cons_succ]
            refine late_take 1 (by kernel_rfl) (by kernel_rfl) (by kernel_rfl) (by kernel_rfl) (by kernel_rfl) (fun _ _ d _ _ h => by cases d <;> exact h) (fun o ho => ?_)
            simp only [List.getElem?_toArray, List.getElem?_cons_zero, List.getElem?_cons_succ, Option.some.injEq] at ho; subst ho
            apply Exists.intro
            refine ⟨Or.inl ⟨by kernel_rfl, fun w' hl => Or.inl ?_⟩, ?_⟩
            · (go_simp; try with_reducible rfl)
            simp only [Act.put, List.setIfInBounds_toArray, List.set_cons_zero, List.set_cons_succ]
            refine late_take 3 (by kernel_rfl) (by kernel_rfl) (by kernel_rfl) (by kernel_rfl) (by kernel_rfl) (fun _ _ d _ _ h => by cases d <;> exact h) (fun o ho => ?_)
            simp only [List.getElem?_toArray, List.getElem?_cons_zero, List.getElem?_cons_succ, Option.some.injEq] at ho; subst ho
            refine ⟨_, Or.inl ⟨by kernel_rfl, fun w' hl => Or.inl (run_load _ rfl _ rfl (allT p) (HR5.out.later hl))⟩, ?_⟩
            simp only [Act.put, List.setIfInBounds_toArray, List.set_cons_zero, List.set_cons_succ]
            refine late_take 4 (by kernel_rfl) (by kernel_rfl) (by kernel_rfl) (by kernel_rfl) (by kernel_rfl) (fun _ _ d _ _ h => by cases d <;> exact h) (fun o ho => ?_)
            simp only [List.getElem?_toArray, List.getElem?_cons_zero, List.getElem?_cons_succ, Option.some.injEq] at ho; subst ho
            apply Exists.intro
            refine ⟨Or.inl ⟨by kernel_rfl, fun w' hl => Or.inl ?_⟩, ?_⟩
            · (go_simp; try with_reducible rfl)
            simp only [Act.put, List.setIfInBounds_toArray, List.set_cons_zero, List.set_cons_succ]
            refine late_take 5 (by kernel_rfl) (by kernel_rfl) (by kernel_rfl) (by kernel_rfl) (by kernel_rfl) (fun _ _ d _ _ h => by cases d <;> exact h) (fun o ho => ?_)
            simp only [List.getElem?_toArray, List.getElem?_cons_zero, List.getElem?_cons_succ, Option.some.injEq] at ho; subst ho
            apply Exists.intro
            refine ⟨Or.inl ⟨by kernel_rfl, fun w' hl => Or.inl ?_⟩, ?_⟩
            · (go_simp; try with_reducible rfl)
            simp only [Act.put, List.setIfInBounds_toArray, List.set_cons_zero, List.set_cons_succ]
            refine late_one 2 (by kernel_rfl) (by kernel_rfl) (fun o ho => ?_)
            simp only [List.getElem?_toArray, List.getElem?_cons_zero, List.getElem?_cons_succ, Option.some.injEq] at ho; subst ho
            refine ⟨by kernel_rfl, fun wn hl K hK => ?_⟩
            have HR1 := Lib.hid (HR1.out.later hl); have HR5 := Lib.hid (HR5.out.later hl); have HB := Lib.hid (below_on HB.out hl); clear hl
            refine wp_enter _ _ (by go_simp; exact ⟨rfl, rfl⟩) ?_
            refine (from_any p (s : Int) _ HP.out.bd (HD.out.next HB.out) (HL.out.next HB.out)).mono ?_; rintro e wm ⟨rfl, hb⟩; refine ⟨_, rfl, ?_⟩
            refine hK.out _ _ hb ?_
            have HR1 := Lib.hid (HR1.out.later hb); have HR5 := Lib.hid (HR5.out.later hb); have HB := Lib.hid (below_on HB.out hb); clear hb
            clear hK K
            simp only [Act.put, List.setIfInBounds_toArray, List.set_cons_zero, List.set_cons_succ]
            refine late_one 6 (by kernel_rfl) (by kernel_rfl) (fun o ho => ?_)
            simp only [List.getElem?_toArray, List.getElem?_cons_zero, List.getElem?_cons_succ, Option.some.injEq] at ho; subst ho
            refine ⟨by kernel_rfl, fun wn hl K hK => ?_⟩
            have HR1 := Lib.hid (HR1.out.later hl); have HR5 := Lib.hid (HR5.out.later hl); have HB := Lib.hid (below_on HB.out hl); clear hl
            refine wp_enter _ _ (by go_simp; exact ⟨rfl, rfl⟩) ?_
            refine (from_k HF.out _ HQ.out.bd (HD.out.next HB.out) (HL.out.next HB.out)).mono ?_; rintro e wm ⟨rfl, hb⟩; refine ⟨_, rfl, ?_⟩
            refine hK.out _ _ hb ?_
            have HR1 := Lib.hid (HR1.out.later hb); have HR5 := Lib.hid (HR5.out.later hb); have HB := Lib.hid (below_on HB.out hb); clear hb
            clear hK K
            simp only [Act.put, List.setIfInBounds_toArray, List.set_cons_zero, List.set_cons_succ]
            refine late_take 7 (by kernel_rfl) (by kernel_rfl) (by kernel_rfl) (by kernel_rfl) (by kernel_rfl) (fun _ _ d _ _ h => by cases d <;> exact h) (fun o ho => ?_)
            simp only [List.getElem?_toArray, List.getElem?_cons_zero, List.getElem?_cons_succ, Option.some.injEq] at ho; subst ho
            apply Exists.intro
            refine ⟨Or.inl ⟨by kernel_rfl, fun w' hl => Or.inl ?_⟩, ?_⟩
            · (go_simp; try with_reducible rfl)
            simp only [Act.put, List.setIfInBounds_toArray, List.set_cons_zero, List.set_cons_succ]
            refine late_take 8 (by kernel_rfl) (by kernel_rfl) (by kernel_rfl) (by kernel_rfl) (by kernel_rfl) (fun _ _ d _ _ h => by cases d <;> exact h) (fun o ho => ?_)
            simp only [List.getElem?_toArray, List.getElem?_cons_zero, List.getElem?_cons_succ, Option.some.injEq] at ho; subst ho
            apply Exists.intro
            refine ⟨Or.inl ⟨by kernel_rfl, fun w' hl => Or.inl ?_⟩, ?_⟩
            · (go_simp; try with_reducible rfl)
            simp only [Act.put, List.setIfInBounds_toArray, List.set_cons_zero, List.set_cons_succ]
            refine late_end (by kernel_rfl) (fun wn hl => ?_)
            have HR1 := Lib.hid (HR1.out.later hl); have HR5 := Lib.hid (HR5.out.later hl); have HB := Lib.hid (below_on HB.out hl); clear hl
            go_wp2_with fail
            obtain ⟨X, HX0⟩ : ∃ X, Hid (fromN p (s : Int) = X) := ⟨_, Lib.hid rfl⟩
            have HXl := Lib.hid (show X < W64 by rw [← HX0.out]; exact fromN_lt _ _)
            rw [HX0.out]
            obtain ⟨Y, HY0⟩ : ∃ Y, Hid (flipN X = Y) := ⟨_, Lib.hid rfl⟩
            have HYl := Lib.hid (show Y < W64 by rw [← HY0.out]; exact flipN_lt _)
            rw [HY0.out]
            go_loop [10] (fun i => ∃ k : Nat, k ≤ 64 ∧ i = .int .i64 (k : Int)) (fun i => 64 - (intOf i).toNat)
            case atStart => exact ⟨0, by omega, rfl⟩
            case round =>
              obtain ⟨k, hk, rfl⟩ := hrel
              by_cases hlt : k < 64
              · have gk : decide ((k : Int) < 64) = true := decide_eq_true (by omega)
                have l1 : (k : Int) ≤ 63 := by omega
                have Hlt := Lib.hid hlt
                have hbx := bx_fl k hlt
                have hfl := flT_lt hlt
                have r1 := shr_one (a := k) HXl.out
                have r2 := shr_one (a := flT k) HYl.out
                rw [show Y.testBit (flT k) = X.testBit k by rw [← HY0.out]; exact flip_bit' X hlt] at r2
                obtain ⟨f, HFl⟩ : ∃ f, Hid (flT k = f) := ⟨_, Lib.hid rfl⟩
                rw [HFl.out] at hbx r2 hfl
                have l2 : (f : Int) ≤ 63 := by omega
                obtain ⟨r, HRr⟩ : ∃ r : Int, Hid (((if X.testBit k = true then 1 else 0 : Nat) : Int) = r) := ⟨_, Lib.hid rfl⟩
                rw [HRr.out] at r1 r2
                clear hlt
                go_wp2_with fail
                go_round
                case rel => exact ⟨k + 1, by have := Hlt.out; omega, by go_num⟩
                case measure => simp [intOf]; have := Hlt.out; omega
              · obtain rfl : k = 64 := by omega
                clear hlt hk
                go_wp2_with fail
                obtain ⟨K0, HK0⟩ : ∃ K, Hid (ofN p 0 6 = K) := ⟨_, Lib.hid rfl⟩
                obtain ⟨K1, HK1⟩ : ∃ K, Hid (ofN p 1 6 = K) := ⟨_, Lib.hid rfl⟩
                go_loop [11, 12, 13] (fun o1 o2 i => ∃ k : Nat, k ≤ 64 ∧ i = .int .i64 (k : Int) ∧ o1 = .int .i64 ((numN K0 k : Nat) : Int) ∧ o2 = .int .i64 ((numN K1 k : Nat) : Int)) (fun _ _ i => 64 - (intOf i).toNat)
                case atStart => exact ⟨0, by omega, rfl, rfl, rfl⟩
                case round =>
                  obtain ⟨k, hk, rfl, rfl, rfl⟩ := hrel
                  by_cases hlt : k < 64
                  · have gk : decide ((k : Int) < 64) = true := decide_eq_true (by omega)
                    have l1 : (k : Int) ≤ 63 := by omega
                    have Hlt := Lib.hid hlt
                    obtain ⟨x, HX⟩ : ∃ x, Hid (p (1 + k) = x) := ⟨_, Lib.hid rfl⟩
                    have hl := lawB_at Hgl.out k hlt
                    have hcell := HR1.out.cell (1 + k) (by omega)
                    rw [HX.out, kAt_board (by omega) hlt] at hcell
                    rw [HX.out] at hl
                    have Y0 := Lib.hid (num_yes (b := K0) (k := k))
                    have N0 := Lib.hid (num_no (b := K0) (k := k))
                    have Y1 := Lib.hid (num_yes (b := K1) (k := k))
                    have N1 := Lib.hid (num_no (b := K1) (k := k))
                    have q0 : numN K0 k ≤ 64 := Nat.le_trans (listTo_len _ _) hk
                    have q1 : numN K1 k ≤ 64 := Nat.le_trans (listTo_len _ _) hk
                    obtain ⟨c0, HC0⟩ : ∃ c, Hid (numN K0 k = c) := ⟨_, Lib.hid rfl⟩
                    obtain ⟨c1, HC1⟩ : ∃ c, Hid (numN K1 k = c) := ⟨_, Lib.hid rfl⟩
                    rw [HC0.out] at q0 Y0 N0
                    rw [HC1.out] at q1 Y1 N1
                    rw [HC0.out, HC1.out]
                    have B0 := Lib.hid (show K0.testBit k = (x == 6) by rw [← HK0.out, ofN_testBit _ _ _ _ hlt, HX.out, of_six 0 (.inl rfl) hl]; rfl)
                    have B1 := Lib.hid (show K1.testBit k = (x == 14) by rw [← HK1.out, ofN_testBit _ _ _ _ hlt, HX.out, of_six 1 (.inr rfl) hl]; rfl)
                    clear hlt hl
                    cases g6 : (x == 6) <;> cases g14 : (x == 14)
                    · go_wp2_with fail
                      go_round
                      case rel => exact ⟨k + 1, by have := Hlt.out; omega, by go_num, by rw [N0.out (B0.out.trans g6)], by rw [N1.out (B1.out.trans g14)]⟩
                      case measure => simp [intOf]; have := Hlt.out; omega
                    · go_wp2_with fail
                      go_round
                      case rel => exact ⟨k + 1, by have := Hlt.out; omega, by go_num, by rw [N0.out (B0.out.trans g6)], by rw [Y1.out (B1.out.trans g14)]; go_num⟩
                      case measure => simp [intOf]; have := Hlt.out; omega
                    · go_wp2_with fail
                      go_round
                      case rel => exact ⟨k + 1, by have := Hlt.out; omega, by go_num, by rw [Y0.out (B0.out.trans g6)]; go_num, by rw [N1.out (B1.out.trans g14)]⟩
                      case measure => simp [intOf]; have := Hlt.out; omega
                    · go_wp2_with fail
                      go_round
                      case rel => exact ⟨k + 1, by have := Hlt.out; omega, by go_num, by rw [Y0.out (B0.out.trans g6)]; go_num, by rw [Y1.out (B1.out.trans g14)]; go_num⟩
                      case measure => simp [intOf]; have := Hlt.out; omega
                  · obtain rfl : k = 64 := by omega
                    clear hlt hk
                    obtain ⟨c0, HC0⟩ : ∃ c, Hid (numN K0 64 = c) := ⟨_, Lib.hid rfl⟩
                    obtain ⟨c1, HC1⟩ : ∃ c, Hid (numN K1 64 = c) := ⟨_, Lib.hid rfl⟩
                    rw [HC0.out, HC1.out]
                    by_cases h0 : 1 < c0
                    · have d0 : decide (1 < (c0 : Int)) = true := decide_eq_true (by omega)
                      clear h0
                      go_wp2_with fail
                      refine (at_awake _ (HD.out.next HB.out) (HL.out.next HB.out) (HT.out.on HB.out)).mono ?_; rintro e wn ⟨rfl, hb9⟩; have HB := Lib.hid (below_on HB.out hb9); clear hb9
                      go_wp2_with fail
                      go_ret
                      exact ⟨rfl, HB.out⟩
                    · have d0 : decide (1 < (c0 : Int)) = false := decide_eq_false (by omega)
                      by_cases h1 : 1 < c1
                      · have d1 : decide (1 < (c1 : Int)) = true := decide_eq_true (by omega)
                        clear h0 h1
                        go_wp2_with fail
                        refine (at_awake _ (HD.out.next HB.out) (HL.out.next HB.out) (HT.out.on HB.out)).mono ?_; rintro e wn ⟨rfl, hb9⟩; have HB := Lib.hid (below_on HB.out hb9); clear hb9
                        go_wp2_with fail
                        go_ret
                        exact ⟨rfl, HB.out⟩
                      · have d1 : decide (1 < (c1 : Int)) = false := decide_eq_false (by omega)
                        have HE0 := Lib.hid (show chkB (allT p) 1 = chkB p 0 from chk_turn Hgl.out Hv7.out (c := 0) (.inl rfl) (by rw [HK0.out, HC0.out]; omega))
                        have HE1 := Lib.hid (show chkB (allT p) 0 = chkB p 1 from chk_turn Hgl.out Hv7.out (c := 1) (.inr rfl) (by rw [HK1.out, HC1.out]; omega))
                        obtain ⟨z0, HZ0⟩ : ∃ z, Hid (chkB p 0 = z) := ⟨_, Lib.hid rfl⟩
                        obtain ⟨z1, HZ1⟩ : ∃ z, Hid (chkB p 1 = z) := ⟨_, Lib.hid rfl⟩
                        rw [HZ0.out] at HE0
                        rw [HZ1.out] at HE1
                        clear h0 h1
                        go_wp2_with fail
                        refine late_begin 16 (by kernel_rfl) ?_
                        refine late_take 0 (by kernel_rfl) (by kernel_rfl) (by kernel_rfl) (by kernel_rfl) (by kernel_rfl) (fun _ _ d _ _ h => by cases d <;> exact h) (fun o ho => ?_)
                        simp only [List.getElem?_toArray, List.getElem?_cons_zero, List.getElem?_cons_succ, Option.some.injEq] at ho; subst ho
                        refine ⟨_, Or.inl ⟨by kernel_rfl, fun w' hl => Or.inl (run_load _ rfl _ rfl (p) (HR1.out.later hl))⟩, ?_⟩
                        simp only [Act.put, List.setIfInBounds_toArray, List.set_cons_zero, List.set_cons_succ]
                        refine late_take 2 (by kernel_rfl) (by kernel_rfl) (by kernel_rfl) (by kernel_rfl) (by kernel_rfl) (fun _ _ d _ _ h => by cases d <;> exact h) (fun o ho => ?_)
                        simp only [List.getElem?_toArray, List.getElem?_cons_zero, List.getElem?_cons_succ, Option.some.injEq] at ho; subst ho
                        refine ⟨_, Or.inl ⟨by kernel_rfl, fun w' hl => Or.inl (run_load _ rfl _ rfl (allT p) (HR5.out.later hl))⟩, ?_⟩
                        simp only [Act.put, List.setIfInBounds_toArray, List.set_cons_zero, List.set_cons_succ]
                        refine late_one 1 (by kernel_rfl) (by kernel_rfl) (fun o ho => ?_)
                        simp only [List.getElem?_toArray, List.getElem?_cons_zero, List.getElem?_cons_succ, Option.some.injEq] at ho; subst ho
                        refine ⟨by kernel_rfl, fun wn hl K hK => ?_⟩
                        have HR1 := Lib.hid (HR1.out.later hl); have HR5 := Lib.hid (HR5.out.later hl); have HB := Lib.hid (below_on HB.out hl); clear hl
                        refine wp_enter _ _ (by go_simp; exact ⟨rfl, rfl⟩) ?_
                        refine (check_k HZ0.out _ HP.out (by decide) (HD.out.next HB.out) (HL.out.next HB.out) (HT.out.on HB.out)).mono ?_; rintro e wm ⟨rfl, hb⟩; refine ⟨_, rfl, ?_⟩
                        refine hK.out _ _ hb ?_
                        have HR1 := Lib.hid (HR1.out.later hb); have HR5 := Lib.hid (HR5.out.later hb); have HB := Lib.hid (below_on HB.out hb); clear hb
                        clear hK K
                        simp only [Act.put, List.setIfInBounds_toArray, List.set_cons_zero, List.set_cons_succ]
                        refine late_one 3 (by kernel_rfl) (by kernel_rfl) (fun o ho => ?_)
                        simp only [List.getElem?_toArray, List.getElem?_cons_zero, List.getElem?_cons_succ, Option.some.injEq] at ho; subst ho
                        refine ⟨by kernel_rfl, fun wn hl K hK => ?_⟩
                        have HR1 := Lib.hid (HR1.out.later hl); have HR5 := Lib.hid (HR5.out.later hl); have HB := Lib.hid (below_on HB.out hl); clear hl
                        refine wp_enter _ _ (by go_simp; exact ⟨rfl, rfl⟩) ?_
                        refine (check_k HE0.out _ HQ.out (by decide) (HD.out.next HB.out) (HL.out.next HB.out) (HT.out.on HB.out)).mono ?_; rintro e wm ⟨rfl, hb⟩; refine ⟨_, rfl, ?_⟩
                        refine hK.out _ _ hb ?_
                        have HR1 := Lib.hid (HR1.out.later hb); have HR5 := Lib.hid (HR5.out.later hb); have HB := Lib.hid (below_on HB.out hb); clear hb
                        clear hK K
                        simp only [Act.put, List.setIfInBounds_toArray, List.set_cons_zero, List.set_cons_succ]
                        refine late_take 4 (by kernel_rfl) (by kernel_rfl) (by kernel_rfl) (by kernel_rfl) (by kernel_rfl) (fun _ _ d _ _ h => by cases d <;> exact h) (fun o ho => ?_)
                        simp only [List.getElem?_toArray, List.getElem?_cons_zero, List.getElem?_cons_succ, Option.some.injEq] at ho; subst ho
                        apply Exists.intro
                        refine ⟨Or.inl ⟨by kernel_rfl, fun w' hl => Or.inl ?_⟩, ?_⟩
                        · (go_simp; try with_reducible rfl)
                        simp only [Act.put, List.setIfInBounds_toArray, List.set_cons_zero, List.set_cons_succ]
                        refine late_take 5 (by kernel_rfl) (by kernel_rfl) (by kernel_rfl) (by kernel_rfl) (by kernel_rfl) (fun _ _ d _ _ h => by cases d <;> exact h) (fun o ho => ?_)
                        simp only [List.getElem?_toArray, List.getElem?_cons_zero, List.getElem?_cons_succ, Option.some.injEq] at ho; subst ho
                        apply Exists.intro
                        refine ⟨Or.inl ⟨by kernel_rfl, fun w' hl => Or.inl ?_⟩, ?_⟩
                        · (go_simp; try with_reducible rfl)
                        simp only [Act.put, List.setIfInBounds_toArray, List.set_cons_zero, List.set_cons_succ]
                        refine late_take 6 (by kernel_rfl) (by kernel_rfl) (by kernel_rfl) (by kernel_rfl) (by kernel_rfl) (fun _ _ d _ _ h => by cases d <;> exact h) (fun o ho => ?_)
                        simp only [List.getElem?_toArray, List.getElem?_cons_zero, List.getElem?_cons_succ, Option.some.injEq] at ho; subst ho
                        refine ⟨_, Or.inl ⟨by kernel_rfl, fun w' hl => Or.inl (run_load _ rfl _ rfl (p) (HR1.out.later hl))⟩, ?_⟩
                        simp only [Act.put, List.setIfInBounds_toArray, List.set_cons_zero, List.set_cons_succ]
                        refine late_take 8 (by kernel_rfl) (by kernel_rfl) (by kernel_rfl) (by kernel_rfl) (by kernel_rfl) (fun _ _ d _ _ h => by cases d <;> exact h) (fun o ho => ?_)
                        simp only [List.getElem?_toArray, List.getElem?_cons_zero, List.getElem?_cons_succ, Option.some.injEq] at ho; subst ho
                        refine ⟨_, Or.inl ⟨by kernel_rfl, fun w' hl => Or.inl (run_load _ rfl _ rfl (allT p) (HR5.out.later hl))⟩, ?_⟩
                        simp only [Act.put, List.setIfInBounds_toArray, List.set_cons_zero, List.set_cons_succ]
                        refine late_one 7 (by kernel_rfl) (by kernel_rfl) (fun o ho => ?_)
                        simp only [List.getElem?_toArray, List.getElem?_cons_zero, List.getElem?_cons_succ, Option.some.injEq] at ho; subst ho
                        refine ⟨by kernel_rfl, fun wn hl K hK => ?_⟩
                        have HR1 := Lib.hid (HR1.out.later hl); have HR5 := Lib.hid (HR5.out.later hl); have HB := Lib.hid (below_on HB.out hl); clear hl
                        refine wp_enter _ _ (by go_simp; exact ⟨rfl, rfl⟩) ?_
                        refine (check_k HZ1.out _ HP.out (by decide) (HD.out.next HB.out) (HL.out.next HB.out) (HT.out.on HB.out)).mono ?_; rintro e wm ⟨rfl, hb⟩; refine ⟨_, rfl, ?_⟩
                        refine hK.out _ _ hb ?_
                        have HR1 := Lib.hid (HR1.out.later hb); have HR5 := Lib.hid (HR5.out.later hb); have HB := Lib.hid (below_on HB.out hb); clear hb
                        clear hK K
                        simp only [Act.put, List.setIfInBounds_toArray, List.set_cons_zero, List.set_cons_succ]
                        refine late_one 9 (by kernel_rfl) (by kernel_rfl) (fun o ho => ?_)
                        simp only [List.getElem?_toArray, List.getElem?_cons_zero, List.getElem?_cons_succ, Option.some.injEq] at ho; subst ho
                        refine ⟨by kernel_rfl, fun wn hl K hK => ?_⟩
                        have HR1 := Lib.hid (HR1.out.later hl); have HR5 := Lib.hid (HR5.out.later hl); have HB := Lib.hid (below_on HB.out hl); clear hl
                        refine wp_enter _ _ (by go_simp; exact ⟨rfl, rfl⟩) ?_
                        refine (check_k HE1.out _ HQ.out (by decide) (HD.out.next HB.out) (HL.out.next HB.out) (HT.out.on HB.out)).mono ?_; rintro e wm ⟨rfl, hb⟩; refine ⟨_, rfl, ?_⟩
                        refine hK.out _ _ hb ?_
                        have HR1 := Lib.hid (HR1.out.later hb); have HR5 := Lib.hid (HR5.out.later hb); have HB := Lib.hid (below_on HB.out hb); clear hb
                        clear hK K
                        simp only [Act.put, List.setIfInBounds_toArray, List.set_cons_zero, List.set_cons_succ]
                        refine late_take 10 (by kernel_rfl) (by kernel_rfl) (by kernel_rfl) (by kernel_rfl) (by kernel_rfl) (fun _ _ d _ _ h => by cases d <;> exact h) (fun o ho => ?_)
                        simp only [List.getElem?_toArray, List.getElem?_cons_zero, List.getElem?_cons_succ, Option.some.injEq] at ho; subst ho
                        apply Exists.intro
                        refine ⟨Or.inl ⟨by kernel_rfl, fun w' hl => Or.inl ?_⟩, ?_⟩
                        · (go_simp; try with_reducible rfl)
                        simp only [Act.put, List.setIfInBounds_toArray, List.set_cons_zero, List.set_cons_succ]
                        refine late_take 11 (by kernel_rfl) (by kernel_rfl) (by kernel_rfl) (by kernel_rfl) (by kernel_rfl) (fun _ _ d _ _ h => by cases d <;> exact h) (fun o ho => ?_)
                        simp only [List.getElem?_toArray, List.getElem?_cons_zero, List.getElem?_cons_succ, Option.some.injEq] at ho; subst ho
                        apply Exists.intro
                        refine ⟨Or.inl ⟨by kernel_rfl, fun w' hl => Or.inl ?_⟩, ?_⟩
                        · (go_simp; try with_reducible rfl)
                        simp only [Act.put, List.setIfInBounds_toArray, List.set_cons_zero, List.set_cons_succ]
                        refine late_take 12 (by kernel_rfl) (by kernel_rfl) (by kernel_rfl) (by kernel_rfl) (by kernel_rfl) (fun _ _ d _ _ h => by cases d <;> exact h) (fun o ho => ?_)
                        simp only [List.getElem?_toArray, List.getElem?_cons_zero, List.getElem?_cons_succ, Option.some.injEq] at ho; subst ho
                        apply Exists.intro
                        refine ⟨Or.inl ⟨by kernel_rfl, fun w' hl => Or.inl ?_⟩, ?_⟩
                        · (go_simp; try with_reducible rfl)
                        simp only [Act.put, List.setIfInBounds_toArray, List.set_cons_zero, List.set_cons_succ]
                        refine late_one 13 (by kernel_rfl) (by kernel_rfl) (fun o ho => ?_)
                        simp only [List.getElem?_toArray, List.getElem?_cons_zero, List.getElem?_cons_succ, Option.some.injEq] at ho; subst ho
                        refine ⟨by kernel_rfl, fun wn hl K hK => ?_⟩
                        have HR1 := Lib.hid (HR1.out.later hl); have HR5 := Lib.hid (HR5.out.later hl); have HB := Lib.hid (below_on HB.out hl); clear hl
                        refine wp_enter _ _ (by go_simp; exact ⟨rfl, rfl⟩) ?_
                        refine (at_awake _ (HD.out.next HB.out) (HL.out.next HB.out) (HT.out.on HB.out)).mono ?_; rintro e wm ⟨rfl, hb⟩; refine ⟨_, rfl, ?_⟩
                        refine hK.out _ _ hb ?_
                        have HR1 := Lib.hid (HR1.out.later hb); have HR5 := Lib.hid (HR5.out.later hb); have HB := Lib.hid (below_on HB.out hb); clear hb
                        clear hK K
                        simp only [Act.put, List.setIfInBounds_toArray, List.set_cons_zero, List.set_cons_succ]
                        refine late_take 14 (by kernel_rfl) (by kernel_rfl) (by kernel_rfl) (by kernel_rfl) (by kernel_rfl) (fun _ _ d _ _ h => by cases d <;> exact h) (fun o ho => ?_)
                        simp only [List.getElem?_toArray, List.getElem?_cons_zero, List.getElem?_cons_succ, Option.some.injEq] at ho; subst ho
                        apply Exists.intro
                        refine ⟨Or.inl ⟨by kernel_rfl, fun w' hl => Or.inl ?_⟩, ?_⟩
                        · (go_simp; try with_reducible rfl)
                        simp only [Act.put, List.setIfInBounds_toArray, List.set_cons_zero, List.set_cons_succ]
                        refine late_take 15 (by kernel_rfl) (by kernel_rfl) (by kernel_rfl) (by kernel_rfl) (by kernel_rfl) (fun _ _ d _ _ h => by cases d <;> exact h) (fun o ho => ?_)
                        simp only [List.getElem?_toArray, List.getElem?_cons_zero, List.getElem?_cons_succ, Option.some.injEq] at ho; subst ho
                        apply Exists.intro
                        refine ⟨Or.inl ⟨by kernel_rfl, fun w' hl => Or.inl ?_⟩, ?_⟩
                        · (go_simp; try with_reducible rfl)
                        simp only [Act.put, List.setIfInBounds_toArray, List.set_cons_zero, List.set_cons_succ]
                        refine late_end (by kernel_rfl) (fun wn hl => ?_)
                        have HR1 := Lib.hid (HR1.out.later hl); have HR5 := Lib.hid (HR5.out.later hl); have HB := Lib.hid (below_on HB.out hl); clear hl
                        go_wp2_with fail
                        go_ret
                        exact ⟨rfl, HB.out⟩
    · go_enter Tryd.func8, Tryd.ntmps8
      go_wp2_with (first | (refine step_box rfl _ rfl p rfl ?_; intro b1 w1 N R; have HB := Lib.hid N.below; have HR1 := Lib.hid R; clear N R) | (refine step_load (by rfl) _ rfl _ rfl p HR1.out ?_))
      refine (lawful_any p _ HP.out.bd).mono ?_; rintro e wn ⟨rfl, hb9⟩; have HR1 := Lib.hid (HR1.out.later hb9); have HB := Lib.hid (below_on HB.out hb9); clear hb9; rw [Hgl.out]
      have hc0 := HR1.out.cell 0 (by omega)
      rw [HV.out, show kAt 0 = .u8 from rfl] at hc0
      have hc78 := HR1.out.cell 78 (by omega)
      rw [HTt.out, show kAt 78 = .u8 from rfl] at hc78
      go_wp2_with fail
      refine (at_awake _ (HD.out.next HB.out) (HL.out.next HB.out) (HT.out.on HB.out)).mono ?_; rintro e wn ⟨rfl, hb9⟩; have HB := Lib.hid (below_on HB.out hb9); clear hb9
      go_wp2_with fail
      go_ret
      exact ⟨rfl, HB.out⟩
end Go.Proofs.YtlhepfighelijaaDoor.attackTurned
