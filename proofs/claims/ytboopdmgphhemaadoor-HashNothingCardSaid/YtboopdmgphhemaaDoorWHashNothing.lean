/-
  The walk of HashNothing.
-/
import Derived.Test.YtboopdmgphhemaaDoorHaLaw
import Derived.WalkKit
import Derived.OpenShut
namespace Go.Proofs.YtboopdmgphhemaaDoor.hashNothing
open Go.RowKit
set_option linter.unusedVariables false
set_option linter.unusedSimpArgs false
theorem wp_cut {P : Program} {Q : Exit → Act → World → Prop} {a : Act} {w : World} {x y : Code} (M : Act → World → Prop) (h1 : ∀ K : Act → World → Prop, Shut (∀ a w, M a w → K a w) → x.wp P (Exit.then K Q) a w) (h2 : ∀ a w, M a w → y.wp P Q a w) : (Code.seq x y).wp P Q a w :=
  wp_seq_k fun K hK => h1 K (fun a w hm => hK _ _ (h2 a w hm))
theorem z_piece (x s : Int) (w : World) (h0 : 0 ≤ x) (h1 : x ≤ 255) (hT : TabMix w) (h : pieceN x s = 0) : Calls Tryd.prog 12 #[.int .u8 x, .int .i64 s] w (U64I 0 w) := u64_is (piece_any x s w h0 h1 hT) (by rw [h]; rfl)
theorem z_pass (s : Int) (w : World) (hT : TabMix w) (h : psgN s = 0) : Calls Tryd.prog 16 #[.int .i64 s] w (U64I 0 w) := u64_is (passing_any s w hT) (by rw [h]; rfl)
theorem z_turn (c : Int) (w : World) (hT : TabMix w) (h : turnN c = 0) : Calls Tryd.prog 14 #[.int .u8 c] w (U64I 0 w) := u64_is (turn_any c w hT) (by rw [h]; rfl)
theorem z_rook (c d f : Int) (w : World) (h0 : 0 ≤ c) (hT : TabMix w) (h : rookHN c d f = 0) : Calls Tryd.prog 18 #[.int .u8 c, .int .i64 d, .int .i64 f] w (U64I 0 w) := u64_is (rook_nany c d f w h0 hT) (by rw [h]; rfl)
theorem z_pock3 (c k : Int) (w : World) (h0 : 0 ≤ c) (hT : TabMix w) (h : pockN c k 3 = 0) : Calls Tryd.prog 20 #[.int .u8 c, .int .u8 k, .int .u8 3] w (U64I 0 w) := u64_is (pocket_any c k 3 w h0 (by decide) (by decide) hT) (by rw [h]; rfl)
theorem z_pock0 (c k : Int) (w : World) (h0 : 0 ≤ c) (hT : TabMix w) : Calls Tryd.prog 20 #[.int .u8 c, .int .u8 k, .int .u8 0] w (U64I 0 w) := u64_is (pocket_any c k 0 w h0 (by decide) (by decide) hT) (by rw [pockN_nil rfl]; rfl)
theorem z_chk0 (c : Int) (w : World) (h0 : 0 ≤ c) (hT : TabMix w) : Calls Tryd.prog 22 #[.int .u8 c, .int .u8 0] w (U64I 0 w) := u64_is (checks_nany c 0 w h0 (by decide) (by decide) hT) (by rw [chkHN_nil rfl]; rfl)
theorem z_chk2 (c : Int) (w : World) (h0 : 0 ≤ c) (hT : TabMix w) (h : 1 < c) : Calls Tryd.prog 22 #[.int .u8 c, .int .u8 2] w (U64I 0 w) := u64_is (checks_nany c 2 w h0 (by decide) (by decide) hT) (by rw [chkHN_col h]; rfl)
theorem prom_zero : promN 0 = 0 := by decide +kernel
theorem z_prom (w : World) (hT : TabMix w) : Calls Tryd.prog 24 #[.int .u64 0] w (U64I 0 w) := u64_is (promoted_any 0 w (by decide) hT) (by rw [prom_zero]; rfl)
set_option maxRecDepth 100000 in
set_option maxHeartbeats 4000000 in
theorem walk (a0 a1 a2 a3 a4 a5 : Int) (w0 : (Lit.int .u8 a0).wf = true) (w1 : (Lit.int .u8 a1).wf = true) (w2 : (Lit.int .u8 a2).wf = true) (w3 : (Lit.int .i64 a3).wf = true) (w4 : (Lit.int .i64 a4).wf = true) (w5 : (Lit.int .i64 a5).wf = true) (w : World) (hT : TabMix w) :
    Calls Tryd.prog 9 #[.int .u8 a0, .int .u8 a1, .int .u8 a2, .int .i64 a3, .int .i64 a4, .int .i64 a5] w fun e w' => e = .returned (.bool true) ∧ Below w.heap.size w w' := by
  have HT := Lib.hid hT
  have HB := Lib.hid (Below.refl w.heap.size w)
  obtain ⟨x0, x1⟩ := fit_u8 w0 rfl
  obtain ⟨y0, y1⟩ := fit_u8 w1 rfl
  obtain ⟨z0, z1⟩ := fit_u8 w2 rfl
  clear hT w0 w1 w2 w3 w4 w5
  go_enter Tryd.func9, Tryd.ntmps9
  refine wp_cut (fun a w' => a = { tmps := #[.int .u8 a0, .int .u8 a1, .int .u8 a2, .int .i64 a3, .int .i64 a4, .int .i64 a5, undef, undef, undef, undef, undef, undef, .bool false, undef, undef, undef, undef, undef, undef, undef, undef, undef, undef, undef, undef, undef, undef, undef, undef, undef, undef, undef, undef, undef, undef, undef, undef, undef, undef, undef, undef, undef, undef, undef, undef, undef, undef, undef, undef, undef, undef, undef, undef, undef, undef, undef, undef, undef, undef, undef, undef, undef, undef, undef, undef, undef, undef, undef, undef, undef, undef, undef, undef, undef, undef, undef, undef, undef, undef, undef, undef, undef, undef, undef, undef, undef, undef, undef, undef, undef, undef, undef, undef, undef, undef, undef, undef, undef, undef, undef, undef, undef, undef, undef, undef, undef, undef, undef, undef, undef, undef, undef, undef, undef, undef, undef, undef, undef, undef, undef, undef, undef, undef, undef, undef, undef, undef, undef, undef], defers := [] } ∧ w' = w) (fun K hK => ?_) ?_
  · go_wp2_with fail
    exact hK.out _ _ ⟨rfl, rfl⟩
  rintro a w' ⟨rfl, hw⟩
  rw [hw]
  clear hw
  refine wp_cut (fun a w' => ∃ (v14 v15 : Value), a = { tmps := #[.int .u8 a0, .int .u8 a1, .int .u8 a2, .int .i64 a3, .int .i64 a4, .int .i64 a5, undef, undef, undef, undef, undef, undef, .bool false, undef, v14, v15, undef, undef, undef, undef, undef, undef, undef, undef, undef, undef, undef, undef, undef, undef, undef, undef, undef, undef, undef, undef, undef, undef, undef, undef, undef, undef, undef, undef, undef, undef, undef, undef, undef, undef, undef, undef, undef, undef, undef, undef, undef, undef, undef, undef, undef, undef, undef, undef, undef, undef, undef, undef, undef, undef, undef, undef, undef, undef, undef, undef, undef, undef, undef, undef, undef, undef, undef, undef, undef, undef, undef, undef, undef, undef, undef, undef, undef, undef, undef, undef, undef, undef, undef, undef, undef, undef, undef, undef, undef, undef, undef, undef, undef, undef, undef, undef, undef, undef, undef, undef, undef, undef, undef, undef, undef, undef, undef, undef, undef, undef, undef, undef, undef], defers := [] } ∧ Below w.heap.size w w') (fun K hK => ?_) ?_
  · go_wp2_with fail
    refine (ha_awake _ (HT.out.on HB.out)).mono ?_; rintro e wn ⟨rfl, hb9⟩; have HB := Lib.hid (below_on HB.out hb9); clear hb9
    go_wp2_with fail
    exact hK.out _ _ ⟨_, _, rfl, HB.out⟩
  clear HB
  rintro a wn ⟨v14, v15, rfl, hb⟩
  have HB := Lib.hid hb; clear hb
  refine wp_cut (fun a w' => ∃ (v14 v15 v16 v17 v18 v19 v20 v21 : Value), a = { tmps := #[.int .u8 a0, .int .u8 a1, .int .u8 a2, .int .i64 a3, .int .i64 a4, .int .i64 a5, undef, undef, undef, undef, undef, undef, .bool false, .bool (sq a3), v14, v15, v16, v17, v18, v19, v20, v21, undef, undef, undef, undef, undef, undef, undef, undef, undef, undef, undef, undef, undef, undef, undef, undef, undef, undef, undef, undef, undef, undef, undef, undef, undef, undef, undef, undef, undef, undef, undef, undef, undef, undef, undef, undef, undef, undef, undef, undef, undef, undef, undef, undef, undef, undef, undef, undef, undef, undef, undef, undef, undef, undef, undef, undef, undef, undef, undef, undef, undef, undef, undef, undef, undef, undef, undef, undef, undef, undef, undef, undef, undef, undef, undef, undef, undef, undef, undef, undef, undef, undef, undef, undef, undef, undef, undef, undef, undef, undef, undef, undef, undef, undef, undef, undef, undef, undef, undef, undef, undef, undef, undef, undef, undef, undef, undef], defers := [] } ∧ Below w.heap.size w w') (fun K hK => ?_) ?_
  · by_cases h0 : 0 ≤ a3
    · have g0 : decide (0 ≤ a3) = true := decide_eq_true h0
      by_cases h1 : a3 < 64
      · have g1 : decide (a3 < 64) = true := decide_eq_true h1
        have HE := Lib.hid (show sq a3 = true from sq_true.2 ⟨h0, h1⟩)
        go_wp2_with fail
        rw [HE.out] at hK
        exact hK.out _ _ ⟨_, _, _, _, _, _, _, _, rfl, HB.out⟩
      · have g1 : decide (a3 < 64) = false := decide_eq_false h1
        have HE := Lib.hid (show sq a3 = false from sq_false.2 (.inr (by omega)))
        clear h1
        go_wp2_with fail
        rw [HE.out] at hK
        exact hK.out _ _ ⟨_, _, _, _, _, _, _, _, rfl, HB.out⟩
    · have g0 : decide (0 ≤ a3) = false := decide_eq_false h0
      have HE := Lib.hid (show sq a3 = false from sq_false.2 (.inl (by omega)))
      clear h0
      go_wp2_with fail
      rw [HE.out] at hK
      exact hK.out _ _ ⟨_, _, _, _, _, _, _, _, rfl, HB.out⟩
  clear HB v14 v15
  rintro a wn ⟨v14, v15, v16, v17, v18, v19, v20, v21, rfl, hb⟩
  have HB := Lib.hid hb; clear hb
  refine wp_cut (fun a w' => ∃ (v14 v15 v16 v17 v18 v19 v20 v21 v22 v23 v24 v25 v26 v27 v28 v29 v30 v31 v32 v33 v34 v35 v36 v37 v38 v39 v40 v41 v42 v43 v44 v45 v46 v47 v48 v49 v50 v51 v52 v53 v54 : Value), a = { tmps := #[.int .u8 a0, .int .u8 a1, .int .u8 a2, .int .i64 a3, .int .i64 a4, .int .i64 a5, undef, undef, undef, undef, undef, undef, .bool false, .bool (sq a3), v14, v15, v16, v17, v18, v19, v20, v21, v22, v23, v24, v25, v26, v27, v28, v29, v30, v31, v32, v33, v34, v35, v36, v37, v38, v39, v40, v41, v42, v43, v44, v45, v46, v47, v48, v49, v50, v51, v52, v53, v54, undef, undef, undef, undef, undef, undef, undef, undef, undef, undef, undef, undef, undef, undef, undef, undef, undef, undef, undef, undef, undef, undef, undef, undef, undef, undef, undef, undef, undef, undef, undef, undef, undef, undef, undef, undef, undef, undef, undef, undef, undef, undef, undef, undef, undef, undef, undef, undef, undef, undef, undef, undef, undef, undef, undef, undef, undef, undef, undef, undef, undef, undef, undef, undef, undef, undef, undef, undef, undef, undef, undef, undef, undef, undef], defers := [] } ∧ Below w.heap.size w w') (fun K hK => ?_) ?_
  · have ins : ∀ (b : Bool), sq a3 = b → True := fun _ _ => trivial
    clear ins
    cases hsq : sq a3
    · cases b0 : (a0 % 8 == 0)
      · cases b7 : (a0 % 8 == 7)
        · cases b14 : decide (14 < a0)
          · have HZ := Lib.hid (pieceN_off (x := a0) hsq)
            have HS := Lib.hid (psgN_no hsq)
            rw [hsq] at hK
            clear hsq
            go_wp2_with (first | (go_at_call 12; refine (z_piece _ _ _ x0 x1 (HT.out.on HB.out) HZ.out).mono ?_; rintro e wn ⟨rfl, hb9⟩; have HB := Lib.hid (below_on HB.out hb9); clear hb9) | (go_at_call 16; refine (z_pass _ _ (HT.out.on HB.out) HS.out).mono ?_; rintro e wn ⟨rfl, hb9⟩; have HB := Lib.hid (below_on HB.out hb9); clear hb9))
            exact hK.out _ _ ⟨_, _, _, _, _, _, _, _, _, _, _, _, _, _, _, _, _, _, _, _, _, _, _, _, _, _, _, _, _, _, _, _, _, _, _, _, _, _, _, _, _, rfl, HB.out⟩
          · have hpc : pcB a0 = false := by
              simp only [beq_iff_eq, decide_eq_true_eq, decide_eq_false_iff_not, beq_eq_false_iff_ne] at *
              rw [pcB_false]; omega
            have HZ := Lib.hid (pieceN_no (s := a3) hpc)
            clear hpc
            have HS := Lib.hid (psgN_no hsq)
            rw [hsq] at hK
            clear hsq
            go_wp2_with (first | (go_at_call 12; refine (z_piece _ _ _ x0 x1 (HT.out.on HB.out) HZ.out).mono ?_; rintro e wn ⟨rfl, hb9⟩; have HB := Lib.hid (below_on HB.out hb9); clear hb9) | (go_at_call 16; refine (z_pass _ _ (HT.out.on HB.out) HS.out).mono ?_; rintro e wn ⟨rfl, hb9⟩; have HB := Lib.hid (below_on HB.out hb9); clear hb9))
            exact hK.out _ _ ⟨_, _, _, _, _, _, _, _, _, _, _, _, _, _, _, _, _, _, _, _, _, _, _, _, _, _, _, _, _, _, _, _, _, _, _, _, _, _, _, _, _, rfl, HB.out⟩
        · have hpc : pcB a0 = false := by
            simp only [beq_iff_eq, decide_eq_true_eq, decide_eq_false_iff_not, beq_eq_false_iff_ne] at *
            rw [pcB_false]; omega
          have HZ := Lib.hid (pieceN_no (s := a3) hpc)
          clear hpc
          have HS := Lib.hid (psgN_no hsq)
          rw [hsq] at hK
          clear hsq
          go_wp2_with (first | (go_at_call 12; refine (z_piece _ _ _ x0 x1 (HT.out.on HB.out) HZ.out).mono ?_; rintro e wn ⟨rfl, hb9⟩; have HB := Lib.hid (below_on HB.out hb9); clear hb9) | (go_at_call 16; refine (z_pass _ _ (HT.out.on HB.out) HS.out).mono ?_; rintro e wn ⟨rfl, hb9⟩; have HB := Lib.hid (below_on HB.out hb9); clear hb9))
          exact hK.out _ _ ⟨_, _, _, _, _, _, _, _, _, _, _, _, _, _, _, _, _, _, _, _, _, _, _, _, _, _, _, _, _, _, _, _, _, _, _, _, _, _, _, _, _, rfl, HB.out⟩
      · have hpc : pcB a0 = false := by
          simp only [beq_iff_eq, decide_eq_true_eq, decide_eq_false_iff_not, beq_eq_false_iff_ne] at *
          rw [pcB_false]; omega
        have HZ := Lib.hid (pieceN_no (s := a3) hpc)
        clear hpc
        have HS := Lib.hid (psgN_no hsq)
        rw [hsq] at hK
        clear hsq
        go_wp2_with (first | (go_at_call 12; refine (z_piece _ _ _ x0 x1 (HT.out.on HB.out) HZ.out).mono ?_; rintro e wn ⟨rfl, hb9⟩; have HB := Lib.hid (below_on HB.out hb9); clear hb9) | (go_at_call 16; refine (z_pass _ _ (HT.out.on HB.out) HS.out).mono ?_; rintro e wn ⟨rfl, hb9⟩; have HB := Lib.hid (below_on HB.out hb9); clear hb9))
        exact hK.out _ _ ⟨_, _, _, _, _, _, _, _, _, _, _, _, _, _, _, _, _, _, _, _, _, _, _, _, _, _, _, _, _, _, _, _, _, _, _, _, _, _, _, _, _, rfl, HB.out⟩
    · cases b0 : (a0 % 8 == 0)
      · cases b7 : (a0 % 8 == 7)
        · cases b14 : decide (14 < a0)
          · have HD := HT
            rw [hsq] at hK
            clear hsq
            go_wp2_with fail
            exact hK.out _ _ ⟨_, _, _, _, _, _, _, _, _, _, _, _, _, _, _, _, _, _, _, _, _, _, _, _, _, _, _, _, _, _, _, _, _, _, _, _, _, _, _, _, _, rfl, HB.out⟩
          · have hpc : pcB a0 = false := by
              simp only [beq_iff_eq, decide_eq_true_eq, decide_eq_false_iff_not, beq_eq_false_iff_ne] at *
              rw [pcB_false]; omega
            have HZ := Lib.hid (pieceN_no (s := a3) hpc)
            clear hpc
            rw [hsq] at hK
            clear hsq
            go_wp2_with ((go_at_call 12; refine (z_piece _ _ _ x0 x1 (HT.out.on HB.out) HZ.out).mono ?_; rintro e wn ⟨rfl, hb9⟩; have HB := Lib.hid (below_on HB.out hb9); clear hb9))
            exact hK.out _ _ ⟨_, _, _, _, _, _, _, _, _, _, _, _, _, _, _, _, _, _, _, _, _, _, _, _, _, _, _, _, _, _, _, _, _, _, _, _, _, _, _, _, _, rfl, HB.out⟩
        · have hpc : pcB a0 = false := by
            simp only [beq_iff_eq, decide_eq_true_eq, decide_eq_false_iff_not, beq_eq_false_iff_ne] at *
            rw [pcB_false]; omega
          have HZ := Lib.hid (pieceN_no (s := a3) hpc)
          clear hpc
          rw [hsq] at hK
          clear hsq
          go_wp2_with ((go_at_call 12; refine (z_piece _ _ _ x0 x1 (HT.out.on HB.out) HZ.out).mono ?_; rintro e wn ⟨rfl, hb9⟩; have HB := Lib.hid (below_on HB.out hb9); clear hb9))
          exact hK.out _ _ ⟨_, _, _, _, _, _, _, _, _, _, _, _, _, _, _, _, _, _, _, _, _, _, _, _, _, _, _, _, _, _, _, _, _, _, _, _, _, _, _, _, _, rfl, HB.out⟩
      · have hpc : pcB a0 = false := by
          simp only [beq_iff_eq, decide_eq_true_eq, decide_eq_false_iff_not, beq_eq_false_iff_ne] at *
          rw [pcB_false]; omega
        have HZ := Lib.hid (pieceN_no (s := a3) hpc)
        clear hpc
        rw [hsq] at hK
        clear hsq
        go_wp2_with ((go_at_call 12; refine (z_piece _ _ _ x0 x1 (HT.out.on HB.out) HZ.out).mono ?_; rintro e wn ⟨rfl, hb9⟩; have HB := Lib.hid (below_on HB.out hb9); clear hb9))
        exact hK.out _ _ ⟨_, _, _, _, _, _, _, _, _, _, _, _, _, _, _, _, _, _, _, _, _, _, _, _, _, _, _, _, _, _, _, _, _, _, _, _, _, _, _, _, _, rfl, HB.out⟩
  clear HB v14 v15 v16 v17 v18 v19 v20 v21
  rintro a wn ⟨v14, v15, v16, v17, v18, v19, v20, v21, v22, v23, v24, v25, v26, v27, v28, v29, v30, v31, v32, v33, v34, v35, v36, v37, v38, v39, v40, v41, v42, v43, v44, v45, v46, v47, v48, v49, v50, v51, v52, v53, v54, rfl, hb⟩
  have HB := Lib.hid hb; clear hb
  generalize sq a3 = sv
  refine wp_cut (fun a w' => ∃ (v14 v15 v16 v17 v18 v19 v20 v21 v22 v23 v24 v25 v26 v27 v28 v29 v30 v31 v32 v33 v34 v35 v36 v37 v38 v39 v40 v41 v42 v43 v44 v45 v46 v47 v48 v49 v50 v51 v52 v53 v54 v55 v56 v57 v58 v59 v60 v61 v62 v63 v64 v65 v66 v67 v68 v69 v70 v71 v72 v73 v74 v75 v76 v77 v78 v79 v80 v81 v82 v83 v84 v85 v86 v87 v88 : Value), a = { tmps := #[.int .u8 a0, .int .u8 a1, .int .u8 a2, .int .i64 a3, .int .i64 a4, .int .i64 a5, undef, undef, undef, undef, undef, undef, .bool false, .bool sv, v14, v15, v16, v17, v18, v19, v20, v21, v22, v23, v24, v25, v26, v27, v28, v29, v30, v31, v32, v33, v34, v35, v36, v37, v38, v39, v40, v41, v42, v43, v44, v45, v46, v47, v48, v49, v50, v51, v52, v53, v54, v55, v56, v57, v58, v59, v60, v61, v62, v63, v64, v65, v66, v67, v68, v69, v70, v71, v72, v73, v74, v75, v76, v77, v78, v79, v80, v81, v82, v83, v84, v85, v86, v87, v88, undef, undef, undef, undef, undef, undef, undef, undef, undef, undef, undef, undef, undef, undef, undef, undef, undef, undef, undef, undef, undef, undef, undef, undef, undef, undef, undef, undef, undef, undef, undef, undef, undef, undef, undef, undef, undef, undef, undef, undef], defers := [] } ∧ Below w.heap.size w w') (fun K hK => ?_) ?_
  · by_cases h1 : 1 < a1
    · have g1 : decide (1 < a1) = true := decide_eq_true h1
      have gt : (a1 != 1) = true := by simp; omega
      have HU := Lib.hid (turnN_no (c := a1) (by omega))
      have HZ := Lib.hid (rookHN_col (d := a4) (f := a5) h1)
      clear h1
      go_wp2_with (first | (go_at_call 18; refine (z_rook _ _ _ _ y0 (HT.out.on HB.out) HZ.out).mono ?_; rintro e wn ⟨rfl, hb9⟩; have HB := Lib.hid (below_on HB.out hb9); clear hb9) | (go_at_call 14; refine (z_turn _ _ (HT.out.on HB.out) HU.out).mono ?_; rintro e wn ⟨rfl, hb9⟩; have HB := Lib.hid (below_on HB.out hb9); clear hb9))
      exact hK.out _ _ ⟨_, _, _, _, _, _, _, _, _, _, _, _, _, _, _, _, _, _, _, _, _, _, _, _, _, _, _, _, _, _, _, _, _, _, _, _, _, _, _, _, _, _, _, _, _, _, _, _, _, _, _, _, _, _, _, _, _, _, _, _, _, _, _, _, _, _, _, _, _, _, _, _, _, _, _, rfl, HB.out⟩
    · have g1 : decide (1 < a1) = false := decide_eq_false h1
      by_cases h2 : a1 = 1
      · have gt : (a1 != 1) = false := by simp; omega
        clear h1 h2
        cases gd0 : decide (a4 < 0)
        · cases gd1 : decide (1 < a4)
          · cases gf0 : decide (a5 < 0)
            · cases gf1 : decide (7 < a5)
              · go_wp2_with fail
                exact hK.out _ _ ⟨_, _, _, _, _, _, _, _, _, _, _, _, _, _, _, _, _, _, _, _, _, _, _, _, _, _, _, _, _, _, _, _, _, _, _, _, _, _, _, _, _, _, _, _, _, _, _, _, _, _, _, _, _, _, _, _, _, _, _, _, _, _, _, _, _, _, _, _, _, _, _, _, _, _, _, rfl, HB.out⟩
              · have HZ := Lib.hid (rookHN_file (c := a1) (d := a4) (by unfold fileB; rw [decide_eq_false (show ¬ a5 < 8 by simp only [decide_eq_true_eq] at gf1; omega), Bool.and_false]))
                go_wp2_with (first | (go_at_call 18; refine (z_rook _ _ _ _ y0 (HT.out.on HB.out) HZ.out).mono ?_; rintro e wn ⟨rfl, hb9⟩; have HB := Lib.hid (below_on HB.out hb9); clear hb9))
                exact hK.out _ _ ⟨_, _, _, _, _, _, _, _, _, _, _, _, _, _, _, _, _, _, _, _, _, _, _, _, _, _, _, _, _, _, _, _, _, _, _, _, _, _, _, _, _, _, _, _, _, _, _, _, _, _, _, _, _, _, _, _, _, _, _, _, _, _, _, _, _, _, _, _, _, _, _, _, _, _, _, rfl, HB.out⟩
            · have HZ := Lib.hid (rookHN_file (c := a1) (d := a4) (by unfold fileB; rw [decide_eq_false (show ¬ 0 ≤ a5 by simp only [decide_eq_true_eq] at gf0; omega), Bool.false_and]))
              go_wp2_with (first | (go_at_call 18; refine (z_rook _ _ _ _ y0 (HT.out.on HB.out) HZ.out).mono ?_; rintro e wn ⟨rfl, hb9⟩; have HB := Lib.hid (below_on HB.out hb9); clear hb9))
              exact hK.out _ _ ⟨_, _, _, _, _, _, _, _, _, _, _, _, _, _, _, _, _, _, _, _, _, _, _, _, _, _, _, _, _, _, _, _, _, _, _, _, _, _, _, _, _, _, _, _, _, _, _, _, _, _, _, _, _, _, _, _, _, _, _, _, _, _, _, _, _, _, _, _, _, _, _, _, _, _, _, rfl, HB.out⟩
          · have HZ := Lib.hid (rookHN_side (c := a1) (f := a5) (by unfold sideB; rw [decide_eq_false (show ¬ a4 < 2 by simp only [decide_eq_true_eq] at gd1; omega), Bool.and_false]))
            go_wp2_with (first | (go_at_call 18; refine (z_rook _ _ _ _ y0 (HT.out.on HB.out) HZ.out).mono ?_; rintro e wn ⟨rfl, hb9⟩; have HB := Lib.hid (below_on HB.out hb9); clear hb9))
            exact hK.out _ _ ⟨_, _, _, _, _, _, _, _, _, _, _, _, _, _, _, _, _, _, _, _, _, _, _, _, _, _, _, _, _, _, _, _, _, _, _, _, _, _, _, _, _, _, _, _, _, _, _, _, _, _, _, _, _, _, _, _, _, _, _, _, _, _, _, _, _, _, _, _, _, _, _, _, _, _, _, rfl, HB.out⟩
        · have HZ := Lib.hid (rookHN_side (c := a1) (f := a5) (by unfold sideB; rw [decide_eq_false (show ¬ 0 ≤ a4 by simp only [decide_eq_true_eq] at gd0; omega), Bool.false_and]))
          go_wp2_with (first | (go_at_call 18; refine (z_rook _ _ _ _ y0 (HT.out.on HB.out) HZ.out).mono ?_; rintro e wn ⟨rfl, hb9⟩; have HB := Lib.hid (below_on HB.out hb9); clear hb9))
          exact hK.out _ _ ⟨_, _, _, _, _, _, _, _, _, _, _, _, _, _, _, _, _, _, _, _, _, _, _, _, _, _, _, _, _, _, _, _, _, _, _, _, _, _, _, _, _, _, _, _, _, _, _, _, _, _, _, _, _, _, _, _, _, _, _, _, _, _, _, _, _, _, _, _, _, _, _, _, _, _, _, rfl, HB.out⟩
      · have gt : (a1 != 1) = true := by simp; omega
        have HU := Lib.hid (turnN_no (c := a1) h2)
        clear h1 h2
        cases gd0 : decide (a4 < 0)
        · cases gd1 : decide (1 < a4)
          · cases gf0 : decide (a5 < 0)
            · cases gf1 : decide (7 < a5)
              · go_wp2_with (first | (go_at_call 14; refine (z_turn _ _ (HT.out.on HB.out) HU.out).mono ?_; rintro e wn ⟨rfl, hb9⟩; have HB := Lib.hid (below_on HB.out hb9); clear hb9))
                exact hK.out _ _ ⟨_, _, _, _, _, _, _, _, _, _, _, _, _, _, _, _, _, _, _, _, _, _, _, _, _, _, _, _, _, _, _, _, _, _, _, _, _, _, _, _, _, _, _, _, _, _, _, _, _, _, _, _, _, _, _, _, _, _, _, _, _, _, _, _, _, _, _, _, _, _, _, _, _, _, _, rfl, HB.out⟩
              · have HZ := Lib.hid (rookHN_file (c := a1) (d := a4) (by unfold fileB; rw [decide_eq_false (show ¬ a5 < 8 by simp only [decide_eq_true_eq] at gf1; omega), Bool.and_false]))
                go_wp2_with (first | (go_at_call 18; refine (z_rook _ _ _ _ y0 (HT.out.on HB.out) HZ.out).mono ?_; rintro e wn ⟨rfl, hb9⟩; have HB := Lib.hid (below_on HB.out hb9); clear hb9) | (go_at_call 14; refine (z_turn _ _ (HT.out.on HB.out) HU.out).mono ?_; rintro e wn ⟨rfl, hb9⟩; have HB := Lib.hid (below_on HB.out hb9); clear hb9))
                exact hK.out _ _ ⟨_, _, _, _, _, _, _, _, _, _, _, _, _, _, _, _, _, _, _, _, _, _, _, _, _, _, _, _, _, _, _, _, _, _, _, _, _, _, _, _, _, _, _, _, _, _, _, _, _, _, _, _, _, _, _, _, _, _, _, _, _, _, _, _, _, _, _, _, _, _, _, _, _, _, _, rfl, HB.out⟩
            · have HZ := Lib.hid (rookHN_file (c := a1) (d := a4) (by unfold fileB; rw [decide_eq_false (show ¬ 0 ≤ a5 by simp only [decide_eq_true_eq] at gf0; omega), Bool.false_and]))
              go_wp2_with (first | (go_at_call 18; refine (z_rook _ _ _ _ y0 (HT.out.on HB.out) HZ.out).mono ?_; rintro e wn ⟨rfl, hb9⟩; have HB := Lib.hid (below_on HB.out hb9); clear hb9) | (go_at_call 14; refine (z_turn _ _ (HT.out.on HB.out) HU.out).mono ?_; rintro e wn ⟨rfl, hb9⟩; have HB := Lib.hid (below_on HB.out hb9); clear hb9))
              exact hK.out _ _ ⟨_, _, _, _, _, _, _, _, _, _, _, _, _, _, _, _, _, _, _, _, _, _, _, _, _, _, _, _, _, _, _, _, _, _, _, _, _, _, _, _, _, _, _, _, _, _, _, _, _, _, _, _, _, _, _, _, _, _, _, _, _, _, _, _, _, _, _, _, _, _, _, _, _, _, _, rfl, HB.out⟩
          · have HZ := Lib.hid (rookHN_side (c := a1) (f := a5) (by unfold sideB; rw [decide_eq_false (show ¬ a4 < 2 by simp only [decide_eq_true_eq] at gd1; omega), Bool.and_false]))
            go_wp2_with (first | (go_at_call 18; refine (z_rook _ _ _ _ y0 (HT.out.on HB.out) HZ.out).mono ?_; rintro e wn ⟨rfl, hb9⟩; have HB := Lib.hid (below_on HB.out hb9); clear hb9) | (go_at_call 14; refine (z_turn _ _ (HT.out.on HB.out) HU.out).mono ?_; rintro e wn ⟨rfl, hb9⟩; have HB := Lib.hid (below_on HB.out hb9); clear hb9))
            exact hK.out _ _ ⟨_, _, _, _, _, _, _, _, _, _, _, _, _, _, _, _, _, _, _, _, _, _, _, _, _, _, _, _, _, _, _, _, _, _, _, _, _, _, _, _, _, _, _, _, _, _, _, _, _, _, _, _, _, _, _, _, _, _, _, _, _, _, _, _, _, _, _, _, _, _, _, _, _, _, _, rfl, HB.out⟩
        · have HZ := Lib.hid (rookHN_side (c := a1) (f := a5) (by unfold sideB; rw [decide_eq_false (show ¬ 0 ≤ a4 by simp only [decide_eq_true_eq] at gd0; omega), Bool.false_and]))
          go_wp2_with (first | (go_at_call 18; refine (z_rook _ _ _ _ y0 (HT.out.on HB.out) HZ.out).mono ?_; rintro e wn ⟨rfl, hb9⟩; have HB := Lib.hid (below_on HB.out hb9); clear hb9) | (go_at_call 14; refine (z_turn _ _ (HT.out.on HB.out) HU.out).mono ?_; rintro e wn ⟨rfl, hb9⟩; have HB := Lib.hid (below_on HB.out hb9); clear hb9))
          exact hK.out _ _ ⟨_, _, _, _, _, _, _, _, _, _, _, _, _, _, _, _, _, _, _, _, _, _, _, _, _, _, _, _, _, _, _, _, _, _, _, _, _, _, _, _, _, _, _, _, _, _, _, _, _, _, _, _, _, _, _, _, _, _, _, _, _, _, _, _, _, _, _, _, _, _, _, _, _, _, _, rfl, HB.out⟩
  clear HB v14 v15 v16 v17 v18 v19 v20 v21 v22 v23 v24 v25 v26 v27 v28 v29 v30 v31 v32 v33 v34 v35 v36 v37 v38 v39 v40 v41 v42 v43 v44 v45 v46 v47 v48 v49 v50 v51 v52 v53 v54
  rintro a wn ⟨v14, v15, v16, v17, v18, v19, v20, v21, v22, v23, v24, v25, v26, v27, v28, v29, v30, v31, v32, v33, v34, v35, v36, v37, v38, v39, v40, v41, v42, v43, v44, v45, v46, v47, v48, v49, v50, v51, v52, v53, v54, v55, v56, v57, v58, v59, v60, v61, v62, v63, v64, v65, v66, v67, v68, v69, v70, v71, v72, v73, v74, v75, v76, v77, v78, v79, v80, v81, v82, v83, v84, v85, v86, v87, v88, rfl, hb⟩
  have HB := Lib.hid hb; clear hb
  by_cases h1 : a1 ≤ 1
  · have g1 : decide (a1 ≤ 1) = true := decide_eq_true h1
    clear h1
    by_cases k1 : 1 ≤ a2
    · have gk1 : decide (1 ≤ a2) = true := decide_eq_true k1
      by_cases k5 : a2 ≤ 5
      · have gk5 : decide (a2 ≤ 5) = true := decide_eq_true k5
        clear k1 k5
        go_wp2_with fail
        refine (z_pock0 _ _ _ y0 (HT.out.on HB.out)).mono ?_; rintro e wn ⟨rfl, hb9⟩; have HB := Lib.hid (below_on HB.out hb9); clear hb9
        go_wp2_with fail
        refine (z_chk0 _ _ y0 (HT.out.on HB.out)).mono ?_; rintro e wn ⟨rfl, hb9⟩; have HB := Lib.hid (below_on HB.out hb9); clear hb9
        go_wp2_with fail
        refine (z_prom _ (HT.out.on HB.out)).mono ?_; rintro e wn ⟨rfl, hb9⟩; have HB := Lib.hid (below_on HB.out hb9); clear hb9
        go_wp2_with fail
        go_ret
        exact ⟨rfl, HB.out⟩
      · have gk5 : decide (a2 ≤ 5) = false := decide_eq_false k5
        have HZ := Lib.hid (pockN_man (c := a1) (n := 3) (manB_hi (show 5 < a2 by omega)))
        clear k1 k5
        go_wp2_with fail
        refine (z_pock3 _ _ _ y0 (HT.out.on HB.out) HZ.out).mono ?_; rintro e wn ⟨rfl, hb9⟩; have HB := Lib.hid (below_on HB.out hb9); clear hb9
        go_wp2_with fail
        refine (z_pock0 _ _ _ y0 (HT.out.on HB.out)).mono ?_; rintro e wn ⟨rfl, hb9⟩; have HB := Lib.hid (below_on HB.out hb9); clear hb9
        go_wp2_with fail
        refine (z_chk0 _ _ y0 (HT.out.on HB.out)).mono ?_; rintro e wn ⟨rfl, hb9⟩; have HB := Lib.hid (below_on HB.out hb9); clear hb9
        go_wp2_with fail
        refine (z_prom _ (HT.out.on HB.out)).mono ?_; rintro e wn ⟨rfl, hb9⟩; have HB := Lib.hid (below_on HB.out hb9); clear hb9
        go_wp2_with fail
        go_ret
        exact ⟨rfl, HB.out⟩
    · have gk1 : decide (1 ≤ a2) = false := decide_eq_false k1
      have HZ := Lib.hid (pockN_man (c := a1) (n := 3) (manB_lo (show a2 < 1 by omega)))
      clear k1
      go_wp2_with fail
      refine (z_pock3 _ _ _ y0 (HT.out.on HB.out) HZ.out).mono ?_; rintro e wn ⟨rfl, hb9⟩; have HB := Lib.hid (below_on HB.out hb9); clear hb9
      go_wp2_with fail
      refine (z_pock0 _ _ _ y0 (HT.out.on HB.out)).mono ?_; rintro e wn ⟨rfl, hb9⟩; have HB := Lib.hid (below_on HB.out hb9); clear hb9
      go_wp2_with fail
      refine (z_chk0 _ _ y0 (HT.out.on HB.out)).mono ?_; rintro e wn ⟨rfl, hb9⟩; have HB := Lib.hid (below_on HB.out hb9); clear hb9
      go_wp2_with fail
      refine (z_prom _ (HT.out.on HB.out)).mono ?_; rintro e wn ⟨rfl, hb9⟩; have HB := Lib.hid (below_on HB.out hb9); clear hb9
      go_wp2_with fail
      go_ret
      exact ⟨rfl, HB.out⟩
  · have g1 : decide (a1 ≤ 1) = false := decide_eq_false h1
    have HZ := Lib.hid (pockN_col (k := a2) (n := 3) (show 1 < a1 by omega))
    have HC := Lib.hid (show 1 < a1 by omega)
    clear h1
    go_wp2_with fail
    refine (z_pock3 _ _ _ y0 (HT.out.on HB.out) HZ.out).mono ?_; rintro e wn ⟨rfl, hb9⟩; have HB := Lib.hid (below_on HB.out hb9); clear hb9
    go_wp2_with fail
    refine (z_pock0 _ _ _ y0 (HT.out.on HB.out)).mono ?_; rintro e wn ⟨rfl, hb9⟩; have HB := Lib.hid (below_on HB.out hb9); clear hb9
    go_wp2_with fail
    refine (z_chk0 _ _ y0 (HT.out.on HB.out)).mono ?_; rintro e wn ⟨rfl, hb9⟩; have HB := Lib.hid (below_on HB.out hb9); clear hb9
    go_wp2_with fail
    refine (z_chk2 _ _ y0 (HT.out.on HB.out) HC.out).mono ?_; rintro e wn ⟨rfl, hb9⟩; have HB := Lib.hid (below_on HB.out hb9); clear hb9
    go_wp2_with fail
    refine (z_prom _ (HT.out.on HB.out)).mono ?_; rintro e wn ⟨rfl, hb9⟩; have HB := Lib.hid (below_on HB.out hb9); clear hb9
    go_wp2_with fail
    go_ret
    exact ⟨rfl, HB.out⟩
end Go.Proofs.YtboopdmgphhemaaDoor.hashNothing
