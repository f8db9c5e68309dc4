/-
  Contract of the document's own rooks (layer 10).
-/
import Derived.Test.YtokojkgfekbjdaaGreatDoorFnRank
import Derived.Deep.RegionHeld
namespace Go.Proofs.YtokojkgfekbjdaaGreatDoor
open Go.RowKit
set_option linter.unusedVariables false

theorem loop_p {P : Program} {c : Code} {Q : Exit → Act → World → Prop} {a : Act} {w : World} (I : Act → World → Prop) (μ : Act → World → Nat) (h₀ : I a w)
    (round : ∀ a w, I a w → ∀ K : Act → World → Prop, Shut (∀ a' w', I a' w' → μ a' w' < μ a w → K a' w') → c.wp P (Exit.then K Q) a w) : (Code.loop c).wp P Q a w :=
  wp_loop I μ h₀ fun a w h => round a w h _ fun a' w' hi hm => ⟨hi, hm⟩
theorem rfL_is {c d : Nat} {f v : Int} (h : decide (f < 0) = false) (hv : rkF c d f = v) : rfL c d f = [byZ v] := by unfold rfL; rw [h, hv]; rfl
theorem alloc_below (w : World) (o : Obj) : Below w.heap.size w (w.alloc o) := (Below.refl _ _).alloc (Nat.le_refl _) o
set_option maxRecDepth 100000 in
set_option maxHeartbeats 4000000 in
theorem rrooks_text (p : Nat → Int) (w : World) (hf : ∀ i, i < 4 → -1 ≤ p (79 + i) ∧ p (79 + i) ≤ 7) : Calls Tryz.prog 28 #[.agg (posA p)] w (StL (bz (roT p)) w) := by
  have HFr := Lib.hid hf
  have hcv := conv1
  clear hf
  go_enter Tryz.func28, Tryz.ntmps28
  go_wp2_with (refine step_box rfl _ rfl p rfl ?_; intro b1 w1 N R; have HB := Lib.hid N.below; have HR1 := Lib.hid R; clear N R)
  refine loop_p (fun a wr => ∃ (c : Nat) (v5 v6 v7 v8 v9 v10 v11 v12 v13 v14 v15 v16 v17 v18 v19 v20 v21 v22 v23 v24 v25 v26 v27 v28 v29 v30 v31 v32 v33 v34 v35 v36 v37 v38 v39 v40 v41 v42 v43 v44 v45 v46 v47 v48 v49 : Value), c ≤ 2 ∧ a = { tmps := #[.agg (posA p), .pointer (some ⟨b1, 0, none⟩), .string ⟨#[]⟩, .string (bz (rcL p c)), .int .i64 ((c : Nat) : Int), v5, v6, v7, v8, v9, v10, v11, v12, v13, v14, v15, v16, v17, v18, v19, v20, v21, v22, v23, v24, v25, v26, v27, v28, v29, v30, v31, v32, v33, v34, v35, v36, v37, v38, v39, v40, v41, v42, v43, v44, v45, v46, v47, v48, v49, undef, undef, undef], defers := [] } ∧ Row wr b1 p ∧ Below w.heap.size w wr) (fun a _ => 2 - (intOf (a.tmps.getD 4 undef)).toNat) ?_ ?_
  · exact ⟨0, _, _, _, _, _, _, _, _, _, _, _, _, _, _, _, _, _, _, _, _, _, _, _, _, _, _, _, _, _, _, _, _, _, _, _, _, _, _, _, _, _, _, _, _, _, by omega, rfl, HR1.out, HB.out⟩
  rintro a wr ⟨c, v5, v6, v7, v8, v9, v10, v11, v12, v13, v14, v15, v16, v17, v18, v19, v20, v21, v22, v23, v24, v25, v26, v27, v28, v29, v30, v31, v32, v33, v34, v35, v36, v37, v38, v39, v40, v41, v42, v43, v44, v45, v46, v47, v48, v49, hc2, rfl, hrow, hbel⟩ K HK
  have HRw := Lib.hid hrow
  have HBl := Lib.hid hbel
  clear hrow hbel HR1 HB
  by_cases h2 : c < 2
  · have hlc : (c : Int) < 2 := by omega
    go_wp2_with fail
    refine loop_p (fun a wr => ∃ (d : Nat) (v6 v7 v8 v9 v10 v11 v12 v13 v14 v15 v16 v17 v18 v19 v20 v21 v22 v23 v24 v25 v26 v27 v28 v29 v30 v31 v32 v33 v34 v35 v36 v37 v38 v39 v40 v41 v42 v43 v44 v45 v46 v47 v48 v49 : Value), d ≤ 2 ∧ a = { tmps := #[.agg (posA p), .pointer (some ⟨b1, 0, none⟩), .string ⟨#[]⟩, .string (bz (rcL p c ++ rdL p c d)), .int .i64 ((c : Nat) : Int), .int .i64 ((d : Nat) : Int), v6, v7, v8, v9, v10, v11, v12, v13, v14, v15, v16, v17, v18, v19, v20, v21, v22, v23, v24, v25, v26, v27, v28, v29, v30, v31, v32, v33, v34, v35, v36, v37, v38, v39, v40, v41, v42, v43, v44, v45, v46, v47, v48, v49, undef, undef, undef], defers := [] } ∧ Row wr b1 p ∧ Below w.heap.size w wr) (fun a _ => 2 - (intOf (a.tmps.getD 5 undef)).toNat) ?_ ?_
    · exact ⟨0, _, _, _, _, _, _, _, _, _, _, _, _, _, _, _, _, _, _, _, _, _, _, _, _, _, _, _, _, _, _, _, _, _, _, _, _, _, _, _, _, _, _, _, _, by omega, by rw [show rdL p c 0 = [] from rfl, List.append_nil]; rfl, HRw.out, HBl.out⟩
    rintro a wr ⟨d, v6, v7, v8, v9, v10, v11, v12, v13, v14, v15, v16, v17, v18, v19, v20, v21, v22, v23, v24, v25, v26, v27, v28, v29, v30, v31, v32, v33, v34, v35, v36, v37, v38, v39, v40, v41, v42, v43, v44, v45, v46, v47, v48, v49, hd2, rfl, hrow, hbel⟩ K2 HK2
    have HRw := Lib.hid hrow
    have HBl := Lib.hid hbel
    clear hrow hbel
    by_cases hd : d < 2
    · have hld : (d : Int) < 2 := by omega
      have hfb := HFr.out (c * 2 + d) (by omega)
      rw [show 79 + (c * 2 + d) = 79 + c * 2 + d by omega] at hfb
      obtain ⟨x, hx⟩ : ∃ x, p (79 + c * 2 + d) = x := ⟨_, rfl⟩
      rw [hx] at hfb
      have hc0 : wr.cell? ⟨b1, 79 + c * 2 + d, none⟩ = some (.int .i8 x) := by rw [HRw.out.cell _ (by omega), show kAt (79 + c * 2 + d) = .i8 by unfold kAt; rw [if_neg (by omega), if_pos ⟨by omega, by omega⟩], hx]
      obtain ⟨l, hl⟩ : ∃ l, rcL p c ++ rdL p c d = l := ⟨_, rfl⟩
      have hlz : l.length ≤ 20 := by rw [← hl, List.length_append]; have := rcL_len p c; have := rdL_len p c d; omega
      have HL := Lib.hid (show rcL p c ++ rdL p c (d + 1) = l ++ rfL c d x by rw [← hl, List.append_assoc, ← hx]; rfl)
      obtain ⟨t, ht⟩ : ∃ t, bz l = t := ⟨_, rfl⟩
      have htz : t.size ≤ 20 := by rw [← ht, bz_size]; exact hlz
      have hcat : ∀ y, ¬ (9223372036854775807 < t.size + (bz [y]).size) := fun y => cat_ok (by omega) (by rw [bz_size]; simp)
      have HT := Lib.hid ht
      rw [hl, ht]
      clear hl hlz ht htz hx
      have hcc : c = 0 ∨ c = 1 := by omega
      have hdd : d = 0 ∨ d = 1 := by omega
      obtain ⟨f0, f1⟩ := hfb
      have H2 := Lib.hid h2
      have HD := Lib.hid hd
      clear h2 hd hd2 hc2 hlc hld
      cases hneg : decide (x < 0)
      · rcases hcc with rfl | rfl
        · rcases hdd with rfl | rfl
          · by_cases h7 : x = 7
            · subst h7
              have HE := Lib.hid (show t ++ bz [byZ (75)] = bz (rcL p 0 ++ rdL p 0 (0 + 1)) by rw [HL.out, ← bz_app, HT.out, rfL_is hneg (show rkF 0 0 _ = 75 by rfl)])
              go_wp2_with fail
              refine HK2.out _ _ ⟨1, _, _, _, _, _, _, _, _, _, _, _, _, _, _, _, _, _, _, _, _, _, _, _, _, _, _, _, _, _, _, _, _, _, _, _, _, _, _, _, _, _, _, _, _, by omega, by rw [← HE.out]; rfl, HRw.out.later (alloc_below _ _), HBl.out.alloc HBl.out.size _⟩ (by simp [intOf])
            · have g7 : (x == 7) = false := by simp [h7]
              clear h7
              have HE := Lib.hid (show t ++ bz [byZ (65 + x)] = bz (rcL p 0 ++ rdL p 0 (0 + 1)) by rw [HL.out, ← bz_app, HT.out, rfL_is hneg (show rkF 0 0 _ = 65 + x by unfold rkF; rw [g7]; show 65 + x + 0 = _; omega)])
              go_wp2_with fail
              refine HK2.out _ _ ⟨1, _, _, _, _, _, _, _, _, _, _, _, _, _, _, _, _, _, _, _, _, _, _, _, _, _, _, _, _, _, _, _, _, _, _, _, _, _, _, _, _, _, _, _, _, by omega, by rw [← HE.out]; rfl, HRw.out.later (alloc_below _ _), HBl.out.alloc HBl.out.size _⟩ (by simp [intOf])
          · by_cases h7 : x = 0
            · subst h7
              have HE := Lib.hid (show t ++ bz [byZ (81)] = bz (rcL p 0 ++ rdL p 0 (1 + 1)) by rw [HL.out, ← bz_app, HT.out, rfL_is hneg (show rkF 0 1 _ = 81 by rfl)])
              go_wp2_with fail
              refine HK2.out _ _ ⟨2, _, _, _, _, _, _, _, _, _, _, _, _, _, _, _, _, _, _, _, _, _, _, _, _, _, _, _, _, _, _, _, _, _, _, _, _, _, _, _, _, _, _, _, _, by omega, by rw [← HE.out]; rfl, HRw.out.later (alloc_below _ _), HBl.out.alloc HBl.out.size _⟩ (by simp [intOf])
            · have g7 : (x == 0) = false := by simp [h7]
              clear h7
              have HE := Lib.hid (show t ++ bz [byZ (65 + x)] = bz (rcL p 0 ++ rdL p 0 (1 + 1)) by rw [HL.out, ← bz_app, HT.out, rfL_is hneg (show rkF 0 1 _ = 65 + x by unfold rkF; rw [g7]; show 65 + x + 0 = _; omega)])
              go_wp2_with fail
              refine HK2.out _ _ ⟨2, _, _, _, _, _, _, _, _, _, _, _, _, _, _, _, _, _, _, _, _, _, _, _, _, _, _, _, _, _, _, _, _, _, _, _, _, _, _, _, _, _, _, _, _, by omega, by rw [← HE.out]; rfl, HRw.out.later (alloc_below _ _), HBl.out.alloc HBl.out.size _⟩ (by simp [intOf])
        · rcases hdd with rfl | rfl
          · by_cases h7 : x = 7
            · subst h7
              have HE := Lib.hid (show t ++ bz [byZ (107)] = bz (rcL p 1 ++ rdL p 1 (0 + 1)) by rw [HL.out, ← bz_app, HT.out, rfL_is hneg (show rkF 1 0 _ = 107 by rfl)])
              go_wp2_with fail
              refine HK2.out _ _ ⟨1, _, _, _, _, _, _, _, _, _, _, _, _, _, _, _, _, _, _, _, _, _, _, _, _, _, _, _, _, _, _, _, _, _, _, _, _, _, _, _, _, _, _, _, _, by omega, by rw [← HE.out]; rfl, HRw.out.later (alloc_below _ _), HBl.out.alloc HBl.out.size _⟩ (by simp [intOf])
            · have g7 : (x == 7) = false := by simp [h7]
              clear h7
              have HE := Lib.hid (show t ++ bz [byZ (65 + x + 97 - 65)] = bz (rcL p 1 ++ rdL p 1 (0 + 1)) by rw [HL.out, ← bz_app, HT.out, rfL_is hneg (show rkF 1 0 _ = 65 + x + 97 - 65 by unfold rkF; rw [g7]; show 65 + x + 32 = _; omega)])
              go_wp2_with fail
              refine HK2.out _ _ ⟨1, _, _, _, _, _, _, _, _, _, _, _, _, _, _, _, _, _, _, _, _, _, _, _, _, _, _, _, _, _, _, _, _, _, _, _, _, _, _, _, _, _, _, _, _, by omega, by rw [← HE.out]; rfl, HRw.out.later (alloc_below _ _), HBl.out.alloc HBl.out.size _⟩ (by simp [intOf])
          · by_cases h7 : x = 0
            · subst h7
              have HE := Lib.hid (show t ++ bz [byZ (113)] = bz (rcL p 1 ++ rdL p 1 (1 + 1)) by rw [HL.out, ← bz_app, HT.out, rfL_is hneg (show rkF 1 1 _ = 113 by rfl)])
              go_wp2_with fail
              refine HK2.out _ _ ⟨2, _, _, _, _, _, _, _, _, _, _, _, _, _, _, _, _, _, _, _, _, _, _, _, _, _, _, _, _, _, _, _, _, _, _, _, _, _, _, _, _, _, _, _, _, by omega, by rw [← HE.out]; rfl, HRw.out.later (alloc_below _ _), HBl.out.alloc HBl.out.size _⟩ (by simp [intOf])
            · have g7 : (x == 0) = false := by simp [h7]
              clear h7
              have HE := Lib.hid (show t ++ bz [byZ (65 + x + 97 - 65)] = bz (rcL p 1 ++ rdL p 1 (1 + 1)) by rw [HL.out, ← bz_app, HT.out, rfL_is hneg (show rkF 1 1 _ = 65 + x + 97 - 65 by unfold rkF; rw [g7]; show 65 + x + 32 = _; omega)])
              go_wp2_with fail
              refine HK2.out _ _ ⟨2, _, _, _, _, _, _, _, _, _, _, _, _, _, _, _, _, _, _, _, _, _, _, _, _, _, _, _, _, _, _, _, _, _, _, _, _, _, _, _, _, _, _, _, _, by omega, by rw [← HE.out]; rfl, HRw.out.later (alloc_below _ _), HBl.out.alloc HBl.out.size _⟩ (by simp [intOf])
      · have HE := Lib.hid (show t = bz (rcL p c ++ rdL p c (d + 1)) by rw [HL.out, show rfL c d x = [] by unfold rfL; rw [hneg]; rfl, List.append_nil]; exact HT.out.symm)
        go_wp2_with fail
        refine HK2.out _ _ ⟨d + 1, _, _, _, _, _, _, _, _, _, _, _, _, _, _, _, _, _, _, _, _, _, _, _, _, _, _, _, _, _, _, _, _, _, _, _, _, _, _, _, _, _, _, _, _, by have := HD.out; omega, by rw [← HE.out]; rfl, HRw.out, HBl.out⟩ (by simp [intOf]; have := HD.out; omega)
    · obtain rfl : d = 2 := by omega
      go_wp2_with fail
      refine HK.out _ _ ⟨c + 1, _, _, _, _, _, _, _, _, _, _, _, _, _, _, _, _, _, _, _, _, _, _, _, _, _, _, _, _, _, _, _, _, _, _, _, _, _, _, _, _, _, _, _, _, _, by omega, rfl, HRw.out, HBl.out⟩ (by simp [intOf]; omega)
  · obtain rfl : c = 2 := by omega
    obtain ⟨l, hl⟩ : ∃ l, rcL p 2 = l := ⟨_, rfl⟩
    have hr : roT p = bif l.isEmpty then [45] else l := by unfold roT; rw [hl]
    obtain ⟨t, ht⟩ : ∃ t, bz l = t := ⟨_, rfl⟩
    have hE : t.toList.isEmpty = l.isEmpty := by rw [← ht, bz_toList]
    rw [hl, ht]
    cases he : l.isEmpty
    · rw [he] at hE hr
      have HR := Lib.hid (show bz (roT p) = t by rw [hr]; exact ht)
      clear hr hl ht he
      go_wp2_with fail
      go_ret
      refine ⟨?_, HBl.out⟩
      rw [HR.out]; rfl
    · rw [he] at hE hr
      have HR := Lib.hid (show roT p = [45] from hr)
      clear hr hl ht he
      go_wp2_with fail
      go_ret
      refine ⟨?_, HBl.out⟩
      rw [HR.out]; rfl
end Go.Proofs.YtokojkgfekbjdaaGreatDoor
