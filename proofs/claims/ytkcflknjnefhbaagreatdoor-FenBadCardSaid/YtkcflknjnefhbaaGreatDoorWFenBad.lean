/-
  The walk of FenBad.
-/
import Derived.Test.YtkcflknjnefhbaaGreatDoorFnBad
import Derived.Test.YtkcflknjnefhbaaGreatDoorFpBaseB
import Derived.Test.YtkcflknjnefhbaaGreatDoorRdBaseA
import Derived.Laws.Strings3
import Derived.WalkKit
import Derived.OpenShut
namespace Go.Proofs.YtkcflknjnefhbaaGreatDoor.fenBad
open Go.RowKit
set_option linter.unusedVariables false
set_option linter.unusedSimpArgs false
theorem fen_short {p : Nat → Int} {s : List UInt8} (h : fenL p = s) : s.length ≤ 200 := by
  subst h
  unfold fenL
  cases hc : (wrB p && decide ((fenT6 p).length ≤ 200))
  · exact Nat.zero_le _
  · rw [Bool.and_eq_true, decide_eq_true_eq] at hc; exact hc.2
theorem byZ_nat9 {x : Int} (h0 : 0 ≤ x) (h1 : x ≤ 255) : ((byZ x).toNat : Int) = x := by
  unfold byZ
  rw [UInt8.toNat_ofNat', Nat.mod_eq_of_lt (show x.toNat < 2 ^ 8 by omega)]
  omega
theorem fenL_text9 {p : Nat → Int} (h : fenL p ≠ []) : wrB p = true ∧ (fenT6 p).length ≤ 200 ∧ fenL p = fenT6 p := by
  unfold fenL at h ⊢
  generalize fenT6 p = T at h ⊢
  generalize wrB p = b at h ⊢
  cases b
  · exact absurd rfl h
  · by_cases hl : T.length ≤ 200
    · exact ⟨rfl, hl, by rw [decide_eq_true hl]; rfl⟩
    · rw [decide_eq_false hl] at h; exact absurd rfl h
theorem byZ_u8 {b : Int} (h0 : 0 ≤ b) (h1 : b ≤ 255) : ((byZ b).toNat : Int) = b := byZ_nat9 h0 h1
theorem late_forkL {P : Program} {md : Region.Mode} {ops : Array Oper} {Q : Exit → Act → World → Prop} (i L : Nat) {n : Nat} {listed : Array Bool} {a : Act} {w : World} (hr : Region.ready md ops listed = [i, L]) (hz : ((ops[i]?).isSome && i != L) = true) (hzL : (ops[L]?).isSome = true)
    (h1 : LateStep L P md ops Q n listed a w i)
    (h2 : ∀ o : Oper, ops[L]? = some o → Region.wanted o (yielded ops a.tmps) = true ∧ ∀ w', Later w w' → ∀ K : Act → World → Prop, Shut (∀ a2 w2, wpAny P md ops Q n (listed.setIfInBounds L true) a2 w2 → K a2 w2) → Wp P o a w' K Q) : Late L P md ops Q (n + 1) listed a w := fun w' hw' =>
  ⟨fun h0 => (by rw [hr] at h0; cases h0), fun k hk => (by
    rw [hr] at hk
    have hk : k = i ∨ k = L := by simpa using hk
    rcases hk with rfl | rfl
    · exact late_step hz h1 hw'
    · obtain ⟨o, ho⟩ := Option.isSome_iff_exists.1 hzL
      obtain ⟨hw, h⟩ := h2 o ho
      unfold wpOp
      rw [ho]
      simp only [hw, if_true]
      exact .inl (h w' hw' _ fun a2 w2 hk => hk).out)⟩
/-- A cut behind a part of a walk: what is known there, the frame as a function of one number. -/
theorem cut_here {P : Program} {x : Code} {K : Act → World → Prop} {Q : Exit → Act → World → Prop} {a : Act} {w : World} (M : (Nat → Act) → Act → World → Prop) (h : ∃ F : Nat → Act, (∀ K' : Act → World → Prop, Shut (∀ a w, M F a w → K' a w) → x.wp P (Exit.then K' Q) a w) ∧ (∀ a w, M F a w → Exit.then K Q .normal a w)) : x.wp P (Exit.then K Q) a w :=
  h.elim fun F h => h.1 K (fun a w hm => h.2 a w hm)
theorem tail_of (x : UInt8) (l : List UInt8) : (bz (x :: l)).extract 1 (bz (x :: l)).size = bz l := by
  rw [← bz_of ((bz (x :: l)).extract _ _)]
  congr 1
  rw [ByteArray.data_extract, Array.toList_extract, bz_data, bz_size]
  simp [List.extract]
set_option maxRecDepth 100000 in
set_option maxHeartbeats 4000000 in
theorem bad_0_long (p : Nat → Int) (v b : Int) (s : List UInt8) (x0 : UInt8) (s1 : List UInt8) (hv : 0 ≤ v ∧ v ≤ 255) (h9 : v < 9) (hb : 0 ≤ b ∧ b ≤ 255) (w : World) (hF : FitF p) (hs : fenL p = s) (hs1 : s = x0 :: s1) (h0 : p 0 < 9) (hl : 200 < (s ++ [byZ b]).length) (hM : TabMx w) (hT : TabErr w) (hC : TabCorn w) (hV : TabVar w) (hP : TabPow w) (hK : TabKn w) :
    Calls Tryz.prog 8 #[.agg (posA p), .int .u8 v, .int .u8 b] w (BoL true w) := by
  have HM := Lib.hid hM
  have HT := Lib.hid hT
  have HC := Lib.hid hC
  have HV := Lib.hid hV
  have HP := Lib.hid hP
  have HK := Lib.hid hK
  have HF := Lib.hid hF
  have HVr := Lib.hid hv
  obtain ⟨q1, hq1⟩ : ∃ q, pqO (parO v s) = q := ⟨_, rfl⟩
  obtain ⟨n1, hn1⟩ : ∃ n, pnO (parN v s) (parO v s) = n := ⟨_, rfl⟩
  have HO1 := Lib.hid (show RdO (parN v s) (parO v s) = #[.agg (posA q1), .int .i64 n1] by rw [RdO_eq, hq1, hn1])
  have hsl := fen_short hs
  have N2 := Lib.hid (show parN (p 0) (s ++ [byZ b]) = 3 by unfold parN; rw [decide_eq_false (show ¬ 9 ≤ p 0 by omega), decide_eq_true hl]; rfl)
  have HO2 := Lib.hid (show parO (p 0) (s ++ [byZ b]) = none by unfold parO; rw [decide_eq_false (show ¬ 9 ≤ p 0 by omega), decide_eq_true hl]; rfl)
  obtain ⟨y, hy⟩ : ∃ y, bz s = y := ⟨_, rfl⟩
  obtain ⟨t, ht⟩ : ∃ t, y ++ bz [byZ b] = t := ⟨_, rfl⟩
  have hys : y.size = s.length := by rw [← hy, bz_size]
  have hye : y.toList.isEmpty = false := by rw [← hy, bz_toList, hs1]; rfl
  have HS := Lib.hid (show bz (fenL p) = y by rw [hs]; exact hy)
  have HY := Lib.hid hy
  have HTt := Lib.hid ht
  have HTb := Lib.hid (show t = bz (s ++ [byZ b]) by rw [← ht, ← hy, bz_app])
  have hts : t.size = (s ++ [byZ b]).length := by rw [HTb.out, bz_size]
  have gl : decide ((200 : Int) < (t.size : Int)) = true := decide_eq_true (by omega)
  have hcv := conv1
  have hb1 : (bz [byZ b]).size = 1 := bz_size _
  have k1 := cat_ok (a := y) (b := bz [byZ b]) (by omega) (by omega)
  have rt := tail_of x0 s1
  rw [show bz (x0 :: s1) = y by rw [← hs1]; exact hy] at rt
  have l1 : (1 : Int) ≤ (y.size : Int) := by rw [hys, hs1, List.length_cons]; omega
  clear rt l1
  clear hM hT hC hV hP hK hF hs hs1 hy ht hys hts hl hsl hb1 hq1
  clear h0 hv
  clear hn1
  obtain ⟨b0', b255⟩ := hb
  go_enter Tryz.func8, Tryz.ntmps8
  go_wp2_with (first
    | (refine step_box rfl _ rfl p rfl ?_; intro b0 w1 N R; have HG0 := Lib.hid (show w.heap.size ≤ b0 from Nat.le_of_eq N.at_.symm); have HB := Lib.hid N.below; have HR := Lib.hid R; clear N R)
    | (go_at_call 11; refine (fawake_any _ (HM.out.on HB.out) (HT.out.on HB.out) (HC.out.on HB.out) (HV.out.on HB.out) (HP.out.on HB.out) (HK.out.on HB.out)).mono ?_; rintro e w2 ⟨rfl, hb⟩; have HR := Lib.hid (HR.out.later hb); have HB := Lib.hid (HB.out.trans (hb.mono HB.out.size)); clear hb)
    | (refine step_load rfl _ rfl b0 rfl p ?_ ?_; exact HR.out)
    | (go_at_call 12; refine (print_any p _ HF.out (HV.out.on HB.out) (HC.out.on HB.out) (HP.out.on HB.out)).mono ?_; rintro e w3 ⟨rfl, hb⟩; rw [HS.out]; have HR := Lib.hid (HR.out.later hb); have HB := Lib.hid (HB.out.trans (hb.mono HB.out.size)); clear hb))
  rw [← HY.out]
  refine (fparse_any v s _ HVr.out (HM.out.on HB.out) (HT.out.on HB.out) (HC.out.on HB.out) (HV.out.on HB.out) (HP.out.on HB.out)).mono ?_; rintro e w4 ⟨rfl, hb⟩; rw [HO1.out, HY.out]; have HR := Lib.hid (HR.out.later hb); have HB := Lib.hid (HB.out.trans (hb.mono HB.out.size)); clear hb
  go_wp2_with (first
    | (refine step_alloc rfl rfl ?_; intro b1 w5 N R; have HG1 := Lib.hid (show w.heap.size ≤ b1 by rw [N.at_]; exact HB.out.size); have HD1 := Lib.hid (show b0 ≠ b1 by rw [N.at_]; exact Nat.ne_of_lt HR.out.lt); have HR := Lib.hid (HR.out.later N.below); have HR1 := Lib.hid R; have HB := Lib.hid (HB.out.trans (N.below.mono HB.out.size)); clear N R)
    | (refine step_store rfl _ _ rfl b1 rfl zeroP q1 rfl ?_ ?_; exact HR1.out; intro w6 U R; have HR1 := Lib.hid R; have HR := Lib.hid (HR.out.apart U HD1.out); have HB := Lib.hid (HB.out.trans (U.below HG1.out)); clear U R)
    | (refine step_get rfl 5 _ rfl b0 0 rfl Tryz.underlying5 rfl (.int .u8 (p 0)) ?_ ?_; (first | (rw [HR.out.cell 0 (by decide)]; rfl) | (rw [(HR.out.later (New.alloc _ _).below).cell 0 (by decide)]; rfl))))
  rw [HTt.out, HTb.out]
  have hN := fun (w : World) (o : Obj) => (New.alloc w o).below
  refine (fparse_any (p 0) (s ++ [byZ b]) _ HF.out.var (HM.out.on (HB.out.trans ((hN _ _).mono HB.out.size))) (HT.out.on (HB.out.trans ((hN _ _).mono HB.out.size))) (HC.out.on (HB.out.trans ((hN _ _).mono HB.out.size))) (HV.out.on (HB.out.trans ((hN _ _).mono HB.out.size))) (HP.out.on (HB.out.trans ((hN _ _).mono HB.out.size)))).mono ?_
  rintro e w7 ⟨rfl, hb⟩; rw [HO2.out, N2.out, RdO, ← HTb.out]; have HR := Lib.hid ((HR.out.later (hN _ _)).later hb); have HB := Lib.hid ((HB.out.trans ((hN _ _).mono HB.out.size)).trans (hb.mono (HB.out.trans ((hN _ _).mono HB.out.size)).size)); clear hb
  go_wp2_with (first
    | (refine step_alloc rfl rfl ?_; intro b2 w5 N R; have HG2 := Lib.hid (show w.heap.size ≤ b2 by rw [N.at_]; exact HB.out.size); have HD2 := Lib.hid (show b0 ≠ b2 by rw [N.at_]; exact Nat.ne_of_lt HR.out.lt); have HR := Lib.hid (HR.out.later N.below); have HR2 := Lib.hid R; have HB := Lib.hid (HB.out.trans (N.below.mono HB.out.size)); clear N R)
    | (refine step_store rfl _ _ rfl b2 rfl zeroP zeroP rfl ?_ ?_; exact HR2.out; intro w6 U R; have HR2 := Lib.hid R; have HR := Lib.hid (HR.out.apart U HD2.out); have HB := Lib.hid (HB.out.trans (U.below HG2.out)); have hc0 : w6.cell? ⟨b0, 0, none⟩ = some (.int .u8 (p 0)) := (by rw [HR.out.cell 0 (by decide)]; rfl); clear U R)
    )
  exact bodyPost_ret (results_tmp rfl _ _ _) rfl ⟨rfl, HB.out⟩
set_option maxRecDepth 100000 in
set_option maxHeartbeats 4000000 in
theorem bad_0_00 (p : Nat → Int) (v b : Int) (s : List UInt8) (x0 : UInt8) (s1 : List UInt8) (hv : 0 ≤ v ∧ v ≤ 255) (h9 : v < 9) (hb : 0 ≤ b ∧ b ≤ 255) (w : World) (hF : FitF p) (hs : fenL p = s) (hs1 : s = x0 :: s1) (h0 : p 0 < 9) (hl : (s ++ [byZ b]).length ≤ 200) (o2 : parO (p 0) (s ++ [byZ b]) = none) (o3 : parO (p 0) s1 = none) (hM : TabMx w) (hT : TabErr w) (hC : TabCorn w) (hV : TabVar w) (hP : TabPow w) (hK : TabKn w) :
    Calls Tryz.prog 8 #[.agg (posA p), .int .u8 v, .int .u8 b] w (BoL true w) := by
  have HM := Lib.hid hM
  have HT := Lib.hid hT
  have HC := Lib.hid hC
  have HV := Lib.hid hV
  have HP := Lib.hid hP
  have HK := Lib.hid hK
  have HF := Lib.hid hF
  have HVr := Lib.hid hv
  obtain ⟨q1, hq1⟩ : ∃ q, pqO (parO v s) = q := ⟨_, rfl⟩
  obtain ⟨n1, hn1⟩ : ∃ n, pnO (parN v s) (parO v s) = n := ⟨_, rfl⟩
  have HO1 := Lib.hid (show RdO (parN v s) (parO v s) = #[.agg (posA q1), .int .i64 n1] by rw [RdO_eq, hq1, hn1])
  have hsl := fen_short hs
  have N2 := Lib.hid (show parN (p 0) (s ++ [byZ b]) = 5 by unfold parN; rw [decide_eq_false (show ¬ 9 ≤ p 0 by omega), decide_eq_false (show ¬ 200 < ((s ++ [byZ b])).length by omega)]; rfl)
  have HO2 := Lib.hid o2
  have N3 := Lib.hid (show parN (p 0) s1 = 5 by unfold parN; rw [decide_eq_false (show ¬ 9 ≤ p 0 by omega), decide_eq_false (show ¬ 200 < (s1).length by rw [hs1] at hsl; simp at hsl; omega)]; rfl)
  have HO3 := Lib.hid o3
  obtain ⟨y, hy⟩ : ∃ y, bz s = y := ⟨_, rfl⟩
  obtain ⟨t, ht⟩ : ∃ t, y ++ bz [byZ b] = t := ⟨_, rfl⟩
  have hys : y.size = s.length := by rw [← hy, bz_size]
  have hye : y.toList.isEmpty = false := by rw [← hy, bz_toList, hs1]; rfl
  have HS := Lib.hid (show bz (fenL p) = y by rw [hs]; exact hy)
  have HY := Lib.hid hy
  have HTt := Lib.hid ht
  have HTb := Lib.hid (show t = bz (s ++ [byZ b]) by rw [← ht, ← hy, bz_app])
  have hts : t.size = (s ++ [byZ b]).length := by rw [HTb.out, bz_size]
  have gl : decide ((200 : Int) < (t.size : Int)) = false := decide_eq_false (by omega)
  have hcv := conv1
  have hb1 : (bz [byZ b]).size = 1 := bz_size _
  have k1 := cat_ok (a := y) (b := bz [byZ b]) (by omega) (by omega)
  have rt := tail_of x0 s1
  rw [show bz (x0 :: s1) = y by rw [← hs1]; exact hy] at rt
  have l1 : (1 : Int) ≤ (y.size : Int) := by rw [hys, hs1, List.length_cons]; omega
  obtain ⟨z, hz⟩ : ∃ z, bz s1 = z := ⟨_, rfl⟩
  have HZ := Lib.hid hz
  rw [hz] at rt
  have HRt := Lib.hid rt
  clear hM hT hC hV hP hK hF hs hs1 hy ht hys hts hl hsl hb1 hq1
  clear h0 hv o2 o3 hz
  clear hn1
  obtain ⟨b0', b255⟩ := hb
  go_enter Tryz.func8, Tryz.ntmps8
  go_wp2_with (first
    | (refine step_box rfl _ rfl p rfl ?_; intro b0 w1 N R; have HG0 := Lib.hid (show w.heap.size ≤ b0 from Nat.le_of_eq N.at_.symm); have HB := Lib.hid N.below; have HR := Lib.hid R; clear N R)
    | (go_at_call 11; refine (fawake_any _ (HM.out.on HB.out) (HT.out.on HB.out) (HC.out.on HB.out) (HV.out.on HB.out) (HP.out.on HB.out) (HK.out.on HB.out)).mono ?_; rintro e w2 ⟨rfl, hb⟩; have HR := Lib.hid (HR.out.later hb); have HB := Lib.hid (HB.out.trans (hb.mono HB.out.size)); clear hb)
    | (refine step_load rfl _ rfl b0 rfl p ?_ ?_; exact HR.out)
    | (go_at_call 12; refine (print_any p _ HF.out (HV.out.on HB.out) (HC.out.on HB.out) (HP.out.on HB.out)).mono ?_; rintro e w3 ⟨rfl, hb⟩; rw [HS.out]; have HR := Lib.hid (HR.out.later hb); have HB := Lib.hid (HB.out.trans (hb.mono HB.out.size)); clear hb))
  rw [← HY.out]
  refine (fparse_any v s _ HVr.out (HM.out.on HB.out) (HT.out.on HB.out) (HC.out.on HB.out) (HV.out.on HB.out) (HP.out.on HB.out)).mono ?_; rintro e w4 ⟨rfl, hb⟩; rw [HO1.out, HY.out]; have HR := Lib.hid (HR.out.later hb); have HB := Lib.hid (HB.out.trans (hb.mono HB.out.size)); clear hb
  go_wp2_with (first
    | (refine step_alloc rfl rfl ?_; intro b1 w5 N R; have HG1 := Lib.hid (show w.heap.size ≤ b1 by rw [N.at_]; exact HB.out.size); have HD1 := Lib.hid (show b0 ≠ b1 by rw [N.at_]; exact Nat.ne_of_lt HR.out.lt); have HR := Lib.hid (HR.out.later N.below); have HR1 := Lib.hid R; have HB := Lib.hid (HB.out.trans (N.below.mono HB.out.size)); clear N R)
    | (refine step_store rfl _ _ rfl b1 rfl zeroP q1 rfl ?_ ?_; exact HR1.out; intro w6 U R; have HR1 := Lib.hid R; have HR := Lib.hid (HR.out.apart U HD1.out); have HB := Lib.hid (HB.out.trans (U.below HG1.out)); clear U R)
    | (refine step_get rfl 5 _ rfl b0 0 rfl Tryz.underlying5 rfl (.int .u8 (p 0)) ?_ ?_; (first | (rw [HR.out.cell 0 (by decide)]; rfl) | (rw [(HR.out.later (New.alloc _ _).below).cell 0 (by decide)]; rfl))))
  rw [HTt.out, HTb.out]
  have hN := fun (w : World) (o : Obj) => (New.alloc w o).below
  refine (fparse_any (p 0) (s ++ [byZ b]) _ HF.out.var (HM.out.on (HB.out.trans ((hN _ _).mono HB.out.size))) (HT.out.on (HB.out.trans ((hN _ _).mono HB.out.size))) (HC.out.on (HB.out.trans ((hN _ _).mono HB.out.size))) (HV.out.on (HB.out.trans ((hN _ _).mono HB.out.size))) (HP.out.on (HB.out.trans ((hN _ _).mono HB.out.size)))).mono ?_
  rintro e w7 ⟨rfl, hb⟩; rw [HO2.out, N2.out, RdO, ← HTb.out]; have HR := Lib.hid ((HR.out.later (hN _ _)).later hb); have HB := Lib.hid ((HB.out.trans ((hN _ _).mono HB.out.size)).trans (hb.mono (HB.out.trans ((hN _ _).mono HB.out.size)).size)); clear hb
  go_wp2_with (first
    | (refine step_alloc rfl rfl ?_; intro b2 w5 N R; have HG2 := Lib.hid (show w.heap.size ≤ b2 by rw [N.at_]; exact HB.out.size); have HD2 := Lib.hid (show b0 ≠ b2 by rw [N.at_]; exact Nat.ne_of_lt HR.out.lt); have HR := Lib.hid (HR.out.later N.below); have HR2 := Lib.hid R; have HB := Lib.hid (HB.out.trans (N.below.mono HB.out.size)); clear N R)
    | (refine step_store rfl _ _ rfl b2 rfl zeroP zeroP rfl ?_ ?_; exact HR2.out; intro w6 U R; have HR2 := Lib.hid R; have HR := Lib.hid (HR.out.apart U HD2.out); have HB := Lib.hid (HB.out.trans (U.below HG2.out)); have hc0 : w6.cell? ⟨b0, 0, none⟩ = some (.int .u8 (p 0)) := (by rw [HR.out.cell 0 (by decide)]; rfl); clear U R)
    )
  refine cut_here (fun F a w' => ∃ b3 : Nat, a = F b3 ∧ Row w' b0 p ∧ Row w' b3 zeroP ∧ Below w.heap.size w w') ?_
  apply Exists.intro
  refine ⟨fun K9 hK9 => ?cutA, ?cutB⟩
  case cutA =>
    refine late_begin 9 (by kernel_rfl) ?_
    refine late_take 0 (by kernel_rfl) (by kernel_rfl) (by kernel_rfl) (by kernel_rfl) (by kernel_rfl) (fun _ _ d _ _ h => by cases d <;> exact h) (fun o ho => ?_)
    simp only [List.getElem?_toArray, List.getElem?_cons_zero, List.getElem?_cons_succ, Option.some.injEq] at ho; subst ho
    apply Exists.intro
    refine ⟨Or.inl ⟨by kernel_rfl, fun w' hl => Or.inl ?_⟩, ?_⟩
    · (go_simp; try with_reducible rfl)
    simp only [Act.put, List.setIfInBounds_toArray, List.set_cons_zero, List.set_cons_succ]
    refine late_take 1 (by kernel_rfl) (by kernel_rfl) (by kernel_rfl) (by kernel_rfl) (by kernel_rfl) (fun _ _ d _ _ h => by cases d <;> exact h) (fun o ho => ?_)
    simp only [List.getElem?_toArray, List.getElem?_cons_zero, List.getElem?_cons_succ, Option.some.injEq] at ho; subst ho
    refine ⟨.int .u8 (p 0), Or.inl ⟨by kernel_rfl, fun w' hl => Or.inl (run_get 5 _ rfl b0 0 rfl Tryz.underlying5 rfl (.int .u8 (p 0)) (by rw [(HR.out.later hl).cell 0 (by decide)]; rfl))⟩, ?_⟩
    simp only [Act.put, List.setIfInBounds_toArray, List.set_cons_zero, List.set_cons_succ]
    refine late_take 2 (by kernel_rfl) (by kernel_rfl) (by kernel_rfl) (by kernel_rfl) (by kernel_rfl) (fun _ _ d _ _ h => by cases d <;> exact h) (fun o ho => ?_)
    simp only [List.getElem?_toArray, List.getElem?_cons_zero, List.getElem?_cons_succ, Option.some.injEq] at ho; subst ho
    apply Exists.intro
    refine ⟨Or.inl ⟨by kernel_rfl, fun w' hl => Or.inl ?_⟩, ?_⟩
    · (go_simp; try with_reducible rfl)
    simp only [Act.put, List.setIfInBounds_toArray, List.set_cons_zero, List.set_cons_succ]
    refine late_take 3 (by kernel_rfl) (by kernel_rfl) (by kernel_rfl) (by kernel_rfl) (by kernel_rfl) (fun _ _ d _ _ h => by cases d <;> exact h) (fun o ho => ?_)
    simp only [List.getElem?_toArray, List.getElem?_cons_zero, List.getElem?_cons_succ, Option.some.injEq] at ho; subst ho
    refine ⟨.string z, Or.inl ⟨by kernel_rfl, fun w' hl => Or.inl ?_⟩, ?_⟩
    · (go_simp; try simp [HRt.out])
    simp only [Act.put, List.setIfInBounds_toArray, List.set_cons_zero, List.set_cons_succ]
    refine late_fork 4 8 (by kernel_rfl) (by kernel_rfl) (by kernel_rfl) (fun o ho => ?_) (fun o ho => ?_)
    · simp only [List.getElem?_toArray, List.getElem?_cons_zero, List.getElem?_cons_succ, Option.some.injEq] at ho; subst ho
      refine ⟨by kernel_rfl, fun wn hl K hK => ?_⟩
      have HR := Lib.hid (HR.out.later hl); have HB := Lib.hid (below_on HB.out hl); clear hl
      refine wp_enter _ _ (by go_simp; exact ⟨rfl, rfl⟩) ?_
      rw [← HZ.out]
      refine (fparse_any (p 0) s1 _ HF.out.var (HM.out.on HB.out) (HT.out.on HB.out) (HC.out.on HB.out) (HV.out.on HB.out) (HP.out.on HB.out)).mono ?_; rintro e wm ⟨rfl, hb⟩; refine ⟨_, rfl, ?_⟩
      rw [HO3.out, N3.out, RdO, HZ.out]
      refine hK.out _ _ hb ?_
      have HR := Lib.hid (HR.out.later hb); have HB := Lib.hid (below_on HB.out hb); clear hb
      clear hK K
      simp only [Act.put, List.setIfInBounds_toArray, List.set_cons_zero, List.set_cons_succ]
      refine late_take 5 (by kernel_rfl) (by kernel_rfl) (by kernel_rfl) (by kernel_rfl) (by kernel_rfl) (fun _ _ d _ _ h => by cases d <;> exact h) (fun o ho => ?_)
      simp only [List.getElem?_toArray, List.getElem?_cons_zero, List.getElem?_cons_succ, Option.some.injEq] at ho; subst ho
      apply Exists.intro
      refine ⟨Or.inl ⟨by kernel_rfl, fun w' hl => Or.inl ?_⟩, ?_⟩
      · (go_simp; try with_reducible rfl)
      simp only [Act.put, List.setIfInBounds_toArray, List.set_cons_zero, List.set_cons_succ]
      refine late_take 6 (by kernel_rfl) (by kernel_rfl) (by kernel_rfl) (by kernel_rfl) (by kernel_rfl) (fun _ _ d _ _ h => by cases d <;> exact h) (fun o ho => ?_)
      simp only [List.getElem?_toArray, List.getElem?_cons_zero, List.getElem?_cons_succ, Option.some.injEq] at ho; subst ho
      apply Exists.intro
      refine ⟨Or.inl ⟨by kernel_rfl, fun w' hl => Or.inl ?_⟩, ?_⟩
      · (go_simp; try with_reducible rfl)
      simp only [Act.put, List.setIfInBounds_toArray, List.set_cons_zero, List.set_cons_succ]
      refine late_fork 7 8 (by kernel_rfl) (by kernel_rfl) (by kernel_rfl) (fun o ho => ?_) (fun o ho => ?_)
      · simp only [List.getElem?_toArray, List.getElem?_cons_zero, List.getElem?_cons_succ, Option.some.injEq] at ho; subst ho
        refine ⟨by kernel_rfl, fun wn hl K hK => ?_⟩
        have HR := Lib.hid (HR.out.later hl); have HB := Lib.hid (below_on HB.out hl); clear hl
        refine wp_value (by go_simp; try with_reducible rfl) ?_
        refine hK.out _ _ (Later.refl _) ?_
        clear hK K
        simp only [Act.put, List.setIfInBounds_toArray, List.set_cons_zero, List.set_cons_succ]
        refine late_one 8 (by kernel_rfl) (by kernel_rfl) (fun o ho => ?_)
        simp only [List.getElem?_toArray, List.getElem?_cons_zero, List.getElem?_cons_succ, Option.some.injEq] at ho; subst ho
        refine ⟨by kernel_rfl, fun wn hl K hK => ?_⟩
        have HR := Lib.hid (HR.out.later hl); have HB := Lib.hid (below_on HB.out hl); clear hl
        refine late_alloc rfl ?_; intro b3 wm N R
        have HD3 := Lib.hid (N.ne HR.out)
        have HG3 := Lib.hid (show w.heap.size ≤ b3 by have := HB.out.size; have := N.at_; omega)
        have hb := N.below
        have HRn := Lib.hid R
        clear N R
        refine hK.out _ _ hb ?_
        have HR := Lib.hid (HR.out.later hb); have HB := Lib.hid (below_on HB.out hb); clear hb
        have HR3 := HRn; clear HRn
        clear hK K
        simp only [Act.put, List.setIfInBounds_toArray, List.set_cons_zero, List.set_cons_succ]
        refine late_then 9 (by kernel_rfl) (by kernel_rfl) (fun o ho => ?_)
        simp only [List.getElem?_toArray, List.getElem?_cons_zero, List.getElem?_cons_succ, Option.some.injEq] at ho; subst ho
        refine ⟨by kernel_rfl, fun wn hl K hK => ?_⟩
        have HR := Lib.hid (HR.out.later hl); have HR3 := Lib.hid (HR3.out.later hl); have HB := Lib.hid (below_on HB.out hl); clear hl
        refine late_whole _ _ rfl b3 rfl _ (zeroP) rfl HR3.out ?_; intro wm U R
        have HR := Lib.hid (HR.out.apart U HD3.out)
        have HR3 := Lib.hid R; have HB := Lib.hid (HB.out.trans (U.below HG3.out)); clear U R
        refine hK.out _ _ ?_
        clear hK K
        simp only [Act.put, List.setIfInBounds_toArray, List.set_cons_zero, List.set_cons_succ]
        refine any_one 10 (by kernel_rfl) (by kernel_rfl) (fun o ho => ?_)
        simp only [List.getElem?_toArray, List.getElem?_cons_zero, List.getElem?_cons_succ, Option.some.injEq] at ho; subst ho
        refine ⟨by kernel_rfl, fun K hK => ?_⟩
        refine wp_value (by go_simp; try with_reducible rfl) ?_
        refine hK.out _ _ ?_
        clear hK K
        simp only [Act.put, List.setIfInBounds_toArray, List.set_cons_zero, List.set_cons_succ]
        refine any_end (by kernel_rfl) ?_
        exact hK9.out _ _ ⟨b3, rfl, HR.out, HR3.out, HB.out⟩
      · simp only [List.getElem?_toArray, List.getElem?_cons_zero, List.getElem?_cons_succ, Option.some.injEq] at ho; subst ho
        refine ⟨by kernel_rfl, fun wn hl K hK => ?_⟩
        have HR := Lib.hid (HR.out.later hl); have HB := Lib.hid (below_on HB.out hl); clear hl
        refine late_alloc rfl ?_; intro b3 wm N R
        have HD3 := Lib.hid (N.ne HR.out)
        have HG3 := Lib.hid (show w.heap.size ≤ b3 by have := HB.out.size; have := N.at_; omega)
        have hb := N.below
        have HRn := Lib.hid R
        clear N R
        refine hK.out _ _ hb ?_
        have HR := Lib.hid (HR.out.later hb); have HB := Lib.hid (below_on HB.out hb); clear hb
        have HR3 := HRn; clear HRn
        clear hK K
        simp only [Act.put, List.setIfInBounds_toArray, List.set_cons_zero, List.set_cons_succ]
        refine late_forkL 7 9 (by kernel_rfl) (by kernel_rfl) (by kernel_rfl) (fun o ho => ?_) (fun o ho => ?_)
        · simp only [List.getElem?_toArray, List.getElem?_cons_zero, List.getElem?_cons_succ, Option.some.injEq] at ho; subst ho
          refine ⟨by kernel_rfl, fun wn hl K hK => ?_⟩
          have HR := Lib.hid (HR.out.later hl); have HR3 := Lib.hid (HR3.out.later hl); have HB := Lib.hid (below_on HB.out hl); clear hl
          refine wp_value (by go_simp; try with_reducible rfl) ?_
          refine hK.out _ _ (Later.refl _) ?_
          clear hK K
          simp only [Act.put, List.setIfInBounds_toArray, List.set_cons_zero, List.set_cons_succ]
          refine late_then 9 (by kernel_rfl) (by kernel_rfl) (fun o ho => ?_)
          simp only [List.getElem?_toArray, List.getElem?_cons_zero, List.getElem?_cons_succ, Option.some.injEq] at ho; subst ho
          refine ⟨by kernel_rfl, fun wn hl K hK => ?_⟩
          have HR := Lib.hid (HR.out.later hl); have HR3 := Lib.hid (HR3.out.later hl); have HB := Lib.hid (below_on HB.out hl); clear hl
          refine late_whole _ _ rfl b3 rfl _ (zeroP) rfl HR3.out ?_; intro wm U R
          have HR := Lib.hid (HR.out.apart U HD3.out)
          have HR3 := Lib.hid R; have HB := Lib.hid (HB.out.trans (U.below HG3.out)); clear U R
          refine hK.out _ _ ?_
          clear hK K
          simp only [Act.put, List.setIfInBounds_toArray, List.set_cons_zero, List.set_cons_succ]
          refine any_one 10 (by kernel_rfl) (by kernel_rfl) (fun o ho => ?_)
          simp only [List.getElem?_toArray, List.getElem?_cons_zero, List.getElem?_cons_succ, Option.some.injEq] at ho; subst ho
          refine ⟨by kernel_rfl, fun K hK => ?_⟩
          refine wp_value (by go_simp; try with_reducible rfl) ?_
          refine hK.out _ _ ?_
          clear hK K
          simp only [Act.put, List.setIfInBounds_toArray, List.set_cons_zero, List.set_cons_succ]
          refine any_end (by kernel_rfl) ?_
          exact hK9.out _ _ ⟨b3, rfl, HR.out, HR3.out, HB.out⟩
        · simp only [List.getElem?_toArray, List.getElem?_cons_zero, List.getElem?_cons_succ, Option.some.injEq] at ho; subst ho
          refine ⟨by kernel_rfl, fun wn hl K hK => ?_⟩
          have HR := Lib.hid (HR.out.later hl); have HR3 := Lib.hid (HR3.out.later hl); have HB := Lib.hid (below_on HB.out hl); clear hl
          refine late_whole _ _ rfl b3 rfl _ (zeroP) rfl HR3.out ?_; intro wm U R
          have HR := Lib.hid (HR.out.apart U HD3.out)
          have HR3 := Lib.hid R; have HB := Lib.hid (HB.out.trans (U.below HG3.out)); clear U R
          refine hK.out _ _ ?_
          clear hK K
          simp only [Act.put, List.setIfInBounds_toArray, List.set_cons_zero, List.set_cons_succ]
          refine any_one 7 (by kernel_rfl) (by kernel_rfl) (fun o ho => ?_)
          simp only [List.getElem?_toArray, List.getElem?_cons_zero, List.getElem?_cons_succ, Option.some.injEq] at ho; subst ho
          refine ⟨by kernel_rfl, fun K hK => ?_⟩
          refine wp_value (by go_simp; try with_reducible rfl) ?_
          refine hK.out _ _ ?_
          clear hK K
          simp only [Act.put, List.setIfInBounds_toArray, List.set_cons_zero, List.set_cons_succ]
          refine any_one 10 (by kernel_rfl) (by kernel_rfl) (fun o ho => ?_)
          simp only [List.getElem?_toArray, List.getElem?_cons_zero, List.getElem?_cons_succ, Option.some.injEq] at ho; subst ho
          refine ⟨by kernel_rfl, fun K hK => ?_⟩
          refine wp_value (by go_simp; try with_reducible rfl) ?_
          refine hK.out _ _ ?_
          clear hK K
          simp only [Act.put, List.setIfInBounds_toArray, List.set_cons_zero, List.set_cons_succ]
          refine any_end (by kernel_rfl) ?_
          exact hK9.out _ _ ⟨b3, rfl, HR.out, HR3.out, HB.out⟩
    · simp only [List.getElem?_toArray, List.getElem?_cons_zero, List.getElem?_cons_succ, Option.some.injEq] at ho; subst ho
      refine ⟨by kernel_rfl, fun wn hl K hK => ?_⟩
      have HR := Lib.hid (HR.out.later hl); have HB := Lib.hid (below_on HB.out hl); clear hl
      refine late_alloc rfl ?_; intro b3 wm N R
      have HD3 := Lib.hid (N.ne HR.out)
      have HG3 := Lib.hid (show w.heap.size ≤ b3 by have := HB.out.size; have := N.at_; omega)
      have hb := N.below
      have HRn := Lib.hid R
      clear N R
      refine hK.out _ _ hb ?_
      have HR := Lib.hid (HR.out.later hb); have HB := Lib.hid (below_on HB.out hb); clear hb
      have HR3 := HRn; clear HRn
      clear hK K
      simp only [Act.put, List.setIfInBounds_toArray, List.set_cons_zero, List.set_cons_succ]
      refine late_one 4 (by kernel_rfl) (by kernel_rfl) (fun o ho => ?_)
      simp only [List.getElem?_toArray, List.getElem?_cons_zero, List.getElem?_cons_succ, Option.some.injEq] at ho; subst ho
      refine ⟨by kernel_rfl, fun wn hl K hK => ?_⟩
      have HR := Lib.hid (HR.out.later hl); have HR3 := Lib.hid (HR3.out.later hl); have HB := Lib.hid (below_on HB.out hl); clear hl
      refine wp_enter _ _ (by go_simp; exact ⟨rfl, rfl⟩) ?_
      rw [← HZ.out]
      refine (fparse_any (p 0) s1 _ HF.out.var (HM.out.on HB.out) (HT.out.on HB.out) (HC.out.on HB.out) (HV.out.on HB.out) (HP.out.on HB.out)).mono ?_; rintro e wm ⟨rfl, hb⟩; refine ⟨_, rfl, ?_⟩
      rw [HO3.out, N3.out, RdO, HZ.out]
      refine hK.out _ _ hb ?_
      have HR := Lib.hid (HR.out.later hb); have HR3 := Lib.hid (HR3.out.later hb); have HB := Lib.hid (below_on HB.out hb); clear hb
      clear hK K
      simp only [Act.put, List.setIfInBounds_toArray, List.set_cons_zero, List.set_cons_succ]
      refine late_take 5 (by kernel_rfl) (by kernel_rfl) (by kernel_rfl) (by kernel_rfl) (by kernel_rfl) (fun _ _ d _ _ h => by cases d <;> exact h) (fun o ho => ?_)
      simp only [List.getElem?_toArray, List.getElem?_cons_zero, List.getElem?_cons_succ, Option.some.injEq] at ho; subst ho
      apply Exists.intro
      refine ⟨Or.inl ⟨by kernel_rfl, fun w' hl => Or.inl ?_⟩, ?_⟩
      · (go_simp; try with_reducible rfl)
      simp only [Act.put, List.setIfInBounds_toArray, List.set_cons_zero, List.set_cons_succ]
      refine late_take 6 (by kernel_rfl) (by kernel_rfl) (by kernel_rfl) (by kernel_rfl) (by kernel_rfl) (fun _ _ d _ _ h => by cases d <;> exact h) (fun o ho => ?_)
      simp only [List.getElem?_toArray, List.getElem?_cons_zero, List.getElem?_cons_succ, Option.some.injEq] at ho; subst ho
      apply Exists.intro
      refine ⟨Or.inl ⟨by kernel_rfl, fun w' hl => Or.inl ?_⟩, ?_⟩
      · (go_simp; try with_reducible rfl)
      simp only [Act.put, List.setIfInBounds_toArray, List.set_cons_zero, List.set_cons_succ]
      refine late_forkL 7 9 (by kernel_rfl) (by kernel_rfl) (by kernel_rfl) (fun o ho => ?_) (fun o ho => ?_)
      · simp only [List.getElem?_toArray, List.getElem?_cons_zero, List.getElem?_cons_succ, Option.some.injEq] at ho; subst ho
        refine ⟨by kernel_rfl, fun wn hl K hK => ?_⟩
        have HR := Lib.hid (HR.out.later hl); have HR3 := Lib.hid (HR3.out.later hl); have HB := Lib.hid (below_on HB.out hl); clear hl
        refine wp_value (by go_simp; try with_reducible rfl) ?_
        refine hK.out _ _ (Later.refl _) ?_
        clear hK K
        simp only [Act.put, List.setIfInBounds_toArray, List.set_cons_zero, List.set_cons_succ]
        refine late_then 9 (by kernel_rfl) (by kernel_rfl) (fun o ho => ?_)
        simp only [List.getElem?_toArray, List.getElem?_cons_zero, List.getElem?_cons_succ, Option.some.injEq] at ho; subst ho
        refine ⟨by kernel_rfl, fun wn hl K hK => ?_⟩
        have HR := Lib.hid (HR.out.later hl); have HR3 := Lib.hid (HR3.out.later hl); have HB := Lib.hid (below_on HB.out hl); clear hl
        refine late_whole _ _ rfl b3 rfl _ (zeroP) rfl HR3.out ?_; intro wm U R
        have HR := Lib.hid (HR.out.apart U HD3.out)
        have HR3 := Lib.hid R; have HB := Lib.hid (HB.out.trans (U.below HG3.out)); clear U R
        refine hK.out _ _ ?_
        clear hK K
        simp only [Act.put, List.setIfInBounds_toArray, List.set_cons_zero, List.set_cons_succ]
        refine any_one 10 (by kernel_rfl) (by kernel_rfl) (fun o ho => ?_)
        simp only [List.getElem?_toArray, List.getElem?_cons_zero, List.getElem?_cons_succ, Option.some.injEq] at ho; subst ho
        refine ⟨by kernel_rfl, fun K hK => ?_⟩
        refine wp_value (by go_simp; try with_reducible rfl) ?_
        refine hK.out _ _ ?_
        clear hK K
        simp only [Act.put, List.setIfInBounds_toArray, List.set_cons_zero, List.set_cons_succ]
        refine any_end (by kernel_rfl) ?_
        exact hK9.out _ _ ⟨b3, rfl, HR.out, HR3.out, HB.out⟩
      · simp only [List.getElem?_toArray, List.getElem?_cons_zero, List.getElem?_cons_succ, Option.some.injEq] at ho; subst ho
        refine ⟨by kernel_rfl, fun wn hl K hK => ?_⟩
        have HR := Lib.hid (HR.out.later hl); have HR3 := Lib.hid (HR3.out.later hl); have HB := Lib.hid (below_on HB.out hl); clear hl
        refine late_whole _ _ rfl b3 rfl _ (zeroP) rfl HR3.out ?_; intro wm U R
        have HR := Lib.hid (HR.out.apart U HD3.out)
        have HR3 := Lib.hid R; have HB := Lib.hid (HB.out.trans (U.below HG3.out)); clear U R
        refine hK.out _ _ ?_
        clear hK K
        simp only [Act.put, List.setIfInBounds_toArray, List.set_cons_zero, List.set_cons_succ]
        refine any_one 7 (by kernel_rfl) (by kernel_rfl) (fun o ho => ?_)
        simp only [List.getElem?_toArray, List.getElem?_cons_zero, List.getElem?_cons_succ, Option.some.injEq] at ho; subst ho
        refine ⟨by kernel_rfl, fun K hK => ?_⟩
        refine wp_value (by go_simp; try with_reducible rfl) ?_
        refine hK.out _ _ ?_
        clear hK K
        simp only [Act.put, List.setIfInBounds_toArray, List.set_cons_zero, List.set_cons_succ]
        refine any_one 10 (by kernel_rfl) (by kernel_rfl) (fun o ho => ?_)
        simp only [List.getElem?_toArray, List.getElem?_cons_zero, List.getElem?_cons_succ, Option.some.injEq] at ho; subst ho
        refine ⟨by kernel_rfl, fun K hK => ?_⟩
        refine wp_value (by go_simp; try with_reducible rfl) ?_
        refine hK.out _ _ ?_
        clear hK K
        simp only [Act.put, List.setIfInBounds_toArray, List.set_cons_zero, List.set_cons_succ]
        refine any_end (by kernel_rfl) ?_
        exact hK9.out _ _ ⟨b3, rfl, HR.out, HR3.out, HB.out⟩
  case cutB =>
    rintro a wn ⟨b3, rfl, hr, hr3, hb⟩
    have HR := Lib.hid hr
    have HR3 := Lib.hid hr3
    have HB := Lib.hid hb
    clear hr hr3 hb hc0
    go_wp2_with fail
    all_goals (
      refine late_begin 17 (by kernel_rfl) ?_
      refine late_take 0 (by kernel_rfl) (by kernel_rfl) (by kernel_rfl) (by kernel_rfl) (by kernel_rfl) (fun _ _ d _ _ h => by cases d <;> exact h) (fun o ho => ?_)
      simp only [List.getElem?_toArray, List.getElem?_cons_zero, List.getElem?_cons_succ, Option.some.injEq] at ho; subst ho
      apply Exists.intro
      refine ⟨Or.inl ⟨by kernel_rfl, fun w' hl => Or.inl ?_⟩, ?_⟩
      · (go_simp; try with_reducible rfl)
      simp only [Act.put, List.setIfInBounds_toArray, List.set_cons_zero, List.set_cons_succ]
      refine late_take 1 (by kernel_rfl) (by kernel_rfl) (by kernel_rfl) (by kernel_rfl) (by kernel_rfl) (fun _ _ d _ _ h => by cases d <;> exact h) (fun o ho => ?_)
      simp only [List.getElem?_toArray, List.getElem?_cons_zero, List.getElem?_cons_succ, Option.some.injEq] at ho; subst ho
      apply Exists.intro
      refine ⟨Or.inl ⟨by kernel_rfl, fun w' hl => Or.inl ?_⟩, ?_⟩
      · (go_simp; try with_reducible rfl)
      simp only [Act.put, List.setIfInBounds_toArray, List.set_cons_zero, List.set_cons_succ]
      refine late_take 2 (by kernel_rfl) (by kernel_rfl) (by kernel_rfl) (by kernel_rfl) (by kernel_rfl) (fun _ _ d _ _ h => by cases d <;> exact h) (fun o ho => ?_)
      simp only [List.getElem?_toArray, List.getElem?_cons_zero, List.getElem?_cons_succ, Option.some.injEq] at ho; subst ho
      apply Exists.intro
      refine ⟨Or.inl ⟨by kernel_rfl, fun w' hl => Or.inl ?_⟩, ?_⟩
      · (go_simp; try with_reducible rfl)
      simp only [Act.put, List.setIfInBounds_toArray, List.set_cons_zero, List.set_cons_succ]
      refine late_take 3 (by kernel_rfl) (by kernel_rfl) (by kernel_rfl) (by kernel_rfl) (by kernel_rfl) (fun _ _ d _ _ h => by cases d <;> exact h) (fun o ho => ?_)
      simp only [List.getElem?_toArray, List.getElem?_cons_zero, List.getElem?_cons_succ, Option.some.injEq] at ho; subst ho
      refine ⟨_, Or.inr ⟨by kernel_rfl, rfl⟩, ?_⟩
      simp only [Act.put, List.setIfInBounds_toArray, List.set_cons_zero, List.set_cons_succ]
      refine late_take 4 (by kernel_rfl) (by kernel_rfl) (by kernel_rfl) (by kernel_rfl) (by kernel_rfl) (fun _ _ d _ _ h => by cases d <;> exact h) (fun o ho => ?_)
      simp only [List.getElem?_toArray, List.getElem?_cons_zero, List.getElem?_cons_succ, Option.some.injEq] at ho; subst ho
      apply Exists.intro
      refine ⟨Or.inl ⟨by kernel_rfl, fun w' hl => Or.inl ?_⟩, ?_⟩
      · (go_simp; try with_reducible rfl)
      simp only [Act.put, List.setIfInBounds_toArray, List.set_cons_zero, List.set_cons_succ]
      refine late_take 5 (by kernel_rfl) (by kernel_rfl) (by kernel_rfl) (by kernel_rfl) (by kernel_rfl) (fun _ _ d _ _ h => by cases d <;> exact h) (fun o ho => ?_)
      simp only [List.getElem?_toArray, List.getElem?_cons_zero, List.getElem?_cons_succ, Option.some.injEq] at ho; subst ho
      apply Exists.intro
      refine ⟨Or.inl ⟨by kernel_rfl, fun w' hl => Or.inl ?_⟩, ?_⟩
      · (go_simp; try with_reducible rfl)
      simp only [Act.put, List.setIfInBounds_toArray, List.set_cons_zero, List.set_cons_succ]
      refine late_take 6 (by kernel_rfl) (by kernel_rfl) (by kernel_rfl) (by kernel_rfl) (by kernel_rfl) (fun _ _ d _ _ h => by cases d <;> exact h) (fun o ho => ?_)
      simp only [List.getElem?_toArray, List.getElem?_cons_zero, List.getElem?_cons_succ, Option.some.injEq] at ho; subst ho
      apply Exists.intro
      refine ⟨Or.inl ⟨by kernel_rfl, fun w' hl => Or.inl ?_⟩, ?_⟩
      · (go_simp; try with_reducible rfl)
      simp only [Act.put, List.setIfInBounds_toArray, List.set_cons_zero, List.set_cons_succ]
      refine late_take 7 (by kernel_rfl) (by kernel_rfl) (by kernel_rfl) (by kernel_rfl) (by kernel_rfl) (fun _ _ d _ _ h => by cases d <;> exact h) (fun o ho => ?_)
      simp only [List.getElem?_toArray, List.getElem?_cons_zero, List.getElem?_cons_succ, Option.some.injEq] at ho; subst ho
      apply Exists.intro
      refine ⟨Or.inl ⟨by kernel_rfl, fun w' hl => Or.inl ?_⟩, ?_⟩
      · (go_simp; try with_reducible rfl)
      simp only [Act.put, List.setIfInBounds_toArray, List.set_cons_zero, List.set_cons_succ]
      refine late_take 8 (by kernel_rfl) (by kernel_rfl) (by kernel_rfl) (by kernel_rfl) (by kernel_rfl) (fun _ _ d _ _ h => by cases d <;> exact h) (fun o ho => ?_)
      simp only [List.getElem?_toArray, List.getElem?_cons_zero, List.getElem?_cons_succ, Option.some.injEq] at ho; subst ho
      apply Exists.intro
      refine ⟨Or.inl ⟨by kernel_rfl, fun w' hl => Or.inl ?_⟩, ?_⟩
      · (go_simp; try with_reducible rfl)
      simp only [Act.put, List.setIfInBounds_toArray, List.set_cons_zero, List.set_cons_succ]
      refine late_take 9 (by kernel_rfl) (by kernel_rfl) (by kernel_rfl) (by kernel_rfl) (by kernel_rfl) (fun _ _ d _ _ h => by cases d <;> exact h) (fun o ho => ?_)
      simp only [List.getElem?_toArray, List.getElem?_cons_zero, List.getElem?_cons_succ, Option.some.injEq] at ho; subst ho
      refine ⟨_, Or.inr ⟨by kernel_rfl, rfl⟩, ?_⟩
      simp only [Act.put, List.setIfInBounds_toArray, List.set_cons_zero, List.set_cons_succ]
      refine late_take 10 (by kernel_rfl) (by kernel_rfl) (by kernel_rfl) (by kernel_rfl) (by kernel_rfl) (fun _ _ d _ _ h => by cases d <;> exact h) (fun o ho => ?_)
      simp only [List.getElem?_toArray, List.getElem?_cons_zero, List.getElem?_cons_succ, Option.some.injEq] at ho; subst ho
      refine ⟨_, Or.inr ⟨by kernel_rfl, rfl⟩, ?_⟩
      simp only [Act.put, List.setIfInBounds_toArray, List.set_cons_zero, List.set_cons_succ]
      refine late_take 11 (by kernel_rfl) (by kernel_rfl) (by kernel_rfl) (by kernel_rfl) (by kernel_rfl) (fun _ _ d _ _ h => by cases d <;> exact h) (fun o ho => ?_)
      simp only [List.getElem?_toArray, List.getElem?_cons_zero, List.getElem?_cons_succ, Option.some.injEq] at ho; subst ho
      refine ⟨_, Or.inr ⟨by kernel_rfl, rfl⟩, ?_⟩
      simp only [Act.put, List.setIfInBounds_toArray, List.set_cons_zero, List.set_cons_succ]
      refine late_take 12 (by kernel_rfl) (by kernel_rfl) (by kernel_rfl) (by kernel_rfl) (by kernel_rfl) (fun _ _ d _ _ h => by cases d <;> exact h) (fun o ho => ?_)
      simp only [List.getElem?_toArray, List.getElem?_cons_zero, List.getElem?_cons_succ, Option.some.injEq] at ho; subst ho
      refine ⟨_, Or.inr ⟨by kernel_rfl, rfl⟩, ?_⟩
      simp only [Act.put, List.setIfInBounds_toArray, List.set_cons_zero, List.set_cons_succ]
      refine late_take 13 (by kernel_rfl) (by kernel_rfl) (by kernel_rfl) (by kernel_rfl) (by kernel_rfl) (fun _ _ d _ _ h => by cases d <;> exact h) (fun o ho => ?_)
      simp only [List.getElem?_toArray, List.getElem?_cons_zero, List.getElem?_cons_succ, Option.some.injEq] at ho; subst ho
      refine ⟨_, Or.inr ⟨by kernel_rfl, rfl⟩, ?_⟩
      simp only [Act.put, List.setIfInBounds_toArray, List.set_cons_zero, List.set_cons_succ]
      refine late_take 14 (by kernel_rfl) (by kernel_rfl) (by kernel_rfl) (by kernel_rfl) (by kernel_rfl) (fun _ _ d _ _ h => by cases d <;> exact h) (fun o ho => ?_)
      simp only [List.getElem?_toArray, List.getElem?_cons_zero, List.getElem?_cons_succ, Option.some.injEq] at ho; subst ho
      apply Exists.intro
      refine ⟨Or.inl ⟨by kernel_rfl, fun w' hl => Or.inl ?_⟩, ?_⟩
      · (go_simp; try with_reducible rfl)
      simp only [Act.put, List.setIfInBounds_toArray, List.set_cons_zero, List.set_cons_succ]
      refine late_take 15 (by kernel_rfl) (by kernel_rfl) (by kernel_rfl) (by kernel_rfl) (by kernel_rfl) (fun _ _ d _ _ h => by cases d <;> exact h) (fun o ho => ?_)
      simp only [List.getElem?_toArray, List.getElem?_cons_zero, List.getElem?_cons_succ, Option.some.injEq] at ho; subst ho
      apply Exists.intro
      refine ⟨Or.inl ⟨by kernel_rfl, fun w' hl => Or.inl ?_⟩, ?_⟩
      · (go_simp; try with_reducible rfl)
      simp only [Act.put, List.setIfInBounds_toArray, List.set_cons_zero, List.set_cons_succ]
      refine late_take 16 (by kernel_rfl) (by kernel_rfl) (by kernel_rfl) (by kernel_rfl) (by kernel_rfl) (fun _ _ d _ _ h => by cases d <;> exact h) (fun o ho => ?_)
      simp only [List.getElem?_toArray, List.getElem?_cons_zero, List.getElem?_cons_succ, Option.some.injEq] at ho; subst ho
      apply Exists.intro
      refine ⟨Or.inl ⟨by kernel_rfl, fun w' hl => Or.inl ?_⟩, ?_⟩
      · (go_simp; try with_reducible rfl)
      simp only [Act.put, List.setIfInBounds_toArray, List.set_cons_zero, List.set_cons_succ]
      refine late_end (by kernel_rfl) (fun wn hl => ?_)
      have HR := Lib.hid (HR.out.later hl); have HR3 := Lib.hid (HR3.out.later hl); have HB := Lib.hid (below_on HB.out hl); clear hl
      go_wp2_with fail
      exact bodyPost_ret (results_tmp rfl _ _ _) rfl ⟨by simp, HB.out⟩)
set_option maxRecDepth 100000 in
set_option maxHeartbeats 4000000 in
theorem bad_0_01 (p : Nat → Int) (v b : Int) (s : List UInt8) (x0 : UInt8) (s1 : List UInt8) (hv : 0 ≤ v ∧ v ≤ 255) (h9 : v < 9) (hb : 0 ≤ b ∧ b ≤ 255) (w : World) (hF : FitF p) (hs : fenL p = s) (hs1 : s = x0 :: s1) (h0 : p 0 < 9) (hl : (s ++ [byZ b]).length ≤ 200) (o2 : parO (p 0) (s ++ [byZ b]) = none) (q3 : Nat → Int) (o3 : parO (p 0) s1 = some q3) (hM : TabMx w) (hT : TabErr w) (hC : TabCorn w) (hV : TabVar w) (hP : TabPow w) (hK : TabKn w) :
    Calls Tryz.prog 8 #[.agg (posA p), .int .u8 v, .int .u8 b] w (BoL true w) := by
  have HM := Lib.hid hM
  have HT := Lib.hid hT
  have HC := Lib.hid hC
  have HV := Lib.hid hV
  have HP := Lib.hid hP
  have HK := Lib.hid hK
  have HF := Lib.hid hF
  have HVr := Lib.hid hv
  obtain ⟨q1, hq1⟩ : ∃ q, pqO (parO v s) = q := ⟨_, rfl⟩
  obtain ⟨n1, hn1⟩ : ∃ n, pnO (parN v s) (parO v s) = n := ⟨_, rfl⟩
  have HO1 := Lib.hid (show RdO (parN v s) (parO v s) = #[.agg (posA q1), .int .i64 n1] by rw [RdO_eq, hq1, hn1])
  have hsl := fen_short hs
  have N2 := Lib.hid (show parN (p 0) (s ++ [byZ b]) = 5 by unfold parN; rw [decide_eq_false (show ¬ 9 ≤ p 0 by omega), decide_eq_false (show ¬ 200 < ((s ++ [byZ b])).length by omega)]; rfl)
  have HO2 := Lib.hid o2
  have h3r := (parO_some o3).2
  have HFq := Lib.hid (rdAll_inv hF.var (Nat.le_trans h3r.1 (by decide)) h3r.2).1
  have HTx := Lib.hid (rdAll_text h3r.2)
  clear h3r
  have HO3 := Lib.hid o3
  obtain ⟨y, hy⟩ : ∃ y, bz s = y := ⟨_, rfl⟩
  obtain ⟨t, ht⟩ : ∃ t, y ++ bz [byZ b] = t := ⟨_, rfl⟩
  have hys : y.size = s.length := by rw [← hy, bz_size]
  have hye : y.toList.isEmpty = false := by rw [← hy, bz_toList, hs1]; rfl
  have HS := Lib.hid (show bz (fenL p) = y by rw [hs]; exact hy)
  have HY := Lib.hid hy
  have HTt := Lib.hid ht
  have HTb := Lib.hid (show t = bz (s ++ [byZ b]) by rw [← ht, ← hy, bz_app])
  have hts : t.size = (s ++ [byZ b]).length := by rw [HTb.out, bz_size]
  have gl : decide ((200 : Int) < (t.size : Int)) = false := decide_eq_false (by omega)
  have hcv := conv1
  have hb1 : (bz [byZ b]).size = 1 := bz_size _
  have k1 := cat_ok (a := y) (b := bz [byZ b]) (by omega) (by omega)
  have rt := tail_of x0 s1
  rw [show bz (x0 :: s1) = y by rw [← hs1]; exact hy] at rt
  have l1 : (1 : Int) ≤ (y.size : Int) := by rw [hys, hs1, List.length_cons]; omega
  obtain ⟨z, hz⟩ : ∃ z, bz s1 = z := ⟨_, rfl⟩
  have HZ := Lib.hid hz
  rw [hz] at rt
  have HRt := Lib.hid rt
  have HTz := Lib.hid (show bz (fenL q3) = z by rw [HTx.out]; exact hz)
  clear hM hT hC hV hP hK hF hs hs1 hy ht hys hts hl hsl hb1 hq1
  clear h0 hv o2 o3 hz
  clear hn1
  obtain ⟨b0', b255⟩ := hb
  go_enter Tryz.func8, Tryz.ntmps8
  go_wp2_with (first
    | (refine step_box rfl _ rfl p rfl ?_; intro b0 w1 N R; have HG0 := Lib.hid (show w.heap.size ≤ b0 from Nat.le_of_eq N.at_.symm); have HB := Lib.hid N.below; have HR := Lib.hid R; clear N R)
    | (go_at_call 11; refine (fawake_any _ (HM.out.on HB.out) (HT.out.on HB.out) (HC.out.on HB.out) (HV.out.on HB.out) (HP.out.on HB.out) (HK.out.on HB.out)).mono ?_; rintro e w2 ⟨rfl, hb⟩; have HR := Lib.hid (HR.out.later hb); have HB := Lib.hid (HB.out.trans (hb.mono HB.out.size)); clear hb)
    | (refine step_load rfl _ rfl b0 rfl p ?_ ?_; exact HR.out)
    | (go_at_call 12; refine (print_any p _ HF.out (HV.out.on HB.out) (HC.out.on HB.out) (HP.out.on HB.out)).mono ?_; rintro e w3 ⟨rfl, hb⟩; rw [HS.out]; have HR := Lib.hid (HR.out.later hb); have HB := Lib.hid (HB.out.trans (hb.mono HB.out.size)); clear hb))
  rw [← HY.out]
  refine (fparse_any v s _ HVr.out (HM.out.on HB.out) (HT.out.on HB.out) (HC.out.on HB.out) (HV.out.on HB.out) (HP.out.on HB.out)).mono ?_; rintro e w4 ⟨rfl, hb⟩; rw [HO1.out, HY.out]; have HR := Lib.hid (HR.out.later hb); have HB := Lib.hid (HB.out.trans (hb.mono HB.out.size)); clear hb
  go_wp2_with (first
    | (refine step_alloc rfl rfl ?_; intro b1 w5 N R; have HG1 := Lib.hid (show w.heap.size ≤ b1 by rw [N.at_]; exact HB.out.size); have HD1 := Lib.hid (show b0 ≠ b1 by rw [N.at_]; exact Nat.ne_of_lt HR.out.lt); have HR := Lib.hid (HR.out.later N.below); have HR1 := Lib.hid R; have HB := Lib.hid (HB.out.trans (N.below.mono HB.out.size)); clear N R)
    | (refine step_store rfl _ _ rfl b1 rfl zeroP q1 rfl ?_ ?_; exact HR1.out; intro w6 U R; have HR1 := Lib.hid R; have HR := Lib.hid (HR.out.apart U HD1.out); have HB := Lib.hid (HB.out.trans (U.below HG1.out)); clear U R)
    | (refine step_get rfl 5 _ rfl b0 0 rfl Tryz.underlying5 rfl (.int .u8 (p 0)) ?_ ?_; (first | (rw [HR.out.cell 0 (by decide)]; rfl) | (rw [(HR.out.later (New.alloc _ _).below).cell 0 (by decide)]; rfl))))
  rw [HTt.out, HTb.out]
  have hN := fun (w : World) (o : Obj) => (New.alloc w o).below
  refine (fparse_any (p 0) (s ++ [byZ b]) _ HF.out.var (HM.out.on (HB.out.trans ((hN _ _).mono HB.out.size))) (HT.out.on (HB.out.trans ((hN _ _).mono HB.out.size))) (HC.out.on (HB.out.trans ((hN _ _).mono HB.out.size))) (HV.out.on (HB.out.trans ((hN _ _).mono HB.out.size))) (HP.out.on (HB.out.trans ((hN _ _).mono HB.out.size)))).mono ?_
  rintro e w7 ⟨rfl, hb⟩; rw [HO2.out, N2.out, RdO, ← HTb.out]; have HR := Lib.hid ((HR.out.later (hN _ _)).later hb); have HB := Lib.hid ((HB.out.trans ((hN _ _).mono HB.out.size)).trans (hb.mono (HB.out.trans ((hN _ _).mono HB.out.size)).size)); clear hb
  go_wp2_with (first
    | (refine step_alloc rfl rfl ?_; intro b2 w5 N R; have HG2 := Lib.hid (show w.heap.size ≤ b2 by rw [N.at_]; exact HB.out.size); have HD2 := Lib.hid (show b0 ≠ b2 by rw [N.at_]; exact Nat.ne_of_lt HR.out.lt); have HR := Lib.hid (HR.out.later N.below); have HR2 := Lib.hid R; have HB := Lib.hid (HB.out.trans (N.below.mono HB.out.size)); clear N R)
    | (refine step_store rfl _ _ rfl b2 rfl zeroP zeroP rfl ?_ ?_; exact HR2.out; intro w6 U R; have HR2 := Lib.hid R; have HR := Lib.hid (HR.out.apart U HD2.out); have HB := Lib.hid (HB.out.trans (U.below HG2.out)); have hc0 : w6.cell? ⟨b0, 0, none⟩ = some (.int .u8 (p 0)) := (by rw [HR.out.cell 0 (by decide)]; rfl); clear U R)
    )
  refine cut_here (fun F a w' => ∃ b3 : Nat, a = F b3 ∧ Row w' b0 p ∧ Row w' b3 q3 ∧ Below w.heap.size w w') ?_
  apply Exists.intro
  refine ⟨fun K9 hK9 => ?cutA, ?cutB⟩
  case cutA =>
    refine late_begin 9 (by kernel_rfl) ?_
    refine late_take 0 (by kernel_rfl) (by kernel_rfl) (by kernel_rfl) (by kernel_rfl) (by kernel_rfl) (fun _ _ d _ _ h => by cases d <;> exact h) (fun o ho => ?_)
    simp only [List.getElem?_toArray, List.getElem?_cons_zero, List.getElem?_cons_succ, Option.some.injEq] at ho; subst ho
    apply Exists.intro
    refine ⟨Or.inl ⟨by kernel_rfl, fun w' hl => Or.inl ?_⟩, ?_⟩
    · (go_simp; try with_reducible rfl)
    simp only [Act.put, List.setIfInBounds_toArray, List.set_cons_zero, List.set_cons_succ]
    refine late_take 1 (by kernel_rfl) (by kernel_rfl) (by kernel_rfl) (by kernel_rfl) (by kernel_rfl) (fun _ _ d _ _ h => by cases d <;> exact h) (fun o ho => ?_)
    simp only [List.getElem?_toArray, List.getElem?_cons_zero, List.getElem?_cons_succ, Option.some.injEq] at ho; subst ho
    refine ⟨.int .u8 (p 0), Or.inl ⟨by kernel_rfl, fun w' hl => Or.inl (run_get 5 _ rfl b0 0 rfl Tryz.underlying5 rfl (.int .u8 (p 0)) (by rw [(HR.out.later hl).cell 0 (by decide)]; rfl))⟩, ?_⟩
    simp only [Act.put, List.setIfInBounds_toArray, List.set_cons_zero, List.set_cons_succ]
    refine late_take 2 (by kernel_rfl) (by kernel_rfl) (by kernel_rfl) (by kernel_rfl) (by kernel_rfl) (fun _ _ d _ _ h => by cases d <;> exact h) (fun o ho => ?_)
    simp only [List.getElem?_toArray, List.getElem?_cons_zero, List.getElem?_cons_succ, Option.some.injEq] at ho; subst ho
    apply Exists.intro
    refine ⟨Or.inl ⟨by kernel_rfl, fun w' hl => Or.inl ?_⟩, ?_⟩
    · (go_simp; try with_reducible rfl)
    simp only [Act.put, List.setIfInBounds_toArray, List.set_cons_zero, List.set_cons_succ]
    refine late_take 3 (by kernel_rfl) (by kernel_rfl) (by kernel_rfl) (by kernel_rfl) (by kernel_rfl) (fun _ _ d _ _ h => by cases d <;> exact h) (fun o ho => ?_)
    simp only [List.getElem?_toArray, List.getElem?_cons_zero, List.getElem?_cons_succ, Option.some.injEq] at ho; subst ho
    refine ⟨.string z, Or.inl ⟨by kernel_rfl, fun w' hl => Or.inl ?_⟩, ?_⟩
    · (go_simp; try simp [HRt.out])
    simp only [Act.put, List.setIfInBounds_toArray, List.set_cons_zero, List.set_cons_succ]
    refine late_fork 4 8 (by kernel_rfl) (by kernel_rfl) (by kernel_rfl) (fun o ho => ?_) (fun o ho => ?_)
    · simp only [List.getElem?_toArray, List.getElem?_cons_zero, List.getElem?_cons_succ, Option.some.injEq] at ho; subst ho
      refine ⟨by kernel_rfl, fun wn hl K hK => ?_⟩
      have HR := Lib.hid (HR.out.later hl); have HB := Lib.hid (below_on HB.out hl); clear hl
      refine wp_enter _ _ (by go_simp; exact ⟨rfl, rfl⟩) ?_
      rw [← HZ.out]
      refine (fparse_any (p 0) s1 _ HF.out.var (HM.out.on HB.out) (HT.out.on HB.out) (HC.out.on HB.out) (HV.out.on HB.out) (HP.out.on HB.out)).mono ?_; rintro e wm ⟨rfl, hb⟩; refine ⟨_, rfl, ?_⟩
      rw [HO3.out, RdO, HZ.out]
      refine hK.out _ _ hb ?_
      have HR := Lib.hid (HR.out.later hb); have HB := Lib.hid (below_on HB.out hb); clear hb
      clear hK K
      simp only [Act.put, List.setIfInBounds_toArray, List.set_cons_zero, List.set_cons_succ]
      refine late_take 5 (by kernel_rfl) (by kernel_rfl) (by kernel_rfl) (by kernel_rfl) (by kernel_rfl) (fun _ _ d _ _ h => by cases d <;> exact h) (fun o ho => ?_)
      simp only [List.getElem?_toArray, List.getElem?_cons_zero, List.getElem?_cons_succ, Option.some.injEq] at ho; subst ho
      apply Exists.intro
      refine ⟨Or.inl ⟨by kernel_rfl, fun w' hl => Or.inl ?_⟩, ?_⟩
      · (go_simp; try with_reducible rfl)
      simp only [Act.put, List.setIfInBounds_toArray, List.set_cons_zero, List.set_cons_succ]
      refine late_take 6 (by kernel_rfl) (by kernel_rfl) (by kernel_rfl) (by kernel_rfl) (by kernel_rfl) (fun _ _ d _ _ h => by cases d <;> exact h) (fun o ho => ?_)
      simp only [List.getElem?_toArray, List.getElem?_cons_zero, List.getElem?_cons_succ, Option.some.injEq] at ho; subst ho
      apply Exists.intro
      refine ⟨Or.inl ⟨by kernel_rfl, fun w' hl => Or.inl ?_⟩, ?_⟩
      · (go_simp; try with_reducible rfl)
      simp only [Act.put, List.setIfInBounds_toArray, List.set_cons_zero, List.set_cons_succ]
      refine late_fork 7 8 (by kernel_rfl) (by kernel_rfl) (by kernel_rfl) (fun o ho => ?_) (fun o ho => ?_)
      · simp only [List.getElem?_toArray, List.getElem?_cons_zero, List.getElem?_cons_succ, Option.some.injEq] at ho; subst ho
        refine ⟨by kernel_rfl, fun wn hl K hK => ?_⟩
        have HR := Lib.hid (HR.out.later hl); have HB := Lib.hid (below_on HB.out hl); clear hl
        refine wp_value (by go_simp; try with_reducible rfl) ?_
        refine hK.out _ _ (Later.refl _) ?_
        clear hK K
        simp only [Act.put, List.setIfInBounds_toArray, List.set_cons_zero, List.set_cons_succ]
        refine late_one 8 (by kernel_rfl) (by kernel_rfl) (fun o ho => ?_)
        simp only [List.getElem?_toArray, List.getElem?_cons_zero, List.getElem?_cons_succ, Option.some.injEq] at ho; subst ho
        refine ⟨by kernel_rfl, fun wn hl K hK => ?_⟩
        have HR := Lib.hid (HR.out.later hl); have HB := Lib.hid (below_on HB.out hl); clear hl
        refine late_alloc rfl ?_; intro b3 wm N R
        have HD3 := Lib.hid (N.ne HR.out)
        have HG3 := Lib.hid (show w.heap.size ≤ b3 by have := HB.out.size; have := N.at_; omega)
        have hb := N.below
        have HRn := Lib.hid R
        clear N R
        refine hK.out _ _ hb ?_
        have HR := Lib.hid (HR.out.later hb); have HB := Lib.hid (below_on HB.out hb); clear hb
        have HR3 := HRn; clear HRn
        clear hK K
        simp only [Act.put, List.setIfInBounds_toArray, List.set_cons_zero, List.set_cons_succ]
        refine late_then 9 (by kernel_rfl) (by kernel_rfl) (fun o ho => ?_)
        simp only [List.getElem?_toArray, List.getElem?_cons_zero, List.getElem?_cons_succ, Option.some.injEq] at ho; subst ho
        refine ⟨by kernel_rfl, fun wn hl K hK => ?_⟩
        have HR := Lib.hid (HR.out.later hl); have HR3 := Lib.hid (HR3.out.later hl); have HB := Lib.hid (below_on HB.out hl); clear hl
        refine late_whole _ _ rfl b3 rfl _ (q3) rfl HR3.out ?_; intro wm U R
        have HR := Lib.hid (HR.out.apart U HD3.out)
        have HR3 := Lib.hid R; have HB := Lib.hid (HB.out.trans (U.below HG3.out)); clear U R
        refine hK.out _ _ ?_
        clear hK K
        simp only [Act.put, List.setIfInBounds_toArray, List.set_cons_zero, List.set_cons_succ]
        refine any_one 10 (by kernel_rfl) (by kernel_rfl) (fun o ho => ?_)
        simp only [List.getElem?_toArray, List.getElem?_cons_zero, List.getElem?_cons_succ, Option.some.injEq] at ho; subst ho
        refine ⟨by kernel_rfl, fun K hK => ?_⟩
        refine wp_value (by go_simp; try with_reducible rfl) ?_
        refine hK.out _ _ ?_
        clear hK K
        simp only [Act.put, List.setIfInBounds_toArray, List.set_cons_zero, List.set_cons_succ]
        refine any_end (by kernel_rfl) ?_
        exact hK9.out _ _ ⟨b3, rfl, HR.out, HR3.out, HB.out⟩
      · simp only [List.getElem?_toArray, List.getElem?_cons_zero, List.getElem?_cons_succ, Option.some.injEq] at ho; subst ho
        refine ⟨by kernel_rfl, fun wn hl K hK => ?_⟩
        have HR := Lib.hid (HR.out.later hl); have HB := Lib.hid (below_on HB.out hl); clear hl
        refine late_alloc rfl ?_; intro b3 wm N R
        have HD3 := Lib.hid (N.ne HR.out)
        have HG3 := Lib.hid (show w.heap.size ≤ b3 by have := HB.out.size; have := N.at_; omega)
        have hb := N.below
        have HRn := Lib.hid R
        clear N R
        refine hK.out _ _ hb ?_
        have HR := Lib.hid (HR.out.later hb); have HB := Lib.hid (below_on HB.out hb); clear hb
        have HR3 := HRn; clear HRn
        clear hK K
        simp only [Act.put, List.setIfInBounds_toArray, List.set_cons_zero, List.set_cons_succ]
        refine late_forkL 7 9 (by kernel_rfl) (by kernel_rfl) (by kernel_rfl) (fun o ho => ?_) (fun o ho => ?_)
        · simp only [List.getElem?_toArray, List.getElem?_cons_zero, List.getElem?_cons_succ, Option.some.injEq] at ho; subst ho
          refine ⟨by kernel_rfl, fun wn hl K hK => ?_⟩
          have HR := Lib.hid (HR.out.later hl); have HR3 := Lib.hid (HR3.out.later hl); have HB := Lib.hid (below_on HB.out hl); clear hl
          refine wp_value (by go_simp; try with_reducible rfl) ?_
          refine hK.out _ _ (Later.refl _) ?_
          clear hK K
          simp only [Act.put, List.setIfInBounds_toArray, List.set_cons_zero, List.set_cons_succ]
          refine late_then 9 (by kernel_rfl) (by kernel_rfl) (fun o ho => ?_)
          simp only [List.getElem?_toArray, List.getElem?_cons_zero, List.getElem?_cons_succ, Option.some.injEq] at ho; subst ho
          refine ⟨by kernel_rfl, fun wn hl K hK => ?_⟩
          have HR := Lib.hid (HR.out.later hl); have HR3 := Lib.hid (HR3.out.later hl); have HB := Lib.hid (below_on HB.out hl); clear hl
          refine late_whole _ _ rfl b3 rfl _ (q3) rfl HR3.out ?_; intro wm U R
          have HR := Lib.hid (HR.out.apart U HD3.out)
          have HR3 := Lib.hid R; have HB := Lib.hid (HB.out.trans (U.below HG3.out)); clear U R
          refine hK.out _ _ ?_
          clear hK K
          simp only [Act.put, List.setIfInBounds_toArray, List.set_cons_zero, List.set_cons_succ]
          refine any_one 10 (by kernel_rfl) (by kernel_rfl) (fun o ho => ?_)
          simp only [List.getElem?_toArray, List.getElem?_cons_zero, List.getElem?_cons_succ, Option.some.injEq] at ho; subst ho
          refine ⟨by kernel_rfl, fun K hK => ?_⟩
          refine wp_value (by go_simp; try with_reducible rfl) ?_
          refine hK.out _ _ ?_
          clear hK K
          simp only [Act.put, List.setIfInBounds_toArray, List.set_cons_zero, List.set_cons_succ]
          refine any_end (by kernel_rfl) ?_
          exact hK9.out _ _ ⟨b3, rfl, HR.out, HR3.out, HB.out⟩
        · simp only [List.getElem?_toArray, List.getElem?_cons_zero, List.getElem?_cons_succ, Option.some.injEq] at ho; subst ho
          refine ⟨by kernel_rfl, fun wn hl K hK => ?_⟩
          have HR := Lib.hid (HR.out.later hl); have HR3 := Lib.hid (HR3.out.later hl); have HB := Lib.hid (below_on HB.out hl); clear hl
          refine late_whole _ _ rfl b3 rfl _ (q3) rfl HR3.out ?_; intro wm U R
          have HR := Lib.hid (HR.out.apart U HD3.out)
          have HR3 := Lib.hid R; have HB := Lib.hid (HB.out.trans (U.below HG3.out)); clear U R
          refine hK.out _ _ ?_
          clear hK K
          simp only [Act.put, List.setIfInBounds_toArray, List.set_cons_zero, List.set_cons_succ]
          refine any_one 7 (by kernel_rfl) (by kernel_rfl) (fun o ho => ?_)
          simp only [List.getElem?_toArray, List.getElem?_cons_zero, List.getElem?_cons_succ, Option.some.injEq] at ho; subst ho
          refine ⟨by kernel_rfl, fun K hK => ?_⟩
          refine wp_value (by go_simp; try with_reducible rfl) ?_
          refine hK.out _ _ ?_
          clear hK K
          simp only [Act.put, List.setIfInBounds_toArray, List.set_cons_zero, List.set_cons_succ]
          refine any_one 10 (by kernel_rfl) (by kernel_rfl) (fun o ho => ?_)
          simp only [List.getElem?_toArray, List.getElem?_cons_zero, List.getElem?_cons_succ, Option.some.injEq] at ho; subst ho
          refine ⟨by kernel_rfl, fun K hK => ?_⟩
          refine wp_value (by go_simp; try with_reducible rfl) ?_
          refine hK.out _ _ ?_
          clear hK K
          simp only [Act.put, List.setIfInBounds_toArray, List.set_cons_zero, List.set_cons_succ]
          refine any_end (by kernel_rfl) ?_
          exact hK9.out _ _ ⟨b3, rfl, HR.out, HR3.out, HB.out⟩
    · simp only [List.getElem?_toArray, List.getElem?_cons_zero, List.getElem?_cons_succ, Option.some.injEq] at ho; subst ho
      refine ⟨by kernel_rfl, fun wn hl K hK => ?_⟩
      have HR := Lib.hid (HR.out.later hl); have HB := Lib.hid (below_on HB.out hl); clear hl
      refine late_alloc rfl ?_; intro b3 wm N R
      have HD3 := Lib.hid (N.ne HR.out)
      have HG3 := Lib.hid (show w.heap.size ≤ b3 by have := HB.out.size; have := N.at_; omega)
      have hb := N.below
      have HRn := Lib.hid R
      clear N R
      refine hK.out _ _ hb ?_
      have HR := Lib.hid (HR.out.later hb); have HB := Lib.hid (below_on HB.out hb); clear hb
      have HR3 := HRn; clear HRn
      clear hK K
      simp only [Act.put, List.setIfInBounds_toArray, List.set_cons_zero, List.set_cons_succ]
      refine late_one 4 (by kernel_rfl) (by kernel_rfl) (fun o ho => ?_)
      simp only [List.getElem?_toArray, List.getElem?_cons_zero, List.getElem?_cons_succ, Option.some.injEq] at ho; subst ho
      refine ⟨by kernel_rfl, fun wn hl K hK => ?_⟩
      have HR := Lib.hid (HR.out.later hl); have HR3 := Lib.hid (HR3.out.later hl); have HB := Lib.hid (below_on HB.out hl); clear hl
      refine wp_enter _ _ (by go_simp; exact ⟨rfl, rfl⟩) ?_
      rw [← HZ.out]
      refine (fparse_any (p 0) s1 _ HF.out.var (HM.out.on HB.out) (HT.out.on HB.out) (HC.out.on HB.out) (HV.out.on HB.out) (HP.out.on HB.out)).mono ?_; rintro e wm ⟨rfl, hb⟩; refine ⟨_, rfl, ?_⟩
      rw [HO3.out, RdO, HZ.out]
      refine hK.out _ _ hb ?_
      have HR := Lib.hid (HR.out.later hb); have HR3 := Lib.hid (HR3.out.later hb); have HB := Lib.hid (below_on HB.out hb); clear hb
      clear hK K
      simp only [Act.put, List.setIfInBounds_toArray, List.set_cons_zero, List.set_cons_succ]
      refine late_take 5 (by kernel_rfl) (by kernel_rfl) (by kernel_rfl) (by kernel_rfl) (by kernel_rfl) (fun _ _ d _ _ h => by cases d <;> exact h) (fun o ho => ?_)
      simp only [List.getElem?_toArray, List.getElem?_cons_zero, List.getElem?_cons_succ, Option.some.injEq] at ho; subst ho
      apply Exists.intro
      refine ⟨Or.inl ⟨by kernel_rfl, fun w' hl => Or.inl ?_⟩, ?_⟩
      · (go_simp; try with_reducible rfl)
      simp only [Act.put, List.setIfInBounds_toArray, List.set_cons_zero, List.set_cons_succ]
      refine late_take 6 (by kernel_rfl) (by kernel_rfl) (by kernel_rfl) (by kernel_rfl) (by kernel_rfl) (fun _ _ d _ _ h => by cases d <;> exact h) (fun o ho => ?_)
      simp only [List.getElem?_toArray, List.getElem?_cons_zero, List.getElem?_cons_succ, Option.some.injEq] at ho; subst ho
      apply Exists.intro
      refine ⟨Or.inl ⟨by kernel_rfl, fun w' hl => Or.inl ?_⟩, ?_⟩
      · (go_simp; try with_reducible rfl)
      simp only [Act.put, List.setIfInBounds_toArray, List.set_cons_zero, List.set_cons_succ]
      refine late_forkL 7 9 (by kernel_rfl) (by kernel_rfl) (by kernel_rfl) (fun o ho => ?_) (fun o ho => ?_)
      · simp only [List.getElem?_toArray, List.getElem?_cons_zero, List.getElem?_cons_succ, Option.some.injEq] at ho; subst ho
        refine ⟨by kernel_rfl, fun wn hl K hK => ?_⟩
        have HR := Lib.hid (HR.out.later hl); have HR3 := Lib.hid (HR3.out.later hl); have HB := Lib.hid (below_on HB.out hl); clear hl
        refine wp_value (by go_simp; try with_reducible rfl) ?_
        refine hK.out _ _ (Later.refl _) ?_
        clear hK K
        simp only [Act.put, List.setIfInBounds_toArray, List.set_cons_zero, List.set_cons_succ]
        refine late_then 9 (by kernel_rfl) (by kernel_rfl) (fun o ho => ?_)
        simp only [List.getElem?_toArray, List.getElem?_cons_zero, List.getElem?_cons_succ, Option.some.injEq] at ho; subst ho
        refine ⟨by kernel_rfl, fun wn hl K hK => ?_⟩
        have HR := Lib.hid (HR.out.later hl); have HR3 := Lib.hid (HR3.out.later hl); have HB := Lib.hid (below_on HB.out hl); clear hl
        refine late_whole _ _ rfl b3 rfl _ (q3) rfl HR3.out ?_; intro wm U R
        have HR := Lib.hid (HR.out.apart U HD3.out)
        have HR3 := Lib.hid R; have HB := Lib.hid (HB.out.trans (U.below HG3.out)); clear U R
        refine hK.out _ _ ?_
        clear hK K
        simp only [Act.put, List.setIfInBounds_toArray, List.set_cons_zero, List.set_cons_succ]
        refine any_one 10 (by kernel_rfl) (by kernel_rfl) (fun o ho => ?_)
        simp only [List.getElem?_toArray, List.getElem?_cons_zero, List.getElem?_cons_succ, Option.some.injEq] at ho; subst ho
        refine ⟨by kernel_rfl, fun K hK => ?_⟩
        refine wp_value (by go_simp; try with_reducible rfl) ?_
        refine hK.out _ _ ?_
        clear hK K
        simp only [Act.put, List.setIfInBounds_toArray, List.set_cons_zero, List.set_cons_succ]
        refine any_end (by kernel_rfl) ?_
        exact hK9.out _ _ ⟨b3, rfl, HR.out, HR3.out, HB.out⟩
      · simp only [List.getElem?_toArray, List.getElem?_cons_zero, List.getElem?_cons_succ, Option.some.injEq] at ho; subst ho
        refine ⟨by kernel_rfl, fun wn hl K hK => ?_⟩
        have HR := Lib.hid (HR.out.later hl); have HR3 := Lib.hid (HR3.out.later hl); have HB := Lib.hid (below_on HB.out hl); clear hl
        refine late_whole _ _ rfl b3 rfl _ (q3) rfl HR3.out ?_; intro wm U R
        have HR := Lib.hid (HR.out.apart U HD3.out)
        have HR3 := Lib.hid R; have HB := Lib.hid (HB.out.trans (U.below HG3.out)); clear U R
        refine hK.out _ _ ?_
        clear hK K
        simp only [Act.put, List.setIfInBounds_toArray, List.set_cons_zero, List.set_cons_succ]
        refine any_one 7 (by kernel_rfl) (by kernel_rfl) (fun o ho => ?_)
        simp only [List.getElem?_toArray, List.getElem?_cons_zero, List.getElem?_cons_succ, Option.some.injEq] at ho; subst ho
        refine ⟨by kernel_rfl, fun K hK => ?_⟩
        refine wp_value (by go_simp; try with_reducible rfl) ?_
        refine hK.out _ _ ?_
        clear hK K
        simp only [Act.put, List.setIfInBounds_toArray, List.set_cons_zero, List.set_cons_succ]
        refine any_one 10 (by kernel_rfl) (by kernel_rfl) (fun o ho => ?_)
        simp only [List.getElem?_toArray, List.getElem?_cons_zero, List.getElem?_cons_succ, Option.some.injEq] at ho; subst ho
        refine ⟨by kernel_rfl, fun K hK => ?_⟩
        refine wp_value (by go_simp; try with_reducible rfl) ?_
        refine hK.out _ _ ?_
        clear hK K
        simp only [Act.put, List.setIfInBounds_toArray, List.set_cons_zero, List.set_cons_succ]
        refine any_end (by kernel_rfl) ?_
        exact hK9.out _ _ ⟨b3, rfl, HR.out, HR3.out, HB.out⟩
  case cutB =>
    rintro a wn ⟨b3, rfl, hr, hr3, hb⟩
    have HR := Lib.hid hr
    have HR3 := Lib.hid hr3
    have HB := Lib.hid hb
    clear hr hr3 hb hc0
    go_wp2_with fail
    all_goals (
      refine late_begin 17 (by kernel_rfl) ?_
      refine late_take 0 (by kernel_rfl) (by kernel_rfl) (by kernel_rfl) (by kernel_rfl) (by kernel_rfl) (fun _ _ d _ _ h => by cases d <;> exact h) (fun o ho => ?_)
      simp only [List.getElem?_toArray, List.getElem?_cons_zero, List.getElem?_cons_succ, Option.some.injEq] at ho; subst ho
      apply Exists.intro
      refine ⟨Or.inl ⟨by kernel_rfl, fun w' hl => Or.inl ?_⟩, ?_⟩
      · (go_simp; try with_reducible rfl)
      simp only [Act.put, List.setIfInBounds_toArray, List.set_cons_zero, List.set_cons_succ]
      refine late_take 1 (by kernel_rfl) (by kernel_rfl) (by kernel_rfl) (by kernel_rfl) (by kernel_rfl) (fun _ _ d _ _ h => by cases d <;> exact h) (fun o ho => ?_)
      simp only [List.getElem?_toArray, List.getElem?_cons_zero, List.getElem?_cons_succ, Option.some.injEq] at ho; subst ho
      apply Exists.intro
      refine ⟨Or.inl ⟨by kernel_rfl, fun w' hl => Or.inl ?_⟩, ?_⟩
      · (go_simp; try with_reducible rfl)
      simp only [Act.put, List.setIfInBounds_toArray, List.set_cons_zero, List.set_cons_succ]
      refine late_take 2 (by kernel_rfl) (by kernel_rfl) (by kernel_rfl) (by kernel_rfl) (by kernel_rfl) (fun _ _ d _ _ h => by cases d <;> exact h) (fun o ho => ?_)
      simp only [List.getElem?_toArray, List.getElem?_cons_zero, List.getElem?_cons_succ, Option.some.injEq] at ho; subst ho
      apply Exists.intro
      refine ⟨Or.inl ⟨by kernel_rfl, fun w' hl => Or.inl ?_⟩, ?_⟩
      · (go_simp; try with_reducible rfl)
      simp only [Act.put, List.setIfInBounds_toArray, List.set_cons_zero, List.set_cons_succ]
      refine late_take 3 (by kernel_rfl) (by kernel_rfl) (by kernel_rfl) (by kernel_rfl) (by kernel_rfl) (fun _ _ d _ _ h => by cases d <;> exact h) (fun o ho => ?_)
      simp only [List.getElem?_toArray, List.getElem?_cons_zero, List.getElem?_cons_succ, Option.some.injEq] at ho; subst ho
      refine ⟨_, Or.inr ⟨by kernel_rfl, rfl⟩, ?_⟩
      simp only [Act.put, List.setIfInBounds_toArray, List.set_cons_zero, List.set_cons_succ]
      refine late_take 4 (by kernel_rfl) (by kernel_rfl) (by kernel_rfl) (by kernel_rfl) (by kernel_rfl) (fun _ _ d _ _ h => by cases d <;> exact h) (fun o ho => ?_)
      simp only [List.getElem?_toArray, List.getElem?_cons_zero, List.getElem?_cons_succ, Option.some.injEq] at ho; subst ho
      apply Exists.intro
      refine ⟨Or.inl ⟨by kernel_rfl, fun w' hl => Or.inl ?_⟩, ?_⟩
      · (go_simp; try with_reducible rfl)
      simp only [Act.put, List.setIfInBounds_toArray, List.set_cons_zero, List.set_cons_succ]
      refine late_take 5 (by kernel_rfl) (by kernel_rfl) (by kernel_rfl) (by kernel_rfl) (by kernel_rfl) (fun _ _ d _ _ h => by cases d <;> exact h) (fun o ho => ?_)
      simp only [List.getElem?_toArray, List.getElem?_cons_zero, List.getElem?_cons_succ, Option.some.injEq] at ho; subst ho
      apply Exists.intro
      refine ⟨Or.inl ⟨by kernel_rfl, fun w' hl => Or.inl ?_⟩, ?_⟩
      · (go_simp; try with_reducible rfl)
      simp only [Act.put, List.setIfInBounds_toArray, List.set_cons_zero, List.set_cons_succ]
      refine late_take 6 (by kernel_rfl) (by kernel_rfl) (by kernel_rfl) (by kernel_rfl) (by kernel_rfl) (fun _ _ d _ _ h => by cases d <;> exact h) (fun o ho => ?_)
      simp only [List.getElem?_toArray, List.getElem?_cons_zero, List.getElem?_cons_succ, Option.some.injEq] at ho; subst ho
      apply Exists.intro
      refine ⟨Or.inl ⟨by kernel_rfl, fun w' hl => Or.inl ?_⟩, ?_⟩
      · (go_simp; try with_reducible rfl)
      simp only [Act.put, List.setIfInBounds_toArray, List.set_cons_zero, List.set_cons_succ]
      refine late_take 7 (by kernel_rfl) (by kernel_rfl) (by kernel_rfl) (by kernel_rfl) (by kernel_rfl) (fun _ _ d _ _ h => by cases d <;> exact h) (fun o ho => ?_)
      simp only [List.getElem?_toArray, List.getElem?_cons_zero, List.getElem?_cons_succ, Option.some.injEq] at ho; subst ho
      apply Exists.intro
      refine ⟨Or.inl ⟨by kernel_rfl, fun w' hl => Or.inl ?_⟩, ?_⟩
      · (go_simp; try with_reducible rfl)
      simp only [Act.put, List.setIfInBounds_toArray, List.set_cons_zero, List.set_cons_succ]
      refine late_take 8 (by kernel_rfl) (by kernel_rfl) (by kernel_rfl) (by kernel_rfl) (by kernel_rfl) (fun _ _ d _ _ h => by cases d <;> exact h) (fun o ho => ?_)
      simp only [List.getElem?_toArray, List.getElem?_cons_zero, List.getElem?_cons_succ, Option.some.injEq] at ho; subst ho
      apply Exists.intro
      refine ⟨Or.inl ⟨by kernel_rfl, fun w' hl => Or.inl ?_⟩, ?_⟩
      · (go_simp; try with_reducible rfl)
      simp only [Act.put, List.setIfInBounds_toArray, List.set_cons_zero, List.set_cons_succ]
      refine late_take 9 (by kernel_rfl) (by kernel_rfl) (by kernel_rfl) (by kernel_rfl) (by kernel_rfl) (fun _ _ d _ _ h => by cases d <;> exact h) (fun o ho => ?_)
      simp only [List.getElem?_toArray, List.getElem?_cons_zero, List.getElem?_cons_succ, Option.some.injEq] at ho; subst ho
      refine ⟨_, Or.inl ⟨by kernel_rfl, fun w' hl => Or.inl (run_load _ rfl _ rfl (q3) (HR3.out.later hl))⟩, ?_⟩
      simp only [Act.put, List.setIfInBounds_toArray, List.set_cons_zero, List.set_cons_succ]
      refine late_take 11 (by kernel_rfl) (by kernel_rfl) (by kernel_rfl) (by kernel_rfl) (by kernel_rfl) (fun _ _ d _ _ h => by cases d <;> exact h) (fun o ho => ?_)
      simp only [List.getElem?_toArray, List.getElem?_cons_zero, List.getElem?_cons_succ, Option.some.injEq] at ho; subst ho
      apply Exists.intro
      refine ⟨Or.inl ⟨by kernel_rfl, fun w' hl => Or.inl ?_⟩, ?_⟩
      · (go_simp; try with_reducible rfl)
      simp only [Act.put, List.setIfInBounds_toArray, List.set_cons_zero, List.set_cons_succ]
      refine late_take 12 (by kernel_rfl) (by kernel_rfl) (by kernel_rfl) (by kernel_rfl) (by kernel_rfl) (fun _ _ d _ _ h => by cases d <;> exact h) (fun o ho => ?_)
      simp only [List.getElem?_toArray, List.getElem?_cons_zero, List.getElem?_cons_succ, Option.some.injEq] at ho; subst ho
      refine ⟨.string z, Or.inl ⟨by kernel_rfl, fun w' hl => Or.inl ?_⟩, ?_⟩
      · (go_simp; try simp [HRt.out])
      simp only [Act.put, List.setIfInBounds_toArray, List.set_cons_zero, List.set_cons_succ]
      refine late_one 10 (by kernel_rfl) (by kernel_rfl) (fun o ho => ?_)
      simp only [List.getElem?_toArray, List.getElem?_cons_zero, List.getElem?_cons_succ, Option.some.injEq] at ho; subst ho
      refine ⟨by kernel_rfl, fun wn hl K hK => ?_⟩
      have HR := Lib.hid (HR.out.later hl); have HR3 := Lib.hid (HR3.out.later hl); have HB := Lib.hid (below_on HB.out hl); clear hl
      refine wp_enter _ _ (by go_simp; exact ⟨rfl, rfl⟩) ?_
      refine (print_any q3 _ HFq.out (HV.out.on HB.out) (HC.out.on HB.out) (HP.out.on HB.out)).mono ?_; rintro e wm ⟨rfl, hb⟩; refine ⟨_, rfl, ?_⟩
      rw [HTz.out]
      refine hK.out _ _ hb ?_
      have HR := Lib.hid (HR.out.later hb); have HR3 := Lib.hid (HR3.out.later hb); have HB := Lib.hid (below_on HB.out hb); clear hb
      clear hK K
      simp only [Act.put, List.setIfInBounds_toArray, List.set_cons_zero, List.set_cons_succ]
      refine late_take 13 (by kernel_rfl) (by kernel_rfl) (by kernel_rfl) (by kernel_rfl) (by kernel_rfl) (fun _ _ d _ _ h => by cases d <;> exact h) (fun o ho => ?_)
      simp only [List.getElem?_toArray, List.getElem?_cons_zero, List.getElem?_cons_succ, Option.some.injEq] at ho; subst ho
      apply Exists.intro
      refine ⟨Or.inl ⟨by kernel_rfl, fun w' hl => Or.inl ?_⟩, ?_⟩
      · (go_simp; try with_reducible rfl)
      simp only [Act.put, List.setIfInBounds_toArray, List.set_cons_zero, List.set_cons_succ]
      refine late_take 14 (by kernel_rfl) (by kernel_rfl) (by kernel_rfl) (by kernel_rfl) (by kernel_rfl) (fun _ _ d _ _ h => by cases d <;> exact h) (fun o ho => ?_)
      simp only [List.getElem?_toArray, List.getElem?_cons_zero, List.getElem?_cons_succ, Option.some.injEq] at ho; subst ho
      apply Exists.intro
      refine ⟨Or.inl ⟨by kernel_rfl, fun w' hl => Or.inl ?_⟩, ?_⟩
      · (go_simp; try with_reducible rfl)
      simp only [Act.put, List.setIfInBounds_toArray, List.set_cons_zero, List.set_cons_succ]
      refine late_take 15 (by kernel_rfl) (by kernel_rfl) (by kernel_rfl) (by kernel_rfl) (by kernel_rfl) (fun _ _ d _ _ h => by cases d <;> exact h) (fun o ho => ?_)
      simp only [List.getElem?_toArray, List.getElem?_cons_zero, List.getElem?_cons_succ, Option.some.injEq] at ho; subst ho
      apply Exists.intro
      refine ⟨Or.inl ⟨by kernel_rfl, fun w' hl => Or.inl ?_⟩, ?_⟩
      · (go_simp; try with_reducible rfl)
      simp only [Act.put, List.setIfInBounds_toArray, List.set_cons_zero, List.set_cons_succ]
      refine late_take 16 (by kernel_rfl) (by kernel_rfl) (by kernel_rfl) (by kernel_rfl) (by kernel_rfl) (fun _ _ d _ _ h => by cases d <;> exact h) (fun o ho => ?_)
      simp only [List.getElem?_toArray, List.getElem?_cons_zero, List.getElem?_cons_succ, Option.some.injEq] at ho; subst ho
      apply Exists.intro
      refine ⟨Or.inl ⟨by kernel_rfl, fun w' hl => Or.inl ?_⟩, ?_⟩
      · (go_simp; try with_reducible rfl)
      simp only [Act.put, List.setIfInBounds_toArray, List.set_cons_zero, List.set_cons_succ]
      refine late_end (by kernel_rfl) (fun wn hl => ?_)
      have HR := Lib.hid (HR.out.later hl); have HR3 := Lib.hid (HR3.out.later hl); have HB := Lib.hid (below_on HB.out hl); clear hl
      go_wp2_with fail
      exact bodyPost_ret (results_tmp rfl _ _ _) rfl ⟨by simp, HB.out⟩)
set_option maxRecDepth 100000 in
set_option maxHeartbeats 4000000 in
theorem bad_0_10 (p : Nat → Int) (v b : Int) (s : List UInt8) (x0 : UInt8) (s1 : List UInt8) (hv : 0 ≤ v ∧ v ≤ 255) (h9 : v < 9) (hb : 0 ≤ b ∧ b ≤ 255) (w : World) (hF : FitF p) (hs : fenL p = s) (hs1 : s = x0 :: s1) (h0 : p 0 < 9) (hl : (s ++ [byZ b]).length ≤ 200) (q2 : Nat → Int) (o2 : parO (p 0) (s ++ [byZ b]) = some q2) (o3 : parO (p 0) s1 = none) (hM : TabMx w) (hT : TabErr w) (hC : TabCorn w) (hV : TabVar w) (hP : TabPow w) (hK : TabKn w) :
    Calls Tryz.prog 8 #[.agg (posA p), .int .u8 v, .int .u8 b] w (BoL true w) := by
  have HM := Lib.hid hM
  have HT := Lib.hid hT
  have HC := Lib.hid hC
  have HV := Lib.hid hV
  have HP := Lib.hid hP
  have HK := Lib.hid hK
  have HF := Lib.hid hF
  have HVr := Lib.hid hv
  obtain ⟨q1, hq1⟩ : ∃ q, pqO (parO v s) = q := ⟨_, rfl⟩
  obtain ⟨n1, hn1⟩ : ∃ n, pnO (parN v s) (parO v s) = n := ⟨_, rfl⟩
  have HO1 := Lib.hid (show RdO (parN v s) (parO v s) = #[.agg (posA q1), .int .i64 n1] by rw [RdO_eq, hq1, hn1])
  have hsl := fen_short hs
  have hd : 48 ≤ b ∧ b ≤ 57 := by
    have h1 := rdAll_text (parO_some o2).2.2
    have h2 := fenL_last h1
    have h3 := byZ_u8 hb.1 hb.2
    omega
  have HO2 := Lib.hid o2
  have N3 := Lib.hid (show parN (p 0) s1 = 5 by unfold parN; rw [decide_eq_false (show ¬ 9 ≤ p 0 by omega), decide_eq_false (show ¬ 200 < (s1).length by rw [hs1] at hsl; simp at hsl; omega)]; rfl)
  have HO3 := Lib.hid o3
  obtain ⟨y, hy⟩ : ∃ y, bz s = y := ⟨_, rfl⟩
  obtain ⟨t, ht⟩ : ∃ t, y ++ bz [byZ b] = t := ⟨_, rfl⟩
  have hys : y.size = s.length := by rw [← hy, bz_size]
  have hye : y.toList.isEmpty = false := by rw [← hy, bz_toList, hs1]; rfl
  have HS := Lib.hid (show bz (fenL p) = y by rw [hs]; exact hy)
  have HY := Lib.hid hy
  have HTt := Lib.hid ht
  have HTb := Lib.hid (show t = bz (s ++ [byZ b]) by rw [← ht, ← hy, bz_app])
  have hts : t.size = (s ++ [byZ b]).length := by rw [HTb.out, bz_size]
  have gl : decide ((200 : Int) < (t.size : Int)) = false := decide_eq_false (by omega)
  have hcv := conv1
  have hb1 : (bz [byZ b]).size = 1 := bz_size _
  have k1 := cat_ok (a := y) (b := bz [byZ b]) (by omega) (by omega)
  have rt := tail_of x0 s1
  rw [show bz (x0 :: s1) = y by rw [← hs1]; exact hy] at rt
  have l1 : (1 : Int) ≤ (y.size : Int) := by rw [hys, hs1, List.length_cons]; omega
  obtain ⟨z, hz⟩ : ∃ z, bz s1 = z := ⟨_, rfl⟩
  have HZ := Lib.hid hz
  rw [hz] at rt
  have HRt := Lib.hid rt
  obtain ⟨hd0, hd1⟩ := hd
  clear hM hT hC hV hP hK hF hs hs1 hy ht hys hts hl hsl hb1 hq1
  clear h0 hv o2 o3 hz
  clear hn1
  obtain ⟨b0', b255⟩ := hb
  go_enter Tryz.func8, Tryz.ntmps8
  go_wp2_with (first
    | (refine step_box rfl _ rfl p rfl ?_; intro b0 w1 N R; have HG0 := Lib.hid (show w.heap.size ≤ b0 from Nat.le_of_eq N.at_.symm); have HB := Lib.hid N.below; have HR := Lib.hid R; clear N R)
    | (go_at_call 11; refine (fawake_any _ (HM.out.on HB.out) (HT.out.on HB.out) (HC.out.on HB.out) (HV.out.on HB.out) (HP.out.on HB.out) (HK.out.on HB.out)).mono ?_; rintro e w2 ⟨rfl, hb⟩; have HR := Lib.hid (HR.out.later hb); have HB := Lib.hid (HB.out.trans (hb.mono HB.out.size)); clear hb)
    | (refine step_load rfl _ rfl b0 rfl p ?_ ?_; exact HR.out)
    | (go_at_call 12; refine (print_any p _ HF.out (HV.out.on HB.out) (HC.out.on HB.out) (HP.out.on HB.out)).mono ?_; rintro e w3 ⟨rfl, hb⟩; rw [HS.out]; have HR := Lib.hid (HR.out.later hb); have HB := Lib.hid (HB.out.trans (hb.mono HB.out.size)); clear hb))
  rw [← HY.out]
  refine (fparse_any v s _ HVr.out (HM.out.on HB.out) (HT.out.on HB.out) (HC.out.on HB.out) (HV.out.on HB.out) (HP.out.on HB.out)).mono ?_; rintro e w4 ⟨rfl, hb⟩; rw [HO1.out, HY.out]; have HR := Lib.hid (HR.out.later hb); have HB := Lib.hid (HB.out.trans (hb.mono HB.out.size)); clear hb
  go_wp2_with (first
    | (refine step_alloc rfl rfl ?_; intro b1 w5 N R; have HG1 := Lib.hid (show w.heap.size ≤ b1 by rw [N.at_]; exact HB.out.size); have HD1 := Lib.hid (show b0 ≠ b1 by rw [N.at_]; exact Nat.ne_of_lt HR.out.lt); have HR := Lib.hid (HR.out.later N.below); have HR1 := Lib.hid R; have HB := Lib.hid (HB.out.trans (N.below.mono HB.out.size)); clear N R)
    | (refine step_store rfl _ _ rfl b1 rfl zeroP q1 rfl ?_ ?_; exact HR1.out; intro w6 U R; have HR1 := Lib.hid R; have HR := Lib.hid (HR.out.apart U HD1.out); have HB := Lib.hid (HB.out.trans (U.below HG1.out)); clear U R)
    | (refine step_get rfl 5 _ rfl b0 0 rfl Tryz.underlying5 rfl (.int .u8 (p 0)) ?_ ?_; (first | (rw [HR.out.cell 0 (by decide)]; rfl) | (rw [(HR.out.later (New.alloc _ _).below).cell 0 (by decide)]; rfl))))
  rw [HTt.out, HTb.out]
  have hN := fun (w : World) (o : Obj) => (New.alloc w o).below
  refine (fparse_any (p 0) (s ++ [byZ b]) _ HF.out.var (HM.out.on (HB.out.trans ((hN _ _).mono HB.out.size))) (HT.out.on (HB.out.trans ((hN _ _).mono HB.out.size))) (HC.out.on (HB.out.trans ((hN _ _).mono HB.out.size))) (HV.out.on (HB.out.trans ((hN _ _).mono HB.out.size))) (HP.out.on (HB.out.trans ((hN _ _).mono HB.out.size)))).mono ?_
  rintro e w7 ⟨rfl, hb⟩; rw [HO2.out, RdO, ← HTb.out]; have HR := Lib.hid ((HR.out.later (hN _ _)).later hb); have HB := Lib.hid ((HB.out.trans ((hN _ _).mono HB.out.size)).trans (hb.mono (HB.out.trans ((hN _ _).mono HB.out.size)).size)); clear hb
  go_wp2_with (first
    | (refine step_alloc rfl rfl ?_; intro b2 w5 N R; have HG2 := Lib.hid (show w.heap.size ≤ b2 by rw [N.at_]; exact HB.out.size); have HD2 := Lib.hid (show b0 ≠ b2 by rw [N.at_]; exact Nat.ne_of_lt HR.out.lt); have HR := Lib.hid (HR.out.later N.below); have HR2 := Lib.hid R; have HB := Lib.hid (HB.out.trans (N.below.mono HB.out.size)); clear N R)
    | (refine step_store rfl _ _ rfl b2 rfl zeroP q2 rfl ?_ ?_; exact HR2.out; intro w6 U R; have HR2 := Lib.hid R; have HR := Lib.hid (HR.out.apart U HD2.out); have HB := Lib.hid (HB.out.trans (U.below HG2.out)); have hc0 : w6.cell? ⟨b0, 0, none⟩ = some (.int .u8 (p 0)) := (by rw [HR.out.cell 0 (by decide)]; rfl); clear U R)
    )
  refine cut_here (fun F a w' => ∃ b3 : Nat, a = F b3 ∧ Row w' b0 p ∧ Row w' b3 zeroP ∧ Below w.heap.size w w') ?_
  apply Exists.intro
  refine ⟨fun K9 hK9 => ?cutA, ?cutB⟩
  case cutA =>
    refine late_begin 9 (by kernel_rfl) ?_
    refine late_take 0 (by kernel_rfl) (by kernel_rfl) (by kernel_rfl) (by kernel_rfl) (by kernel_rfl) (fun _ _ d _ _ h => by cases d <;> exact h) (fun o ho => ?_)
    simp only [List.getElem?_toArray, List.getElem?_cons_zero, List.getElem?_cons_succ, Option.some.injEq] at ho; subst ho
    apply Exists.intro
    refine ⟨Or.inl ⟨by kernel_rfl, fun w' hl => Or.inl ?_⟩, ?_⟩
    · (go_simp; try with_reducible rfl)
    simp only [Act.put, List.setIfInBounds_toArray, List.set_cons_zero, List.set_cons_succ]
    refine late_take 1 (by kernel_rfl) (by kernel_rfl) (by kernel_rfl) (by kernel_rfl) (by kernel_rfl) (fun _ _ d _ _ h => by cases d <;> exact h) (fun o ho => ?_)
    simp only [List.getElem?_toArray, List.getElem?_cons_zero, List.getElem?_cons_succ, Option.some.injEq] at ho; subst ho
    refine ⟨.int .u8 (p 0), Or.inl ⟨by kernel_rfl, fun w' hl => Or.inl (run_get 5 _ rfl b0 0 rfl Tryz.underlying5 rfl (.int .u8 (p 0)) (by rw [(HR.out.later hl).cell 0 (by decide)]; rfl))⟩, ?_⟩
    simp only [Act.put, List.setIfInBounds_toArray, List.set_cons_zero, List.set_cons_succ]
    refine late_take 2 (by kernel_rfl) (by kernel_rfl) (by kernel_rfl) (by kernel_rfl) (by kernel_rfl) (fun _ _ d _ _ h => by cases d <;> exact h) (fun o ho => ?_)
    simp only [List.getElem?_toArray, List.getElem?_cons_zero, List.getElem?_cons_succ, Option.some.injEq] at ho; subst ho
    apply Exists.intro
    refine ⟨Or.inl ⟨by kernel_rfl, fun w' hl => Or.inl ?_⟩, ?_⟩
    · (go_simp; try with_reducible rfl)
    simp only [Act.put, List.setIfInBounds_toArray, List.set_cons_zero, List.set_cons_succ]
    refine late_take 3 (by kernel_rfl) (by kernel_rfl) (by kernel_rfl) (by kernel_rfl) (by kernel_rfl) (fun _ _ d _ _ h => by cases d <;> exact h) (fun o ho => ?_)
    simp only [List.getElem?_toArray, List.getElem?_cons_zero, List.getElem?_cons_succ, Option.some.injEq] at ho; subst ho
    refine ⟨.string z, Or.inl ⟨by kernel_rfl, fun w' hl => Or.inl ?_⟩, ?_⟩
    · (go_simp; try simp [HRt.out])
    simp only [Act.put, List.setIfInBounds_toArray, List.set_cons_zero, List.set_cons_succ]
    refine late_fork 4 8 (by kernel_rfl) (by kernel_rfl) (by kernel_rfl) (fun o ho => ?_) (fun o ho => ?_)
    · simp only [List.getElem?_toArray, List.getElem?_cons_zero, List.getElem?_cons_succ, Option.some.injEq] at ho; subst ho
      refine ⟨by kernel_rfl, fun wn hl K hK => ?_⟩
      have HR := Lib.hid (HR.out.later hl); have HB := Lib.hid (below_on HB.out hl); clear hl
      refine wp_enter _ _ (by go_simp; exact ⟨rfl, rfl⟩) ?_
      rw [← HZ.out]
      refine (fparse_any (p 0) s1 _ HF.out.var (HM.out.on HB.out) (HT.out.on HB.out) (HC.out.on HB.out) (HV.out.on HB.out) (HP.out.on HB.out)).mono ?_; rintro e wm ⟨rfl, hb⟩; refine ⟨_, rfl, ?_⟩
      rw [HO3.out, N3.out, RdO, HZ.out]
      refine hK.out _ _ hb ?_
      have HR := Lib.hid (HR.out.later hb); have HB := Lib.hid (below_on HB.out hb); clear hb
      clear hK K
      simp only [Act.put, List.setIfInBounds_toArray, List.set_cons_zero, List.set_cons_succ]
      refine late_take 5 (by kernel_rfl) (by kernel_rfl) (by kernel_rfl) (by kernel_rfl) (by kernel_rfl) (fun _ _ d _ _ h => by cases d <;> exact h) (fun o ho => ?_)
      simp only [List.getElem?_toArray, List.getElem?_cons_zero, List.getElem?_cons_succ, Option.some.injEq] at ho; subst ho
      apply Exists.intro
      refine ⟨Or.inl ⟨by kernel_rfl, fun w' hl => Or.inl ?_⟩, ?_⟩
      · (go_simp; try with_reducible rfl)
      simp only [Act.put, List.setIfInBounds_toArray, List.set_cons_zero, List.set_cons_succ]
      refine late_take 6 (by kernel_rfl) (by kernel_rfl) (by kernel_rfl) (by kernel_rfl) (by kernel_rfl) (fun _ _ d _ _ h => by cases d <;> exact h) (fun o ho => ?_)
      simp only [List.getElem?_toArray, List.getElem?_cons_zero, List.getElem?_cons_succ, Option.some.injEq] at ho; subst ho
      apply Exists.intro
      refine ⟨Or.inl ⟨by kernel_rfl, fun w' hl => Or.inl ?_⟩, ?_⟩
      · (go_simp; try with_reducible rfl)
      simp only [Act.put, List.setIfInBounds_toArray, List.set_cons_zero, List.set_cons_succ]
      refine late_fork 7 8 (by kernel_rfl) (by kernel_rfl) (by kernel_rfl) (fun o ho => ?_) (fun o ho => ?_)
      · simp only [List.getElem?_toArray, List.getElem?_cons_zero, List.getElem?_cons_succ, Option.some.injEq] at ho; subst ho
        refine ⟨by kernel_rfl, fun wn hl K hK => ?_⟩
        have HR := Lib.hid (HR.out.later hl); have HB := Lib.hid (below_on HB.out hl); clear hl
        refine wp_value (by go_simp; try with_reducible rfl) ?_
        refine hK.out _ _ (Later.refl _) ?_
        clear hK K
        simp only [Act.put, List.setIfInBounds_toArray, List.set_cons_zero, List.set_cons_succ]
        refine late_one 8 (by kernel_rfl) (by kernel_rfl) (fun o ho => ?_)
        simp only [List.getElem?_toArray, List.getElem?_cons_zero, List.getElem?_cons_succ, Option.some.injEq] at ho; subst ho
        refine ⟨by kernel_rfl, fun wn hl K hK => ?_⟩
        have HR := Lib.hid (HR.out.later hl); have HB := Lib.hid (below_on HB.out hl); clear hl
        refine late_alloc rfl ?_; intro b3 wm N R
        have HD3 := Lib.hid (N.ne HR.out)
        have HG3 := Lib.hid (show w.heap.size ≤ b3 by have := HB.out.size; have := N.at_; omega)
        have hb := N.below
        have HRn := Lib.hid R
        clear N R
        refine hK.out _ _ hb ?_
        have HR := Lib.hid (HR.out.later hb); have HB := Lib.hid (below_on HB.out hb); clear hb
        have HR3 := HRn; clear HRn
        clear hK K
        simp only [Act.put, List.setIfInBounds_toArray, List.set_cons_zero, List.set_cons_succ]
        refine late_then 9 (by kernel_rfl) (by kernel_rfl) (fun o ho => ?_)
        simp only [List.getElem?_toArray, List.getElem?_cons_zero, List.getElem?_cons_succ, Option.some.injEq] at ho; subst ho
        refine ⟨by kernel_rfl, fun wn hl K hK => ?_⟩
        have HR := Lib.hid (HR.out.later hl); have HR3 := Lib.hid (HR3.out.later hl); have HB := Lib.hid (below_on HB.out hl); clear hl
        refine late_whole _ _ rfl b3 rfl _ (zeroP) rfl HR3.out ?_; intro wm U R
        have HR := Lib.hid (HR.out.apart U HD3.out)
        have HR3 := Lib.hid R; have HB := Lib.hid (HB.out.trans (U.below HG3.out)); clear U R
        refine hK.out _ _ ?_
        clear hK K
        simp only [Act.put, List.setIfInBounds_toArray, List.set_cons_zero, List.set_cons_succ]
        refine any_one 10 (by kernel_rfl) (by kernel_rfl) (fun o ho => ?_)
        simp only [List.getElem?_toArray, List.getElem?_cons_zero, List.getElem?_cons_succ, Option.some.injEq] at ho; subst ho
        refine ⟨by kernel_rfl, fun K hK => ?_⟩
        refine wp_value (by go_simp; try with_reducible rfl) ?_
        refine hK.out _ _ ?_
        clear hK K
        simp only [Act.put, List.setIfInBounds_toArray, List.set_cons_zero, List.set_cons_succ]
        refine any_end (by kernel_rfl) ?_
        exact hK9.out _ _ ⟨b3, rfl, HR.out, HR3.out, HB.out⟩
      · simp only [List.getElem?_toArray, List.getElem?_cons_zero, List.getElem?_cons_succ, Option.some.injEq] at ho; subst ho
        refine ⟨by kernel_rfl, fun wn hl K hK => ?_⟩
        have HR := Lib.hid (HR.out.later hl); have HB := Lib.hid (below_on HB.out hl); clear hl
        refine late_alloc rfl ?_; intro b3 wm N R
        have HD3 := Lib.hid (N.ne HR.out)
        have HG3 := Lib.hid (show w.heap.size ≤ b3 by have := HB.out.size; have := N.at_; omega)
        have hb := N.below
        have HRn := Lib.hid R
        clear N R
        refine hK.out _ _ hb ?_
        have HR := Lib.hid (HR.out.later hb); have HB := Lib.hid (below_on HB.out hb); clear hb
        have HR3 := HRn; clear HRn
        clear hK K
        simp only [Act.put, List.setIfInBounds_toArray, List.set_cons_zero, List.set_cons_succ]
        refine late_forkL 7 9 (by kernel_rfl) (by kernel_rfl) (by kernel_rfl) (fun o ho => ?_) (fun o ho => ?_)
        · simp only [List.getElem?_toArray, List.getElem?_cons_zero, List.getElem?_cons_succ, Option.some.injEq] at ho; subst ho
          refine ⟨by kernel_rfl, fun wn hl K hK => ?_⟩
          have HR := Lib.hid (HR.out.later hl); have HR3 := Lib.hid (HR3.out.later hl); have HB := Lib.hid (below_on HB.out hl); clear hl
          refine wp_value (by go_simp; try with_reducible rfl) ?_
          refine hK.out _ _ (Later.refl _) ?_
          clear hK K
          simp only [Act.put, List.setIfInBounds_toArray, List.set_cons_zero, List.set_cons_succ]
          refine late_then 9 (by kernel_rfl) (by kernel_rfl) (fun o ho => ?_)
          simp only [List.getElem?_toArray, List.getElem?_cons_zero, List.getElem?_cons_succ, Option.some.injEq] at ho; subst ho
          refine ⟨by kernel_rfl, fun wn hl K hK => ?_⟩
          have HR := Lib.hid (HR.out.later hl); have HR3 := Lib.hid (HR3.out.later hl); have HB := Lib.hid (below_on HB.out hl); clear hl
          refine late_whole _ _ rfl b3 rfl _ (zeroP) rfl HR3.out ?_; intro wm U R
          have HR := Lib.hid (HR.out.apart U HD3.out)
          have HR3 := Lib.hid R; have HB := Lib.hid (HB.out.trans (U.below HG3.out)); clear U R
          refine hK.out _ _ ?_
          clear hK K
          simp only [Act.put, List.setIfInBounds_toArray, List.set_cons_zero, List.set_cons_succ]
          refine any_one 10 (by kernel_rfl) (by kernel_rfl) (fun o ho => ?_)
          simp only [List.getElem?_toArray, List.getElem?_cons_zero, List.getElem?_cons_succ, Option.some.injEq] at ho; subst ho
          refine ⟨by kernel_rfl, fun K hK => ?_⟩
          refine wp_value (by go_simp; try with_reducible rfl) ?_
          refine hK.out _ _ ?_
          clear hK K
          simp only [Act.put, List.setIfInBounds_toArray, List.set_cons_zero, List.set_cons_succ]
          refine any_end (by kernel_rfl) ?_
          exact hK9.out _ _ ⟨b3, rfl, HR.out, HR3.out, HB.out⟩
        · simp only [List.getElem?_toArray, List.getElem?_cons_zero, List.getElem?_cons_succ, Option.some.injEq] at ho; subst ho
          refine ⟨by kernel_rfl, fun wn hl K hK => ?_⟩
          have HR := Lib.hid (HR.out.later hl); have HR3 := Lib.hid (HR3.out.later hl); have HB := Lib.hid (below_on HB.out hl); clear hl
          refine late_whole _ _ rfl b3 rfl _ (zeroP) rfl HR3.out ?_; intro wm U R
          have HR := Lib.hid (HR.out.apart U HD3.out)
          have HR3 := Lib.hid R; have HB := Lib.hid (HB.out.trans (U.below HG3.out)); clear U R
          refine hK.out _ _ ?_
          clear hK K
          simp only [Act.put, List.setIfInBounds_toArray, List.set_cons_zero, List.set_cons_succ]
          refine any_one 7 (by kernel_rfl) (by kernel_rfl) (fun o ho => ?_)
          simp only [List.getElem?_toArray, List.getElem?_cons_zero, List.getElem?_cons_succ, Option.some.injEq] at ho; subst ho
          refine ⟨by kernel_rfl, fun K hK => ?_⟩
          refine wp_value (by go_simp; try with_reducible rfl) ?_
          refine hK.out _ _ ?_
          clear hK K
          simp only [Act.put, List.setIfInBounds_toArray, List.set_cons_zero, List.set_cons_succ]
          refine any_one 10 (by kernel_rfl) (by kernel_rfl) (fun o ho => ?_)
          simp only [List.getElem?_toArray, List.getElem?_cons_zero, List.getElem?_cons_succ, Option.some.injEq] at ho; subst ho
          refine ⟨by kernel_rfl, fun K hK => ?_⟩
          refine wp_value (by go_simp; try with_reducible rfl) ?_
          refine hK.out _ _ ?_
          clear hK K
          simp only [Act.put, List.setIfInBounds_toArray, List.set_cons_zero, List.set_cons_succ]
          refine any_end (by kernel_rfl) ?_
          exact hK9.out _ _ ⟨b3, rfl, HR.out, HR3.out, HB.out⟩
    · simp only [List.getElem?_toArray, List.getElem?_cons_zero, List.getElem?_cons_succ, Option.some.injEq] at ho; subst ho
      refine ⟨by kernel_rfl, fun wn hl K hK => ?_⟩
      have HR := Lib.hid (HR.out.later hl); have HB := Lib.hid (below_on HB.out hl); clear hl
      refine late_alloc rfl ?_; intro b3 wm N R
      have HD3 := Lib.hid (N.ne HR.out)
      have HG3 := Lib.hid (show w.heap.size ≤ b3 by have := HB.out.size; have := N.at_; omega)
      have hb := N.below
      have HRn := Lib.hid R
      clear N R
      refine hK.out _ _ hb ?_
      have HR := Lib.hid (HR.out.later hb); have HB := Lib.hid (below_on HB.out hb); clear hb
      have HR3 := HRn; clear HRn
      clear hK K
      simp only [Act.put, List.setIfInBounds_toArray, List.set_cons_zero, List.set_cons_succ]
      refine late_one 4 (by kernel_rfl) (by kernel_rfl) (fun o ho => ?_)
      simp only [List.getElem?_toArray, List.getElem?_cons_zero, List.getElem?_cons_succ, Option.some.injEq] at ho; subst ho
      refine ⟨by kernel_rfl, fun wn hl K hK => ?_⟩
      have HR := Lib.hid (HR.out.later hl); have HR3 := Lib.hid (HR3.out.later hl); have HB := Lib.hid (below_on HB.out hl); clear hl
      refine wp_enter _ _ (by go_simp; exact ⟨rfl, rfl⟩) ?_
      rw [← HZ.out]
      refine (fparse_any (p 0) s1 _ HF.out.var (HM.out.on HB.out) (HT.out.on HB.out) (HC.out.on HB.out) (HV.out.on HB.out) (HP.out.on HB.out)).mono ?_; rintro e wm ⟨rfl, hb⟩; refine ⟨_, rfl, ?_⟩
      rw [HO3.out, N3.out, RdO, HZ.out]
      refine hK.out _ _ hb ?_
      have HR := Lib.hid (HR.out.later hb); have HR3 := Lib.hid (HR3.out.later hb); have HB := Lib.hid (below_on HB.out hb); clear hb
      clear hK K
      simp only [Act.put, List.setIfInBounds_toArray, List.set_cons_zero, List.set_cons_succ]
      refine late_take 5 (by kernel_rfl) (by kernel_rfl) (by kernel_rfl) (by kernel_rfl) (by kernel_rfl) (fun _ _ d _ _ h => by cases d <;> exact h) (fun o ho => ?_)
      simp only [List.getElem?_toArray, List.getElem?_cons_zero, List.getElem?_cons_succ, Option.some.injEq] at ho; subst ho
      apply Exists.intro
      refine ⟨Or.inl ⟨by kernel_rfl, fun w' hl => Or.inl ?_⟩, ?_⟩
      · (go_simp; try with_reducible rfl)
      simp only [Act.put, List.setIfInBounds_toArray, List.set_cons_zero, List.set_cons_succ]
      refine late_take 6 (by kernel_rfl) (by kernel_rfl) (by kernel_rfl) (by kernel_rfl) (by kernel_rfl) (fun _ _ d _ _ h => by cases d <;> exact h) (fun o ho => ?_)
      simp only [List.getElem?_toArray, List.getElem?_cons_zero, List.getElem?_cons_succ, Option.some.injEq] at ho; subst ho
      apply Exists.intro
      refine ⟨Or.inl ⟨by kernel_rfl, fun w' hl => Or.inl ?_⟩, ?_⟩
      · (go_simp; try with_reducible rfl)
      simp only [Act.put, List.setIfInBounds_toArray, List.set_cons_zero, List.set_cons_succ]
      refine late_forkL 7 9 (by kernel_rfl) (by kernel_rfl) (by kernel_rfl) (fun o ho => ?_) (fun o ho => ?_)
      · simp only [List.getElem?_toArray, List.getElem?_cons_zero, List.getElem?_cons_succ, Option.some.injEq] at ho; subst ho
        refine ⟨by kernel_rfl, fun wn hl K hK => ?_⟩
        have HR := Lib.hid (HR.out.later hl); have HR3 := Lib.hid (HR3.out.later hl); have HB := Lib.hid (below_on HB.out hl); clear hl
        refine wp_value (by go_simp; try with_reducible rfl) ?_
        refine hK.out _ _ (Later.refl _) ?_
        clear hK K
        simp only [Act.put, List.setIfInBounds_toArray, List.set_cons_zero, List.set_cons_succ]
        refine late_then 9 (by kernel_rfl) (by kernel_rfl) (fun o ho => ?_)
        simp only [List.getElem?_toArray, List.getElem?_cons_zero, List.getElem?_cons_succ, Option.some.injEq] at ho; subst ho
        refine ⟨by kernel_rfl, fun wn hl K hK => ?_⟩
        have HR := Lib.hid (HR.out.later hl); have HR3 := Lib.hid (HR3.out.later hl); have HB := Lib.hid (below_on HB.out hl); clear hl
        refine late_whole _ _ rfl b3 rfl _ (zeroP) rfl HR3.out ?_; intro wm U R
        have HR := Lib.hid (HR.out.apart U HD3.out)
        have HR3 := Lib.hid R; have HB := Lib.hid (HB.out.trans (U.below HG3.out)); clear U R
        refine hK.out _ _ ?_
        clear hK K
        simp only [Act.put, List.setIfInBounds_toArray, List.set_cons_zero, List.set_cons_succ]
        refine any_one 10 (by kernel_rfl) (by kernel_rfl) (fun o ho => ?_)
        simp only [List.getElem?_toArray, List.getElem?_cons_zero, List.getElem?_cons_succ, Option.some.injEq] at ho; subst ho
        refine ⟨by kernel_rfl, fun K hK => ?_⟩
        refine wp_value (by go_simp; try with_reducible rfl) ?_
        refine hK.out _ _ ?_
        clear hK K
        simp only [Act.put, List.setIfInBounds_toArray, List.set_cons_zero, List.set_cons_succ]
        refine any_end (by kernel_rfl) ?_
        exact hK9.out _ _ ⟨b3, rfl, HR.out, HR3.out, HB.out⟩
      · simp only [List.getElem?_toArray, List.getElem?_cons_zero, List.getElem?_cons_succ, Option.some.injEq] at ho; subst ho
        refine ⟨by kernel_rfl, fun wn hl K hK => ?_⟩
        have HR := Lib.hid (HR.out.later hl); have HR3 := Lib.hid (HR3.out.later hl); have HB := Lib.hid (below_on HB.out hl); clear hl
        refine late_whole _ _ rfl b3 rfl _ (zeroP) rfl HR3.out ?_; intro wm U R
        have HR := Lib.hid (HR.out.apart U HD3.out)
        have HR3 := Lib.hid R; have HB := Lib.hid (HB.out.trans (U.below HG3.out)); clear U R
        refine hK.out _ _ ?_
        clear hK K
        simp only [Act.put, List.setIfInBounds_toArray, List.set_cons_zero, List.set_cons_succ]
        refine any_one 7 (by kernel_rfl) (by kernel_rfl) (fun o ho => ?_)
        simp only [List.getElem?_toArray, List.getElem?_cons_zero, List.getElem?_cons_succ, Option.some.injEq] at ho; subst ho
        refine ⟨by kernel_rfl, fun K hK => ?_⟩
        refine wp_value (by go_simp; try with_reducible rfl) ?_
        refine hK.out _ _ ?_
        clear hK K
        simp only [Act.put, List.setIfInBounds_toArray, List.set_cons_zero, List.set_cons_succ]
        refine any_one 10 (by kernel_rfl) (by kernel_rfl) (fun o ho => ?_)
        simp only [List.getElem?_toArray, List.getElem?_cons_zero, List.getElem?_cons_succ, Option.some.injEq] at ho; subst ho
        refine ⟨by kernel_rfl, fun K hK => ?_⟩
        refine wp_value (by go_simp; try with_reducible rfl) ?_
        refine hK.out _ _ ?_
        clear hK K
        simp only [Act.put, List.setIfInBounds_toArray, List.set_cons_zero, List.set_cons_succ]
        refine any_end (by kernel_rfl) ?_
        exact hK9.out _ _ ⟨b3, rfl, HR.out, HR3.out, HB.out⟩
  case cutB =>
    rintro a wn ⟨b3, rfl, hr, hr3, hb⟩
    have HR := Lib.hid hr
    have HR3 := Lib.hid hr3
    have HB := Lib.hid hb
    clear hr hr3 hb hc0
    go_wp2_with fail
    refine late_begin 17 (by kernel_rfl) ?_
    refine late_take 0 (by kernel_rfl) (by kernel_rfl) (by kernel_rfl) (by kernel_rfl) (by kernel_rfl) (fun _ _ d _ _ h => by cases d <;> exact h) (fun o ho => ?_)
    simp only [List.getElem?_toArray, List.getElem?_cons_zero, List.getElem?_cons_succ, Option.some.injEq] at ho; subst ho
    apply Exists.intro
    refine ⟨Or.inl ⟨by kernel_rfl, fun w' hl => Or.inl ?_⟩, ?_⟩
    · (go_simp; try with_reducible rfl)
    simp only [Act.put, List.setIfInBounds_toArray, List.set_cons_zero, List.set_cons_succ]
    refine late_take 1 (by kernel_rfl) (by kernel_rfl) (by kernel_rfl) (by kernel_rfl) (by kernel_rfl) (fun _ _ d _ _ h => by cases d <;> exact h) (fun o ho => ?_)
    simp only [List.getElem?_toArray, List.getElem?_cons_zero, List.getElem?_cons_succ, Option.some.injEq] at ho; subst ho
    apply Exists.intro
    refine ⟨Or.inl ⟨by kernel_rfl, fun w' hl => Or.inl ?_⟩, ?_⟩
    · (go_simp; try with_reducible rfl)
    simp only [Act.put, List.setIfInBounds_toArray, List.set_cons_zero, List.set_cons_succ]
    refine late_take 2 (by kernel_rfl) (by kernel_rfl) (by kernel_rfl) (by kernel_rfl) (by kernel_rfl) (fun _ _ d _ _ h => by cases d <;> exact h) (fun o ho => ?_)
    simp only [List.getElem?_toArray, List.getElem?_cons_zero, List.getElem?_cons_succ, Option.some.injEq] at ho; subst ho
    apply Exists.intro
    refine ⟨Or.inl ⟨by kernel_rfl, fun w' hl => Or.inl ?_⟩, ?_⟩
    · (go_simp; try with_reducible rfl)
    simp only [Act.put, List.setIfInBounds_toArray, List.set_cons_zero, List.set_cons_succ]
    refine late_take 3 (by kernel_rfl) (by kernel_rfl) (by kernel_rfl) (by kernel_rfl) (by kernel_rfl) (fun _ _ d _ _ h => by cases d <;> exact h) (fun o ho => ?_)
    simp only [List.getElem?_toArray, List.getElem?_cons_zero, List.getElem?_cons_succ, Option.some.injEq] at ho; subst ho
    apply Exists.intro
    refine ⟨Or.inl ⟨by kernel_rfl, fun w' hl => Or.inl ?_⟩, ?_⟩
    · (go_simp; try with_reducible rfl)
    simp only [Act.put, List.setIfInBounds_toArray, List.set_cons_zero, List.set_cons_succ]
    refine late_take 4 (by kernel_rfl) (by kernel_rfl) (by kernel_rfl) (by kernel_rfl) (by kernel_rfl) (fun _ _ d _ _ h => by cases d <;> exact h) (fun o ho => ?_)
    simp only [List.getElem?_toArray, List.getElem?_cons_zero, List.getElem?_cons_succ, Option.some.injEq] at ho; subst ho
    apply Exists.intro
    refine ⟨Or.inl ⟨by kernel_rfl, fun w' hl => Or.inl ?_⟩, ?_⟩
    · (go_simp; try with_reducible rfl)
    simp only [Act.put, List.setIfInBounds_toArray, List.set_cons_zero, List.set_cons_succ]
    refine late_take 5 (by kernel_rfl) (by kernel_rfl) (by kernel_rfl) (by kernel_rfl) (by kernel_rfl) (fun _ _ d _ _ h => by cases d <;> exact h) (fun o ho => ?_)
    simp only [List.getElem?_toArray, List.getElem?_cons_zero, List.getElem?_cons_succ, Option.some.injEq] at ho; subst ho
    apply Exists.intro
    refine ⟨Or.inl ⟨by kernel_rfl, fun w' hl => Or.inl ?_⟩, ?_⟩
    · (go_simp; try with_reducible rfl)
    simp only [Act.put, List.setIfInBounds_toArray, List.set_cons_zero, List.set_cons_succ]
    refine late_take 6 (by kernel_rfl) (by kernel_rfl) (by kernel_rfl) (by kernel_rfl) (by kernel_rfl) (fun _ _ d _ _ h => by cases d <;> exact h) (fun o ho => ?_)
    simp only [List.getElem?_toArray, List.getElem?_cons_zero, List.getElem?_cons_succ, Option.some.injEq] at ho; subst ho
    apply Exists.intro
    refine ⟨Or.inl ⟨by kernel_rfl, fun w' hl => Or.inl ?_⟩, ?_⟩
    · (go_simp; try with_reducible rfl)
    simp only [Act.put, List.setIfInBounds_toArray, List.set_cons_zero, List.set_cons_succ]
    refine late_take 7 (by kernel_rfl) (by kernel_rfl) (by kernel_rfl) (by kernel_rfl) (by kernel_rfl) (fun _ _ d _ _ h => by cases d <;> exact h) (fun o ho => ?_)
    simp only [List.getElem?_toArray, List.getElem?_cons_zero, List.getElem?_cons_succ, Option.some.injEq] at ho; subst ho
    apply Exists.intro
    refine ⟨Or.inl ⟨by kernel_rfl, fun w' hl => Or.inl ?_⟩, ?_⟩
    · (go_simp; try with_reducible rfl)
    simp only [Act.put, List.setIfInBounds_toArray, List.set_cons_zero, List.set_cons_succ]
    refine late_take 8 (by kernel_rfl) (by kernel_rfl) (by kernel_rfl) (by kernel_rfl) (by kernel_rfl) (fun _ _ d _ _ h => by cases d <;> exact h) (fun o ho => ?_)
    simp only [List.getElem?_toArray, List.getElem?_cons_zero, List.getElem?_cons_succ, Option.some.injEq] at ho; subst ho
    apply Exists.intro
    refine ⟨Or.inl ⟨by kernel_rfl, fun w' hl => Or.inl ?_⟩, ?_⟩
    · (go_simp; try with_reducible rfl)
    simp only [Act.put, List.setIfInBounds_toArray, List.set_cons_zero, List.set_cons_succ]
    refine late_take 9 (by kernel_rfl) (by kernel_rfl) (by kernel_rfl) (by kernel_rfl) (by kernel_rfl) (fun _ _ d _ _ h => by cases d <;> exact h) (fun o ho => ?_)
    simp only [List.getElem?_toArray, List.getElem?_cons_zero, List.getElem?_cons_succ, Option.some.injEq] at ho; subst ho
    refine ⟨_, Or.inr ⟨by kernel_rfl, rfl⟩, ?_⟩
    simp only [Act.put, List.setIfInBounds_toArray, List.set_cons_zero, List.set_cons_succ]
    refine late_take 10 (by kernel_rfl) (by kernel_rfl) (by kernel_rfl) (by kernel_rfl) (by kernel_rfl) (fun _ _ d _ _ h => by cases d <;> exact h) (fun o ho => ?_)
    simp only [List.getElem?_toArray, List.getElem?_cons_zero, List.getElem?_cons_succ, Option.some.injEq] at ho; subst ho
    refine ⟨_, Or.inr ⟨by kernel_rfl, rfl⟩, ?_⟩
    simp only [Act.put, List.setIfInBounds_toArray, List.set_cons_zero, List.set_cons_succ]
    refine late_take 11 (by kernel_rfl) (by kernel_rfl) (by kernel_rfl) (by kernel_rfl) (by kernel_rfl) (fun _ _ d _ _ h => by cases d <;> exact h) (fun o ho => ?_)
    simp only [List.getElem?_toArray, List.getElem?_cons_zero, List.getElem?_cons_succ, Option.some.injEq] at ho; subst ho
    refine ⟨_, Or.inr ⟨by kernel_rfl, rfl⟩, ?_⟩
    simp only [Act.put, List.setIfInBounds_toArray, List.set_cons_zero, List.set_cons_succ]
    refine late_take 12 (by kernel_rfl) (by kernel_rfl) (by kernel_rfl) (by kernel_rfl) (by kernel_rfl) (fun _ _ d _ _ h => by cases d <;> exact h) (fun o ho => ?_)
    simp only [List.getElem?_toArray, List.getElem?_cons_zero, List.getElem?_cons_succ, Option.some.injEq] at ho; subst ho
    refine ⟨_, Or.inr ⟨by kernel_rfl, rfl⟩, ?_⟩
    simp only [Act.put, List.setIfInBounds_toArray, List.set_cons_zero, List.set_cons_succ]
    refine late_take 13 (by kernel_rfl) (by kernel_rfl) (by kernel_rfl) (by kernel_rfl) (by kernel_rfl) (fun _ _ d _ _ h => by cases d <;> exact h) (fun o ho => ?_)
    simp only [List.getElem?_toArray, List.getElem?_cons_zero, List.getElem?_cons_succ, Option.some.injEq] at ho; subst ho
    refine ⟨_, Or.inr ⟨by kernel_rfl, rfl⟩, ?_⟩
    simp only [Act.put, List.setIfInBounds_toArray, List.set_cons_zero, List.set_cons_succ]
    refine late_take 14 (by kernel_rfl) (by kernel_rfl) (by kernel_rfl) (by kernel_rfl) (by kernel_rfl) (fun _ _ d _ _ h => by cases d <;> exact h) (fun o ho => ?_)
    simp only [List.getElem?_toArray, List.getElem?_cons_zero, List.getElem?_cons_succ, Option.some.injEq] at ho; subst ho
    apply Exists.intro
    refine ⟨Or.inl ⟨by kernel_rfl, fun w' hl => Or.inl ?_⟩, ?_⟩
    · (go_simp; try with_reducible rfl)
    simp only [Act.put, List.setIfInBounds_toArray, List.set_cons_zero, List.set_cons_succ]
    refine late_take 15 (by kernel_rfl) (by kernel_rfl) (by kernel_rfl) (by kernel_rfl) (by kernel_rfl) (fun _ _ d _ _ h => by cases d <;> exact h) (fun o ho => ?_)
    simp only [List.getElem?_toArray, List.getElem?_cons_zero, List.getElem?_cons_succ, Option.some.injEq] at ho; subst ho
    apply Exists.intro
    refine ⟨Or.inl ⟨by kernel_rfl, fun w' hl => Or.inl ?_⟩, ?_⟩
    · (go_simp; try with_reducible rfl)
    simp only [Act.put, List.setIfInBounds_toArray, List.set_cons_zero, List.set_cons_succ]
    refine late_take 16 (by kernel_rfl) (by kernel_rfl) (by kernel_rfl) (by kernel_rfl) (by kernel_rfl) (fun _ _ d _ _ h => by cases d <;> exact h) (fun o ho => ?_)
    simp only [List.getElem?_toArray, List.getElem?_cons_zero, List.getElem?_cons_succ, Option.some.injEq] at ho; subst ho
    apply Exists.intro
    refine ⟨Or.inl ⟨by kernel_rfl, fun w' hl => Or.inl ?_⟩, ?_⟩
    · (go_simp; try with_reducible rfl)
    simp only [Act.put, List.setIfInBounds_toArray, List.set_cons_zero, List.set_cons_succ]
    refine late_end (by kernel_rfl) (fun wn hl => ?_)
    have HR := Lib.hid (HR.out.later hl); have HR3 := Lib.hid (HR3.out.later hl); have HB := Lib.hid (below_on HB.out hl); clear hl
    go_wp2_with fail
    exact bodyPost_ret (results_tmp rfl _ _ _) rfl ⟨by simp, HB.out⟩
set_option maxRecDepth 100000 in
set_option maxHeartbeats 4000000 in
theorem bad_0_11 (p : Nat → Int) (v b : Int) (s : List UInt8) (x0 : UInt8) (s1 : List UInt8) (hv : 0 ≤ v ∧ v ≤ 255) (h9 : v < 9) (hb : 0 ≤ b ∧ b ≤ 255) (w : World) (hF : FitF p) (hs : fenL p = s) (hs1 : s = x0 :: s1) (h0 : p 0 < 9) (hl : (s ++ [byZ b]).length ≤ 200) (q2 : Nat → Int) (o2 : parO (p 0) (s ++ [byZ b]) = some q2) (q3 : Nat → Int) (o3 : parO (p 0) s1 = some q3) (hM : TabMx w) (hT : TabErr w) (hC : TabCorn w) (hV : TabVar w) (hP : TabPow w) (hK : TabKn w) :
    Calls Tryz.prog 8 #[.agg (posA p), .int .u8 v, .int .u8 b] w (BoL true w) := by
  have HM := Lib.hid hM
  have HT := Lib.hid hT
  have HC := Lib.hid hC
  have HV := Lib.hid hV
  have HP := Lib.hid hP
  have HK := Lib.hid hK
  have HF := Lib.hid hF
  have HVr := Lib.hid hv
  obtain ⟨q1, hq1⟩ : ∃ q, pqO (parO v s) = q := ⟨_, rfl⟩
  obtain ⟨n1, hn1⟩ : ∃ n, pnO (parN v s) (parO v s) = n := ⟨_, rfl⟩
  have HO1 := Lib.hid (show RdO (parN v s) (parO v s) = #[.agg (posA q1), .int .i64 n1] by rw [RdO_eq, hq1, hn1])
  have hsl := fen_short hs
  have hd : 48 ≤ b ∧ b ≤ 57 := by
    have h1 := rdAll_text (parO_some o2).2.2
    have h2 := fenL_last h1
    have h3 := byZ_u8 hb.1 hb.2
    omega
  have HO2 := Lib.hid o2
  have h3r := (parO_some o3).2
  have HFq := Lib.hid (rdAll_inv hF.var (Nat.le_trans h3r.1 (by decide)) h3r.2).1
  have HTx := Lib.hid (rdAll_text h3r.2)
  clear h3r
  have HO3 := Lib.hid o3
  obtain ⟨y, hy⟩ : ∃ y, bz s = y := ⟨_, rfl⟩
  obtain ⟨t, ht⟩ : ∃ t, y ++ bz [byZ b] = t := ⟨_, rfl⟩
  have hys : y.size = s.length := by rw [← hy, bz_size]
  have hye : y.toList.isEmpty = false := by rw [← hy, bz_toList, hs1]; rfl
  have HS := Lib.hid (show bz (fenL p) = y by rw [hs]; exact hy)
  have HY := Lib.hid hy
  have HTt := Lib.hid ht
  have HTb := Lib.hid (show t = bz (s ++ [byZ b]) by rw [← ht, ← hy, bz_app])
  have hts : t.size = (s ++ [byZ b]).length := by rw [HTb.out, bz_size]
  have gl : decide ((200 : Int) < (t.size : Int)) = false := decide_eq_false (by omega)
  have hcv := conv1
  have hb1 : (bz [byZ b]).size = 1 := bz_size _
  have k1 := cat_ok (a := y) (b := bz [byZ b]) (by omega) (by omega)
  have rt := tail_of x0 s1
  rw [show bz (x0 :: s1) = y by rw [← hs1]; exact hy] at rt
  have l1 : (1 : Int) ≤ (y.size : Int) := by rw [hys, hs1, List.length_cons]; omega
  obtain ⟨z, hz⟩ : ∃ z, bz s1 = z := ⟨_, rfl⟩
  have HZ := Lib.hid hz
  rw [hz] at rt
  have HRt := Lib.hid rt
  have HTz := Lib.hid (show bz (fenL q3) = z by rw [HTx.out]; exact hz)
  obtain ⟨hd0, hd1⟩ := hd
  clear hM hT hC hV hP hK hF hs hs1 hy ht hys hts hl hsl hb1 hq1
  clear h0 hv o2 o3 hz
  clear hn1
  obtain ⟨b0', b255⟩ := hb
  go_enter Tryz.func8, Tryz.ntmps8
  go_wp2_with (first
    | (refine step_box rfl _ rfl p rfl ?_; intro b0 w1 N R; have HG0 := Lib.hid (show w.heap.size ≤ b0 from Nat.le_of_eq N.at_.symm); have HB := Lib.hid N.below; have HR := Lib.hid R; clear N R)
    | (go_at_call 11; refine (fawake_any _ (HM.out.on HB.out) (HT.out.on HB.out) (HC.out.on HB.out) (HV.out.on HB.out) (HP.out.on HB.out) (HK.out.on HB.out)).mono ?_; rintro e w2 ⟨rfl, hb⟩; have HR := Lib.hid (HR.out.later hb); have HB := Lib.hid (HB.out.trans (hb.mono HB.out.size)); clear hb)
    | (refine step_load rfl _ rfl b0 rfl p ?_ ?_; exact HR.out)
    | (go_at_call 12; refine (print_any p _ HF.out (HV.out.on HB.out) (HC.out.on HB.out) (HP.out.on HB.out)).mono ?_; rintro e w3 ⟨rfl, hb⟩; rw [HS.out]; have HR := Lib.hid (HR.out.later hb); have HB := Lib.hid (HB.out.trans (hb.mono HB.out.size)); clear hb))
  rw [← HY.out]
  refine (fparse_any v s _ HVr.out (HM.out.on HB.out) (HT.out.on HB.out) (HC.out.on HB.out) (HV.out.on HB.out) (HP.out.on HB.out)).mono ?_; rintro e w4 ⟨rfl, hb⟩; rw [HO1.out, HY.out]; have HR := Lib.hid (HR.out.later hb); have HB := Lib.hid (HB.out.trans (hb.mono HB.out.size)); clear hb
  go_wp2_with (first
    | (refine step_alloc rfl rfl ?_; intro b1 w5 N R; have HG1 := Lib.hid (show w.heap.size ≤ b1 by rw [N.at_]; exact HB.out.size); have HD1 := Lib.hid (show b0 ≠ b1 by rw [N.at_]; exact Nat.ne_of_lt HR.out.lt); have HR := Lib.hid (HR.out.later N.below); have HR1 := Lib.hid R; have HB := Lib.hid (HB.out.trans (N.below.mono HB.out.size)); clear N R)
    | (refine step_store rfl _ _ rfl b1 rfl zeroP q1 rfl ?_ ?_; exact HR1.out; intro w6 U R; have HR1 := Lib.hid R; have HR := Lib.hid (HR.out.apart U HD1.out); have HB := Lib.hid (HB.out.trans (U.below HG1.out)); clear U R)
    | (refine step_get rfl 5 _ rfl b0 0 rfl Tryz.underlying5 rfl (.int .u8 (p 0)) ?_ ?_; (first | (rw [HR.out.cell 0 (by decide)]; rfl) | (rw [(HR.out.later (New.alloc _ _).below).cell 0 (by decide)]; rfl))))
  rw [HTt.out, HTb.out]
  have hN := fun (w : World) (o : Obj) => (New.alloc w o).below
  refine (fparse_any (p 0) (s ++ [byZ b]) _ HF.out.var (HM.out.on (HB.out.trans ((hN _ _).mono HB.out.size))) (HT.out.on (HB.out.trans ((hN _ _).mono HB.out.size))) (HC.out.on (HB.out.trans ((hN _ _).mono HB.out.size))) (HV.out.on (HB.out.trans ((hN _ _).mono HB.out.size))) (HP.out.on (HB.out.trans ((hN _ _).mono HB.out.size)))).mono ?_
  rintro e w7 ⟨rfl, hb⟩; rw [HO2.out, RdO, ← HTb.out]; have HR := Lib.hid ((HR.out.later (hN _ _)).later hb); have HB := Lib.hid ((HB.out.trans ((hN _ _).mono HB.out.size)).trans (hb.mono (HB.out.trans ((hN _ _).mono HB.out.size)).size)); clear hb
  go_wp2_with (first
    | (refine step_alloc rfl rfl ?_; intro b2 w5 N R; have HG2 := Lib.hid (show w.heap.size ≤ b2 by rw [N.at_]; exact HB.out.size); have HD2 := Lib.hid (show b0 ≠ b2 by rw [N.at_]; exact Nat.ne_of_lt HR.out.lt); have HR := Lib.hid (HR.out.later N.below); have HR2 := Lib.hid R; have HB := Lib.hid (HB.out.trans (N.below.mono HB.out.size)); clear N R)
    | (refine step_store rfl _ _ rfl b2 rfl zeroP q2 rfl ?_ ?_; exact HR2.out; intro w6 U R; have HR2 := Lib.hid R; have HR := Lib.hid (HR.out.apart U HD2.out); have HB := Lib.hid (HB.out.trans (U.below HG2.out)); have hc0 : w6.cell? ⟨b0, 0, none⟩ = some (.int .u8 (p 0)) := (by rw [HR.out.cell 0 (by decide)]; rfl); clear U R)
    )
  refine cut_here (fun F a w' => ∃ b3 : Nat, a = F b3 ∧ Row w' b0 p ∧ Row w' b3 q3 ∧ Below w.heap.size w w') ?_
  apply Exists.intro
  refine ⟨fun K9 hK9 => ?cutA, ?cutB⟩
  case cutA =>
    refine late_begin 9 (by kernel_rfl) ?_
    refine late_take 0 (by kernel_rfl) (by kernel_rfl) (by kernel_rfl) (by kernel_rfl) (by kernel_rfl) (fun _ _ d _ _ h => by cases d <;> exact h) (fun o ho => ?_)
    simp only [List.getElem?_toArray, List.getElem?_cons_zero, List.getElem?_cons_succ, Option.some.injEq] at ho; subst ho
    apply Exists.intro
    refine ⟨Or.inl ⟨by kernel_rfl, fun w' hl => Or.inl ?_⟩, ?_⟩
    · (go_simp; try with_reducible rfl)
    simp only [Act.put, List.setIfInBounds_toArray, List.set_cons_zero, List.set_cons_succ]
    refine late_take 1 (by kernel_rfl) (by kernel_rfl) (by kernel_rfl) (by kernel_rfl) (by kernel_rfl) (fun _ _ d _ _ h => by cases d <;> exact h) (fun o ho => ?_)
    simp only [List.getElem?_toArray, List.getElem?_cons_zero, List.getElem?_cons_succ, Option.some.injEq] at ho; subst ho
    refine ⟨.int .u8 (p 0), Or.inl ⟨by kernel_rfl, fun w' hl => Or.inl (run_get 5 _ rfl b0 0 rfl Tryz.underlying5 rfl (.int .u8 (p 0)) (by rw [(HR.out.later hl).cell 0 (by decide)]; rfl))⟩, ?_⟩
    simp only [Act.put, List.setIfInBounds_toArray, List.set_cons_zero, List.set_cons_succ]
    refine late_take 2 (by kernel_rfl) (by kernel_rfl) (by kernel_rfl) (by kernel_rfl) (by kernel_rfl) (fun _ _ d _ _ h => by cases d <;> exact h) (fun o ho => ?_)
    simp only [List.getElem?_toArray, List.getElem?_cons_zero, List.getElem?_cons_succ, Option.some.injEq] at ho; subst ho
    apply Exists.intro
    refine ⟨Or.inl ⟨by kernel_rfl, fun w' hl => Or.inl ?_⟩, ?_⟩
    · (go_simp; try with_reducible rfl)
    simp only [Act.put, List.setIfInBounds_toArray, List.set_cons_zero, List.set_cons_succ]
    refine late_take 3 (by kernel_rfl) (by kernel_rfl) (by kernel_rfl) (by kernel_rfl) (by kernel_rfl) (fun _ _ d _ _ h => by cases d <;> exact h) (fun o ho => ?_)
    simp only [List.getElem?_toArray, List.getElem?_cons_zero, List.getElem?_cons_succ, Option.some.injEq] at ho; subst ho
    refine ⟨.string z, Or.inl ⟨by kernel_rfl, fun w' hl => Or.inl ?_⟩, ?_⟩
    · (go_simp; try simp [HRt.out])
    simp only [Act.put, List.setIfInBounds_toArray, List.set_cons_zero, List.set_cons_succ]
    refine late_fork 4 8 (by kernel_rfl) (by kernel_rfl) (by kernel_rfl) (fun o ho => ?_) (fun o ho => ?_)
    · simp only [List.getElem?_toArray, List.getElem?_cons_zero, List.getElem?_cons_succ, Option.some.injEq] at ho; subst ho
      refine ⟨by kernel_rfl, fun wn hl K hK => ?_⟩
      have HR := Lib.hid (HR.out.later hl); have HB := Lib.hid (below_on HB.out hl); clear hl
      refine wp_enter _ _ (by go_simp; exact ⟨rfl, rfl⟩) ?_
      rw [← HZ.out]
      refine (fparse_any (p 0) s1 _ HF.out.var (HM.out.on HB.out) (HT.out.on HB.out) (HC.out.on HB.out) (HV.out.on HB.out) (HP.out.on HB.out)).mono ?_; rintro e wm ⟨rfl, hb⟩; refine ⟨_, rfl, ?_⟩
      rw [HO3.out, RdO, HZ.out]
      refine hK.out _ _ hb ?_
      have HR := Lib.hid (HR.out.later hb); have HB := Lib.hid (below_on HB.out hb); clear hb
      clear hK K
      simp only [Act.put, List.setIfInBounds_toArray, List.set_cons_zero, List.set_cons_succ]
      refine late_take 5 (by kernel_rfl) (by kernel_rfl) (by kernel_rfl) (by kernel_rfl) (by kernel_rfl) (fun _ _ d _ _ h => by cases d <;> exact h) (fun o ho => ?_)
      simp only [List.getElem?_toArray, List.getElem?_cons_zero, List.getElem?_cons_succ, Option.some.injEq] at ho; subst ho
      apply Exists.intro
      refine ⟨Or.inl ⟨by kernel_rfl, fun w' hl => Or.inl ?_⟩, ?_⟩
      · (go_simp; try with_reducible rfl)
      simp only [Act.put, List.setIfInBounds_toArray, List.set_cons_zero, List.set_cons_succ]
      refine late_take 6 (by kernel_rfl) (by kernel_rfl) (by kernel_rfl) (by kernel_rfl) (by kernel_rfl) (fun _ _ d _ _ h => by cases d <;> exact h) (fun o ho => ?_)
      simp only [List.getElem?_toArray, List.getElem?_cons_zero, List.getElem?_cons_succ, Option.some.injEq] at ho; subst ho
      apply Exists.intro
      refine ⟨Or.inl ⟨by kernel_rfl, fun w' hl => Or.inl ?_⟩, ?_⟩
      · (go_simp; try with_reducible rfl)
      simp only [Act.put, List.setIfInBounds_toArray, List.set_cons_zero, List.set_cons_succ]
      refine late_fork 7 8 (by kernel_rfl) (by kernel_rfl) (by kernel_rfl) (fun o ho => ?_) (fun o ho => ?_)
      · simp only [List.getElem?_toArray, List.getElem?_cons_zero, List.getElem?_cons_succ, Option.some.injEq] at ho; subst ho
        refine ⟨by kernel_rfl, fun wn hl K hK => ?_⟩
        have HR := Lib.hid (HR.out.later hl); have HB := Lib.hid (below_on HB.out hl); clear hl
        refine wp_value (by go_simp; try with_reducible rfl) ?_
        refine hK.out _ _ (Later.refl _) ?_
        clear hK K
        simp only [Act.put, List.setIfInBounds_toArray, List.set_cons_zero, List.set_cons_succ]
        refine late_one 8 (by kernel_rfl) (by kernel_rfl) (fun o ho => ?_)
        simp only [List.getElem?_toArray, List.getElem?_cons_zero, List.getElem?_cons_succ, Option.some.injEq] at ho; subst ho
        refine ⟨by kernel_rfl, fun wn hl K hK => ?_⟩
        have HR := Lib.hid (HR.out.later hl); have HB := Lib.hid (below_on HB.out hl); clear hl
        refine late_alloc rfl ?_; intro b3 wm N R
        have HD3 := Lib.hid (N.ne HR.out)
        have HG3 := Lib.hid (show w.heap.size ≤ b3 by have := HB.out.size; have := N.at_; omega)
        have hb := N.below
        have HRn := Lib.hid R
        clear N R
        refine hK.out _ _ hb ?_
        have HR := Lib.hid (HR.out.later hb); have HB := Lib.hid (below_on HB.out hb); clear hb
        have HR3 := HRn; clear HRn
        clear hK K
        simp only [Act.put, List.setIfInBounds_toArray, List.set_cons_zero, List.set_cons_succ]
        refine late_then 9 (by kernel_rfl) (by kernel_rfl) (fun o ho => ?_)
        simp only [List.getElem?_toArray, List.getElem?_cons_zero, List.getElem?_cons_succ, Option.some.injEq] at ho; subst ho
        refine ⟨by kernel_rfl, fun wn hl K hK => ?_⟩
        have HR := Lib.hid (HR.out.later hl); have HR3 := Lib.hid (HR3.out.later hl); have HB := Lib.hid (below_on HB.out hl); clear hl
        refine late_whole _ _ rfl b3 rfl _ (q3) rfl HR3.out ?_; intro wm U R
        have HR := Lib.hid (HR.out.apart U HD3.out)
        have HR3 := Lib.hid R; have HB := Lib.hid (HB.out.trans (U.below HG3.out)); clear U R
        refine hK.out _ _ ?_
        clear hK K
        simp only [Act.put, List.setIfInBounds_toArray, List.set_cons_zero, List.set_cons_succ]
        refine any_one 10 (by kernel_rfl) (by kernel_rfl) (fun o ho => ?_)
        simp only [List.getElem?_toArray, List.getElem?_cons_zero, List.getElem?_cons_succ, Option.some.injEq] at ho; subst ho
        refine ⟨by kernel_rfl, fun K hK => ?_⟩
        refine wp_value (by go_simp; try with_reducible rfl) ?_
        refine hK.out _ _ ?_
        clear hK K
        simp only [Act.put, List.setIfInBounds_toArray, List.set_cons_zero, List.set_cons_succ]
        refine any_end (by kernel_rfl) ?_
        exact hK9.out _ _ ⟨b3, rfl, HR.out, HR3.out, HB.out⟩
      · simp only [List.getElem?_toArray, List.getElem?_cons_zero, List.getElem?_cons_succ, Option.some.injEq] at ho; subst ho
        refine ⟨by kernel_rfl, fun wn hl K hK => ?_⟩
        have HR := Lib.hid (HR.out.later hl); have HB := Lib.hid (below_on HB.out hl); clear hl
        refine late_alloc rfl ?_; intro b3 wm N R
        have HD3 := Lib.hid (N.ne HR.out)
        have HG3 := Lib.hid (show w.heap.size ≤ b3 by have := HB.out.size; have := N.at_; omega)
        have hb := N.below
        have HRn := Lib.hid R
        clear N R
        refine hK.out _ _ hb ?_
        have HR := Lib.hid (HR.out.later hb); have HB := Lib.hid (below_on HB.out hb); clear hb
        have HR3 := HRn; clear HRn
        clear hK K
        simp only [Act.put, List.setIfInBounds_toArray, List.set_cons_zero, List.set_cons_succ]
        refine late_forkL 7 9 (by kernel_rfl) (by kernel_rfl) (by kernel_rfl) (fun o ho => ?_) (fun o ho => ?_)
        · simp only [List.getElem?_toArray, List.getElem?_cons_zero, List.getElem?_cons_succ, Option.some.injEq] at ho; subst ho
          refine ⟨by kernel_rfl, fun wn hl K hK => ?_⟩
          have HR := Lib.hid (HR.out.later hl); have HR3 := Lib.hid (HR3.out.later hl); have HB := Lib.hid (below_on HB.out hl); clear hl
          refine wp_value (by go_simp; try with_reducible rfl) ?_
          refine hK.out _ _ (Later.refl _) ?_
          clear hK K
          simp only [Act.put, List.setIfInBounds_toArray, List.set_cons_zero, List.set_cons_succ]
          refine late_then 9 (by kernel_rfl) (by kernel_rfl) (fun o ho => ?_)
          simp only [List.getElem?_toArray, List.getElem?_cons_zero, List.getElem?_cons_succ, Option.some.injEq] at ho; subst ho
          refine ⟨by kernel_rfl, fun wn hl K hK => ?_⟩
          have HR := Lib.hid (HR.out.later hl); have HR3 := Lib.hid (HR3.out.later hl); have HB := Lib.hid (below_on HB.out hl); clear hl
          refine late_whole _ _ rfl b3 rfl _ (q3) rfl HR3.out ?_; intro wm U R
          have HR := Lib.hid (HR.out.apart U HD3.out)
          have HR3 := Lib.hid R; have HB := Lib.hid (HB.out.trans (U.below HG3.out)); clear U R
          refine hK.out _ _ ?_
          clear hK K
          simp only [Act.put, List.setIfInBounds_toArray, List.set_cons_zero, List.set_cons_succ]
          refine any_one 10 (by kernel_rfl) (by kernel_rfl) (fun o ho => ?_)
          simp only [List.getElem?_toArray, List.getElem?_cons_zero, List.getElem?_cons_succ, Option.some.injEq] at ho; subst ho
          refine ⟨by kernel_rfl, fun K hK => ?_⟩
          refine wp_value (by go_simp; try with_reducible rfl) ?_
          refine hK.out _ _ ?_
          clear hK K
          simp only [Act.put, List.setIfInBounds_toArray, List.set_cons_zero, List.set_cons_succ]
          refine any_end (by kernel_rfl) ?_
          exact hK9.out _ _ ⟨b3, rfl, HR.out, HR3.out, HB.out⟩
        · simp only [List.getElem?_toArray, List.getElem?_cons_zero, List.getElem?_cons_succ, Option.some.injEq] at ho; subst ho
          refine ⟨by kernel_rfl, fun wn hl K hK => ?_⟩
          have HR := Lib.hid (HR.out.later hl); have HR3 := Lib.hid (HR3.out.later hl); have HB := Lib.hid (below_on HB.out hl); clear hl
          refine late_whole _ _ rfl b3 rfl _ (q3) rfl HR3.out ?_; intro wm U R
          have HR := Lib.hid (HR.out.apart U HD3.out)
          have HR3 := Lib.hid R; have HB := Lib.hid (HB.out.trans (U.below HG3.out)); clear U R
          refine hK.out _ _ ?_
          clear hK K
          simp only [Act.put, List.setIfInBounds_toArray, List.set_cons_zero, List.set_cons_succ]
          refine any_one 7 (by kernel_rfl) (by kernel_rfl) (fun o ho => ?_)
          simp only [List.getElem?_toArray, List.getElem?_cons_zero, List.getElem?_cons_succ, Option.some.injEq] at ho; subst ho
          refine ⟨by kernel_rfl, fun K hK => ?_⟩
          refine wp_value (by go_simp; try with_reducible rfl) ?_
          refine hK.out _ _ ?_
          clear hK K
          simp only [Act.put, List.setIfInBounds_toArray, List.set_cons_zero, List.set_cons_succ]
          refine any_one 10 (by kernel_rfl) (by kernel_rfl) (fun o ho => ?_)
          simp only [List.getElem?_toArray, List.getElem?_cons_zero, List.getElem?_cons_succ, Option.some.injEq] at ho; subst ho
          refine ⟨by kernel_rfl, fun K hK => ?_⟩
          refine wp_value (by go_simp; try with_reducible rfl) ?_
          refine hK.out _ _ ?_
          clear hK K
          simp only [Act.put, List.setIfInBounds_toArray, List.set_cons_zero, List.set_cons_succ]
          refine any_end (by kernel_rfl) ?_
          exact hK9.out _ _ ⟨b3, rfl, HR.out, HR3.out, HB.out⟩
    · simp only [List.getElem?_toArray, List.getElem?_cons_zero, List.getElem?_cons_succ, Option.some.injEq] at ho; subst ho
      refine ⟨by kernel_rfl, fun wn hl K hK => ?_⟩
      have HR := Lib.hid (HR.out.later hl); have HB := Lib.hid (below_on HB.out hl); clear hl
      refine late_alloc rfl ?_; intro b3 wm N R
      have HD3 := Lib.hid (N.ne HR.out)
      have HG3 := Lib.hid (show w.heap.size ≤ b3 by have := HB.out.size; have := N.at_; omega)
      have hb := N.below
      have HRn := Lib.hid R
      clear N R
      refine hK.out _ _ hb ?_
      have HR := Lib.hid (HR.out.later hb); have HB := Lib.hid (below_on HB.out hb); clear hb
      have HR3 := HRn; clear HRn
      clear hK K
      simp only [Act.put, List.setIfInBounds_toArray, List.set_cons_zero, List.set_cons_succ]
      refine late_one 4 (by kernel_rfl) (by kernel_rfl) (fun o ho => ?_)
      simp only [List.getElem?_toArray, List.getElem?_cons_zero, List.getElem?_cons_succ, Option.some.injEq] at ho; subst ho
      refine ⟨by kernel_rfl, fun wn hl K hK => ?_⟩
      have HR := Lib.hid (HR.out.later hl); have HR3 := Lib.hid (HR3.out.later hl); have HB := Lib.hid (below_on HB.out hl); clear hl
      refine wp_enter _ _ (by go_simp; exact ⟨rfl, rfl⟩) ?_
      rw [← HZ.out]
      refine (fparse_any (p 0) s1 _ HF.out.var (HM.out.on HB.out) (HT.out.on HB.out) (HC.out.on HB.out) (HV.out.on HB.out) (HP.out.on HB.out)).mono ?_; rintro e wm ⟨rfl, hb⟩; refine ⟨_, rfl, ?_⟩
      rw [HO3.out, RdO, HZ.out]
      refine hK.out _ _ hb ?_
      have HR := Lib.hid (HR.out.later hb); have HR3 := Lib.hid (HR3.out.later hb); have HB := Lib.hid (below_on HB.out hb); clear hb
      clear hK K
      simp only [Act.put, List.setIfInBounds_toArray, List.set_cons_zero, List.set_cons_succ]
      refine late_take 5 (by kernel_rfl) (by kernel_rfl) (by kernel_rfl) (by kernel_rfl) (by kernel_rfl) (fun _ _ d _ _ h => by cases d <;> exact h) (fun o ho => ?_)
      simp only [List.getElem?_toArray, List.getElem?_cons_zero, List.getElem?_cons_succ, Option.some.injEq] at ho; subst ho
      apply Exists.intro
      refine ⟨Or.inl ⟨by kernel_rfl, fun w' hl => Or.inl ?_⟩, ?_⟩
      · (go_simp; try with_reducible rfl)
      simp only [Act.put, List.setIfInBounds_toArray, List.set_cons_zero, List.set_cons_succ]
      refine late_take 6 (by kernel_rfl) (by kernel_rfl) (by kernel_rfl) (by kernel_rfl) (by kernel_rfl) (fun _ _ d _ _ h => by cases d <;> exact h) (fun o ho => ?_)
      simp only [List.getElem?_toArray, List.getElem?_cons_zero, List.getElem?_cons_succ, Option.some.injEq] at ho; subst ho
      apply Exists.intro
      refine ⟨Or.inl ⟨by kernel_rfl, fun w' hl => Or.inl ?_⟩, ?_⟩
      · (go_simp; try with_reducible rfl)
      simp only [Act.put, List.setIfInBounds_toArray, List.set_cons_zero, List.set_cons_succ]
      refine late_forkL 7 9 (by kernel_rfl) (by kernel_rfl) (by kernel_rfl) (fun o ho => ?_) (fun o ho => ?_)
      · simp only [List.getElem?_toArray, List.getElem?_cons_zero, List.getElem?_cons_succ, Option.some.injEq] at ho; subst ho
        refine ⟨by kernel_rfl, fun wn hl K hK => ?_⟩
        have HR := Lib.hid (HR.out.later hl); have HR3 := Lib.hid (HR3.out.later hl); have HB := Lib.hid (below_on HB.out hl); clear hl
        refine wp_value (by go_simp; try with_reducible rfl) ?_
        refine hK.out _ _ (Later.refl _) ?_
        clear hK K
        simp only [Act.put, List.setIfInBounds_toArray, List.set_cons_zero, List.set_cons_succ]
        refine late_then 9 (by kernel_rfl) (by kernel_rfl) (fun o ho => ?_)
        simp only [List.getElem?_toArray, List.getElem?_cons_zero, List.getElem?_cons_succ, Option.some.injEq] at ho; subst ho
        refine ⟨by kernel_rfl, fun wn hl K hK => ?_⟩
        have HR := Lib.hid (HR.out.later hl); have HR3 := Lib.hid (HR3.out.later hl); have HB := Lib.hid (below_on HB.out hl); clear hl
        refine late_whole _ _ rfl b3 rfl _ (q3) rfl HR3.out ?_; intro wm U R
        have HR := Lib.hid (HR.out.apart U HD3.out)
        have HR3 := Lib.hid R; have HB := Lib.hid (HB.out.trans (U.below HG3.out)); clear U R
        refine hK.out _ _ ?_
        clear hK K
        simp only [Act.put, List.setIfInBounds_toArray, List.set_cons_zero, List.set_cons_succ]
        refine any_one 10 (by kernel_rfl) (by kernel_rfl) (fun o ho => ?_)
        simp only [List.getElem?_toArray, List.getElem?_cons_zero, List.getElem?_cons_succ, Option.some.injEq] at ho; subst ho
        refine ⟨by kernel_rfl, fun K hK => ?_⟩
        refine wp_value (by go_simp; try with_reducible rfl) ?_
        refine hK.out _ _ ?_
        clear hK K
        simp only [Act.put, List.setIfInBounds_toArray, List.set_cons_zero, List.set_cons_succ]
        refine any_end (by kernel_rfl) ?_
        exact hK9.out _ _ ⟨b3, rfl, HR.out, HR3.out, HB.out⟩
      · simp only [List.getElem?_toArray, List.getElem?_cons_zero, List.getElem?_cons_succ, Option.some.injEq] at ho; subst ho
        refine ⟨by kernel_rfl, fun wn hl K hK => ?_⟩
        have HR := Lib.hid (HR.out.later hl); have HR3 := Lib.hid (HR3.out.later hl); have HB := Lib.hid (below_on HB.out hl); clear hl
        refine late_whole _ _ rfl b3 rfl _ (q3) rfl HR3.out ?_; intro wm U R
        have HR := Lib.hid (HR.out.apart U HD3.out)
        have HR3 := Lib.hid R; have HB := Lib.hid (HB.out.trans (U.below HG3.out)); clear U R
        refine hK.out _ _ ?_
        clear hK K
        simp only [Act.put, List.setIfInBounds_toArray, List.set_cons_zero, List.set_cons_succ]
        refine any_one 7 (by kernel_rfl) (by kernel_rfl) (fun o ho => ?_)
        simp only [List.getElem?_toArray, List.getElem?_cons_zero, List.getElem?_cons_succ, Option.some.injEq] at ho; subst ho
        refine ⟨by kernel_rfl, fun K hK => ?_⟩
        refine wp_value (by go_simp; try with_reducible rfl) ?_
        refine hK.out _ _ ?_
        clear hK K
        simp only [Act.put, List.setIfInBounds_toArray, List.set_cons_zero, List.set_cons_succ]
        refine any_one 10 (by kernel_rfl) (by kernel_rfl) (fun o ho => ?_)
        simp only [List.getElem?_toArray, List.getElem?_cons_zero, List.getElem?_cons_succ, Option.some.injEq] at ho; subst ho
        refine ⟨by kernel_rfl, fun K hK => ?_⟩
        refine wp_value (by go_simp; try with_reducible rfl) ?_
        refine hK.out _ _ ?_
        clear hK K
        simp only [Act.put, List.setIfInBounds_toArray, List.set_cons_zero, List.set_cons_succ]
        refine any_end (by kernel_rfl) ?_
        exact hK9.out _ _ ⟨b3, rfl, HR.out, HR3.out, HB.out⟩
  case cutB =>
    rintro a wn ⟨b3, rfl, hr, hr3, hb⟩
    have HR := Lib.hid hr
    have HR3 := Lib.hid hr3
    have HB := Lib.hid hb
    clear hr hr3 hb hc0
    go_wp2_with fail
    refine late_begin 17 (by kernel_rfl) ?_
    refine late_take 0 (by kernel_rfl) (by kernel_rfl) (by kernel_rfl) (by kernel_rfl) (by kernel_rfl) (fun _ _ d _ _ h => by cases d <;> exact h) (fun o ho => ?_)
    simp only [List.getElem?_toArray, List.getElem?_cons_zero, List.getElem?_cons_succ, Option.some.injEq] at ho; subst ho
    apply Exists.intro
    refine ⟨Or.inl ⟨by kernel_rfl, fun w' hl => Or.inl ?_⟩, ?_⟩
    · (go_simp; try with_reducible rfl)
    simp only [Act.put, List.setIfInBounds_toArray, List.set_cons_zero, List.set_cons_succ]
    refine late_take 1 (by kernel_rfl) (by kernel_rfl) (by kernel_rfl) (by kernel_rfl) (by kernel_rfl) (fun _ _ d _ _ h => by cases d <;> exact h) (fun o ho => ?_)
    simp only [List.getElem?_toArray, List.getElem?_cons_zero, List.getElem?_cons_succ, Option.some.injEq] at ho; subst ho
    apply Exists.intro
    refine ⟨Or.inl ⟨by kernel_rfl, fun w' hl => Or.inl ?_⟩, ?_⟩
    · (go_simp; try with_reducible rfl)
    simp only [Act.put, List.setIfInBounds_toArray, List.set_cons_zero, List.set_cons_succ]
    refine late_take 2 (by kernel_rfl) (by kernel_rfl) (by kernel_rfl) (by kernel_rfl) (by kernel_rfl) (fun _ _ d _ _ h => by cases d <;> exact h) (fun o ho => ?_)
    simp only [List.getElem?_toArray, List.getElem?_cons_zero, List.getElem?_cons_succ, Option.some.injEq] at ho; subst ho
    apply Exists.intro
    refine ⟨Or.inl ⟨by kernel_rfl, fun w' hl => Or.inl ?_⟩, ?_⟩
    · (go_simp; try with_reducible rfl)
    simp only [Act.put, List.setIfInBounds_toArray, List.set_cons_zero, List.set_cons_succ]
    refine late_take 3 (by kernel_rfl) (by kernel_rfl) (by kernel_rfl) (by kernel_rfl) (by kernel_rfl) (fun _ _ d _ _ h => by cases d <;> exact h) (fun o ho => ?_)
    simp only [List.getElem?_toArray, List.getElem?_cons_zero, List.getElem?_cons_succ, Option.some.injEq] at ho; subst ho
    apply Exists.intro
    refine ⟨Or.inl ⟨by kernel_rfl, fun w' hl => Or.inl ?_⟩, ?_⟩
    · (go_simp; try with_reducible rfl)
    simp only [Act.put, List.setIfInBounds_toArray, List.set_cons_zero, List.set_cons_succ]
    refine late_take 4 (by kernel_rfl) (by kernel_rfl) (by kernel_rfl) (by kernel_rfl) (by kernel_rfl) (fun _ _ d _ _ h => by cases d <;> exact h) (fun o ho => ?_)
    simp only [List.getElem?_toArray, List.getElem?_cons_zero, List.getElem?_cons_succ, Option.some.injEq] at ho; subst ho
    apply Exists.intro
    refine ⟨Or.inl ⟨by kernel_rfl, fun w' hl => Or.inl ?_⟩, ?_⟩
    · (go_simp; try with_reducible rfl)
    simp only [Act.put, List.setIfInBounds_toArray, List.set_cons_zero, List.set_cons_succ]
    refine late_take 5 (by kernel_rfl) (by kernel_rfl) (by kernel_rfl) (by kernel_rfl) (by kernel_rfl) (fun _ _ d _ _ h => by cases d <;> exact h) (fun o ho => ?_)
    simp only [List.getElem?_toArray, List.getElem?_cons_zero, List.getElem?_cons_succ, Option.some.injEq] at ho; subst ho
    apply Exists.intro
    refine ⟨Or.inl ⟨by kernel_rfl, fun w' hl => Or.inl ?_⟩, ?_⟩
    · (go_simp; try with_reducible rfl)
    simp only [Act.put, List.setIfInBounds_toArray, List.set_cons_zero, List.set_cons_succ]
    refine late_take 6 (by kernel_rfl) (by kernel_rfl) (by kernel_rfl) (by kernel_rfl) (by kernel_rfl) (fun _ _ d _ _ h => by cases d <;> exact h) (fun o ho => ?_)
    simp only [List.getElem?_toArray, List.getElem?_cons_zero, List.getElem?_cons_succ, Option.some.injEq] at ho; subst ho
    apply Exists.intro
    refine ⟨Or.inl ⟨by kernel_rfl, fun w' hl => Or.inl ?_⟩, ?_⟩
    · (go_simp; try with_reducible rfl)
    simp only [Act.put, List.setIfInBounds_toArray, List.set_cons_zero, List.set_cons_succ]
    refine late_take 7 (by kernel_rfl) (by kernel_rfl) (by kernel_rfl) (by kernel_rfl) (by kernel_rfl) (fun _ _ d _ _ h => by cases d <;> exact h) (fun o ho => ?_)
    simp only [List.getElem?_toArray, List.getElem?_cons_zero, List.getElem?_cons_succ, Option.some.injEq] at ho; subst ho
    apply Exists.intro
    refine ⟨Or.inl ⟨by kernel_rfl, fun w' hl => Or.inl ?_⟩, ?_⟩
    · (go_simp; try with_reducible rfl)
    simp only [Act.put, List.setIfInBounds_toArray, List.set_cons_zero, List.set_cons_succ]
    refine late_take 8 (by kernel_rfl) (by kernel_rfl) (by kernel_rfl) (by kernel_rfl) (by kernel_rfl) (fun _ _ d _ _ h => by cases d <;> exact h) (fun o ho => ?_)
    simp only [List.getElem?_toArray, List.getElem?_cons_zero, List.getElem?_cons_succ, Option.some.injEq] at ho; subst ho
    apply Exists.intro
    refine ⟨Or.inl ⟨by kernel_rfl, fun w' hl => Or.inl ?_⟩, ?_⟩
    · (go_simp; try with_reducible rfl)
    simp only [Act.put, List.setIfInBounds_toArray, List.set_cons_zero, List.set_cons_succ]
    refine late_take 9 (by kernel_rfl) (by kernel_rfl) (by kernel_rfl) (by kernel_rfl) (by kernel_rfl) (fun _ _ d _ _ h => by cases d <;> exact h) (fun o ho => ?_)
    simp only [List.getElem?_toArray, List.getElem?_cons_zero, List.getElem?_cons_succ, Option.some.injEq] at ho; subst ho
    refine ⟨_, Or.inl ⟨by kernel_rfl, fun w' hl => Or.inl (run_load _ rfl _ rfl (q3) (HR3.out.later hl))⟩, ?_⟩
    simp only [Act.put, List.setIfInBounds_toArray, List.set_cons_zero, List.set_cons_succ]
    refine late_take 11 (by kernel_rfl) (by kernel_rfl) (by kernel_rfl) (by kernel_rfl) (by kernel_rfl) (fun _ _ d _ _ h => by cases d <;> exact h) (fun o ho => ?_)
    simp only [List.getElem?_toArray, List.getElem?_cons_zero, List.getElem?_cons_succ, Option.some.injEq] at ho; subst ho
    apply Exists.intro
    refine ⟨Or.inl ⟨by kernel_rfl, fun w' hl => Or.inl ?_⟩, ?_⟩
    · (go_simp; try with_reducible rfl)
    simp only [Act.put, List.setIfInBounds_toArray, List.set_cons_zero, List.set_cons_succ]
    refine late_take 12 (by kernel_rfl) (by kernel_rfl) (by kernel_rfl) (by kernel_rfl) (by kernel_rfl) (fun _ _ d _ _ h => by cases d <;> exact h) (fun o ho => ?_)
    simp only [List.getElem?_toArray, List.getElem?_cons_zero, List.getElem?_cons_succ, Option.some.injEq] at ho; subst ho
    refine ⟨.string z, Or.inl ⟨by kernel_rfl, fun w' hl => Or.inl ?_⟩, ?_⟩
    · (go_simp; try simp [HRt.out])
    simp only [Act.put, List.setIfInBounds_toArray, List.set_cons_zero, List.set_cons_succ]
    refine late_one 10 (by kernel_rfl) (by kernel_rfl) (fun o ho => ?_)
    simp only [List.getElem?_toArray, List.getElem?_cons_zero, List.getElem?_cons_succ, Option.some.injEq] at ho; subst ho
    refine ⟨by kernel_rfl, fun wn hl K hK => ?_⟩
    have HR := Lib.hid (HR.out.later hl); have HR3 := Lib.hid (HR3.out.later hl); have HB := Lib.hid (below_on HB.out hl); clear hl
    refine wp_enter _ _ (by go_simp; exact ⟨rfl, rfl⟩) ?_
    refine (print_any q3 _ HFq.out (HV.out.on HB.out) (HC.out.on HB.out) (HP.out.on HB.out)).mono ?_; rintro e wm ⟨rfl, hb⟩; refine ⟨_, rfl, ?_⟩
    rw [HTz.out]
    refine hK.out _ _ hb ?_
    have HR := Lib.hid (HR.out.later hb); have HR3 := Lib.hid (HR3.out.later hb); have HB := Lib.hid (below_on HB.out hb); clear hb
    clear hK K
    simp only [Act.put, List.setIfInBounds_toArray, List.set_cons_zero, List.set_cons_succ]
    refine late_take 13 (by kernel_rfl) (by kernel_rfl) (by kernel_rfl) (by kernel_rfl) (by kernel_rfl) (fun _ _ d _ _ h => by cases d <;> exact h) (fun o ho => ?_)
    simp only [List.getElem?_toArray, List.getElem?_cons_zero, List.getElem?_cons_succ, Option.some.injEq] at ho; subst ho
    apply Exists.intro
    refine ⟨Or.inl ⟨by kernel_rfl, fun w' hl => Or.inl ?_⟩, ?_⟩
    · (go_simp; try with_reducible rfl)
    simp only [Act.put, List.setIfInBounds_toArray, List.set_cons_zero, List.set_cons_succ]
    refine late_take 14 (by kernel_rfl) (by kernel_rfl) (by kernel_rfl) (by kernel_rfl) (by kernel_rfl) (fun _ _ d _ _ h => by cases d <;> exact h) (fun o ho => ?_)
    simp only [List.getElem?_toArray, List.getElem?_cons_zero, List.getElem?_cons_succ, Option.some.injEq] at ho; subst ho
    apply Exists.intro
    refine ⟨Or.inl ⟨by kernel_rfl, fun w' hl => Or.inl ?_⟩, ?_⟩
    · (go_simp; try with_reducible rfl)
    simp only [Act.put, List.setIfInBounds_toArray, List.set_cons_zero, List.set_cons_succ]
    refine late_take 15 (by kernel_rfl) (by kernel_rfl) (by kernel_rfl) (by kernel_rfl) (by kernel_rfl) (fun _ _ d _ _ h => by cases d <;> exact h) (fun o ho => ?_)
    simp only [List.getElem?_toArray, List.getElem?_cons_zero, List.getElem?_cons_succ, Option.some.injEq] at ho; subst ho
    apply Exists.intro
    refine ⟨Or.inl ⟨by kernel_rfl, fun w' hl => Or.inl ?_⟩, ?_⟩
    · (go_simp; try with_reducible rfl)
    simp only [Act.put, List.setIfInBounds_toArray, List.set_cons_zero, List.set_cons_succ]
    refine late_take 16 (by kernel_rfl) (by kernel_rfl) (by kernel_rfl) (by kernel_rfl) (by kernel_rfl) (fun _ _ d _ _ h => by cases d <;> exact h) (fun o ho => ?_)
    simp only [List.getElem?_toArray, List.getElem?_cons_zero, List.getElem?_cons_succ, Option.some.injEq] at ho; subst ho
    apply Exists.intro
    refine ⟨Or.inl ⟨by kernel_rfl, fun w' hl => Or.inl ?_⟩, ?_⟩
    · (go_simp; try with_reducible rfl)
    simp only [Act.put, List.setIfInBounds_toArray, List.set_cons_zero, List.set_cons_succ]
    refine late_end (by kernel_rfl) (fun wn hl => ?_)
    have HR := Lib.hid (HR.out.later hl); have HR3 := Lib.hid (HR3.out.later hl); have HB := Lib.hid (below_on HB.out hl); clear hl
    go_wp2_with fail
    exact bodyPost_ret (results_tmp rfl _ _ _) rfl ⟨by simp, HB.out⟩
set_option maxRecDepth 100000 in
set_option maxHeartbeats 4000000 in
theorem bad_1_long (p : Nat → Int) (v b : Int) (s : List UInt8) (x0 : UInt8) (s1 : List UInt8) (hv : 0 ≤ v ∧ v ≤ 255) (h9 : 9 ≤ v) (hb : 0 ≤ b ∧ b ≤ 255) (w : World) (hF : FitF p) (hs : fenL p = s) (hs1 : s = x0 :: s1) (h0 : p 0 < 9) (hl : 200 < (s ++ [byZ b]).length) (hM : TabMx w) (hT : TabErr w) (hC : TabCorn w) (hV : TabVar w) (hP : TabPow w) (hK : TabKn w) :
    Calls Tryz.prog 8 #[.agg (posA p), .int .u8 v, .int .u8 b] w (BoL true w) := by
  have HM := Lib.hid hM
  have HT := Lib.hid hT
  have HC := Lib.hid hC
  have HV := Lib.hid hV
  have HP := Lib.hid hP
  have HK := Lib.hid hK
  have HF := Lib.hid hF
  have HVr := Lib.hid hv
  obtain ⟨q1, hq1⟩ : ∃ q, pqO (parO v s) = q := ⟨_, rfl⟩
  obtain ⟨n1, hn1⟩ : ∃ n, pnO (parN v s) (parO v s) = n := ⟨_, rfl⟩
  have HO1 := Lib.hid (show RdO (parN v s) (parO v s) = #[.agg (posA q1), .int .i64 n1] by rw [RdO_eq, hq1, hn1])
  obtain rfl : n1 = 2 := by rw [← hn1]; unfold parO parN; rw [decide_eq_true h9]; rfl
  have hsl := fen_short hs
  have N2 := Lib.hid (show parN (p 0) (s ++ [byZ b]) = 3 by unfold parN; rw [decide_eq_false (show ¬ 9 ≤ p 0 by omega), decide_eq_true hl]; rfl)
  have HO2 := Lib.hid (show parO (p 0) (s ++ [byZ b]) = none by unfold parO; rw [decide_eq_false (show ¬ 9 ≤ p 0 by omega), decide_eq_true hl]; rfl)
  obtain ⟨y, hy⟩ : ∃ y, bz s = y := ⟨_, rfl⟩
  obtain ⟨t, ht⟩ : ∃ t, y ++ bz [byZ b] = t := ⟨_, rfl⟩
  have hys : y.size = s.length := by rw [← hy, bz_size]
  have hye : y.toList.isEmpty = false := by rw [← hy, bz_toList, hs1]; rfl
  have HS := Lib.hid (show bz (fenL p) = y by rw [hs]; exact hy)
  have HY := Lib.hid hy
  have HTt := Lib.hid ht
  have HTb := Lib.hid (show t = bz (s ++ [byZ b]) by rw [← ht, ← hy, bz_app])
  have hts : t.size = (s ++ [byZ b]).length := by rw [HTb.out, bz_size]
  have gl : decide ((200 : Int) < (t.size : Int)) = true := decide_eq_true (by omega)
  have hcv := conv1
  have hb1 : (bz [byZ b]).size = 1 := bz_size _
  have k1 := cat_ok (a := y) (b := bz [byZ b]) (by omega) (by omega)
  have rt := tail_of x0 s1
  rw [show bz (x0 :: s1) = y by rw [← hs1]; exact hy] at rt
  have l1 : (1 : Int) ≤ (y.size : Int) := by rw [hys, hs1, List.length_cons]; omega
  clear rt l1
  clear hM hT hC hV hP hK hF hs hs1 hy ht hys hts hl hsl hb1 hq1
  clear h0 hv
  clear hn1
  obtain ⟨b0', b255⟩ := hb
  go_enter Tryz.func8, Tryz.ntmps8
  go_wp2_with (first
    | (refine step_box rfl _ rfl p rfl ?_; intro b0 w1 N R; have HG0 := Lib.hid (show w.heap.size ≤ b0 from Nat.le_of_eq N.at_.symm); have HB := Lib.hid N.below; have HR := Lib.hid R; clear N R)
    | (go_at_call 11; refine (fawake_any _ (HM.out.on HB.out) (HT.out.on HB.out) (HC.out.on HB.out) (HV.out.on HB.out) (HP.out.on HB.out) (HK.out.on HB.out)).mono ?_; rintro e w2 ⟨rfl, hb⟩; have HR := Lib.hid (HR.out.later hb); have HB := Lib.hid (HB.out.trans (hb.mono HB.out.size)); clear hb)
    | (refine step_load rfl _ rfl b0 rfl p ?_ ?_; exact HR.out)
    | (go_at_call 12; refine (print_any p _ HF.out (HV.out.on HB.out) (HC.out.on HB.out) (HP.out.on HB.out)).mono ?_; rintro e w3 ⟨rfl, hb⟩; rw [HS.out]; have HR := Lib.hid (HR.out.later hb); have HB := Lib.hid (HB.out.trans (hb.mono HB.out.size)); clear hb))
  rw [← HY.out]
  refine (fparse_any v s _ HVr.out (HM.out.on HB.out) (HT.out.on HB.out) (HC.out.on HB.out) (HV.out.on HB.out) (HP.out.on HB.out)).mono ?_; rintro e w4 ⟨rfl, hb⟩; rw [HO1.out, HY.out]; have HR := Lib.hid (HR.out.later hb); have HB := Lib.hid (HB.out.trans (hb.mono HB.out.size)); clear hb
  go_wp2_with (first
    | (refine step_alloc rfl rfl ?_; intro b1 w5 N R; have HG1 := Lib.hid (show w.heap.size ≤ b1 by rw [N.at_]; exact HB.out.size); have HD1 := Lib.hid (show b0 ≠ b1 by rw [N.at_]; exact Nat.ne_of_lt HR.out.lt); have HR := Lib.hid (HR.out.later N.below); have HR1 := Lib.hid R; have HB := Lib.hid (HB.out.trans (N.below.mono HB.out.size)); clear N R)
    | (refine step_store rfl _ _ rfl b1 rfl zeroP q1 rfl ?_ ?_; exact HR1.out; intro w6 U R; have HR1 := Lib.hid R; have HR := Lib.hid (HR.out.apart U HD1.out); have HB := Lib.hid (HB.out.trans (U.below HG1.out)); clear U R)
    | (refine step_get rfl 5 _ rfl b0 0 rfl Tryz.underlying5 rfl (.int .u8 (p 0)) ?_ ?_; (first | (rw [HR.out.cell 0 (by decide)]; rfl) | (rw [(HR.out.later (New.alloc _ _).below).cell 0 (by decide)]; rfl))))
  rw [HTt.out, HTb.out]
  have hN := fun (w : World) (o : Obj) => (New.alloc w o).below
  refine (fparse_any (p 0) (s ++ [byZ b]) _ HF.out.var (HM.out.on (HB.out.trans ((hN _ _).mono HB.out.size))) (HT.out.on (HB.out.trans ((hN _ _).mono HB.out.size))) (HC.out.on (HB.out.trans ((hN _ _).mono HB.out.size))) (HV.out.on (HB.out.trans ((hN _ _).mono HB.out.size))) (HP.out.on (HB.out.trans ((hN _ _).mono HB.out.size)))).mono ?_
  rintro e w7 ⟨rfl, hb⟩; rw [HO2.out, N2.out, RdO, ← HTb.out]; have HR := Lib.hid ((HR.out.later (hN _ _)).later hb); have HB := Lib.hid ((HB.out.trans ((hN _ _).mono HB.out.size)).trans (hb.mono (HB.out.trans ((hN _ _).mono HB.out.size)).size)); clear hb
  go_wp2_with (first
    | (refine step_alloc rfl rfl ?_; intro b2 w5 N R; have HG2 := Lib.hid (show w.heap.size ≤ b2 by rw [N.at_]; exact HB.out.size); have HD2 := Lib.hid (show b0 ≠ b2 by rw [N.at_]; exact Nat.ne_of_lt HR.out.lt); have HR := Lib.hid (HR.out.later N.below); have HR2 := Lib.hid R; have HB := Lib.hid (HB.out.trans (N.below.mono HB.out.size)); clear N R)
    | (refine step_store rfl _ _ rfl b2 rfl zeroP zeroP rfl ?_ ?_; exact HR2.out; intro w6 U R; have HR2 := Lib.hid R; have HR := Lib.hid (HR.out.apart U HD2.out); have HB := Lib.hid (HB.out.trans (U.below HG2.out)); have hc0 : w6.cell? ⟨b0, 0, none⟩ = some (.int .u8 (p 0)) := (by rw [HR.out.cell 0 (by decide)]; rfl); clear U R)
    )
  exact bodyPost_ret (results_tmp rfl _ _ _) rfl ⟨rfl, HB.out⟩
set_option maxRecDepth 100000 in
set_option maxHeartbeats 4000000 in
theorem bad_1_00 (p : Nat → Int) (v b : Int) (s : List UInt8) (x0 : UInt8) (s1 : List UInt8) (hv : 0 ≤ v ∧ v ≤ 255) (h9 : 9 ≤ v) (hb : 0 ≤ b ∧ b ≤ 255) (w : World) (hF : FitF p) (hs : fenL p = s) (hs1 : s = x0 :: s1) (h0 : p 0 < 9) (hl : (s ++ [byZ b]).length ≤ 200) (o2 : parO (p 0) (s ++ [byZ b]) = none) (o3 : parO (p 0) s1 = none) (hM : TabMx w) (hT : TabErr w) (hC : TabCorn w) (hV : TabVar w) (hP : TabPow w) (hK : TabKn w) :
    Calls Tryz.prog 8 #[.agg (posA p), .int .u8 v, .int .u8 b] w (BoL true w) := by
  have HM := Lib.hid hM
  have HT := Lib.hid hT
  have HC := Lib.hid hC
  have HV := Lib.hid hV
  have HP := Lib.hid hP
  have HK := Lib.hid hK
  have HF := Lib.hid hF
  have HVr := Lib.hid hv
  obtain ⟨q1, hq1⟩ : ∃ q, pqO (parO v s) = q := ⟨_, rfl⟩
  obtain ⟨n1, hn1⟩ : ∃ n, pnO (parN v s) (parO v s) = n := ⟨_, rfl⟩
  have HO1 := Lib.hid (show RdO (parN v s) (parO v s) = #[.agg (posA q1), .int .i64 n1] by rw [RdO_eq, hq1, hn1])
  obtain rfl : n1 = 2 := by rw [← hn1]; unfold parO parN; rw [decide_eq_true h9]; rfl
  have hsl := fen_short hs
  have N2 := Lib.hid (show parN (p 0) (s ++ [byZ b]) = 5 by unfold parN; rw [decide_eq_false (show ¬ 9 ≤ p 0 by omega), decide_eq_false (show ¬ 200 < ((s ++ [byZ b])).length by omega)]; rfl)
  have HO2 := Lib.hid o2
  have N3 := Lib.hid (show parN (p 0) s1 = 5 by unfold parN; rw [decide_eq_false (show ¬ 9 ≤ p 0 by omega), decide_eq_false (show ¬ 200 < (s1).length by rw [hs1] at hsl; simp at hsl; omega)]; rfl)
  have HO3 := Lib.hid o3
  obtain ⟨y, hy⟩ : ∃ y, bz s = y := ⟨_, rfl⟩
  obtain ⟨t, ht⟩ : ∃ t, y ++ bz [byZ b] = t := ⟨_, rfl⟩
  have hys : y.size = s.length := by rw [← hy, bz_size]
  have hye : y.toList.isEmpty = false := by rw [← hy, bz_toList, hs1]; rfl
  have HS := Lib.hid (show bz (fenL p) = y by rw [hs]; exact hy)
  have HY := Lib.hid hy
  have HTt := Lib.hid ht
  have HTb := Lib.hid (show t = bz (s ++ [byZ b]) by rw [← ht, ← hy, bz_app])
  have hts : t.size = (s ++ [byZ b]).length := by rw [HTb.out, bz_size]
  have gl : decide ((200 : Int) < (t.size : Int)) = false := decide_eq_false (by omega)
  have hcv := conv1
  have hb1 : (bz [byZ b]).size = 1 := bz_size _
  have k1 := cat_ok (a := y) (b := bz [byZ b]) (by omega) (by omega)
  have rt := tail_of x0 s1
  rw [show bz (x0 :: s1) = y by rw [← hs1]; exact hy] at rt
  have l1 : (1 : Int) ≤ (y.size : Int) := by rw [hys, hs1, List.length_cons]; omega
  obtain ⟨z, hz⟩ : ∃ z, bz s1 = z := ⟨_, rfl⟩
  have HZ := Lib.hid hz
  rw [hz] at rt
  have HRt := Lib.hid rt
  clear hM hT hC hV hP hK hF hs hs1 hy ht hys hts hl hsl hb1 hq1
  clear h0 hv o2 o3 hz
  clear hn1
  obtain ⟨b0', b255⟩ := hb
  go_enter Tryz.func8, Tryz.ntmps8
  go_wp2_with (first
    | (refine step_box rfl _ rfl p rfl ?_; intro b0 w1 N R; have HG0 := Lib.hid (show w.heap.size ≤ b0 from Nat.le_of_eq N.at_.symm); have HB := Lib.hid N.below; have HR := Lib.hid R; clear N R)
    | (go_at_call 11; refine (fawake_any _ (HM.out.on HB.out) (HT.out.on HB.out) (HC.out.on HB.out) (HV.out.on HB.out) (HP.out.on HB.out) (HK.out.on HB.out)).mono ?_; rintro e w2 ⟨rfl, hb⟩; have HR := Lib.hid (HR.out.later hb); have HB := Lib.hid (HB.out.trans (hb.mono HB.out.size)); clear hb)
    | (refine step_load rfl _ rfl b0 rfl p ?_ ?_; exact HR.out)
    | (go_at_call 12; refine (print_any p _ HF.out (HV.out.on HB.out) (HC.out.on HB.out) (HP.out.on HB.out)).mono ?_; rintro e w3 ⟨rfl, hb⟩; rw [HS.out]; have HR := Lib.hid (HR.out.later hb); have HB := Lib.hid (HB.out.trans (hb.mono HB.out.size)); clear hb))
  rw [← HY.out]
  refine (fparse_any v s _ HVr.out (HM.out.on HB.out) (HT.out.on HB.out) (HC.out.on HB.out) (HV.out.on HB.out) (HP.out.on HB.out)).mono ?_; rintro e w4 ⟨rfl, hb⟩; rw [HO1.out, HY.out]; have HR := Lib.hid (HR.out.later hb); have HB := Lib.hid (HB.out.trans (hb.mono HB.out.size)); clear hb
  go_wp2_with (first
    | (refine step_alloc rfl rfl ?_; intro b1 w5 N R; have HG1 := Lib.hid (show w.heap.size ≤ b1 by rw [N.at_]; exact HB.out.size); have HD1 := Lib.hid (show b0 ≠ b1 by rw [N.at_]; exact Nat.ne_of_lt HR.out.lt); have HR := Lib.hid (HR.out.later N.below); have HR1 := Lib.hid R; have HB := Lib.hid (HB.out.trans (N.below.mono HB.out.size)); clear N R)
    | (refine step_store rfl _ _ rfl b1 rfl zeroP q1 rfl ?_ ?_; exact HR1.out; intro w6 U R; have HR1 := Lib.hid R; have HR := Lib.hid (HR.out.apart U HD1.out); have HB := Lib.hid (HB.out.trans (U.below HG1.out)); clear U R)
    | (refine step_get rfl 5 _ rfl b0 0 rfl Tryz.underlying5 rfl (.int .u8 (p 0)) ?_ ?_; (first | (rw [HR.out.cell 0 (by decide)]; rfl) | (rw [(HR.out.later (New.alloc _ _).below).cell 0 (by decide)]; rfl))))
  rw [HTt.out, HTb.out]
  have hN := fun (w : World) (o : Obj) => (New.alloc w o).below
  refine (fparse_any (p 0) (s ++ [byZ b]) _ HF.out.var (HM.out.on (HB.out.trans ((hN _ _).mono HB.out.size))) (HT.out.on (HB.out.trans ((hN _ _).mono HB.out.size))) (HC.out.on (HB.out.trans ((hN _ _).mono HB.out.size))) (HV.out.on (HB.out.trans ((hN _ _).mono HB.out.size))) (HP.out.on (HB.out.trans ((hN _ _).mono HB.out.size)))).mono ?_
  rintro e w7 ⟨rfl, hb⟩; rw [HO2.out, N2.out, RdO, ← HTb.out]; have HR := Lib.hid ((HR.out.later (hN _ _)).later hb); have HB := Lib.hid ((HB.out.trans ((hN _ _).mono HB.out.size)).trans (hb.mono (HB.out.trans ((hN _ _).mono HB.out.size)).size)); clear hb
  go_wp2_with (first
    | (refine step_alloc rfl rfl ?_; intro b2 w5 N R; have HG2 := Lib.hid (show w.heap.size ≤ b2 by rw [N.at_]; exact HB.out.size); have HD2 := Lib.hid (show b0 ≠ b2 by rw [N.at_]; exact Nat.ne_of_lt HR.out.lt); have HR := Lib.hid (HR.out.later N.below); have HR2 := Lib.hid R; have HB := Lib.hid (HB.out.trans (N.below.mono HB.out.size)); clear N R)
    | (refine step_store rfl _ _ rfl b2 rfl zeroP zeroP rfl ?_ ?_; exact HR2.out; intro w6 U R; have HR2 := Lib.hid R; have HR := Lib.hid (HR.out.apart U HD2.out); have HB := Lib.hid (HB.out.trans (U.below HG2.out)); have hc0 : w6.cell? ⟨b0, 0, none⟩ = some (.int .u8 (p 0)) := (by rw [HR.out.cell 0 (by decide)]; rfl); clear U R)
    )
  refine cut_here (fun F a w' => ∃ b3 : Nat, a = F b3 ∧ Row w' b0 p ∧ Row w' b3 zeroP ∧ Below w.heap.size w w') ?_
  apply Exists.intro
  refine ⟨fun K9 hK9 => ?cutA, ?cutB⟩
  case cutA =>
    refine late_begin 9 (by kernel_rfl) ?_
    refine late_take 0 (by kernel_rfl) (by kernel_rfl) (by kernel_rfl) (by kernel_rfl) (by kernel_rfl) (fun _ _ d _ _ h => by cases d <;> exact h) (fun o ho => ?_)
    simp only [List.getElem?_toArray, List.getElem?_cons_zero, List.getElem?_cons_succ, Option.some.injEq] at ho; subst ho
    apply Exists.intro
    refine ⟨Or.inl ⟨by kernel_rfl, fun w' hl => Or.inl ?_⟩, ?_⟩
    · (go_simp; try with_reducible rfl)
    simp only [Act.put, List.setIfInBounds_toArray, List.set_cons_zero, List.set_cons_succ]
    refine late_take 1 (by kernel_rfl) (by kernel_rfl) (by kernel_rfl) (by kernel_rfl) (by kernel_rfl) (fun _ _ d _ _ h => by cases d <;> exact h) (fun o ho => ?_)
    simp only [List.getElem?_toArray, List.getElem?_cons_zero, List.getElem?_cons_succ, Option.some.injEq] at ho; subst ho
    refine ⟨.int .u8 (p 0), Or.inl ⟨by kernel_rfl, fun w' hl => Or.inl (run_get 5 _ rfl b0 0 rfl Tryz.underlying5 rfl (.int .u8 (p 0)) (by rw [(HR.out.later hl).cell 0 (by decide)]; rfl))⟩, ?_⟩
    simp only [Act.put, List.setIfInBounds_toArray, List.set_cons_zero, List.set_cons_succ]
    refine late_take 2 (by kernel_rfl) (by kernel_rfl) (by kernel_rfl) (by kernel_rfl) (by kernel_rfl) (fun _ _ d _ _ h => by cases d <;> exact h) (fun o ho => ?_)
    simp only [List.getElem?_toArray, List.getElem?_cons_zero, List.getElem?_cons_succ, Option.some.injEq] at ho; subst ho
    apply Exists.intro
    refine ⟨Or.inl ⟨by kernel_rfl, fun w' hl => Or.inl ?_⟩, ?_⟩
    · (go_simp; try with_reducible rfl)
    simp only [Act.put, List.setIfInBounds_toArray, List.set_cons_zero, List.set_cons_succ]
    refine late_take 3 (by kernel_rfl) (by kernel_rfl) (by kernel_rfl) (by kernel_rfl) (by kernel_rfl) (fun _ _ d _ _ h => by cases d <;> exact h) (fun o ho => ?_)
    simp only [List.getElem?_toArray, List.getElem?_cons_zero, List.getElem?_cons_succ, Option.some.injEq] at ho; subst ho
    refine ⟨.string z, Or.inl ⟨by kernel_rfl, fun w' hl => Or.inl ?_⟩, ?_⟩
    · (go_simp; try simp [HRt.out])
    simp only [Act.put, List.setIfInBounds_toArray, List.set_cons_zero, List.set_cons_succ]
    refine late_fork 4 8 (by kernel_rfl) (by kernel_rfl) (by kernel_rfl) (fun o ho => ?_) (fun o ho => ?_)
    · simp only [List.getElem?_toArray, List.getElem?_cons_zero, List.getElem?_cons_succ, Option.some.injEq] at ho; subst ho
      refine ⟨by kernel_rfl, fun wn hl K hK => ?_⟩
      have HR := Lib.hid (HR.out.later hl); have HB := Lib.hid (below_on HB.out hl); clear hl
      refine wp_enter _ _ (by go_simp; exact ⟨rfl, rfl⟩) ?_
      rw [← HZ.out]
      refine (fparse_any (p 0) s1 _ HF.out.var (HM.out.on HB.out) (HT.out.on HB.out) (HC.out.on HB.out) (HV.out.on HB.out) (HP.out.on HB.out)).mono ?_; rintro e wm ⟨rfl, hb⟩; refine ⟨_, rfl, ?_⟩
      rw [HO3.out, N3.out, RdO, HZ.out]
      refine hK.out _ _ hb ?_
      have HR := Lib.hid (HR.out.later hb); have HB := Lib.hid (below_on HB.out hb); clear hb
      clear hK K
      simp only [Act.put, List.setIfInBounds_toArray, List.set_cons_zero, List.set_cons_succ]
      refine late_take 5 (by kernel_rfl) (by kernel_rfl) (by kernel_rfl) (by kernel_rfl) (by kernel_rfl) (fun _ _ d _ _ h => by cases d <;> exact h) (fun o ho => ?_)
      simp only [List.getElem?_toArray, List.getElem?_cons_zero, List.getElem?_cons_succ, Option.some.injEq] at ho; subst ho
      apply Exists.intro
      refine ⟨Or.inl ⟨by kernel_rfl, fun w' hl => Or.inl ?_⟩, ?_⟩
      · (go_simp; try with_reducible rfl)
      simp only [Act.put, List.setIfInBounds_toArray, List.set_cons_zero, List.set_cons_succ]
      refine late_take 6 (by kernel_rfl) (by kernel_rfl) (by kernel_rfl) (by kernel_rfl) (by kernel_rfl) (fun _ _ d _ _ h => by cases d <;> exact h) (fun o ho => ?_)
      simp only [List.getElem?_toArray, List.getElem?_cons_zero, List.getElem?_cons_succ, Option.some.injEq] at ho; subst ho
      apply Exists.intro
      refine ⟨Or.inl ⟨by kernel_rfl, fun w' hl => Or.inl ?_⟩, ?_⟩
      · (go_simp; try with_reducible rfl)
      simp only [Act.put, List.setIfInBounds_toArray, List.set_cons_zero, List.set_cons_succ]
      refine late_fork 7 8 (by kernel_rfl) (by kernel_rfl) (by kernel_rfl) (fun o ho => ?_) (fun o ho => ?_)
      · simp only [List.getElem?_toArray, List.getElem?_cons_zero, List.getElem?_cons_succ, Option.some.injEq] at ho; subst ho
        refine ⟨by kernel_rfl, fun wn hl K hK => ?_⟩
        have HR := Lib.hid (HR.out.later hl); have HB := Lib.hid (below_on HB.out hl); clear hl
        refine wp_value (by go_simp; try with_reducible rfl) ?_
        refine hK.out _ _ (Later.refl _) ?_
        clear hK K
        simp only [Act.put, List.setIfInBounds_toArray, List.set_cons_zero, List.set_cons_succ]
        refine late_one 8 (by kernel_rfl) (by kernel_rfl) (fun o ho => ?_)
        simp only [List.getElem?_toArray, List.getElem?_cons_zero, List.getElem?_cons_succ, Option.some.injEq] at ho; subst ho
        refine ⟨by kernel_rfl, fun wn hl K hK => ?_⟩
        have HR := Lib.hid (HR.out.later hl); have HB := Lib.hid (below_on HB.out hl); clear hl
        refine late_alloc rfl ?_; intro b3 wm N R
        have HD3 := Lib.hid (N.ne HR.out)
        have HG3 := Lib.hid (show w.heap.size ≤ b3 by have := HB.out.size; have := N.at_; omega)
        have hb := N.below
        have HRn := Lib.hid R
        clear N R
        refine hK.out _ _ hb ?_
        have HR := Lib.hid (HR.out.later hb); have HB := Lib.hid (below_on HB.out hb); clear hb
        have HR3 := HRn; clear HRn
        clear hK K
        simp only [Act.put, List.setIfInBounds_toArray, List.set_cons_zero, List.set_cons_succ]
        refine late_then 9 (by kernel_rfl) (by kernel_rfl) (fun o ho => ?_)
        simp only [List.getElem?_toArray, List.getElem?_cons_zero, List.getElem?_cons_succ, Option.some.injEq] at ho; subst ho
        refine ⟨by kernel_rfl, fun wn hl K hK => ?_⟩
        have HR := Lib.hid (HR.out.later hl); have HR3 := Lib.hid (HR3.out.later hl); have HB := Lib.hid (below_on HB.out hl); clear hl
        refine late_whole _ _ rfl b3 rfl _ (zeroP) rfl HR3.out ?_; intro wm U R
        have HR := Lib.hid (HR.out.apart U HD3.out)
        have HR3 := Lib.hid R; have HB := Lib.hid (HB.out.trans (U.below HG3.out)); clear U R
        refine hK.out _ _ ?_
        clear hK K
        simp only [Act.put, List.setIfInBounds_toArray, List.set_cons_zero, List.set_cons_succ]
        refine any_one 10 (by kernel_rfl) (by kernel_rfl) (fun o ho => ?_)
        simp only [List.getElem?_toArray, List.getElem?_cons_zero, List.getElem?_cons_succ, Option.some.injEq] at ho; subst ho
        refine ⟨by kernel_rfl, fun K hK => ?_⟩
        refine wp_value (by go_simp; try with_reducible rfl) ?_
        refine hK.out _ _ ?_
        clear hK K
        simp only [Act.put, List.setIfInBounds_toArray, List.set_cons_zero, List.set_cons_succ]
        refine any_end (by kernel_rfl) ?_
        exact hK9.out _ _ ⟨b3, rfl, HR.out, HR3.out, HB.out⟩
      · simp only [List.getElem?_toArray, List.getElem?_cons_zero, List.getElem?_cons_succ, Option.some.injEq] at ho; subst ho
        refine ⟨by kernel_rfl, fun wn hl K hK => ?_⟩
        have HR := Lib.hid (HR.out.later hl); have HB := Lib.hid (below_on HB.out hl); clear hl
        refine late_alloc rfl ?_; intro b3 wm N R
        have HD3 := Lib.hid (N.ne HR.out)
        have HG3 := Lib.hid (show w.heap.size ≤ b3 by have := HB.out.size; have := N.at_; omega)
        have hb := N.below
        have HRn := Lib.hid R
        clear N R
        refine hK.out _ _ hb ?_
        have HR := Lib.hid (HR.out.later hb); have HB := Lib.hid (below_on HB.out hb); clear hb
        have HR3 := HRn; clear HRn
        clear hK K
        simp only [Act.put, List.setIfInBounds_toArray, List.set_cons_zero, List.set_cons_succ]
        refine late_forkL 7 9 (by kernel_rfl) (by kernel_rfl) (by kernel_rfl) (fun o ho => ?_) (fun o ho => ?_)
        · simp only [List.getElem?_toArray, List.getElem?_cons_zero, List.getElem?_cons_succ, Option.some.injEq] at ho; subst ho
          refine ⟨by kernel_rfl, fun wn hl K hK => ?_⟩
          have HR := Lib.hid (HR.out.later hl); have HR3 := Lib.hid (HR3.out.later hl); have HB := Lib.hid (below_on HB.out hl); clear hl
          refine wp_value (by go_simp; try with_reducible rfl) ?_
          refine hK.out _ _ (Later.refl _) ?_
          clear hK K
          simp only [Act.put, List.setIfInBounds_toArray, List.set_cons_zero, List.set_cons_succ]
          refine late_then 9 (by kernel_rfl) (by kernel_rfl) (fun o ho => ?_)
          simp only [List.getElem?_toArray, List.getElem?_cons_zero, List.getElem?_cons_succ, Option.some.injEq] at ho; subst ho
          refine ⟨by kernel_rfl, fun wn hl K hK => ?_⟩
          have HR := Lib.hid (HR.out.later hl); have HR3 := Lib.hid (HR3.out.later hl); have HB := Lib.hid (below_on HB.out hl); clear hl
          refine late_whole _ _ rfl b3 rfl _ (zeroP) rfl HR3.out ?_; intro wm U R
          have HR := Lib.hid (HR.out.apart U HD3.out)
          have HR3 := Lib.hid R; have HB := Lib.hid (HB.out.trans (U.below HG3.out)); clear U R
          refine hK.out _ _ ?_
          clear hK K
          simp only [Act.put, List.setIfInBounds_toArray, List.set_cons_zero, List.set_cons_succ]
          refine any_one 10 (by kernel_rfl) (by kernel_rfl) (fun o ho => ?_)
          simp only [List.getElem?_toArray, List.getElem?_cons_zero, List.getElem?_cons_succ, Option.some.injEq] at ho; subst ho
          refine ⟨by kernel_rfl, fun K hK => ?_⟩
          refine wp_value (by go_simp; try with_reducible rfl) ?_
          refine hK.out _ _ ?_
          clear hK K
          simp only [Act.put, List.setIfInBounds_toArray, List.set_cons_zero, List.set_cons_succ]
          refine any_end (by kernel_rfl) ?_
          exact hK9.out _ _ ⟨b3, rfl, HR.out, HR3.out, HB.out⟩
        · simp only [List.getElem?_toArray, List.getElem?_cons_zero, List.getElem?_cons_succ, Option.some.injEq] at ho; subst ho
          refine ⟨by kernel_rfl, fun wn hl K hK => ?_⟩
          have HR := Lib.hid (HR.out.later hl); have HR3 := Lib.hid (HR3.out.later hl); have HB := Lib.hid (below_on HB.out hl); clear hl
          refine late_whole _ _ rfl b3 rfl _ (zeroP) rfl HR3.out ?_; intro wm U R
          have HR := Lib.hid (HR.out.apart U HD3.out)
          have HR3 := Lib.hid R; have HB := Lib.hid (HB.out.trans (U.below HG3.out)); clear U R
          refine hK.out _ _ ?_
          clear hK K
          simp only [Act.put, List.setIfInBounds_toArray, List.set_cons_zero, List.set_cons_succ]
          refine any_one 7 (by kernel_rfl) (by kernel_rfl) (fun o ho => ?_)
          simp only [List.getElem?_toArray, List.getElem?_cons_zero, List.getElem?_cons_succ, Option.some.injEq] at ho; subst ho
          refine ⟨by kernel_rfl, fun K hK => ?_⟩
          refine wp_value (by go_simp; try with_reducible rfl) ?_
          refine hK.out _ _ ?_
          clear hK K
          simp only [Act.put, List.setIfInBounds_toArray, List.set_cons_zero, List.set_cons_succ]
          refine any_one 10 (by kernel_rfl) (by kernel_rfl) (fun o ho => ?_)
          simp only [List.getElem?_toArray, List.getElem?_cons_zero, List.getElem?_cons_succ, Option.some.injEq] at ho; subst ho
          refine ⟨by kernel_rfl, fun K hK => ?_⟩
          refine wp_value (by go_simp; try with_reducible rfl) ?_
          refine hK.out _ _ ?_
          clear hK K
          simp only [Act.put, List.setIfInBounds_toArray, List.set_cons_zero, List.set_cons_succ]
          refine any_end (by kernel_rfl) ?_
          exact hK9.out _ _ ⟨b3, rfl, HR.out, HR3.out, HB.out⟩
    · simp only [List.getElem?_toArray, List.getElem?_cons_zero, List.getElem?_cons_succ, Option.some.injEq] at ho; subst ho
      refine ⟨by kernel_rfl, fun wn hl K hK => ?_⟩
      have HR := Lib.hid (HR.out.later hl); have HB := Lib.hid (below_on HB.out hl); clear hl
      refine late_alloc rfl ?_; intro b3 wm N R
      have HD3 := Lib.hid (N.ne HR.out)
      have HG3 := Lib.hid (show w.heap.size ≤ b3 by have := HB.out.size; have := N.at_; omega)
      have hb := N.below
      have HRn := Lib.hid R
      clear N R
      refine hK.out _ _ hb ?_
      have HR := Lib.hid (HR.out.later hb); have HB := Lib.hid (below_on HB.out hb); clear hb
      have HR3 := HRn; clear HRn
      clear hK K
      simp only [Act.put, List.setIfInBounds_toArray, List.set_cons_zero, List.set_cons_succ]
      refine late_one 4 (by kernel_rfl) (by kernel_rfl) (fun o ho => ?_)
      simp only [List.getElem?_toArray, List.getElem?_cons_zero, List.getElem?_cons_succ, Option.some.injEq] at ho; subst ho
      refine ⟨by kernel_rfl, fun wn hl K hK => ?_⟩
      have HR := Lib.hid (HR.out.later hl); have HR3 := Lib.hid (HR3.out.later hl); have HB := Lib.hid (below_on HB.out hl); clear hl
      refine wp_enter _ _ (by go_simp; exact ⟨rfl, rfl⟩) ?_
      rw [← HZ.out]
      refine (fparse_any (p 0) s1 _ HF.out.var (HM.out.on HB.out) (HT.out.on HB.out) (HC.out.on HB.out) (HV.out.on HB.out) (HP.out.on HB.out)).mono ?_; rintro e wm ⟨rfl, hb⟩; refine ⟨_, rfl, ?_⟩
      rw [HO3.out, N3.out, RdO, HZ.out]
      refine hK.out _ _ hb ?_
      have HR := Lib.hid (HR.out.later hb); have HR3 := Lib.hid (HR3.out.later hb); have HB := Lib.hid (below_on HB.out hb); clear hb
      clear hK K
      simp only [Act.put, List.setIfInBounds_toArray, List.set_cons_zero, List.set_cons_succ]
      refine late_take 5 (by kernel_rfl) (by kernel_rfl) (by kernel_rfl) (by kernel_rfl) (by kernel_rfl) (fun _ _ d _ _ h => by cases d <;> exact h) (fun o ho => ?_)
      simp only [List.getElem?_toArray, List.getElem?_cons_zero, List.getElem?_cons_succ, Option.some.injEq] at ho; subst ho
      apply Exists.intro
      refine ⟨Or.inl ⟨by kernel_rfl, fun w' hl => Or.inl ?_⟩, ?_⟩
      · (go_simp; try with_reducible rfl)
      simp only [Act.put, List.setIfInBounds_toArray, List.set_cons_zero, List.set_cons_succ]
      refine late_take 6 (by kernel_rfl) (by kernel_rfl) (by kernel_rfl) (by kernel_rfl) (by kernel_rfl) (fun _ _ d _ _ h => by cases d <;> exact h) (fun o ho => ?_)
      simp only [List.getElem?_toArray, List.getElem?_cons_zero, List.getElem?_cons_succ, Option.some.injEq] at ho; subst ho
      apply Exists.intro
      refine ⟨Or.inl ⟨by kernel_rfl, fun w' hl => Or.inl ?_⟩, ?_⟩
      · (go_simp; try with_reducible rfl)
      simp only [Act.put, List.setIfInBounds_toArray, List.set_cons_zero, List.set_cons_succ]
      refine late_forkL 7 9 (by kernel_rfl) (by kernel_rfl) (by kernel_rfl) (fun o ho => ?_) (fun o ho => ?_)
      · simp only [List.getElem?_toArray, List.getElem?_cons_zero, List.getElem?_cons_succ, Option.some.injEq] at ho; subst ho
        refine ⟨by kernel_rfl, fun wn hl K hK => ?_⟩
        have HR := Lib.hid (HR.out.later hl); have HR3 := Lib.hid (HR3.out.later hl); have HB := Lib.hid (below_on HB.out hl); clear hl
        refine wp_value (by go_simp; try with_reducible rfl) ?_
        refine hK.out _ _ (Later.refl _) ?_
        clear hK K
        simp only [Act.put, List.setIfInBounds_toArray, List.set_cons_zero, List.set_cons_succ]
        refine late_then 9 (by kernel_rfl) (by kernel_rfl) (fun o ho => ?_)
        simp only [List.getElem?_toArray, List.getElem?_cons_zero, List.getElem?_cons_succ, Option.some.injEq] at ho; subst ho
        refine ⟨by kernel_rfl, fun wn hl K hK => ?_⟩
        have HR := Lib.hid (HR.out.later hl); have HR3 := Lib.hid (HR3.out.later hl); have HB := Lib.hid (below_on HB.out hl); clear hl
        refine late_whole _ _ rfl b3 rfl _ (zeroP) rfl HR3.out ?_; intro wm U R
        have HR := Lib.hid (HR.out.apart U HD3.out)
        have HR3 := Lib.hid R; have HB := Lib.hid (HB.out.trans (U.below HG3.out)); clear U R
        refine hK.out _ _ ?_
        clear hK K
        simp only [Act.put, List.setIfInBounds_toArray, List.set_cons_zero, List.set_cons_succ]
        refine any_one 10 (by kernel_rfl) (by kernel_rfl) (fun o ho => ?_)
        simp only [List.getElem?_toArray, List.getElem?_cons_zero, List.getElem?_cons_succ, Option.some.injEq] at ho; subst ho
        refine ⟨by kernel_rfl, fun K hK => ?_⟩
        refine wp_value (by go_simp; try with_reducible rfl) ?_
        refine hK.out _ _ ?_
        clear hK K
        simp only [Act.put, List.setIfInBounds_toArray, List.set_cons_zero, List.set_cons_succ]
        refine any_end (by kernel_rfl) ?_
        exact hK9.out _ _ ⟨b3, rfl, HR.out, HR3.out, HB.out⟩
      · simp only [List.getElem?_toArray, List.getElem?_cons_zero, List.getElem?_cons_succ, Option.some.injEq] at ho; subst ho
        refine ⟨by kernel_rfl, fun wn hl K hK => ?_⟩
        have HR := Lib.hid (HR.out.later hl); have HR3 := Lib.hid (HR3.out.later hl); have HB := Lib.hid (below_on HB.out hl); clear hl
        refine late_whole _ _ rfl b3 rfl _ (zeroP) rfl HR3.out ?_; intro wm U R
        have HR := Lib.hid (HR.out.apart U HD3.out)
        have HR3 := Lib.hid R; have HB := Lib.hid (HB.out.trans (U.below HG3.out)); clear U R
        refine hK.out _ _ ?_
        clear hK K
        simp only [Act.put, List.setIfInBounds_toArray, List.set_cons_zero, List.set_cons_succ]
        refine any_one 7 (by kernel_rfl) (by kernel_rfl) (fun o ho => ?_)
        simp only [List.getElem?_toArray, List.getElem?_cons_zero, List.getElem?_cons_succ, Option.some.injEq] at ho; subst ho
        refine ⟨by kernel_rfl, fun K hK => ?_⟩
        refine wp_value (by go_simp; try with_reducible rfl) ?_
        refine hK.out _ _ ?_
        clear hK K
        simp only [Act.put, List.setIfInBounds_toArray, List.set_cons_zero, List.set_cons_succ]
        refine any_one 10 (by kernel_rfl) (by kernel_rfl) (fun o ho => ?_)
        simp only [List.getElem?_toArray, List.getElem?_cons_zero, List.getElem?_cons_succ, Option.some.injEq] at ho; subst ho
        refine ⟨by kernel_rfl, fun K hK => ?_⟩
        refine wp_value (by go_simp; try with_reducible rfl) ?_
        refine hK.out _ _ ?_
        clear hK K
        simp only [Act.put, List.setIfInBounds_toArray, List.set_cons_zero, List.set_cons_succ]
        refine any_end (by kernel_rfl) ?_
        exact hK9.out _ _ ⟨b3, rfl, HR.out, HR3.out, HB.out⟩
  case cutB =>
    rintro a wn ⟨b3, rfl, hr, hr3, hb⟩
    have HR := Lib.hid hr
    have HR3 := Lib.hid hr3
    have HB := Lib.hid hb
    clear hr hr3 hb hc0
    go_wp2_with fail
    all_goals (
      refine late_begin 17 (by kernel_rfl) ?_
      refine late_take 0 (by kernel_rfl) (by kernel_rfl) (by kernel_rfl) (by kernel_rfl) (by kernel_rfl) (fun _ _ d _ _ h => by cases d <;> exact h) (fun o ho => ?_)
      simp only [List.getElem?_toArray, List.getElem?_cons_zero, List.getElem?_cons_succ, Option.some.injEq] at ho; subst ho
      apply Exists.intro
      refine ⟨Or.inl ⟨by kernel_rfl, fun w' hl => Or.inl ?_⟩, ?_⟩
      · (go_simp; try with_reducible rfl)
      simp only [Act.put, List.setIfInBounds_toArray, List.set_cons_zero, List.set_cons_succ]
      refine late_take 1 (by kernel_rfl) (by kernel_rfl) (by kernel_rfl) (by kernel_rfl) (by kernel_rfl) (fun _ _ d _ _ h => by cases d <;> exact h) (fun o ho => ?_)
      simp only [List.getElem?_toArray, List.getElem?_cons_zero, List.getElem?_cons_succ, Option.some.injEq] at ho; subst ho
      apply Exists.intro
      refine ⟨Or.inl ⟨by kernel_rfl, fun w' hl => Or.inl ?_⟩, ?_⟩
      · (go_simp; try with_reducible rfl)
      simp only [Act.put, List.setIfInBounds_toArray, List.set_cons_zero, List.set_cons_succ]
      refine late_take 2 (by kernel_rfl) (by kernel_rfl) (by kernel_rfl) (by kernel_rfl) (by kernel_rfl) (fun _ _ d _ _ h => by cases d <;> exact h) (fun o ho => ?_)
      simp only [List.getElem?_toArray, List.getElem?_cons_zero, List.getElem?_cons_succ, Option.some.injEq] at ho; subst ho
      apply Exists.intro
      refine ⟨Or.inl ⟨by kernel_rfl, fun w' hl => Or.inl ?_⟩, ?_⟩
      · (go_simp; try with_reducible rfl)
      simp only [Act.put, List.setIfInBounds_toArray, List.set_cons_zero, List.set_cons_succ]
      refine late_take 3 (by kernel_rfl) (by kernel_rfl) (by kernel_rfl) (by kernel_rfl) (by kernel_rfl) (fun _ _ d _ _ h => by cases d <;> exact h) (fun o ho => ?_)
      simp only [List.getElem?_toArray, List.getElem?_cons_zero, List.getElem?_cons_succ, Option.some.injEq] at ho; subst ho
      refine ⟨_, Or.inr ⟨by kernel_rfl, rfl⟩, ?_⟩
      simp only [Act.put, List.setIfInBounds_toArray, List.set_cons_zero, List.set_cons_succ]
      refine late_take 4 (by kernel_rfl) (by kernel_rfl) (by kernel_rfl) (by kernel_rfl) (by kernel_rfl) (fun _ _ d _ _ h => by cases d <;> exact h) (fun o ho => ?_)
      simp only [List.getElem?_toArray, List.getElem?_cons_zero, List.getElem?_cons_succ, Option.some.injEq] at ho; subst ho
      apply Exists.intro
      refine ⟨Or.inl ⟨by kernel_rfl, fun w' hl => Or.inl ?_⟩, ?_⟩
      · (go_simp; try with_reducible rfl)
      simp only [Act.put, List.setIfInBounds_toArray, List.set_cons_zero, List.set_cons_succ]
      refine late_take 5 (by kernel_rfl) (by kernel_rfl) (by kernel_rfl) (by kernel_rfl) (by kernel_rfl) (fun _ _ d _ _ h => by cases d <;> exact h) (fun o ho => ?_)
      simp only [List.getElem?_toArray, List.getElem?_cons_zero, List.getElem?_cons_succ, Option.some.injEq] at ho; subst ho
      apply Exists.intro
      refine ⟨Or.inl ⟨by kernel_rfl, fun w' hl => Or.inl ?_⟩, ?_⟩
      · (go_simp; try with_reducible rfl)
      simp only [Act.put, List.setIfInBounds_toArray, List.set_cons_zero, List.set_cons_succ]
      refine late_take 6 (by kernel_rfl) (by kernel_rfl) (by kernel_rfl) (by kernel_rfl) (by kernel_rfl) (fun _ _ d _ _ h => by cases d <;> exact h) (fun o ho => ?_)
      simp only [List.getElem?_toArray, List.getElem?_cons_zero, List.getElem?_cons_succ, Option.some.injEq] at ho; subst ho
      apply Exists.intro
      refine ⟨Or.inl ⟨by kernel_rfl, fun w' hl => Or.inl ?_⟩, ?_⟩
      · (go_simp; try with_reducible rfl)
      simp only [Act.put, List.setIfInBounds_toArray, List.set_cons_zero, List.set_cons_succ]
      refine late_take 7 (by kernel_rfl) (by kernel_rfl) (by kernel_rfl) (by kernel_rfl) (by kernel_rfl) (fun _ _ d _ _ h => by cases d <;> exact h) (fun o ho => ?_)
      simp only [List.getElem?_toArray, List.getElem?_cons_zero, List.getElem?_cons_succ, Option.some.injEq] at ho; subst ho
      apply Exists.intro
      refine ⟨Or.inl ⟨by kernel_rfl, fun w' hl => Or.inl ?_⟩, ?_⟩
      · (go_simp; try with_reducible rfl)
      simp only [Act.put, List.setIfInBounds_toArray, List.set_cons_zero, List.set_cons_succ]
      refine late_take 8 (by kernel_rfl) (by kernel_rfl) (by kernel_rfl) (by kernel_rfl) (by kernel_rfl) (fun _ _ d _ _ h => by cases d <;> exact h) (fun o ho => ?_)
      simp only [List.getElem?_toArray, List.getElem?_cons_zero, List.getElem?_cons_succ, Option.some.injEq] at ho; subst ho
      apply Exists.intro
      refine ⟨Or.inl ⟨by kernel_rfl, fun w' hl => Or.inl ?_⟩, ?_⟩
      · (go_simp; try with_reducible rfl)
      simp only [Act.put, List.setIfInBounds_toArray, List.set_cons_zero, List.set_cons_succ]
      refine late_take 9 (by kernel_rfl) (by kernel_rfl) (by kernel_rfl) (by kernel_rfl) (by kernel_rfl) (fun _ _ d _ _ h => by cases d <;> exact h) (fun o ho => ?_)
      simp only [List.getElem?_toArray, List.getElem?_cons_zero, List.getElem?_cons_succ, Option.some.injEq] at ho; subst ho
      refine ⟨_, Or.inr ⟨by kernel_rfl, rfl⟩, ?_⟩
      simp only [Act.put, List.setIfInBounds_toArray, List.set_cons_zero, List.set_cons_succ]
      refine late_take 10 (by kernel_rfl) (by kernel_rfl) (by kernel_rfl) (by kernel_rfl) (by kernel_rfl) (fun _ _ d _ _ h => by cases d <;> exact h) (fun o ho => ?_)
      simp only [List.getElem?_toArray, List.getElem?_cons_zero, List.getElem?_cons_succ, Option.some.injEq] at ho; subst ho
      refine ⟨_, Or.inr ⟨by kernel_rfl, rfl⟩, ?_⟩
      simp only [Act.put, List.setIfInBounds_toArray, List.set_cons_zero, List.set_cons_succ]
      refine late_take 11 (by kernel_rfl) (by kernel_rfl) (by kernel_rfl) (by kernel_rfl) (by kernel_rfl) (fun _ _ d _ _ h => by cases d <;> exact h) (fun o ho => ?_)
      simp only [List.getElem?_toArray, List.getElem?_cons_zero, List.getElem?_cons_succ, Option.some.injEq] at ho; subst ho
      refine ⟨_, Or.inr ⟨by kernel_rfl, rfl⟩, ?_⟩
      simp only [Act.put, List.setIfInBounds_toArray, List.set_cons_zero, List.set_cons_succ]
      refine late_take 12 (by kernel_rfl) (by kernel_rfl) (by kernel_rfl) (by kernel_rfl) (by kernel_rfl) (fun _ _ d _ _ h => by cases d <;> exact h) (fun o ho => ?_)
      simp only [List.getElem?_toArray, List.getElem?_cons_zero, List.getElem?_cons_succ, Option.some.injEq] at ho; subst ho
      refine ⟨_, Or.inr ⟨by kernel_rfl, rfl⟩, ?_⟩
      simp only [Act.put, List.setIfInBounds_toArray, List.set_cons_zero, List.set_cons_succ]
      refine late_take 13 (by kernel_rfl) (by kernel_rfl) (by kernel_rfl) (by kernel_rfl) (by kernel_rfl) (fun _ _ d _ _ h => by cases d <;> exact h) (fun o ho => ?_)
      simp only [List.getElem?_toArray, List.getElem?_cons_zero, List.getElem?_cons_succ, Option.some.injEq] at ho; subst ho
      refine ⟨_, Or.inr ⟨by kernel_rfl, rfl⟩, ?_⟩
      simp only [Act.put, List.setIfInBounds_toArray, List.set_cons_zero, List.set_cons_succ]
      refine late_take 14 (by kernel_rfl) (by kernel_rfl) (by kernel_rfl) (by kernel_rfl) (by kernel_rfl) (fun _ _ d _ _ h => by cases d <;> exact h) (fun o ho => ?_)
      simp only [List.getElem?_toArray, List.getElem?_cons_zero, List.getElem?_cons_succ, Option.some.injEq] at ho; subst ho
      apply Exists.intro
      refine ⟨Or.inl ⟨by kernel_rfl, fun w' hl => Or.inl ?_⟩, ?_⟩
      · (go_simp; try with_reducible rfl)
      simp only [Act.put, List.setIfInBounds_toArray, List.set_cons_zero, List.set_cons_succ]
      refine late_take 15 (by kernel_rfl) (by kernel_rfl) (by kernel_rfl) (by kernel_rfl) (by kernel_rfl) (fun _ _ d _ _ h => by cases d <;> exact h) (fun o ho => ?_)
      simp only [List.getElem?_toArray, List.getElem?_cons_zero, List.getElem?_cons_succ, Option.some.injEq] at ho; subst ho
      apply Exists.intro
      refine ⟨Or.inl ⟨by kernel_rfl, fun w' hl => Or.inl ?_⟩, ?_⟩
      · (go_simp; try with_reducible rfl)
      simp only [Act.put, List.setIfInBounds_toArray, List.set_cons_zero, List.set_cons_succ]
      refine late_take 16 (by kernel_rfl) (by kernel_rfl) (by kernel_rfl) (by kernel_rfl) (by kernel_rfl) (fun _ _ d _ _ h => by cases d <;> exact h) (fun o ho => ?_)
      simp only [List.getElem?_toArray, List.getElem?_cons_zero, List.getElem?_cons_succ, Option.some.injEq] at ho; subst ho
      apply Exists.intro
      refine ⟨Or.inl ⟨by kernel_rfl, fun w' hl => Or.inl ?_⟩, ?_⟩
      · (go_simp; try with_reducible rfl)
      simp only [Act.put, List.setIfInBounds_toArray, List.set_cons_zero, List.set_cons_succ]
      refine late_end (by kernel_rfl) (fun wn hl => ?_)
      have HR := Lib.hid (HR.out.later hl); have HR3 := Lib.hid (HR3.out.later hl); have HB := Lib.hid (below_on HB.out hl); clear hl
      go_wp2_with fail
      exact bodyPost_ret (results_tmp rfl _ _ _) rfl ⟨by simp, HB.out⟩)
set_option maxRecDepth 100000 in
set_option maxHeartbeats 4000000 in
theorem bad_1_01 (p : Nat → Int) (v b : Int) (s : List UInt8) (x0 : UInt8) (s1 : List UInt8) (hv : 0 ≤ v ∧ v ≤ 255) (h9 : 9 ≤ v) (hb : 0 ≤ b ∧ b ≤ 255) (w : World) (hF : FitF p) (hs : fenL p = s) (hs1 : s = x0 :: s1) (h0 : p 0 < 9) (hl : (s ++ [byZ b]).length ≤ 200) (o2 : parO (p 0) (s ++ [byZ b]) = none) (q3 : Nat → Int) (o3 : parO (p 0) s1 = some q3) (hM : TabMx w) (hT : TabErr w) (hC : TabCorn w) (hV : TabVar w) (hP : TabPow w) (hK : TabKn w) :
    Calls Tryz.prog 8 #[.agg (posA p), .int .u8 v, .int .u8 b] w (BoL true w) := by
  have HM := Lib.hid hM
  have HT := Lib.hid hT
  have HC := Lib.hid hC
  have HV := Lib.hid hV
  have HP := Lib.hid hP
  have HK := Lib.hid hK
  have HF := Lib.hid hF
  have HVr := Lib.hid hv
  obtain ⟨q1, hq1⟩ : ∃ q, pqO (parO v s) = q := ⟨_, rfl⟩
  obtain ⟨n1, hn1⟩ : ∃ n, pnO (parN v s) (parO v s) = n := ⟨_, rfl⟩
  have HO1 := Lib.hid (show RdO (parN v s) (parO v s) = #[.agg (posA q1), .int .i64 n1] by rw [RdO_eq, hq1, hn1])
  obtain rfl : n1 = 2 := by rw [← hn1]; unfold parO parN; rw [decide_eq_true h9]; rfl
  have hsl := fen_short hs
  have N2 := Lib.hid (show parN (p 0) (s ++ [byZ b]) = 5 by unfold parN; rw [decide_eq_false (show ¬ 9 ≤ p 0 by omega), decide_eq_false (show ¬ 200 < ((s ++ [byZ b])).length by omega)]; rfl)
  have HO2 := Lib.hid o2
  have h3r := (parO_some o3).2
  have HFq := Lib.hid (rdAll_inv hF.var (Nat.le_trans h3r.1 (by decide)) h3r.2).1
  have HTx := Lib.hid (rdAll_text h3r.2)
  clear h3r
  have HO3 := Lib.hid o3
  obtain ⟨y, hy⟩ : ∃ y, bz s = y := ⟨_, rfl⟩
  obtain ⟨t, ht⟩ : ∃ t, y ++ bz [byZ b] = t := ⟨_, rfl⟩
  have hys : y.size = s.length := by rw [← hy, bz_size]
  have hye : y.toList.isEmpty = false := by rw [← hy, bz_toList, hs1]; rfl
  have HS := Lib.hid (show bz (fenL p) = y by rw [hs]; exact hy)
  have HY := Lib.hid hy
  have HTt := Lib.hid ht
  have HTb := Lib.hid (show t = bz (s ++ [byZ b]) by rw [← ht, ← hy, bz_app])
  have hts : t.size = (s ++ [byZ b]).length := by rw [HTb.out, bz_size]
  have gl : decide ((200 : Int) < (t.size : Int)) = false := decide_eq_false (by omega)
  have hcv := conv1
  have hb1 : (bz [byZ b]).size = 1 := bz_size _
  have k1 := cat_ok (a := y) (b := bz [byZ b]) (by omega) (by omega)
  have rt := tail_of x0 s1
  rw [show bz (x0 :: s1) = y by rw [← hs1]; exact hy] at rt
  have l1 : (1 : Int) ≤ (y.size : Int) := by rw [hys, hs1, List.length_cons]; omega
  obtain ⟨z, hz⟩ : ∃ z, bz s1 = z := ⟨_, rfl⟩
  have HZ := Lib.hid hz
  rw [hz] at rt
  have HRt := Lib.hid rt
  have HTz := Lib.hid (show bz (fenL q3) = z by rw [HTx.out]; exact hz)
  clear hM hT hC hV hP hK hF hs hs1 hy ht hys hts hl hsl hb1 hq1
  clear h0 hv o2 o3 hz
  clear hn1
  obtain ⟨b0', b255⟩ := hb
  go_enter Tryz.func8, Tryz.ntmps8
  go_wp2_with (first
    | (refine step_box rfl _ rfl p rfl ?_; intro b0 w1 N R; have HG0 := Lib.hid (show w.heap.size ≤ b0 from Nat.le_of_eq N.at_.symm); have HB := Lib.hid N.below; have HR := Lib.hid R; clear N R)
    | (go_at_call 11; refine (fawake_any _ (HM.out.on HB.out) (HT.out.on HB.out) (HC.out.on HB.out) (HV.out.on HB.out) (HP.out.on HB.out) (HK.out.on HB.out)).mono ?_; rintro e w2 ⟨rfl, hb⟩; have HR := Lib.hid (HR.out.later hb); have HB := Lib.hid (HB.out.trans (hb.mono HB.out.size)); clear hb)
    | (refine step_load rfl _ rfl b0 rfl p ?_ ?_; exact HR.out)
    | (go_at_call 12; refine (print_any p _ HF.out (HV.out.on HB.out) (HC.out.on HB.out) (HP.out.on HB.out)).mono ?_; rintro e w3 ⟨rfl, hb⟩; rw [HS.out]; have HR := Lib.hid (HR.out.later hb); have HB := Lib.hid (HB.out.trans (hb.mono HB.out.size)); clear hb))
  rw [← HY.out]
  refine (fparse_any v s _ HVr.out (HM.out.on HB.out) (HT.out.on HB.out) (HC.out.on HB.out) (HV.out.on HB.out) (HP.out.on HB.out)).mono ?_; rintro e w4 ⟨rfl, hb⟩; rw [HO1.out, HY.out]; have HR := Lib.hid (HR.out.later hb); have HB := Lib.hid (HB.out.trans (hb.mono HB.out.size)); clear hb
  go_wp2_with (first
    | (refine step_alloc rfl rfl ?_; intro b1 w5 N R; have HG1 := Lib.hid (show w.heap.size ≤ b1 by rw [N.at_]; exact HB.out.size); have HD1 := Lib.hid (show b0 ≠ b1 by rw [N.at_]; exact Nat.ne_of_lt HR.out.lt); have HR := Lib.hid (HR.out.later N.below); have HR1 := Lib.hid R; have HB := Lib.hid (HB.out.trans (N.below.mono HB.out.size)); clear N R)
    | (refine step_store rfl _ _ rfl b1 rfl zeroP q1 rfl ?_ ?_; exact HR1.out; intro w6 U R; have HR1 := Lib.hid R; have HR := Lib.hid (HR.out.apart U HD1.out); have HB := Lib.hid (HB.out.trans (U.below HG1.out)); clear U R)
    | (refine step_get rfl 5 _ rfl b0 0 rfl Tryz.underlying5 rfl (.int .u8 (p 0)) ?_ ?_; (first | (rw [HR.out.cell 0 (by decide)]; rfl) | (rw [(HR.out.later (New.alloc _ _).below).cell 0 (by decide)]; rfl))))
  rw [HTt.out, HTb.out]
  have hN := fun (w : World) (o : Obj) => (New.alloc w o).below
  refine (fparse_any (p 0) (s ++ [byZ b]) _ HF.out.var (HM.out.on (HB.out.trans ((hN _ _).mono HB.out.size))) (HT.out.on (HB.out.trans ((hN _ _).mono HB.out.size))) (HC.out.on (HB.out.trans ((hN _ _).mono HB.out.size))) (HV.out.on (HB.out.trans ((hN _ _).mono HB.out.size))) (HP.out.on (HB.out.trans ((hN _ _).mono HB.out.size)))).mono ?_
  rintro e w7 ⟨rfl, hb⟩; rw [HO2.out, N2.out, RdO, ← HTb.out]; have HR := Lib.hid ((HR.out.later (hN _ _)).later hb); have HB := Lib.hid ((HB.out.trans ((hN _ _).mono HB.out.size)).trans (hb.mono (HB.out.trans ((hN _ _).mono HB.out.size)).size)); clear hb
  go_wp2_with (first
    | (refine step_alloc rfl rfl ?_; intro b2 w5 N R; have HG2 := Lib.hid (show w.heap.size ≤ b2 by rw [N.at_]; exact HB.out.size); have HD2 := Lib.hid (show b0 ≠ b2 by rw [N.at_]; exact Nat.ne_of_lt HR.out.lt); have HR := Lib.hid (HR.out.later N.below); have HR2 := Lib.hid R; have HB := Lib.hid (HB.out.trans (N.below.mono HB.out.size)); clear N R)
    | (refine step_store rfl _ _ rfl b2 rfl zeroP zeroP rfl ?_ ?_; exact HR2.out; intro w6 U R; have HR2 := Lib.hid R; have HR := Lib.hid (HR.out.apart U HD2.out); have HB := Lib.hid (HB.out.trans (U.below HG2.out)); have hc0 : w6.cell? ⟨b0, 0, none⟩ = some (.int .u8 (p 0)) := (by rw [HR.out.cell 0 (by decide)]; rfl); clear U R)
    )
  refine cut_here (fun F a w' => ∃ b3 : Nat, a = F b3 ∧ Row w' b0 p ∧ Row w' b3 q3 ∧ Below w.heap.size w w') ?_
  apply Exists.intro
  refine ⟨fun K9 hK9 => ?cutA, ?cutB⟩
  case cutA =>
    refine late_begin 9 (by kernel_rfl) ?_
    refine late_take 0 (by kernel_rfl) (by kernel_rfl) (by kernel_rfl) (by kernel_rfl) (by kernel_rfl) (fun _ _ d _ _ h => by cases d <;> exact h) (fun o ho => ?_)
    simp only [List.getElem?_toArray, List.getElem?_cons_zero, List.getElem?_cons_succ, Option.some.injEq] at ho; subst ho
    apply Exists.intro
    refine ⟨Or.inl ⟨by kernel_rfl, fun w' hl => Or.inl ?_⟩, ?_⟩
    · (go_simp; try with_reducible rfl)
    simp only [Act.put, List.setIfInBounds_toArray, List.set_cons_zero, List.set_cons_succ]
    refine late_take 1 (by kernel_rfl) (by kernel_rfl) (by kernel_rfl) (by kernel_rfl) (by kernel_rfl) (fun _ _ d _ _ h => by cases d <;> exact h) (fun o ho => ?_)
    simp only [List.getElem?_toArray, List.getElem?_cons_zero, List.getElem?_cons_succ, Option.some.injEq] at ho; subst ho
    refine ⟨.int .u8 (p 0), Or.inl ⟨by kernel_rfl, fun w' hl => Or.inl (run_get 5 _ rfl b0 0 rfl Tryz.underlying5 rfl (.int .u8 (p 0)) (by rw [(HR.out.later hl).cell 0 (by decide)]; rfl))⟩, ?_⟩
    simp only [Act.put, List.setIfInBounds_toArray, List.set_cons_zero, List.set_cons_succ]
    refine late_take 2 (by kernel_rfl) (by kernel_rfl) (by kernel_rfl) (by kernel_rfl) (by kernel_rfl) (fun _ _ d _ _ h => by cases d <;> exact h) (fun o ho => ?_)
    simp only [List.getElem?_toArray, List.getElem?_cons_zero, List.getElem?_cons_succ, Option.some.injEq] at ho; subst ho
    apply Exists.intro
    refine ⟨Or.inl ⟨by kernel_rfl, fun w' hl => Or.inl ?_⟩, ?_⟩
    · (go_simp; try with_reducible rfl)
    simp only [Act.put, List.setIfInBounds_toArray, List.set_cons_zero, List.set_cons_succ]
    refine late_take 3 (by kernel_rfl) (by kernel_rfl) (by kernel_rfl) (by kernel_rfl) (by kernel_rfl) (fun _ _ d _ _ h => by cases d <;> exact h) (fun o ho => ?_)
    simp only [List.getElem?_toArray, List.getElem?_cons_zero, List.getElem?_cons_succ, Option.some.injEq] at ho; subst ho
    refine ⟨.string z, Or.inl ⟨by kernel_rfl, fun w' hl => Or.inl ?_⟩, ?_⟩
    · (go_simp; try simp [HRt.out])
    simp only [Act.put, List.setIfInBounds_toArray, List.set_cons_zero, List.set_cons_succ]
    refine late_fork 4 8 (by kernel_rfl) (by kernel_rfl) (by kernel_rfl) (fun o ho => ?_) (fun o ho => ?_)
    · simp only [List.getElem?_toArray, List.getElem?_cons_zero, List.getElem?_cons_succ, Option.some.injEq] at ho; subst ho
      refine ⟨by kernel_rfl, fun wn hl K hK => ?_⟩
      have HR := Lib.hid (HR.out.later hl); have HB := Lib.hid (below_on HB.out hl); clear hl
      refine wp_enter _ _ (by go_simp; exact ⟨rfl, rfl⟩) ?_
      rw [← HZ.out]
      refine (fparse_any (p 0) s1 _ HF.out.var (HM.out.on HB.out) (HT.out.on HB.out) (HC.out.on HB.out) (HV.out.on HB.out) (HP.out.on HB.out)).mono ?_; rintro e wm ⟨rfl, hb⟩; refine ⟨_, rfl, ?_⟩
      rw [HO3.out, RdO, HZ.out]
      refine hK.out _ _ hb ?_
      have HR := Lib.hid (HR.out.later hb); have HB := Lib.hid (below_on HB.out hb); clear hb
      clear hK K
      simp only [Act.put, List.setIfInBounds_toArray, List.set_cons_zero, List.set_cons_succ]
      refine late_take 5 (by kernel_rfl) (by kernel_rfl) (by kernel_rfl) (by kernel_rfl) (by kernel_rfl) (fun _ _ d _ _ h => by cases d <;> exact h) (fun o ho => ?_)
      simp only [List.getElem?_toArray, List.getElem?_cons_zero, List.getElem?_cons_succ, Option.some.injEq] at ho; subst ho
      apply Exists.intro
      refine ⟨Or.inl ⟨by kernel_rfl, fun w' hl => Or.inl ?_⟩, ?_⟩
      · (go_simp; try with_reducible rfl)
      simp only [Act.put, List.setIfInBounds_toArray, List.set_cons_zero, List.set_cons_succ]
      refine late_take 6 (by kernel_rfl) (by kernel_rfl) (by kernel_rfl) (by kernel_rfl) (by kernel_rfl) (fun _ _ d _ _ h => by cases d <;> exact h) (fun o ho => ?_)
      simp only [List.getElem?_toArray, List.getElem?_cons_zero, List.getElem?_cons_succ, Option.some.injEq] at ho; subst ho
      apply Exists.intro
      refine ⟨Or.inl ⟨by kernel_rfl, fun w' hl => Or.inl ?_⟩, ?_⟩
      · (go_simp; try with_reducible rfl)
      simp only [Act.put, List.setIfInBounds_toArray, List.set_cons_zero, List.set_cons_succ]
      refine late_fork 7 8 (by kernel_rfl) (by kernel_rfl) (by kernel_rfl) (fun o ho => ?_) (fun o ho => ?_)
      · simp only [List.getElem?_toArray, List.getElem?_cons_zero, List.getElem?_cons_succ, Option.some.injEq] at ho; subst ho
        refine ⟨by kernel_rfl, fun wn hl K hK => ?_⟩
        have HR := Lib.hid (HR.out.later hl); have HB := Lib.hid (below_on HB.out hl); clear hl
        refine wp_value (by go_simp; try with_reducible rfl) ?_
        refine hK.out _ _ (Later.refl _) ?_
        clear hK K
        simp only [Act.put, List.setIfInBounds_toArray, List.set_cons_zero, List.set_cons_succ]
        refine late_one 8 (by kernel_rfl) (by kernel_rfl) (fun o ho => ?_)
        simp only [List.getElem?_toArray, List.getElem?_cons_zero, List.getElem?_cons_succ, Option.some.injEq] at ho; subst ho
        refine ⟨by kernel_rfl, fun wn hl K hK => ?_⟩
        have HR := Lib.hid (HR.out.later hl); have HB := Lib.hid (below_on HB.out hl); clear hl
        refine late_alloc rfl ?_; intro b3 wm N R
        have HD3 := Lib.hid (N.ne HR.out)
        have HG3 := Lib.hid (show w.heap.size ≤ b3 by have := HB.out.size; have := N.at_; omega)
        have hb := N.below
        have HRn := Lib.hid R
        clear N R
        refine hK.out _ _ hb ?_
        have HR := Lib.hid (HR.out.later hb); have HB := Lib.hid (below_on HB.out hb); clear hb
        have HR3 := HRn; clear HRn
        clear hK K
        simp only [Act.put, List.setIfInBounds_toArray, List.set_cons_zero, List.set_cons_succ]
        refine late_then 9 (by kernel_rfl) (by kernel_rfl) (fun o ho => ?_)
        simp only [List.getElem?_toArray, List.getElem?_cons_zero, List.getElem?_cons_succ, Option.some.injEq] at ho; subst ho
        refine ⟨by kernel_rfl, fun wn hl K hK => ?_⟩
        have HR := Lib.hid (HR.out.later hl); have HR3 := Lib.hid (HR3.out.later hl); have HB := Lib.hid (below_on HB.out hl); clear hl
        refine late_whole _ _ rfl b3 rfl _ (q3) rfl HR3.out ?_; intro wm U R
        have HR := Lib.hid (HR.out.apart U HD3.out)
        have HR3 := Lib.hid R; have HB := Lib.hid (HB.out.trans (U.below HG3.out)); clear U R
        refine hK.out _ _ ?_
        clear hK K
        simp only [Act.put, List.setIfInBounds_toArray, List.set_cons_zero, List.set_cons_succ]
        refine any_one 10 (by kernel_rfl) (by kernel_rfl) (fun o ho => ?_)
        simp only [List.getElem?_toArray, List.getElem?_cons_zero, List.getElem?_cons_succ, Option.some.injEq] at ho; subst ho
        refine ⟨by kernel_rfl, fun K hK => ?_⟩
        refine wp_value (by go_simp; try with_reducible rfl) ?_
        refine hK.out _ _ ?_
        clear hK K
        simp only [Act.put, List.setIfInBounds_toArray, List.set_cons_zero, List.set_cons_succ]
        refine any_end (by kernel_rfl) ?_
        exact hK9.out _ _ ⟨b3, rfl, HR.out, HR3.out, HB.out⟩
      · simp only [List.getElem?_toArray, List.getElem?_cons_zero, List.getElem?_cons_succ, Option.some.injEq] at ho; subst ho
        refine ⟨by kernel_rfl, fun wn hl K hK => ?_⟩
        have HR := Lib.hid (HR.out.later hl); have HB := Lib.hid (below_on HB.out hl); clear hl
        refine late_alloc rfl ?_; intro b3 wm N R
        have HD3 := Lib.hid (N.ne HR.out)
        have HG3 := Lib.hid (show w.heap.size ≤ b3 by have := HB.out.size; have := N.at_; omega)
        have hb := N.below
        have HRn := Lib.hid R
        clear N R
        refine hK.out _ _ hb ?_
        have HR := Lib.hid (HR.out.later hb); have HB := Lib.hid (below_on HB.out hb); clear hb
        have HR3 := HRn; clear HRn
        clear hK K
        simp only [Act.put, List.setIfInBounds_toArray, List.set_cons_zero, List.set_cons_succ]
        refine late_forkL 7 9 (by kernel_rfl) (by kernel_rfl) (by kernel_rfl) (fun o ho => ?_) (fun o ho => ?_)
        · simp only [List.getElem?_toArray, List.getElem?_cons_zero, List.getElem?_cons_succ, Option.some.injEq] at ho; subst ho
          refine ⟨by kernel_rfl, fun wn hl K hK => ?_⟩
          have HR := Lib.hid (HR.out.later hl); have HR3 := Lib.hid (HR3.out.later hl); have HB := Lib.hid (below_on HB.out hl); clear hl
          refine wp_value (by go_simp; try with_reducible rfl) ?_
          refine hK.out _ _ (Later.refl _) ?_
          clear hK K
          simp only [Act.put, List.setIfInBounds_toArray, List.set_cons_zero, List.set_cons_succ]
          refine late_then 9 (by kernel_rfl) (by kernel_rfl) (fun o ho => ?_)
          simp only [List.getElem?_toArray, List.getElem?_cons_zero, List.getElem?_cons_succ, Option.some.injEq] at ho; subst ho
          refine ⟨by kernel_rfl, fun wn hl K hK => ?_⟩
          have HR := Lib.hid (HR.out.later hl); have HR3 := Lib.hid (HR3.out.later hl); have HB := Lib.hid (below_on HB.out hl); clear hl
          refine late_whole _ _ rfl b3 rfl _ (q3) rfl HR3.out ?_; intro wm U R
          have HR := Lib.hid (HR.out.apart U HD3.out)
          have HR3 := Lib.hid R; have HB := Lib.hid (HB.out.trans (U.below HG3.out)); clear U R
          refine hK.out _ _ ?_
          clear hK K
          simp only [Act.put, List.setIfInBounds_toArray, List.set_cons_zero, List.set_cons_succ]
          refine any_one 10 (by kernel_rfl) (by kernel_rfl) (fun o ho => ?_)
          simp only [List.getElem?_toArray, List.getElem?_cons_zero, List.getElem?_cons_succ, Option.some.injEq] at ho; subst ho
          refine ⟨by kernel_rfl, fun K hK => ?_⟩
          refine wp_value (by go_simp; try with_reducible rfl) ?_
          refine hK.out _ _ ?_
          clear hK K
          simp only [Act.put, List.setIfInBounds_toArray, List.set_cons_zero, List.set_cons_succ]
          refine any_end (by kernel_rfl) ?_
          exact hK9.out _ _ ⟨b3, rfl, HR.out, HR3.out, HB.out⟩
        · simp only [List.getElem?_toArray, List.getElem?_cons_zero, List.getElem?_cons_succ, Option.some.injEq] at ho; subst ho
          refine ⟨by kernel_rfl, fun wn hl K hK => ?_⟩
          have HR := Lib.hid (HR.out.later hl); have HR3 := Lib.hid (HR3.out.later hl); have HB := Lib.hid (below_on HB.out hl); clear hl
          refine late_whole _ _ rfl b3 rfl _ (q3) rfl HR3.out ?_; intro wm U R
          have HR := Lib.hid (HR.out.apart U HD3.out)
          have HR3 := Lib.hid R; have HB := Lib.hid (HB.out.trans (U.below HG3.out)); clear U R
          refine hK.out _ _ ?_
          clear hK K
          simp only [Act.put, List.setIfInBounds_toArray, List.set_cons_zero, List.set_cons_succ]
          refine any_one 7 (by kernel_rfl) (by kernel_rfl) (fun o ho => ?_)
          simp only [List.getElem?_toArray, List.getElem?_cons_zero, List.getElem?_cons_succ, Option.some.injEq] at ho; subst ho
          refine ⟨by kernel_rfl, fun K hK => ?_⟩
          refine wp_value (by go_simp; try with_reducible rfl) ?_
          refine hK.out _ _ ?_
          clear hK K
          simp only [Act.put, List.setIfInBounds_toArray, List.set_cons_zero, List.set_cons_succ]
          refine any_one 10 (by kernel_rfl) (by kernel_rfl) (fun o ho => ?_)
          simp only [List.getElem?_toArray, List.getElem?_cons_zero, List.getElem?_cons_succ, Option.some.injEq] at ho; subst ho
          refine ⟨by kernel_rfl, fun K hK => ?_⟩
          refine wp_value (by go_simp; try with_reducible rfl) ?_
          refine hK.out _ _ ?_
          clear hK K
          simp only [Act.put, List.setIfInBounds_toArray, List.set_cons_zero, List.set_cons_succ]
          refine any_end (by kernel_rfl) ?_
          exact hK9.out _ _ ⟨b3, rfl, HR.out, HR3.out, HB.out⟩
    · simp only [List.getElem?_toArray, List.getElem?_cons_zero, List.getElem?_cons_succ, Option.some.injEq] at ho; subst ho
      refine ⟨by kernel_rfl, fun wn hl K hK => ?_⟩
      have HR := Lib.hid (HR.out.later hl); have HB := Lib.hid (below_on HB.out hl); clear hl
      refine late_alloc rfl ?_; intro b3 wm N R
      have HD3 := Lib.hid (N.ne HR.out)
      have HG3 := Lib.hid (show w.heap.size ≤ b3 by have := HB.out.size; have := N.at_; omega)
      have hb := N.below
      have HRn := Lib.hid R
      clear N R
      refine hK.out _ _ hb ?_
      have HR := Lib.hid (HR.out.later hb); have HB := Lib.hid (below_on HB.out hb); clear hb
      have HR3 := HRn; clear HRn
      clear hK K
      simp only [Act.put, List.setIfInBounds_toArray, List.set_cons_zero, List.set_cons_succ]
      refine late_one 4 (by kernel_rfl) (by kernel_rfl) (fun o ho => ?_)
      simp only [List.getElem?_toArray, List.getElem?_cons_zero, List.getElem?_cons_succ, Option.some.injEq] at ho; subst ho
      refine ⟨by kernel_rfl, fun wn hl K hK => ?_⟩
      have HR := Lib.hid (HR.out.later hl); have HR3 := Lib.hid (HR3.out.later hl); have HB := Lib.hid (below_on HB.out hl); clear hl
      refine wp_enter _ _ (by go_simp; exact ⟨rfl, rfl⟩) ?_
      rw [← HZ.out]
      refine (fparse_any (p 0) s1 _ HF.out.var (HM.out.on HB.out) (HT.out.on HB.out) (HC.out.on HB.out) (HV.out.on HB.out) (HP.out.on HB.out)).mono ?_; rintro e wm ⟨rfl, hb⟩; refine ⟨_, rfl, ?_⟩
      rw [HO3.out, RdO, HZ.out]
      refine hK.out _ _ hb ?_
      have HR := Lib.hid (HR.out.later hb); have HR3 := Lib.hid (HR3.out.later hb); have HB := Lib.hid (below_on HB.out hb); clear hb
      clear hK K
      simp only [Act.put, List.setIfInBounds_toArray, List.set_cons_zero, List.set_cons_succ]
      refine late_take 5 (by kernel_rfl) (by kernel_rfl) (by kernel_rfl) (by kernel_rfl) (by kernel_rfl) (fun _ _ d _ _ h => by cases d <;> exact h) (fun o ho => ?_)
      simp only [List.getElem?_toArray, List.getElem?_cons_zero, List.getElem?_cons_succ, Option.some.injEq] at ho; subst ho
      apply Exists.intro
      refine ⟨Or.inl ⟨by kernel_rfl, fun w' hl => Or.inl ?_⟩, ?_⟩
      · (go_simp; try with_reducible rfl)
      simp only [Act.put, List.setIfInBounds_toArray, List.set_cons_zero, List.set_cons_succ]
      refine late_take 6 (by kernel_rfl) (by kernel_rfl) (by kernel_rfl) (by kernel_rfl) (by kernel_rfl) (fun _ _ d _ _ h => by cases d <;> exact h) (fun o ho => ?_)
      simp only [List.getElem?_toArray, List.getElem?_cons_zero, List.getElem?_cons_succ, Option.some.injEq] at ho; subst ho
      apply Exists.intro
      refine ⟨Or.inl ⟨by kernel_rfl, fun w' hl => Or.inl ?_⟩, ?_⟩
      · (go_simp; try with_reducible rfl)
      simp only [Act.put, List.setIfInBounds_toArray, List.set_cons_zero, List.set_cons_succ]
      refine late_forkL 7 9 (by kernel_rfl) (by kernel_rfl) (by kernel_rfl) (fun o ho => ?_) (fun o ho => ?_)
      · simp only [List.getElem?_toArray, List.getElem?_cons_zero, List.getElem?_cons_succ, Option.some.injEq] at ho; subst ho
        refine ⟨by kernel_rfl, fun wn hl K hK => ?_⟩
        have HR := Lib.hid (HR.out.later hl); have HR3 := Lib.hid (HR3.out.later hl); have HB := Lib.hid (below_on HB.out hl); clear hl
        refine wp_value (by go_simp; try with_reducible rfl) ?_
        refine hK.out _ _ (Later.refl _) ?_
        clear hK K
        simp only [Act.put, List.setIfInBounds_toArray, List.set_cons_zero, List.set_cons_succ]
        refine late_then 9 (by kernel_rfl) (by kernel_rfl) (fun o ho => ?_)
        simp only [List.getElem?_toArray, List.getElem?_cons_zero, List.getElem?_cons_succ, Option.some.injEq] at ho; subst ho
        refine ⟨by kernel_rfl, fun wn hl K hK => ?_⟩
        have HR := Lib.hid (HR.out.later hl); have HR3 := Lib.hid (HR3.out.later hl); have HB := Lib.hid (below_on HB.out hl); clear hl
        refine late_whole _ _ rfl b3 rfl _ (q3) rfl HR3.out ?_; intro wm U R
        have HR := Lib.hid (HR.out.apart U HD3.out)
        have HR3 := Lib.hid R; have HB := Lib.hid (HB.out.trans (U.below HG3.out)); clear U R
        refine hK.out _ _ ?_
        clear hK K
        simp only [Act.put, List.setIfInBounds_toArray, List.set_cons_zero, List.set_cons_succ]
        refine any_one 10 (by kernel_rfl) (by kernel_rfl) (fun o ho => ?_)
        simp only [List.getElem?_toArray, List.getElem?_cons_zero, List.getElem?_cons_succ, Option.some.injEq] at ho; subst ho
        refine ⟨by kernel_rfl, fun K hK => ?_⟩
        refine wp_value (by go_simp; try with_reducible rfl) ?_
        refine hK.out _ _ ?_
        clear hK K
        simp only [Act.put, List.setIfInBounds_toArray, List.set_cons_zero, List.set_cons_succ]
        refine any_end (by kernel_rfl) ?_
        exact hK9.out _ _ ⟨b3, rfl, HR.out, HR3.out, HB.out⟩
      · simp only [List.getElem?_toArray, List.getElem?_cons_zero, List.getElem?_cons_succ, Option.some.injEq] at ho; subst ho
        refine ⟨by kernel_rfl, fun wn hl K hK => ?_⟩
        have HR := Lib.hid (HR.out.later hl); have HR3 := Lib.hid (HR3.out.later hl); have HB := Lib.hid (below_on HB.out hl); clear hl
        refine late_whole _ _ rfl b3 rfl _ (q3) rfl HR3.out ?_; intro wm U R
        have HR := Lib.hid (HR.out.apart U HD3.out)
        have HR3 := Lib.hid R; have HB := Lib.hid (HB.out.trans (U.below HG3.out)); clear U R
        refine hK.out _ _ ?_
        clear hK K
        simp only [Act.put, List.setIfInBounds_toArray, List.set_cons_zero, List.set_cons_succ]
        refine any_one 7 (by kernel_rfl) (by kernel_rfl) (fun o ho => ?_)
        simp only [List.getElem?_toArray, List.getElem?_cons_zero, List.getElem?_cons_succ, Option.some.injEq] at ho; subst ho
        refine ⟨by kernel_rfl, fun K hK => ?_⟩
        refine wp_value (by go_simp; try with_reducible rfl) ?_
        refine hK.out _ _ ?_
        clear hK K
        simp only [Act.put, List.setIfInBounds_toArray, List.set_cons_zero, List.set_cons_succ]
        refine any_one 10 (by kernel_rfl) (by kernel_rfl) (fun o ho => ?_)
        simp only [List.getElem?_toArray, List.getElem?_cons_zero, List.getElem?_cons_succ, Option.some.injEq] at ho; subst ho
        refine ⟨by kernel_rfl, fun K hK => ?_⟩
        refine wp_value (by go_simp; try with_reducible rfl) ?_
        refine hK.out _ _ ?_
        clear hK K
        simp only [Act.put, List.setIfInBounds_toArray, List.set_cons_zero, List.set_cons_succ]
        refine any_end (by kernel_rfl) ?_
        exact hK9.out _ _ ⟨b3, rfl, HR.out, HR3.out, HB.out⟩
  case cutB =>
    rintro a wn ⟨b3, rfl, hr, hr3, hb⟩
    have HR := Lib.hid hr
    have HR3 := Lib.hid hr3
    have HB := Lib.hid hb
    clear hr hr3 hb hc0
    go_wp2_with fail
    all_goals (
      refine late_begin 17 (by kernel_rfl) ?_
      refine late_take 0 (by kernel_rfl) (by kernel_rfl) (by kernel_rfl) (by kernel_rfl) (by kernel_rfl) (fun _ _ d _ _ h => by cases d <;> exact h) (fun o ho => ?_)
      simp only [List.getElem?_toArray, List.getElem?_cons_zero, List.getElem?_cons_succ, Option.some.injEq] at ho; subst ho
      apply Exists.intro
      refine ⟨Or.inl ⟨by kernel_rfl, fun w' hl => Or.inl ?_⟩, ?_⟩
      · (go_simp; try with_reducible rfl)
      simp only [Act.put, List.setIfInBounds_toArray, List.set_cons_zero, List.set_cons_succ]
      refine late_take 1 (by kernel_rfl) (by kernel_rfl) (by kernel_rfl) (by kernel_rfl) (by kernel_rfl) (fun _ _ d _ _ h => by cases d <;> exact h) (fun o ho => ?_)
      simp only [List.getElem?_toArray, List.getElem?_cons_zero, List.getElem?_cons_succ, Option.some.injEq] at ho; subst ho
      apply Exists.intro
      refine ⟨Or.inl ⟨by kernel_rfl, fun w' hl => Or.inl ?_⟩, ?_⟩
      · (go_simp; try with_reducible rfl)
      simp only [Act.put, List.setIfInBounds_toArray, List.set_cons_zero, List.set_cons_succ]
      refine late_take 2 (by kernel_rfl) (by kernel_rfl) (by kernel_rfl) (by kernel_rfl) (by kernel_rfl) (fun _ _ d _ _ h => by cases d <;> exact h) (fun o ho => ?_)
      simp only [List.getElem?_toArray, List.getElem?_cons_zero, List.getElem?_cons_succ, Option.some.injEq] at ho; subst ho
      apply Exists.intro
      refine ⟨Or.inl ⟨by kernel_rfl, fun w' hl => Or.inl ?_⟩, ?_⟩
      · (go_simp; try with_reducible rfl)
      simp only [Act.put, List.setIfInBounds_toArray, List.set_cons_zero, List.set_cons_succ]
      refine late_take 3 (by kernel_rfl) (by kernel_rfl) (by kernel_rfl) (by kernel_rfl) (by kernel_rfl) (fun _ _ d _ _ h => by cases d <;> exact h) (fun o ho => ?_)
      simp only [List.getElem?_toArray, List.getElem?_cons_zero, List.getElem?_cons_succ, Option.some.injEq] at ho; subst ho
      refine ⟨_, Or.inr ⟨by kernel_rfl, rfl⟩, ?_⟩
      simp only [Act.put, List.setIfInBounds_toArray, List.set_cons_zero, List.set_cons_succ]
      refine late_take 4 (by kernel_rfl) (by kernel_rfl) (by kernel_rfl) (by kernel_rfl) (by kernel_rfl) (fun _ _ d _ _ h => by cases d <;> exact h) (fun o ho => ?_)
      simp only [List.getElem?_toArray, List.getElem?_cons_zero, List.getElem?_cons_succ, Option.some.injEq] at ho; subst ho
      apply Exists.intro
      refine ⟨Or.inl ⟨by kernel_rfl, fun w' hl => Or.inl ?_⟩, ?_⟩
      · (go_simp; try with_reducible rfl)
      simp only [Act.put, List.setIfInBounds_toArray, List.set_cons_zero, List.set_cons_succ]
      refine late_take 5 (by kernel_rfl) (by kernel_rfl) (by kernel_rfl) (by kernel_rfl) (by kernel_rfl) (fun _ _ d _ _ h => by cases d <;> exact h) (fun o ho => ?_)
      simp only [List.getElem?_toArray, List.getElem?_cons_zero, List.getElem?_cons_succ, Option.some.injEq] at ho; subst ho
      apply Exists.intro
      refine ⟨Or.inl ⟨by kernel_rfl, fun w' hl => Or.inl ?_⟩, ?_⟩
      · (go_simp; try with_reducible rfl)
      simp only [Act.put, List.setIfInBounds_toArray, List.set_cons_zero, List.set_cons_succ]
      refine late_take 6 (by kernel_rfl) (by kernel_rfl) (by kernel_rfl) (by kernel_rfl) (by kernel_rfl) (fun _ _ d _ _ h => by cases d <;> exact h) (fun o ho => ?_)
      simp only [List.getElem?_toArray, List.getElem?_cons_zero, List.getElem?_cons_succ, Option.some.injEq] at ho; subst ho
      apply Exists.intro
      refine ⟨Or.inl ⟨by kernel_rfl, fun w' hl => Or.inl ?_⟩, ?_⟩
      · (go_simp; try with_reducible rfl)
      simp only [Act.put, List.setIfInBounds_toArray, List.set_cons_zero, List.set_cons_succ]
      refine late_take 7 (by kernel_rfl) (by kernel_rfl) (by kernel_rfl) (by kernel_rfl) (by kernel_rfl) (fun _ _ d _ _ h => by cases d <;> exact h) (fun o ho => ?_)
      simp only [List.getElem?_toArray, List.getElem?_cons_zero, List.getElem?_cons_succ, Option.some.injEq] at ho; subst ho
      apply Exists.intro
      refine ⟨Or.inl ⟨by kernel_rfl, fun w' hl => Or.inl ?_⟩, ?_⟩
      · (go_simp; try with_reducible rfl)
      simp only [Act.put, List.setIfInBounds_toArray, List.set_cons_zero, List.set_cons_succ]
      refine late_take 8 (by kernel_rfl) (by kernel_rfl) (by kernel_rfl) (by kernel_rfl) (by kernel_rfl) (fun _ _ d _ _ h => by cases d <;> exact h) (fun o ho => ?_)
      simp only [List.getElem?_toArray, List.getElem?_cons_zero, List.getElem?_cons_succ, Option.some.injEq] at ho; subst ho
      apply Exists.intro
      refine ⟨Or.inl ⟨by kernel_rfl, fun w' hl => Or.inl ?_⟩, ?_⟩
      · (go_simp; try with_reducible rfl)
      simp only [Act.put, List.setIfInBounds_toArray, List.set_cons_zero, List.set_cons_succ]
      refine late_take 9 (by kernel_rfl) (by kernel_rfl) (by kernel_rfl) (by kernel_rfl) (by kernel_rfl) (fun _ _ d _ _ h => by cases d <;> exact h) (fun o ho => ?_)
      simp only [List.getElem?_toArray, List.getElem?_cons_zero, List.getElem?_cons_succ, Option.some.injEq] at ho; subst ho
      refine ⟨_, Or.inl ⟨by kernel_rfl, fun w' hl => Or.inl (run_load _ rfl _ rfl (q3) (HR3.out.later hl))⟩, ?_⟩
      simp only [Act.put, List.setIfInBounds_toArray, List.set_cons_zero, List.set_cons_succ]
      refine late_take 11 (by kernel_rfl) (by kernel_rfl) (by kernel_rfl) (by kernel_rfl) (by kernel_rfl) (fun _ _ d _ _ h => by cases d <;> exact h) (fun o ho => ?_)
      simp only [List.getElem?_toArray, List.getElem?_cons_zero, List.getElem?_cons_succ, Option.some.injEq] at ho; subst ho
      apply Exists.intro
      refine ⟨Or.inl ⟨by kernel_rfl, fun w' hl => Or.inl ?_⟩, ?_⟩
      · (go_simp; try with_reducible rfl)
      simp only [Act.put, List.setIfInBounds_toArray, List.set_cons_zero, List.set_cons_succ]
      refine late_take 12 (by kernel_rfl) (by kernel_rfl) (by kernel_rfl) (by kernel_rfl) (by kernel_rfl) (fun _ _ d _ _ h => by cases d <;> exact h) (fun o ho => ?_)
      simp only [List.getElem?_toArray, List.getElem?_cons_zero, List.getElem?_cons_succ, Option.some.injEq] at ho; subst ho
      refine ⟨.string z, Or.inl ⟨by kernel_rfl, fun w' hl => Or.inl ?_⟩, ?_⟩
      · (go_simp; try simp [HRt.out])
      simp only [Act.put, List.setIfInBounds_toArray, List.set_cons_zero, List.set_cons_succ]
      refine late_one 10 (by kernel_rfl) (by kernel_rfl) (fun o ho => ?_)
      simp only [List.getElem?_toArray, List.getElem?_cons_zero, List.getElem?_cons_succ, Option.some.injEq] at ho; subst ho
      refine ⟨by kernel_rfl, fun wn hl K hK => ?_⟩
      have HR := Lib.hid (HR.out.later hl); have HR3 := Lib.hid (HR3.out.later hl); have HB := Lib.hid (below_on HB.out hl); clear hl
      refine wp_enter _ _ (by go_simp; exact ⟨rfl, rfl⟩) ?_
      refine (print_any q3 _ HFq.out (HV.out.on HB.out) (HC.out.on HB.out) (HP.out.on HB.out)).mono ?_; rintro e wm ⟨rfl, hb⟩; refine ⟨_, rfl, ?_⟩
      rw [HTz.out]
      refine hK.out _ _ hb ?_
      have HR := Lib.hid (HR.out.later hb); have HR3 := Lib.hid (HR3.out.later hb); have HB := Lib.hid (below_on HB.out hb); clear hb
      clear hK K
      simp only [Act.put, List.setIfInBounds_toArray, List.set_cons_zero, List.set_cons_succ]
      refine late_take 13 (by kernel_rfl) (by kernel_rfl) (by kernel_rfl) (by kernel_rfl) (by kernel_rfl) (fun _ _ d _ _ h => by cases d <;> exact h) (fun o ho => ?_)
      simp only [List.getElem?_toArray, List.getElem?_cons_zero, List.getElem?_cons_succ, Option.some.injEq] at ho; subst ho
      apply Exists.intro
      refine ⟨Or.inl ⟨by kernel_rfl, fun w' hl => Or.inl ?_⟩, ?_⟩
      · (go_simp; try with_reducible rfl)
      simp only [Act.put, List.setIfInBounds_toArray, List.set_cons_zero, List.set_cons_succ]
      refine late_take 14 (by kernel_rfl) (by kernel_rfl) (by kernel_rfl) (by kernel_rfl) (by kernel_rfl) (fun _ _ d _ _ h => by cases d <;> exact h) (fun o ho => ?_)
      simp only [List.getElem?_toArray, List.getElem?_cons_zero, List.getElem?_cons_succ, Option.some.injEq] at ho; subst ho
      apply Exists.intro
      refine ⟨Or.inl ⟨by kernel_rfl, fun w' hl => Or.inl ?_⟩, ?_⟩
      · (go_simp; try with_reducible rfl)
      simp only [Act.put, List.setIfInBounds_toArray, List.set_cons_zero, List.set_cons_succ]
      refine late_take 15 (by kernel_rfl) (by kernel_rfl) (by kernel_rfl) (by kernel_rfl) (by kernel_rfl) (fun _ _ d _ _ h => by cases d <;> exact h) (fun o ho => ?_)
      simp only [List.getElem?_toArray, List.getElem?_cons_zero, List.getElem?_cons_succ, Option.some.injEq] at ho; subst ho
      apply Exists.intro
      refine ⟨Or.inl ⟨by kernel_rfl, fun w' hl => Or.inl ?_⟩, ?_⟩
      · (go_simp; try with_reducible rfl)
      simp only [Act.put, List.setIfInBounds_toArray, List.set_cons_zero, List.set_cons_succ]
      refine late_take 16 (by kernel_rfl) (by kernel_rfl) (by kernel_rfl) (by kernel_rfl) (by kernel_rfl) (fun _ _ d _ _ h => by cases d <;> exact h) (fun o ho => ?_)
      simp only [List.getElem?_toArray, List.getElem?_cons_zero, List.getElem?_cons_succ, Option.some.injEq] at ho; subst ho
      apply Exists.intro
      refine ⟨Or.inl ⟨by kernel_rfl, fun w' hl => Or.inl ?_⟩, ?_⟩
      · (go_simp; try with_reducible rfl)
      simp only [Act.put, List.setIfInBounds_toArray, List.set_cons_zero, List.set_cons_succ]
      refine late_end (by kernel_rfl) (fun wn hl => ?_)
      have HR := Lib.hid (HR.out.later hl); have HR3 := Lib.hid (HR3.out.later hl); have HB := Lib.hid (below_on HB.out hl); clear hl
      go_wp2_with fail
      exact bodyPost_ret (results_tmp rfl _ _ _) rfl ⟨by simp, HB.out⟩)
set_option maxRecDepth 100000 in
set_option maxHeartbeats 4000000 in
theorem bad_1_10 (p : Nat → Int) (v b : Int) (s : List UInt8) (x0 : UInt8) (s1 : List UInt8) (hv : 0 ≤ v ∧ v ≤ 255) (h9 : 9 ≤ v) (hb : 0 ≤ b ∧ b ≤ 255) (w : World) (hF : FitF p) (hs : fenL p = s) (hs1 : s = x0 :: s1) (h0 : p 0 < 9) (hl : (s ++ [byZ b]).length ≤ 200) (q2 : Nat → Int) (o2 : parO (p 0) (s ++ [byZ b]) = some q2) (o3 : parO (p 0) s1 = none) (hM : TabMx w) (hT : TabErr w) (hC : TabCorn w) (hV : TabVar w) (hP : TabPow w) (hK : TabKn w) :
    Calls Tryz.prog 8 #[.agg (posA p), .int .u8 v, .int .u8 b] w (BoL true w) := by
  have HM := Lib.hid hM
  have HT := Lib.hid hT
  have HC := Lib.hid hC
  have HV := Lib.hid hV
  have HP := Lib.hid hP
  have HK := Lib.hid hK
  have HF := Lib.hid hF
  have HVr := Lib.hid hv
  obtain ⟨q1, hq1⟩ : ∃ q, pqO (parO v s) = q := ⟨_, rfl⟩
  obtain ⟨n1, hn1⟩ : ∃ n, pnO (parN v s) (parO v s) = n := ⟨_, rfl⟩
  have HO1 := Lib.hid (show RdO (parN v s) (parO v s) = #[.agg (posA q1), .int .i64 n1] by rw [RdO_eq, hq1, hn1])
  obtain rfl : n1 = 2 := by rw [← hn1]; unfold parO parN; rw [decide_eq_true h9]; rfl
  have hsl := fen_short hs
  have hd : 48 ≤ b ∧ b ≤ 57 := by
    have h1 := rdAll_text (parO_some o2).2.2
    have h2 := fenL_last h1
    have h3 := byZ_u8 hb.1 hb.2
    omega
  have HO2 := Lib.hid o2
  have N3 := Lib.hid (show parN (p 0) s1 = 5 by unfold parN; rw [decide_eq_false (show ¬ 9 ≤ p 0 by omega), decide_eq_false (show ¬ 200 < (s1).length by rw [hs1] at hsl; simp at hsl; omega)]; rfl)
  have HO3 := Lib.hid o3
  obtain ⟨y, hy⟩ : ∃ y, bz s = y := ⟨_, rfl⟩
  obtain ⟨t, ht⟩ : ∃ t, y ++ bz [byZ b] = t := ⟨_, rfl⟩
  have hys : y.size = s.length := by rw [← hy, bz_size]
  have hye : y.toList.isEmpty = false := by rw [← hy, bz_toList, hs1]; rfl
  have HS := Lib.hid (show bz (fenL p) = y by rw [hs]; exact hy)
  have HY := Lib.hid hy
  have HTt := Lib.hid ht
  have HTb := Lib.hid (show t = bz (s ++ [byZ b]) by rw [← ht, ← hy, bz_app])
  have hts : t.size = (s ++ [byZ b]).length := by rw [HTb.out, bz_size]
  have gl : decide ((200 : Int) < (t.size : Int)) = false := decide_eq_false (by omega)
  have hcv := conv1
  have hb1 : (bz [byZ b]).size = 1 := bz_size _
  have k1 := cat_ok (a := y) (b := bz [byZ b]) (by omega) (by omega)
  have rt := tail_of x0 s1
  rw [show bz (x0 :: s1) = y by rw [← hs1]; exact hy] at rt
  have l1 : (1 : Int) ≤ (y.size : Int) := by rw [hys, hs1, List.length_cons]; omega
  obtain ⟨z, hz⟩ : ∃ z, bz s1 = z := ⟨_, rfl⟩
  have HZ := Lib.hid hz
  rw [hz] at rt
  have HRt := Lib.hid rt
  obtain ⟨hd0, hd1⟩ := hd
  clear hM hT hC hV hP hK hF hs hs1 hy ht hys hts hl hsl hb1 hq1
  clear h0 hv o2 o3 hz
  clear hn1
  obtain ⟨b0', b255⟩ := hb
  go_enter Tryz.func8, Tryz.ntmps8
  go_wp2_with (first
    | (refine step_box rfl _ rfl p rfl ?_; intro b0 w1 N R; have HG0 := Lib.hid (show w.heap.size ≤ b0 from Nat.le_of_eq N.at_.symm); have HB := Lib.hid N.below; have HR := Lib.hid R; clear N R)
    | (go_at_call 11; refine (fawake_any _ (HM.out.on HB.out) (HT.out.on HB.out) (HC.out.on HB.out) (HV.out.on HB.out) (HP.out.on HB.out) (HK.out.on HB.out)).mono ?_; rintro e w2 ⟨rfl, hb⟩; have HR := Lib.hid (HR.out.later hb); have HB := Lib.hid (HB.out.trans (hb.mono HB.out.size)); clear hb)
    | (refine step_load rfl _ rfl b0 rfl p ?_ ?_; exact HR.out)
    | (go_at_call 12; refine (print_any p _ HF.out (HV.out.on HB.out) (HC.out.on HB.out) (HP.out.on HB.out)).mono ?_; rintro e w3 ⟨rfl, hb⟩; rw [HS.out]; have HR := Lib.hid (HR.out.later hb); have HB := Lib.hid (HB.out.trans (hb.mono HB.out.size)); clear hb))
  rw [← HY.out]
  refine (fparse_any v s _ HVr.out (HM.out.on HB.out) (HT.out.on HB.out) (HC.out.on HB.out) (HV.out.on HB.out) (HP.out.on HB.out)).mono ?_; rintro e w4 ⟨rfl, hb⟩; rw [HO1.out, HY.out]; have HR := Lib.hid (HR.out.later hb); have HB := Lib.hid (HB.out.trans (hb.mono HB.out.size)); clear hb
  go_wp2_with (first
    | (refine step_alloc rfl rfl ?_; intro b1 w5 N R; have HG1 := Lib.hid (show w.heap.size ≤ b1 by rw [N.at_]; exact HB.out.size); have HD1 := Lib.hid (show b0 ≠ b1 by rw [N.at_]; exact Nat.ne_of_lt HR.out.lt); have HR := Lib.hid (HR.out.later N.below); have HR1 := Lib.hid R; have HB := Lib.hid (HB.out.trans (N.below.mono HB.out.size)); clear N R)
    | (refine step_store rfl _ _ rfl b1 rfl zeroP q1 rfl ?_ ?_; exact HR1.out; intro w6 U R; have HR1 := Lib.hid R; have HR := Lib.hid (HR.out.apart U HD1.out); have HB := Lib.hid (HB.out.trans (U.below HG1.out)); clear U R)
    | (refine step_get rfl 5 _ rfl b0 0 rfl Tryz.underlying5 rfl (.int .u8 (p 0)) ?_ ?_; (first | (rw [HR.out.cell 0 (by decide)]; rfl) | (rw [(HR.out.later (New.alloc _ _).below).cell 0 (by decide)]; rfl))))
  rw [HTt.out, HTb.out]
  have hN := fun (w : World) (o : Obj) => (New.alloc w o).below
  refine (fparse_any (p 0) (s ++ [byZ b]) _ HF.out.var (HM.out.on (HB.out.trans ((hN _ _).mono HB.out.size))) (HT.out.on (HB.out.trans ((hN _ _).mono HB.out.size))) (HC.out.on (HB.out.trans ((hN _ _).mono HB.out.size))) (HV.out.on (HB.out.trans ((hN _ _).mono HB.out.size))) (HP.out.on (HB.out.trans ((hN _ _).mono HB.out.size)))).mono ?_
  rintro e w7 ⟨rfl, hb⟩; rw [HO2.out, RdO, ← HTb.out]; have HR := Lib.hid ((HR.out.later (hN _ _)).later hb); have HB := Lib.hid ((HB.out.trans ((hN _ _).mono HB.out.size)).trans (hb.mono (HB.out.trans ((hN _ _).mono HB.out.size)).size)); clear hb
  go_wp2_with (first
    | (refine step_alloc rfl rfl ?_; intro b2 w5 N R; have HG2 := Lib.hid (show w.heap.size ≤ b2 by rw [N.at_]; exact HB.out.size); have HD2 := Lib.hid (show b0 ≠ b2 by rw [N.at_]; exact Nat.ne_of_lt HR.out.lt); have HR := Lib.hid (HR.out.later N.below); have HR2 := Lib.hid R; have HB := Lib.hid (HB.out.trans (N.below.mono HB.out.size)); clear N R)
    | (refine step_store rfl _ _ rfl b2 rfl zeroP q2 rfl ?_ ?_; exact HR2.out; intro w6 U R; have HR2 := Lib.hid R; have HR := Lib.hid (HR.out.apart U HD2.out); have HB := Lib.hid (HB.out.trans (U.below HG2.out)); have hc0 : w6.cell? ⟨b0, 0, none⟩ = some (.int .u8 (p 0)) := (by rw [HR.out.cell 0 (by decide)]; rfl); clear U R)
    )
  refine cut_here (fun F a w' => ∃ b3 : Nat, a = F b3 ∧ Row w' b0 p ∧ Row w' b3 zeroP ∧ Below w.heap.size w w') ?_
  apply Exists.intro
  refine ⟨fun K9 hK9 => ?cutA, ?cutB⟩
  case cutA =>
    refine late_begin 9 (by kernel_rfl) ?_
    refine late_take 0 (by kernel_rfl) (by kernel_rfl) (by kernel_rfl) (by kernel_rfl) (by kernel_rfl) (fun _ _ d _ _ h => by cases d <;> exact h) (fun o ho => ?_)
    simp only [List.getElem?_toArray, List.getElem?_cons_zero, List.getElem?_cons_succ, Option.some.injEq] at ho; subst ho
    apply Exists.intro
    refine ⟨Or.inl ⟨by kernel_rfl, fun w' hl => Or.inl ?_⟩, ?_⟩
    · (go_simp; try with_reducible rfl)
    simp only [Act.put, List.setIfInBounds_toArray, List.set_cons_zero, List.set_cons_succ]
    refine late_take 1 (by kernel_rfl) (by kernel_rfl) (by kernel_rfl) (by kernel_rfl) (by kernel_rfl) (fun _ _ d _ _ h => by cases d <;> exact h) (fun o ho => ?_)
    simp only [List.getElem?_toArray, List.getElem?_cons_zero, List.getElem?_cons_succ, Option.some.injEq] at ho; subst ho
    refine ⟨.int .u8 (p 0), Or.inl ⟨by kernel_rfl, fun w' hl => Or.inl (run_get 5 _ rfl b0 0 rfl Tryz.underlying5 rfl (.int .u8 (p 0)) (by rw [(HR.out.later hl).cell 0 (by decide)]; rfl))⟩, ?_⟩
    simp only [Act.put, List.setIfInBounds_toArray, List.set_cons_zero, List.set_cons_succ]
    refine late_take 2 (by kernel_rfl) (by kernel_rfl) (by kernel_rfl) (by kernel_rfl) (by kernel_rfl) (fun _ _ d _ _ h => by cases d <;> exact h) (fun o ho => ?_)
    simp only [List.getElem?_toArray, List.getElem?_cons_zero, List.getElem?_cons_succ, Option.some.injEq] at ho; subst ho
    apply Exists.intro
    refine ⟨Or.inl ⟨by kernel_rfl, fun w' hl => Or.inl ?_⟩, ?_⟩
    · (go_simp; try with_reducible rfl)
    simp only [Act.put, List.setIfInBounds_toArray, List.set_cons_zero, List.set_cons_succ]
    refine late_take 3 (by kernel_rfl) (by kernel_rfl) (by kernel_rfl) (by kernel_rfl) (by kernel_rfl) (fun _ _ d _ _ h => by cases d <;> exact h) (fun o ho => ?_)
    simp only [List.getElem?_toArray, List.getElem?_cons_zero, List.getElem?_cons_succ, Option.some.injEq] at ho; subst ho
    refine ⟨.string z, Or.inl ⟨by kernel_rfl, fun w' hl => Or.inl ?_⟩, ?_⟩
    · (go_simp; try simp [HRt.out])
    simp only [Act.put, List.setIfInBounds_toArray, List.set_cons_zero, List.set_cons_succ]
    refine late_fork 4 8 (by kernel_rfl) (by kernel_rfl) (by kernel_rfl) (fun o ho => ?_) (fun o ho => ?_)
    · simp only [List.getElem?_toArray, List.getElem?_cons_zero, List.getElem?_cons_succ, Option.some.injEq] at ho; subst ho
      refine ⟨by kernel_rfl, fun wn hl K hK => ?_⟩
      have HR := Lib.hid (HR.out.later hl); have HB := Lib.hid (below_on HB.out hl); clear hl
      refine wp_enter _ _ (by go_simp; exact ⟨rfl, rfl⟩) ?_
      rw [← HZ.out]
      refine (fparse_any (p 0) s1 _ HF.out.var (HM.out.on HB.out) (HT.out.on HB.out) (HC.out.on HB.out) (HV.out.on HB.out) (HP.out.on HB.out)).mono ?_; rintro e wm ⟨rfl, hb⟩; refine ⟨_, rfl, ?_⟩
      rw [HO3.out, N3.out, RdO, HZ.out]
      refine hK.out _ _ hb ?_
      have HR := Lib.hid (HR.out.later hb); have HB := Lib.hid (below_on HB.out hb); clear hb
      clear hK K
      simp only [Act.put, List.setIfInBounds_toArray, List.set_cons_zero, List.set_cons_succ]
      refine late_take 5 (by kernel_rfl) (by kernel_rfl) (by kernel_rfl) (by kernel_rfl) (by kernel_rfl) (fun _ _ d _ _ h => by cases d <;> exact h) (fun o ho => ?_)
      simp only [List.getElem?_toArray, List.getElem?_cons_zero, List.getElem?_cons_succ, Option.some.injEq] at ho; subst ho
      apply Exists.intro
      refine ⟨Or.inl ⟨by kernel_rfl, fun w' hl => Or.inl ?_⟩, ?_⟩
      · (go_simp; try with_reducible rfl)
      simp only [Act.put, List.setIfInBounds_toArray, List.set_cons_zero, List.set_cons_succ]
      refine late_take 6 (by kernel_rfl) (by kernel_rfl) (by kernel_rfl) (by kernel_rfl) (by kernel_rfl) (fun _ _ d _ _ h => by cases d <;> exact h) (fun o ho => ?_)
      simp only [List.getElem?_toArray, List.getElem?_cons_zero, List.getElem?_cons_succ, Option.some.injEq] at ho; subst ho
      apply Exists.intro
      refine ⟨Or.inl ⟨by kernel_rfl, fun w' hl => Or.inl ?_⟩, ?_⟩
      · (go_simp; try with_reducible rfl)
      simp only [Act.put, List.setIfInBounds_toArray, List.set_cons_zero, List.set_cons_succ]
      refine late_fork 7 8 (by kernel_rfl) (by kernel_rfl) (by kernel_rfl) (fun o ho => ?_) (fun o ho => ?_)
      · simp only [List.getElem?_toArray, List.getElem?_cons_zero, List.getElem?_cons_succ, Option.some.injEq] at ho; subst ho
        refine ⟨by kernel_rfl, fun wn hl K hK => ?_⟩
        have HR := Lib.hid (HR.out.later hl); have HB := Lib.hid (below_on HB.out hl); clear hl
        refine wp_value (by go_simp; try with_reducible rfl) ?_
        refine hK.out _ _ (Later.refl _) ?_
        clear hK K
        simp only [Act.put, List.setIfInBounds_toArray, List.set_cons_zero, List.set_cons_succ]
        refine late_one 8 (by kernel_rfl) (by kernel_rfl) (fun o ho => ?_)
        simp only [List.getElem?_toArray, List.getElem?_cons_zero, List.getElem?_cons_succ, Option.some.injEq] at ho; subst ho
        refine ⟨by kernel_rfl, fun wn hl K hK => ?_⟩
        have HR := Lib.hid (HR.out.later hl); have HB := Lib.hid (below_on HB.out hl); clear hl
        refine late_alloc rfl ?_; intro b3 wm N R
        have HD3 := Lib.hid (N.ne HR.out)
        have HG3 := Lib.hid (show w.heap.size ≤ b3 by have := HB.out.size; have := N.at_; omega)
        have hb := N.below
        have HRn := Lib.hid R
        clear N R
        refine hK.out _ _ hb ?_
        have HR := Lib.hid (HR.out.later hb); have HB := Lib.hid (below_on HB.out hb); clear hb
        have HR3 := HRn; clear HRn
        clear hK K
        simp only [Act.put, List.setIfInBounds_toArray, List.set_cons_zero, List.set_cons_succ]
        refine late_then 9 (by kernel_rfl) (by kernel_rfl) (fun o ho => ?_)
        simp only [List.getElem?_toArray, List.getElem?_cons_zero, List.getElem?_cons_succ, Option.some.injEq] at ho; subst ho
        refine ⟨by kernel_rfl, fun wn hl K hK => ?_⟩
        have HR := Lib.hid (HR.out.later hl); have HR3 := Lib.hid (HR3.out.later hl); have HB := Lib.hid (below_on HB.out hl); clear hl
        refine late_whole _ _ rfl b3 rfl _ (zeroP) rfl HR3.out ?_; intro wm U R
        have HR := Lib.hid (HR.out.apart U HD3.out)
        have HR3 := Lib.hid R; have HB := Lib.hid (HB.out.trans (U.below HG3.out)); clear U R
        refine hK.out _ _ ?_
        clear hK K
        simp only [Act.put, List.setIfInBounds_toArray, List.set_cons_zero, List.set_cons_succ]
        refine any_one 10 (by kernel_rfl) (by kernel_rfl) (fun o ho => ?_)
        simp only [List.getElem?_toArray, List.getElem?_cons_zero, List.getElem?_cons_succ, Option.some.injEq] at ho; subst ho
        refine ⟨by kernel_rfl, fun K hK => ?_⟩
        refine wp_value (by go_simp; try with_reducible rfl) ?_
        refine hK.out _ _ ?_
        clear hK K
        simp only [Act.put, List.setIfInBounds_toArray, List.set_cons_zero, List.set_cons_succ]
        refine any_end (by kernel_rfl) ?_
        exact hK9.out _ _ ⟨b3, rfl, HR.out, HR3.out, HB.out⟩
      · simp only [List.getElem?_toArray, List.getElem?_cons_zero, List.getElem?_cons_succ, Option.some.injEq] at ho; subst ho
        refine ⟨by kernel_rfl, fun wn hl K hK => ?_⟩
        have HR := Lib.hid (HR.out.later hl); have HB := Lib.hid (below_on HB.out hl); clear hl
        refine late_alloc rfl ?_; intro b3 wm N R
        have HD3 := Lib.hid (N.ne HR.out)
        have HG3 := Lib.hid (show w.heap.size ≤ b3 by have := HB.out.size; have := N.at_; omega)
        have hb := N.below
        have HRn := Lib.hid R
        clear N R
        refine hK.out _ _ hb ?_
        have HR := Lib.hid (HR.out.later hb); have HB := Lib.hid (below_on HB.out hb); clear hb
        have HR3 := HRn; clear HRn
        clear hK K
        simp only [Act.put, List.setIfInBounds_toArray, List.set_cons_zero, List.set_cons_succ]
        refine late_forkL 7 9 (by kernel_rfl) (by kernel_rfl) (by kernel_rfl) (fun o ho => ?_) (fun o ho => ?_)
        · simp only [List.getElem?_toArray, List.getElem?_cons_zero, List.getElem?_cons_succ, Option.some.injEq] at ho; subst ho
          refine ⟨by kernel_rfl, fun wn hl K hK => ?_⟩
          have HR := Lib.hid (HR.out.later hl); have HR3 := Lib.hid (HR3.out.later hl); have HB := Lib.hid (below_on HB.out hl); clear hl
          refine wp_value (by go_simp; try with_reducible rfl) ?_
          refine hK.out _ _ (Later.refl _) ?_
          clear hK K
          simp only [Act.put, List.setIfInBounds_toArray, List.set_cons_zero, List.set_cons_succ]
          refine late_then 9 (by kernel_rfl) (by kernel_rfl) (fun o ho => ?_)
          simp only [List.getElem?_toArray, List.getElem?_cons_zero, List.getElem?_cons_succ, Option.some.injEq] at ho; subst ho
          refine ⟨by kernel_rfl, fun wn hl K hK => ?_⟩
          have HR := Lib.hid (HR.out.later hl); have HR3 := Lib.hid (HR3.out.later hl); have HB := Lib.hid (below_on HB.out hl); clear hl
          refine late_whole _ _ rfl b3 rfl _ (zeroP) rfl HR3.out ?_; intro wm U R
          have HR := Lib.hid (HR.out.apart U HD3.out)
          have HR3 := Lib.hid R; have HB := Lib.hid (HB.out.trans (U.below HG3.out)); clear U R
          refine hK.out _ _ ?_
          clear hK K
          simp only [Act.put, List.setIfInBounds_toArray, List.set_cons_zero, List.set_cons_succ]
          refine any_one 10 (by kernel_rfl) (by kernel_rfl) (fun o ho => ?_)
          simp only [List.getElem?_toArray, List.getElem?_cons_zero, List.getElem?_cons_succ, Option.some.injEq] at ho; subst ho
          refine ⟨by kernel_rfl, fun K hK => ?_⟩
          refine wp_value (by go_simp; try with_reducible rfl) ?_
          refine hK.out _ _ ?_
          clear hK K
          simp only [Act.put, List.setIfInBounds_toArray, List.set_cons_zero, List.set_cons_succ]
          refine any_end (by kernel_rfl) ?_
          exact hK9.out _ _ ⟨b3, rfl, HR.out, HR3.out, HB.out⟩
        · simp only [List.getElem?_toArray, List.getElem?_cons_zero, List.getElem?_cons_succ, Option.some.injEq] at ho; subst ho
          refine ⟨by kernel_rfl, fun wn hl K hK => ?_⟩
          have HR := Lib.hid (HR.out.later hl); have HR3 := Lib.hid (HR3.out.later hl); have HB := Lib.hid (below_on HB.out hl); clear hl
          refine late_whole _ _ rfl b3 rfl _ (zeroP) rfl HR3.out ?_; intro wm U R
          have HR := Lib.hid (HR.out.apart U HD3.out)
          have HR3 := Lib.hid R; have HB := Lib.hid (HB.out.trans (U.below HG3.out)); clear U R
          refine hK.out _ _ ?_
          clear hK K
          simp only [Act.put, List.setIfInBounds_toArray, List.set_cons_zero, List.set_cons_succ]
          refine any_one 7 (by kernel_rfl) (by kernel_rfl) (fun o ho => ?_)
          simp only [List.getElem?_toArray, List.getElem?_cons_zero, List.getElem?_cons_succ, Option.some.injEq] at ho; subst ho
          refine ⟨by kernel_rfl, fun K hK => ?_⟩
          refine wp_value (by go_simp; try with_reducible rfl) ?_
          refine hK.out _ _ ?_
          clear hK K
          simp only [Act.put, List.setIfInBounds_toArray, List.set_cons_zero, List.set_cons_succ]
          refine any_one 10 (by kernel_rfl) (by kernel_rfl) (fun o ho => ?_)
          simp only [List.getElem?_toArray, List.getElem?_cons_zero, List.getElem?_cons_succ, Option.some.injEq] at ho; subst ho
          refine ⟨by kernel_rfl, fun K hK => ?_⟩
          refine wp_value (by go_simp; try with_reducible rfl) ?_
          refine hK.out _ _ ?_
          clear hK K
          simp only [Act.put, List.setIfInBounds_toArray, List.set_cons_zero, List.set_cons_succ]
          refine any_end (by kernel_rfl) ?_
          exact hK9.out _ _ ⟨b3, rfl, HR.out, HR3.out, HB.out⟩
    · simp only [List.getElem?_toArray, List.getElem?_cons_zero, List.getElem?_cons_succ, Option.some.injEq] at ho; subst ho
      refine ⟨by kernel_rfl, fun wn hl K hK => ?_⟩
      have HR := Lib.hid (HR.out.later hl); have HB := Lib.hid (below_on HB.out hl); clear hl
      refine late_alloc rfl ?_; intro b3 wm N R
      have HD3 := Lib.hid (N.ne HR.out)
      have HG3 := Lib.hid (show w.heap.size ≤ b3 by have := HB.out.size; have := N.at_; omega)
      have hb := N.below
      have HRn := Lib.hid R
      clear N R
      refine hK.out _ _ hb ?_
      have HR := Lib.hid (HR.out.later hb); have HB := Lib.hid (below_on HB.out hb); clear hb
      have HR3 := HRn; clear HRn
      clear hK K
      simp only [Act.put, List.setIfInBounds_toArray, List.set_cons_zero, List.set_cons_succ]
      refine late_one 4 (by kernel_rfl) (by kernel_rfl) (fun o ho => ?_)
      simp only [List.getElem?_toArray, List.getElem?_cons_zero, List.getElem?_cons_succ, Option.some.injEq] at ho; subst ho
      refine ⟨by kernel_rfl, fun wn hl K hK => ?_⟩
      have HR := Lib.hid (HR.out.later hl); have HR3 := Lib.hid (HR3.out.later hl); have HB := Lib.hid (below_on HB.out hl); clear hl
      refine wp_enter _ _ (by go_simp; exact ⟨rfl, rfl⟩) ?_
      rw [← HZ.out]
      refine (fparse_any (p 0) s1 _ HF.out.var (HM.out.on HB.out) (HT.out.on HB.out) (HC.out.on HB.out) (HV.out.on HB.out) (HP.out.on HB.out)).mono ?_; rintro e wm ⟨rfl, hb⟩; refine ⟨_, rfl, ?_⟩
      rw [HO3.out, N3.out, RdO, HZ.out]
      refine hK.out _ _ hb ?_
      have HR := Lib.hid (HR.out.later hb); have HR3 := Lib.hid (HR3.out.later hb); have HB := Lib.hid (below_on HB.out hb); clear hb
      clear hK K
      simp only [Act.put, List.setIfInBounds_toArray, List.set_cons_zero, List.set_cons_succ]
      refine late_take 5 (by kernel_rfl) (by kernel_rfl) (by kernel_rfl) (by kernel_rfl) (by kernel_rfl) (fun _ _ d _ _ h => by cases d <;> exact h) (fun o ho => ?_)
      simp only [List.getElem?_toArray, List.getElem?_cons_zero, List.getElem?_cons_succ, Option.some.injEq] at ho; subst ho
      apply Exists.intro
      refine ⟨Or.inl ⟨by kernel_rfl, fun w' hl => Or.inl ?_⟩, ?_⟩
      · (go_simp; try with_reducible rfl)
      simp only [Act.put, List.setIfInBounds_toArray, List.set_cons_zero, List.set_cons_succ]
      refine late_take 6 (by kernel_rfl) (by kernel_rfl) (by kernel_rfl) (by kernel_rfl) (by kernel_rfl) (fun _ _ d _ _ h => by cases d <;> exact h) (fun o ho => ?_)
      simp only [List.getElem?_toArray, List.getElem?_cons_zero, List.getElem?_cons_succ, Option.some.injEq] at ho; subst ho
      apply Exists.intro
      refine ⟨Or.inl ⟨by kernel_rfl, fun w' hl => Or.inl ?_⟩, ?_⟩
      · (go_simp; try with_reducible rfl)
      simp only [Act.put, List.setIfInBounds_toArray, List.set_cons_zero, List.set_cons_succ]
      refine late_forkL 7 9 (by kernel_rfl) (by kernel_rfl) (by kernel_rfl) (fun o ho => ?_) (fun o ho => ?_)
      · simp only [List.getElem?_toArray, List.getElem?_cons_zero, List.getElem?_cons_succ, Option.some.injEq] at ho; subst ho
        refine ⟨by kernel_rfl, fun wn hl K hK => ?_⟩
        have HR := Lib.hid (HR.out.later hl); have HR3 := Lib.hid (HR3.out.later hl); have HB := Lib.hid (below_on HB.out hl); clear hl
        refine wp_value (by go_simp; try with_reducible rfl) ?_
        refine hK.out _ _ (Later.refl _) ?_
        clear hK K
        simp only [Act.put, List.setIfInBounds_toArray, List.set_cons_zero, List.set_cons_succ]
        refine late_then 9 (by kernel_rfl) (by kernel_rfl) (fun o ho => ?_)
        simp only [List.getElem?_toArray, List.getElem?_cons_zero, List.getElem?_cons_succ, Option.some.injEq] at ho; subst ho
        refine ⟨by kernel_rfl, fun wn hl K hK => ?_⟩
        have HR := Lib.hid (HR.out.later hl); have HR3 := Lib.hid (HR3.out.later hl); have HB := Lib.hid (below_on HB.out hl); clear hl
        refine late_whole _ _ rfl b3 rfl _ (zeroP) rfl HR3.out ?_; intro wm U R
        have HR := Lib.hid (HR.out.apart U HD3.out)
        have HR3 := Lib.hid R; have HB := Lib.hid (HB.out.trans (U.below HG3.out)); clear U R
        refine hK.out _ _ ?_
        clear hK K
        simp only [Act.put, List.setIfInBounds_toArray, List.set_cons_zero, List.set_cons_succ]
        refine any_one 10 (by kernel_rfl) (by kernel_rfl) (fun o ho => ?_)
        simp only [List.getElem?_toArray, List.getElem?_cons_zero, List.getElem?_cons_succ, Option.some.injEq] at ho; subst ho
        refine ⟨by kernel_rfl, fun K hK => ?_⟩
        refine wp_value (by go_simp; try with_reducible rfl) ?_
        refine hK.out _ _ ?_
        clear hK K
        simp only [Act.put, List.setIfInBounds_toArray, List.set_cons_zero, List.set_cons_succ]
        refine any_end (by kernel_rfl) ?_
        exact hK9.out _ _ ⟨b3, rfl, HR.out, HR3.out, HB.out⟩
      · simp only [List.getElem?_toArray, List.getElem?_cons_zero, List.getElem?_cons_succ, Option.some.injEq] at ho; subst ho
        refine ⟨by kernel_rfl, fun wn hl K hK => ?_⟩
        have HR := Lib.hid (HR.out.later hl); have HR3 := Lib.hid (HR3.out.later hl); have HB := Lib.hid (below_on HB.out hl); clear hl
        refine late_whole _ _ rfl b3 rfl _ (zeroP) rfl HR3.out ?_; intro wm U R
        have HR := Lib.hid (HR.out.apart U HD3.out)
        have HR3 := Lib.hid R; have HB := Lib.hid (HB.out.trans (U.below HG3.out)); clear U R
        refine hK.out _ _ ?_
        clear hK K
        simp only [Act.put, List.setIfInBounds_toArray, List.set_cons_zero, List.set_cons_succ]
        refine any_one 7 (by kernel_rfl) (by kernel_rfl) (fun o ho => ?_)
        simp only [List.getElem?_toArray, List.getElem?_cons_zero, List.getElem?_cons_succ, Option.some.injEq] at ho; subst ho
        refine ⟨by kernel_rfl, fun K hK => ?_⟩
        refine wp_value (by go_simp; try with_reducible rfl) ?_
        refine hK.out _ _ ?_
        clear hK K
        simp only [Act.put, List.setIfInBounds_toArray, List.set_cons_zero, List.set_cons_succ]
        refine any_one 10 (by kernel_rfl) (by kernel_rfl) (fun o ho => ?_)
        simp only [List.getElem?_toArray, List.getElem?_cons_zero, List.getElem?_cons_succ, Option.some.injEq] at ho; subst ho
        refine ⟨by kernel_rfl, fun K hK => ?_⟩
        refine wp_value (by go_simp; try with_reducible rfl) ?_
        refine hK.out _ _ ?_
        clear hK K
        simp only [Act.put, List.setIfInBounds_toArray, List.set_cons_zero, List.set_cons_succ]
        refine any_end (by kernel_rfl) ?_
        exact hK9.out _ _ ⟨b3, rfl, HR.out, HR3.out, HB.out⟩
  case cutB =>
    rintro a wn ⟨b3, rfl, hr, hr3, hb⟩
    have HR := Lib.hid hr
    have HR3 := Lib.hid hr3
    have HB := Lib.hid hb
    clear hr hr3 hb hc0
    go_wp2_with fail
    refine late_begin 17 (by kernel_rfl) ?_
    refine late_take 0 (by kernel_rfl) (by kernel_rfl) (by kernel_rfl) (by kernel_rfl) (by kernel_rfl) (fun _ _ d _ _ h => by cases d <;> exact h) (fun o ho => ?_)
    simp only [List.getElem?_toArray, List.getElem?_cons_zero, List.getElem?_cons_succ, Option.some.injEq] at ho; subst ho
    apply Exists.intro
    refine ⟨Or.inl ⟨by kernel_rfl, fun w' hl => Or.inl ?_⟩, ?_⟩
    · (go_simp; try with_reducible rfl)
    simp only [Act.put, List.setIfInBounds_toArray, List.set_cons_zero, List.set_cons_succ]
    refine late_take 1 (by kernel_rfl) (by kernel_rfl) (by kernel_rfl) (by kernel_rfl) (by kernel_rfl) (fun _ _ d _ _ h => by cases d <;> exact h) (fun o ho => ?_)
    simp only [List.getElem?_toArray, List.getElem?_cons_zero, List.getElem?_cons_succ, Option.some.injEq] at ho; subst ho
    apply Exists.intro
    refine ⟨Or.inl ⟨by kernel_rfl, fun w' hl => Or.inl ?_⟩, ?_⟩
    · (go_simp; try with_reducible rfl)
    simp only [Act.put, List.setIfInBounds_toArray, List.set_cons_zero, List.set_cons_succ]
    refine late_take 2 (by kernel_rfl) (by kernel_rfl) (by kernel_rfl) (by kernel_rfl) (by kernel_rfl) (fun _ _ d _ _ h => by cases d <;> exact h) (fun o ho => ?_)
    simp only [List.getElem?_toArray, List.getElem?_cons_zero, List.getElem?_cons_succ, Option.some.injEq] at ho; subst ho
    apply Exists.intro
    refine ⟨Or.inl ⟨by kernel_rfl, fun w' hl => Or.inl ?_⟩, ?_⟩
    · (go_simp; try with_reducible rfl)
    simp only [Act.put, List.setIfInBounds_toArray, List.set_cons_zero, List.set_cons_succ]
    refine late_take 3 (by kernel_rfl) (by kernel_rfl) (by kernel_rfl) (by kernel_rfl) (by kernel_rfl) (fun _ _ d _ _ h => by cases d <;> exact h) (fun o ho => ?_)
    simp only [List.getElem?_toArray, List.getElem?_cons_zero, List.getElem?_cons_succ, Option.some.injEq] at ho; subst ho
    apply Exists.intro
    refine ⟨Or.inl ⟨by kernel_rfl, fun w' hl => Or.inl ?_⟩, ?_⟩
    · (go_simp; try with_reducible rfl)
    simp only [Act.put, List.setIfInBounds_toArray, List.set_cons_zero, List.set_cons_succ]
    refine late_take 4 (by kernel_rfl) (by kernel_rfl) (by kernel_rfl) (by kernel_rfl) (by kernel_rfl) (fun _ _ d _ _ h => by cases d <;> exact h) (fun o ho => ?_)
    simp only [List.getElem?_toArray, List.getElem?_cons_zero, List.getElem?_cons_succ, Option.some.injEq] at ho; subst ho
    apply Exists.intro
    refine ⟨Or.inl ⟨by kernel_rfl, fun w' hl => Or.inl ?_⟩, ?_⟩
    · (go_simp; try with_reducible rfl)
    simp only [Act.put, List.setIfInBounds_toArray, List.set_cons_zero, List.set_cons_succ]
    refine late_take 5 (by kernel_rfl) (by kernel_rfl) (by kernel_rfl) (by kernel_rfl) (by kernel_rfl) (fun _ _ d _ _ h => by cases d <;> exact h) (fun o ho => ?_)
    simp only [List.getElem?_toArray, List.getElem?_cons_zero, List.getElem?_cons_succ, Option.some.injEq] at ho; subst ho
    apply Exists.intro
    refine ⟨Or.inl ⟨by kernel_rfl, fun w' hl => Or.inl ?_⟩, ?_⟩
    · (go_simp; try with_reducible rfl)
    simp only [Act.put, List.setIfInBounds_toArray, List.set_cons_zero, List.set_cons_succ]
    refine late_take 6 (by kernel_rfl) (by kernel_rfl) (by kernel_rfl) (by kernel_rfl) (by kernel_rfl) (fun _ _ d _ _ h => by cases d <;> exact h) (fun o ho => ?_)
    simp only [List.getElem?_toArray, List.getElem?_cons_zero, List.getElem?_cons_succ, Option.some.injEq] at ho; subst ho
    apply Exists.intro
    refine ⟨Or.inl ⟨by kernel_rfl, fun w' hl => Or.inl ?_⟩, ?_⟩
    · (go_simp; try with_reducible rfl)
    simp only [Act.put, List.setIfInBounds_toArray, List.set_cons_zero, List.set_cons_succ]
    refine late_take 7 (by kernel_rfl) (by kernel_rfl) (by kernel_rfl) (by kernel_rfl) (by kernel_rfl) (fun _ _ d _ _ h => by cases d <;> exact h) (fun o ho => ?_)
    simp only [List.getElem?_toArray, List.getElem?_cons_zero, List.getElem?_cons_succ, Option.some.injEq] at ho; subst ho
    apply Exists.intro
    refine ⟨Or.inl ⟨by kernel_rfl, fun w' hl => Or.inl ?_⟩, ?_⟩
    · (go_simp; try with_reducible rfl)
    simp only [Act.put, List.setIfInBounds_toArray, List.set_cons_zero, List.set_cons_succ]
    refine late_take 8 (by kernel_rfl) (by kernel_rfl) (by kernel_rfl) (by kernel_rfl) (by kernel_rfl) (fun _ _ d _ _ h => by cases d <;> exact h) (fun o ho => ?_)
    simp only [List.getElem?_toArray, List.getElem?_cons_zero, List.getElem?_cons_succ, Option.some.injEq] at ho; subst ho
    apply Exists.intro
    refine ⟨Or.inl ⟨by kernel_rfl, fun w' hl => Or.inl ?_⟩, ?_⟩
    · (go_simp; try with_reducible rfl)
    simp only [Act.put, List.setIfInBounds_toArray, List.set_cons_zero, List.set_cons_succ]
    refine late_take 9 (by kernel_rfl) (by kernel_rfl) (by kernel_rfl) (by kernel_rfl) (by kernel_rfl) (fun _ _ d _ _ h => by cases d <;> exact h) (fun o ho => ?_)
    simp only [List.getElem?_toArray, List.getElem?_cons_zero, List.getElem?_cons_succ, Option.some.injEq] at ho; subst ho
    refine ⟨_, Or.inr ⟨by kernel_rfl, rfl⟩, ?_⟩
    simp only [Act.put, List.setIfInBounds_toArray, List.set_cons_zero, List.set_cons_succ]
    refine late_take 10 (by kernel_rfl) (by kernel_rfl) (by kernel_rfl) (by kernel_rfl) (by kernel_rfl) (fun _ _ d _ _ h => by cases d <;> exact h) (fun o ho => ?_)
    simp only [List.getElem?_toArray, List.getElem?_cons_zero, List.getElem?_cons_succ, Option.some.injEq] at ho; subst ho
    refine ⟨_, Or.inr ⟨by kernel_rfl, rfl⟩, ?_⟩
    simp only [Act.put, List.setIfInBounds_toArray, List.set_cons_zero, List.set_cons_succ]
    refine late_take 11 (by kernel_rfl) (by kernel_rfl) (by kernel_rfl) (by kernel_rfl) (by kernel_rfl) (fun _ _ d _ _ h => by cases d <;> exact h) (fun o ho => ?_)
    simp only [List.getElem?_toArray, List.getElem?_cons_zero, List.getElem?_cons_succ, Option.some.injEq] at ho; subst ho
    refine ⟨_, Or.inr ⟨by kernel_rfl, rfl⟩, ?_⟩
    simp only [Act.put, List.setIfInBounds_toArray, List.set_cons_zero, List.set_cons_succ]
    refine late_take 12 (by kernel_rfl) (by kernel_rfl) (by kernel_rfl) (by kernel_rfl) (by kernel_rfl) (fun _ _ d _ _ h => by cases d <;> exact h) (fun o ho => ?_)
    simp only [List.getElem?_toArray, List.getElem?_cons_zero, List.getElem?_cons_succ, Option.some.injEq] at ho; subst ho
    refine ⟨_, Or.inr ⟨by kernel_rfl, rfl⟩, ?_⟩
    simp only [Act.put, List.setIfInBounds_toArray, List.set_cons_zero, List.set_cons_succ]
    refine late_take 13 (by kernel_rfl) (by kernel_rfl) (by kernel_rfl) (by kernel_rfl) (by kernel_rfl) (fun _ _ d _ _ h => by cases d <;> exact h) (fun o ho => ?_)
    simp only [List.getElem?_toArray, List.getElem?_cons_zero, List.getElem?_cons_succ, Option.some.injEq] at ho; subst ho
    refine ⟨_, Or.inr ⟨by kernel_rfl, rfl⟩, ?_⟩
    simp only [Act.put, List.setIfInBounds_toArray, List.set_cons_zero, List.set_cons_succ]
    refine late_take 14 (by kernel_rfl) (by kernel_rfl) (by kernel_rfl) (by kernel_rfl) (by kernel_rfl) (fun _ _ d _ _ h => by cases d <;> exact h) (fun o ho => ?_)
    simp only [List.getElem?_toArray, List.getElem?_cons_zero, List.getElem?_cons_succ, Option.some.injEq] at ho; subst ho
    apply Exists.intro
    refine ⟨Or.inl ⟨by kernel_rfl, fun w' hl => Or.inl ?_⟩, ?_⟩
    · (go_simp; try with_reducible rfl)
    simp only [Act.put, List.setIfInBounds_toArray, List.set_cons_zero, List.set_cons_succ]
    refine late_take 15 (by kernel_rfl) (by kernel_rfl) (by kernel_rfl) (by kernel_rfl) (by kernel_rfl) (fun _ _ d _ _ h => by cases d <;> exact h) (fun o ho => ?_)
    simp only [List.getElem?_toArray, List.getElem?_cons_zero, List.getElem?_cons_succ, Option.some.injEq] at ho; subst ho
    apply Exists.intro
    refine ⟨Or.inl ⟨by kernel_rfl, fun w' hl => Or.inl ?_⟩, ?_⟩
    · (go_simp; try with_reducible rfl)
    simp only [Act.put, List.setIfInBounds_toArray, List.set_cons_zero, List.set_cons_succ]
    refine late_take 16 (by kernel_rfl) (by kernel_rfl) (by kernel_rfl) (by kernel_rfl) (by kernel_rfl) (fun _ _ d _ _ h => by cases d <;> exact h) (fun o ho => ?_)
    simp only [List.getElem?_toArray, List.getElem?_cons_zero, List.getElem?_cons_succ, Option.some.injEq] at ho; subst ho
    apply Exists.intro
    refine ⟨Or.inl ⟨by kernel_rfl, fun w' hl => Or.inl ?_⟩, ?_⟩
    · (go_simp; try with_reducible rfl)
    simp only [Act.put, List.setIfInBounds_toArray, List.set_cons_zero, List.set_cons_succ]
    refine late_end (by kernel_rfl) (fun wn hl => ?_)
    have HR := Lib.hid (HR.out.later hl); have HR3 := Lib.hid (HR3.out.later hl); have HB := Lib.hid (below_on HB.out hl); clear hl
    go_wp2_with fail
    exact bodyPost_ret (results_tmp rfl _ _ _) rfl ⟨by simp, HB.out⟩
set_option maxRecDepth 100000 in
set_option maxHeartbeats 4000000 in
theorem bad_1_11 (p : Nat → Int) (v b : Int) (s : List UInt8) (x0 : UInt8) (s1 : List UInt8) (hv : 0 ≤ v ∧ v ≤ 255) (h9 : 9 ≤ v) (hb : 0 ≤ b ∧ b ≤ 255) (w : World) (hF : FitF p) (hs : fenL p = s) (hs1 : s = x0 :: s1) (h0 : p 0 < 9) (hl : (s ++ [byZ b]).length ≤ 200) (q2 : Nat → Int) (o2 : parO (p 0) (s ++ [byZ b]) = some q2) (q3 : Nat → Int) (o3 : parO (p 0) s1 = some q3) (hM : TabMx w) (hT : TabErr w) (hC : TabCorn w) (hV : TabVar w) (hP : TabPow w) (hK : TabKn w) :
    Calls Tryz.prog 8 #[.agg (posA p), .int .u8 v, .int .u8 b] w (BoL true w) := by
  have HM := Lib.hid hM
  have HT := Lib.hid hT
  have HC := Lib.hid hC
  have HV := Lib.hid hV
  have HP := Lib.hid hP
  have HK := Lib.hid hK
  have HF := Lib.hid hF
  have HVr := Lib.hid hv
  obtain ⟨q1, hq1⟩ : ∃ q, pqO (parO v s) = q := ⟨_, rfl⟩
  obtain ⟨n1, hn1⟩ : ∃ n, pnO (parN v s) (parO v s) = n := ⟨_, rfl⟩
  have HO1 := Lib.hid (show RdO (parN v s) (parO v s) = #[.agg (posA q1), .int .i64 n1] by rw [RdO_eq, hq1, hn1])
  obtain rfl : n1 = 2 := by rw [← hn1]; unfold parO parN; rw [decide_eq_true h9]; rfl
  have hsl := fen_short hs
  have hd : 48 ≤ b ∧ b ≤ 57 := by
    have h1 := rdAll_text (parO_some o2).2.2
    have h2 := fenL_last h1
    have h3 := byZ_u8 hb.1 hb.2
    omega
  have HO2 := Lib.hid o2
  have h3r := (parO_some o3).2
  have HFq := Lib.hid (rdAll_inv hF.var (Nat.le_trans h3r.1 (by decide)) h3r.2).1
  have HTx := Lib.hid (rdAll_text h3r.2)
  clear h3r
  have HO3 := Lib.hid o3
  obtain ⟨y, hy⟩ : ∃ y, bz s = y := ⟨_, rfl⟩
  obtain ⟨t, ht⟩ : ∃ t, y ++ bz [byZ b] = t := ⟨_, rfl⟩
  have hys : y.size = s.length := by rw [← hy, bz_size]
  have hye : y.toList.isEmpty = false := by rw [← hy, bz_toList, hs1]; rfl
  have HS := Lib.hid (show bz (fenL p) = y by rw [hs]; exact hy)
  have HY := Lib.hid hy
  have HTt := Lib.hid ht
  have HTb := Lib.hid (show t = bz (s ++ [byZ b]) by rw [← ht, ← hy, bz_app])
  have hts : t.size = (s ++ [byZ b]).length := by rw [HTb.out, bz_size]
  have gl : decide ((200 : Int) < (t.size : Int)) = false := decide_eq_false (by omega)
  have hcv := conv1
  have hb1 : (bz [byZ b]).size = 1 := bz_size _
  have k1 := cat_ok (a := y) (b := bz [byZ b]) (by omega) (by omega)
  have rt := tail_of x0 s1
  rw [show bz (x0 :: s1) = y by rw [← hs1]; exact hy] at rt
  have l1 : (1 : Int) ≤ (y.size : Int) := by rw [hys, hs1, List.length_cons]; omega
  obtain ⟨z, hz⟩ : ∃ z, bz s1 = z := ⟨_, rfl⟩
  have HZ := Lib.hid hz
  rw [hz] at rt
  have HRt := Lib.hid rt
  have HTz := Lib.hid (show bz (fenL q3) = z by rw [HTx.out]; exact hz)
  obtain ⟨hd0, hd1⟩ := hd
  clear hM hT hC hV hP hK hF hs hs1 hy ht hys hts hl hsl hb1 hq1
  clear h0 hv o2 o3 hz
  clear hn1
  obtain ⟨b0', b255⟩ := hb
  go_enter Tryz.func8, Tryz.ntmps8
  go_wp2_with (first
    | (refine step_box rfl _ rfl p rfl ?_; intro b0 w1 N R; have HG0 := Lib.hid (show w.heap.size ≤ b0 from Nat.le_of_eq N.at_.symm); have HB := Lib.hid N.below; have HR := Lib.hid R; clear N R)
    | (go_at_call 11; refine (fawake_any _ (HM.out.on HB.out) (HT.out.on HB.out) (HC.out.on HB.out) (HV.out.on HB.out) (HP.out.on HB.out) (HK.out.on HB.out)).mono ?_; rintro e w2 ⟨rfl, hb⟩; have HR := Lib.hid (HR.out.later hb); have HB := Lib.hid (HB.out.trans (hb.mono HB.out.size)); clear hb)
    | (refine step_load rfl _ rfl b0 rfl p ?_ ?_; exact HR.out)
    | (go_at_call 12; refine (print_any p _ HF.out (HV.out.on HB.out) (HC.out.on HB.out) (HP.out.on HB.out)).mono ?_; rintro e w3 ⟨rfl, hb⟩; rw [HS.out]; have HR := Lib.hid (HR.out.later hb); have HB := Lib.hid (HB.out.trans (hb.mono HB.out.size)); clear hb))
  rw [← HY.out]
  refine (fparse_any v s _ HVr.out (HM.out.on HB.out) (HT.out.on HB.out) (HC.out.on HB.out) (HV.out.on HB.out) (HP.out.on HB.out)).mono ?_; rintro e w4 ⟨rfl, hb⟩; rw [HO1.out, HY.out]; have HR := Lib.hid (HR.out.later hb); have HB := Lib.hid (HB.out.trans (hb.mono HB.out.size)); clear hb
  go_wp2_with (first
    | (refine step_alloc rfl rfl ?_; intro b1 w5 N R; have HG1 := Lib.hid (show w.heap.size ≤ b1 by rw [N.at_]; exact HB.out.size); have HD1 := Lib.hid (show b0 ≠ b1 by rw [N.at_]; exact Nat.ne_of_lt HR.out.lt); have HR := Lib.hid (HR.out.later N.below); have HR1 := Lib.hid R; have HB := Lib.hid (HB.out.trans (N.below.mono HB.out.size)); clear N R)
    | (refine step_store rfl _ _ rfl b1 rfl zeroP q1 rfl ?_ ?_; exact HR1.out; intro w6 U R; have HR1 := Lib.hid R; have HR := Lib.hid (HR.out.apart U HD1.out); have HB := Lib.hid (HB.out.trans (U.below HG1.out)); clear U R)
    | (refine step_get rfl 5 _ rfl b0 0 rfl Tryz.underlying5 rfl (.int .u8 (p 0)) ?_ ?_; (first | (rw [HR.out.cell 0 (by decide)]; rfl) | (rw [(HR.out.later (New.alloc _ _).below).cell 0 (by decide)]; rfl))))
  rw [HTt.out, HTb.out]
  have hN := fun (w : World) (o : Obj) => (New.alloc w o).below
  refine (fparse_any (p 0) (s ++ [byZ b]) _ HF.out.var (HM.out.on (HB.out.trans ((hN _ _).mono HB.out.size))) (HT.out.on (HB.out.trans ((hN _ _).mono HB.out.size))) (HC.out.on (HB.out.trans ((hN _ _).mono HB.out.size))) (HV.out.on (HB.out.trans ((hN _ _).mono HB.out.size))) (HP.out.on (HB.out.trans ((hN _ _).mono HB.out.size)))).mono ?_
  rintro e w7 ⟨rfl, hb⟩; rw [HO2.out, RdO, ← HTb.out]; have HR := Lib.hid ((HR.out.later (hN _ _)).later hb); have HB := Lib.hid ((HB.out.trans ((hN _ _).mono HB.out.size)).trans (hb.mono (HB.out.trans ((hN _ _).mono HB.out.size)).size)); clear hb
  go_wp2_with (first
    | (refine step_alloc rfl rfl ?_; intro b2 w5 N R; have HG2 := Lib.hid (show w.heap.size ≤ b2 by rw [N.at_]; exact HB.out.size); have HD2 := Lib.hid (show b0 ≠ b2 by rw [N.at_]; exact Nat.ne_of_lt HR.out.lt); have HR := Lib.hid (HR.out.later N.below); have HR2 := Lib.hid R; have HB := Lib.hid (HB.out.trans (N.below.mono HB.out.size)); clear N R)
    | (refine step_store rfl _ _ rfl b2 rfl zeroP q2 rfl ?_ ?_; exact HR2.out; intro w6 U R; have HR2 := Lib.hid R; have HR := Lib.hid (HR.out.apart U HD2.out); have HB := Lib.hid (HB.out.trans (U.below HG2.out)); have hc0 : w6.cell? ⟨b0, 0, none⟩ = some (.int .u8 (p 0)) := (by rw [HR.out.cell 0 (by decide)]; rfl); clear U R)
    )
  refine cut_here (fun F a w' => ∃ b3 : Nat, a = F b3 ∧ Row w' b0 p ∧ Row w' b3 q3 ∧ Below w.heap.size w w') ?_
  apply Exists.intro
  refine ⟨fun K9 hK9 => ?cutA, ?cutB⟩
  case cutA =>
    refine late_begin 9 (by kernel_rfl) ?_
    refine late_take 0 (by kernel_rfl) (by kernel_rfl) (by kernel_rfl) (by kernel_rfl) (by kernel_rfl) (fun _ _ d _ _ h => by cases d <;> exact h) (fun o ho => ?_)
    simp only [List.getElem?_toArray, List.getElem?_cons_zero, List.getElem?_cons_succ, Option.some.injEq] at ho; subst ho
    apply Exists.intro
    refine ⟨Or.inl ⟨by kernel_rfl, fun w' hl => Or.inl ?_⟩, ?_⟩
    · (go_simp; try with_reducible rfl)
    simp only [Act.put, List.setIfInBounds_toArray, List.set_cons_zero, List.set_cons_succ]
    refine late_take 1 (by kernel_rfl) (by kernel_rfl) (by kernel_rfl) (by kernel_rfl) (by kernel_rfl) (fun _ _ d _ _ h => by cases d <;> exact h) (fun o ho => ?_)
    simp only [List.getElem?_toArray, List.getElem?_cons_zero, List.getElem?_cons_succ, Option.some.injEq] at ho; subst ho
    refine ⟨.int .u8 (p 0), Or.inl ⟨by kernel_rfl, fun w' hl => Or.inl (run_get 5 _ rfl b0 0 rfl Tryz.underlying5 rfl (.int .u8 (p 0)) (by rw [(HR.out.later hl).cell 0 (by decide)]; rfl))⟩, ?_⟩
    simp only [Act.put, List.setIfInBounds_toArray, List.set_cons_zero, List.set_cons_succ]
    refine late_take 2 (by kernel_rfl) (by kernel_rfl) (by kernel_rfl) (by kernel_rfl) (by kernel_rfl) (fun _ _ d _ _ h => by cases d <;> exact h) (fun o ho => ?_)
    simp only [List.getElem?_toArray, List.getElem?_cons_zero, List.getElem?_cons_succ, Option.some.injEq] at ho; subst ho
    apply Exists.intro
    refine ⟨Or.inl ⟨by kernel_rfl, fun w' hl => Or.inl ?_⟩, ?_⟩
    · (go_simp; try with_reducible rfl)
    simp only [Act.put, List.setIfInBounds_toArray, List.set_cons_zero, List.set_cons_succ]
    refine late_take 3 (by kernel_rfl) (by kernel_rfl) (by kernel_rfl) (by kernel_rfl) (by kernel_rfl) (fun _ _ d _ _ h => by cases d <;> exact h) (fun o ho => ?_)
    simp only [List.getElem?_toArray, List.getElem?_cons_zero, List.getElem?_cons_succ, Option.some.injEq] at ho; subst ho
    refine ⟨.string z, Or.inl ⟨by kernel_rfl, fun w' hl => Or.inl ?_⟩, ?_⟩
    · (go_simp; try simp [HRt.out])
    simp only [Act.put, List.setIfInBounds_toArray, List.set_cons_zero, List.set_cons_succ]
    refine late_fork 4 8 (by kernel_rfl) (by kernel_rfl) (by kernel_rfl) (fun o ho => ?_) (fun o ho => ?_)
    · simp only [List.getElem?_toArray, List.getElem?_cons_zero, List.getElem?_cons_succ, Option.some.injEq] at ho; subst ho
      refine ⟨by kernel_rfl, fun wn hl K hK => ?_⟩
      have HR := Lib.hid (HR.out.later hl); have HB := Lib.hid (below_on HB.out hl); clear hl
      refine wp_enter _ _ (by go_simp; exact ⟨rfl, rfl⟩) ?_
      rw [← HZ.out]
      refine (fparse_any (p 0) s1 _ HF.out.var (HM.out.on HB.out) (HT.out.on HB.out) (HC.out.on HB.out) (HV.out.on HB.out) (HP.out.on HB.out)).mono ?_; rintro e wm ⟨rfl, hb⟩; refine ⟨_, rfl, ?_⟩
      rw [HO3.out, RdO, HZ.out]
      refine hK.out _ _ hb ?_
      have HR := Lib.hid (HR.out.later hb); have HB := Lib.hid (below_on HB.out hb); clear hb
      clear hK K
      simp only [Act.put, List.setIfInBounds_toArray, List.set_cons_zero, List.set_cons_succ]
      refine late_take 5 (by kernel_rfl) (by kernel_rfl) (by kernel_rfl) (by kernel_rfl) (by kernel_rfl) (fun _ _ d _ _ h => by cases d <;> exact h) (fun o ho => ?_)
      simp only [List.getElem?_toArray, List.getElem?_cons_zero, List.getElem?_cons_succ, Option.some.injEq] at ho; subst ho
      apply Exists.intro
      refine ⟨Or.inl ⟨by kernel_rfl, fun w' hl => Or.inl ?_⟩, ?_⟩
      · (go_simp; try with_reducible rfl)
      simp only [Act.put, List.setIfInBounds_toArray, List.set_cons_zero, List.set_cons_succ]
      refine late_take 6 (by kernel_rfl) (by kernel_rfl) (by kernel_rfl) (by kernel_rfl) (by kernel_rfl) (fun _ _ d _ _ h => by cases d <;> exact h) (fun o ho => ?_)
      simp only [List.getElem?_toArray, List.getElem?_cons_zero, List.getElem?_cons_succ, Option.some.injEq] at ho; subst ho
      apply Exists.intro
      refine ⟨Or.inl ⟨by kernel_rfl, fun w' hl => Or.inl ?_⟩, ?_⟩
      · (go_simp; try with_reducible rfl)
      simp only [Act.put, List.setIfInBounds_toArray, List.set_cons_zero, List.set_cons_succ]
      refine late_fork 7 8 (by kernel_rfl) (by kernel_rfl) (by kernel_rfl) (fun o ho => ?_) (fun o ho => ?_)
      · simp only [List.getElem?_toArray, List.getElem?_cons_zero, List.getElem?_cons_succ, Option.some.injEq] at ho; subst ho
        refine ⟨by kernel_rfl, fun wn hl K hK => ?_⟩
        have HR := Lib.hid (HR.out.later hl); have HB := Lib.hid (below_on HB.out hl); clear hl
        refine wp_value (by go_simp; try with_reducible rfl) ?_
        refine hK.out _ _ (Later.refl _) ?_
        clear hK K
        simp only [Act.put, List.setIfInBounds_toArray, List.set_cons_zero, List.set_cons_succ]
        refine late_one 8 (by kernel_rfl) (by kernel_rfl) (fun o ho => ?_)
        simp only [List.getElem?_toArray, List.getElem?_cons_zero, List.getElem?_cons_succ, Option.some.injEq] at ho; subst ho
        refine ⟨by kernel_rfl, fun wn hl K hK => ?_⟩
        have HR := Lib.hid (HR.out.later hl); have HB := Lib.hid (below_on HB.out hl); clear hl
        refine late_alloc rfl ?_; intro b3 wm N R
        have HD3 := Lib.hid (N.ne HR.out)
        have HG3 := Lib.hid (show w.heap.size ≤ b3 by have := HB.out.size; have := N.at_; omega)
        have hb := N.below
        have HRn := Lib.hid R
        clear N R
        refine hK.out _ _ hb ?_
        have HR := Lib.hid (HR.out.later hb); have HB := Lib.hid (below_on HB.out hb); clear hb
        have HR3 := HRn; clear HRn
        clear hK K
        simp only [Act.put, List.setIfInBounds_toArray, List.set_cons_zero, List.set_cons_succ]
        refine late_then 9 (by kernel_rfl) (by kernel_rfl) (fun o ho => ?_)
        simp only [List.getElem?_toArray, List.getElem?_cons_zero, List.getElem?_cons_succ, Option.some.injEq] at ho; subst ho
        refine ⟨by kernel_rfl, fun wn hl K hK => ?_⟩
        have HR := Lib.hid (HR.out.later hl); have HR3 := Lib.hid (HR3.out.later hl); have HB := Lib.hid (below_on HB.out hl); clear hl
        refine late_whole _ _ rfl b3 rfl _ (q3) rfl HR3.out ?_; intro wm U R
        have HR := Lib.hid (HR.out.apart U HD3.out)
        have HR3 := Lib.hid R; have HB := Lib.hid (HB.out.trans (U.below HG3.out)); clear U R
        refine hK.out _ _ ?_
        clear hK K
        simp only [Act.put, List.setIfInBounds_toArray, List.set_cons_zero, List.set_cons_succ]
        refine any_one 10 (by kernel_rfl) (by kernel_rfl) (fun o ho => ?_)
        simp only [List.getElem?_toArray, List.getElem?_cons_zero, List.getElem?_cons_succ, Option.some.injEq] at ho; subst ho
        refine ⟨by kernel_rfl, fun K hK => ?_⟩
        refine wp_value (by go_simp; try with_reducible rfl) ?_
        refine hK.out _ _ ?_
        clear hK K
        simp only [Act.put, List.setIfInBounds_toArray, List.set_cons_zero, List.set_cons_succ]
        refine any_end (by kernel_rfl) ?_
        exact hK9.out _ _ ⟨b3, rfl, HR.out, HR3.out, HB.out⟩
      · simp only [List.getElem?_toArray, List.getElem?_cons_zero, List.getElem?_cons_succ, Option.some.injEq] at ho; subst ho
        refine ⟨by kernel_rfl, fun wn hl K hK => ?_⟩
        have HR := Lib.hid (HR.out.later hl); have HB := Lib.hid (below_on HB.out hl); clear hl
        refine late_alloc rfl ?_; intro b3 wm N R
        have HD3 := Lib.hid (N.ne HR.out)
        have HG3 := Lib.hid (show w.heap.size ≤ b3 by have := HB.out.size; have := N.at_; omega)
        have hb := N.below
        have HRn := Lib.hid R
        clear N R
        refine hK.out _ _ hb ?_
        have HR := Lib.hid (HR.out.later hb); have HB := Lib.hid (below_on HB.out hb); clear hb
        have HR3 := HRn; clear HRn
        clear hK K
        simp only [Act.put, List.setIfInBounds_toArray, List.set_cons_zero, List.set_cons_succ]
        refine late_forkL 7 9 (by kernel_rfl) (by kernel_rfl) (by kernel_rfl) (fun o ho => ?_) (fun o ho => ?_)
        · simp only [List.getElem?_toArray, List.getElem?_cons_zero, List.getElem?_cons_succ, Option.some.injEq] at ho; subst ho
          refine ⟨by kernel_rfl, fun wn hl K hK => ?_⟩
          have HR := Lib.hid (HR.out.later hl); have HR3 := Lib.hid (HR3.out.later hl); have HB := Lib.hid (below_on HB.out hl); clear hl
          refine wp_value (by go_simp; try with_reducible rfl) ?_
          refine hK.out _ _ (Later.refl _) ?_
          clear hK K
          simp only [Act.put, List.setIfInBounds_toArray, List.set_cons_zero, List.set_cons_succ]
          refine late_then 9 (by kernel_rfl) (by kernel_rfl) (fun o ho => ?_)
          simp only [List.getElem?_toArray, List.getElem?_cons_zero, List.getElem?_cons_succ, Option.some.injEq] at ho; subst ho
          refine ⟨by kernel_rfl, fun wn hl K hK => ?_⟩
          have HR := Lib.hid (HR.out.later hl); have HR3 := Lib.hid (HR3.out.later hl); have HB := Lib.hid (below_on HB.out hl); clear hl
          refine late_whole _ _ rfl b3 rfl _ (q3) rfl HR3.out ?_; intro wm U R
          have HR := Lib.hid (HR.out.apart U HD3.out)
          have HR3 := Lib.hid R; have HB := Lib.hid (HB.out.trans (U.below HG3.out)); clear U R
          refine hK.out _ _ ?_
          clear hK K
          simp only [Act.put, List.setIfInBounds_toArray, List.set_cons_zero, List.set_cons_succ]
          refine any_one 10 (by kernel_rfl) (by kernel_rfl) (fun o ho => ?_)
          simp only [List.getElem?_toArray, List.getElem?_cons_zero, List.getElem?_cons_succ, Option.some.injEq] at ho; subst ho
          refine ⟨by kernel_rfl, fun K hK => ?_⟩
          refine wp_value (by go_simp; try with_reducible rfl) ?_
          refine hK.out _ _ ?_
          clear hK K
          simp only [Act.put, List.setIfInBounds_toArray, List.set_cons_zero, List.set_cons_succ]
          refine any_end (by kernel_rfl) ?_
          exact hK9.out _ _ ⟨b3, rfl, HR.out, HR3.out, HB.out⟩
        · simp only [List.getElem?_toArray, List.getElem?_cons_zero, List.getElem?_cons_succ, Option.some.injEq] at ho; subst ho
          refine ⟨by kernel_rfl, fun wn hl K hK => ?_⟩
          have HR := Lib.hid (HR.out.later hl); have HR3 := Lib.hid (HR3.out.later hl); have HB := Lib.hid (below_on HB.out hl); clear hl
          refine late_whole _ _ rfl b3 rfl _ (q3) rfl HR3.out ?_; intro wm U R
          have HR := Lib.hid (HR.out.apart U HD3.out)
          have HR3 := Lib.hid R; have HB := Lib.hid (HB.out.trans (U.below HG3.out)); clear U R
          refine hK.out _ _ ?_
          clear hK K
          simp only [Act.put, List.setIfInBounds_toArray, List.set_cons_zero, List.set_cons_succ]
          refine any_one 7 (by kernel_rfl) (by kernel_rfl) (fun o ho => ?_)
          simp only [List.getElem?_toArray, List.getElem?_cons_zero, List.getElem?_cons_succ, Option.some.injEq] at ho; subst ho
          refine ⟨by kernel_rfl, fun K hK => ?_⟩
          refine wp_value (by go_simp; try with_reducible rfl) ?_
          refine hK.out _ _ ?_
          clear hK K
          simp only [Act.put, List.setIfInBounds_toArray, List.set_cons_zero, List.set_cons_succ]
          refine any_one 10 (by kernel_rfl) (by kernel_rfl) (fun o ho => ?_)
          simp only [List.getElem?_toArray, List.getElem?_cons_zero, List.getElem?_cons_succ, Option.some.injEq] at ho; subst ho
          refine ⟨by kernel_rfl, fun K hK => ?_⟩
          refine wp_value (by go_simp; try with_reducible rfl) ?_
          refine hK.out _ _ ?_
          clear hK K
          simp only [Act.put, List.setIfInBounds_toArray, List.set_cons_zero, List.set_cons_succ]
          refine any_end (by kernel_rfl) ?_
          exact hK9.out _ _ ⟨b3, rfl, HR.out, HR3.out, HB.out⟩
    · simp only [List.getElem?_toArray, List.getElem?_cons_zero, List.getElem?_cons_succ, Option.some.injEq] at ho; subst ho
      refine ⟨by kernel_rfl, fun wn hl K hK => ?_⟩
      have HR := Lib.hid (HR.out.later hl); have HB := Lib.hid (below_on HB.out hl); clear hl
      refine late_alloc rfl ?_; intro b3 wm N R
      have HD3 := Lib.hid (N.ne HR.out)
      have HG3 := Lib.hid (show w.heap.size ≤ b3 by have := HB.out.size; have := N.at_; omega)
      have hb := N.below
      have HRn := Lib.hid R
      clear N R
      refine hK.out _ _ hb ?_
      have HR := Lib.hid (HR.out.later hb); have HB := Lib.hid (below_on HB.out hb); clear hb
      have HR3 := HRn; clear HRn
      clear hK K
      simp only [Act.put, List.setIfInBounds_toArray, List.set_cons_zero, List.set_cons_succ]
      refine late_one 4 (by kernel_rfl) (by kernel_rfl) (fun o ho => ?_)
      simp only [List.getElem?_toArray, List.getElem?_cons_zero, List.getElem?_cons_succ, Option.some.injEq] at ho; subst ho
      refine ⟨by kernel_rfl, fun wn hl K hK => ?_⟩
      have HR := Lib.hid (HR.out.later hl); have HR3 := Lib.hid (HR3.out.later hl); have HB := Lib.hid (below_on HB.out hl); clear hl
      refine wp_enter _ _ (by go_simp; exact ⟨rfl, rfl⟩) ?_
      rw [← HZ.out]
      refine (fparse_any (p 0) s1 _ HF.out.var (HM.out.on HB.out) (HT.out.on HB.out) (HC.out.on HB.out) (HV.out.on HB.out) (HP.out.on HB.out)).mono ?_; rintro e wm ⟨rfl, hb⟩; refine ⟨_, rfl, ?_⟩
      rw [HO3.out, RdO, HZ.out]
      refine hK.out _ _ hb ?_
      have HR := Lib.hid (HR.out.later hb); have HR3 := Lib.hid (HR3.out.later hb); have HB := Lib.hid (below_on HB.out hb); clear hb
      clear hK K
      simp only [Act.put, List.setIfInBounds_toArray, List.set_cons_zero, List.set_cons_succ]
      refine late_take 5 (by kernel_rfl) (by kernel_rfl) (by kernel_rfl) (by kernel_rfl) (by kernel_rfl) (fun _ _ d _ _ h => by cases d <;> exact h) (fun o ho => ?_)
      simp only [List.getElem?_toArray, List.getElem?_cons_zero, List.getElem?_cons_succ, Option.some.injEq] at ho; subst ho
      apply Exists.intro
      refine ⟨Or.inl ⟨by kernel_rfl, fun w' hl => Or.inl ?_⟩, ?_⟩
      · (go_simp; try with_reducible rfl)
      simp only [Act.put, List.setIfInBounds_toArray, List.set_cons_zero, List.set_cons_succ]
      refine late_take 6 (by kernel_rfl) (by kernel_rfl) (by kernel_rfl) (by kernel_rfl) (by kernel_rfl) (fun _ _ d _ _ h => by cases d <;> exact h) (fun o ho => ?_)
      simp only [List.getElem?_toArray, List.getElem?_cons_zero, List.getElem?_cons_succ, Option.some.injEq] at ho; subst ho
      apply Exists.intro
      refine ⟨Or.inl ⟨by kernel_rfl, fun w' hl => Or.inl ?_⟩, ?_⟩
      · (go_simp; try with_reducible rfl)
      simp only [Act.put, List.setIfInBounds_toArray, List.set_cons_zero, List.set_cons_succ]
      refine late_forkL 7 9 (by kernel_rfl) (by kernel_rfl) (by kernel_rfl) (fun o ho => ?_) (fun o ho => ?_)
      · simp only [List.getElem?_toArray, List.getElem?_cons_zero, List.getElem?_cons_succ, Option.some.injEq] at ho; subst ho
        refine ⟨by kernel_rfl, fun wn hl K hK => ?_⟩
        have HR := Lib.hid (HR.out.later hl); have HR3 := Lib.hid (HR3.out.later hl); have HB := Lib.hid (below_on HB.out hl); clear hl
        refine wp_value (by go_simp; try with_reducible rfl) ?_
        refine hK.out _ _ (Later.refl _) ?_
        clear hK K
        simp only [Act.put, List.setIfInBounds_toArray, List.set_cons_zero, List.set_cons_succ]
        refine late_then 9 (by kernel_rfl) (by kernel_rfl) (fun o ho => ?_)
        simp only [List.getElem?_toArray, List.getElem?_cons_zero, List.getElem?_cons_succ, Option.some.injEq] at ho; subst ho
        refine ⟨by kernel_rfl, fun wn hl K hK => ?_⟩
        have HR := Lib.hid (HR.out.later hl); have HR3 := Lib.hid (HR3.out.later hl); have HB := Lib.hid (below_on HB.out hl); clear hl
        refine late_whole _ _ rfl b3 rfl _ (q3) rfl HR3.out ?_; intro wm U R
        have HR := Lib.hid (HR.out.apart U HD3.out)
        have HR3 := Lib.hid R; have HB := Lib.hid (HB.out.trans (U.below HG3.out)); clear U R
        refine hK.out _ _ ?_
        clear hK K
        simp only [Act.put, List.setIfInBounds_toArray, List.set_cons_zero, List.set_cons_succ]
        refine any_one 10 (by kernel_rfl) (by kernel_rfl) (fun o ho => ?_)
        simp only [List.getElem?_toArray, List.getElem?_cons_zero, List.getElem?_cons_succ, Option.some.injEq] at ho; subst ho
        refine ⟨by kernel_rfl, fun K hK => ?_⟩
        refine wp_value (by go_simp; try with_reducible rfl) ?_
        refine hK.out _ _ ?_
        clear hK K
        simp only [Act.put, List.setIfInBounds_toArray, List.set_cons_zero, List.set_cons_succ]
        refine any_end (by kernel_rfl) ?_
        exact hK9.out _ _ ⟨b3, rfl, HR.out, HR3.out, HB.out⟩
      · simp only [List.getElem?_toArray, List.getElem?_cons_zero, List.getElem?_cons_succ, Option.some.injEq] at ho; subst ho
        refine ⟨by kernel_rfl, fun wn hl K hK => ?_⟩
        have HR := Lib.hid (HR.out.later hl); have HR3 := Lib.hid (HR3.out.later hl); have HB := Lib.hid (below_on HB.out hl); clear hl
        refine late_whole _ _ rfl b3 rfl _ (q3) rfl HR3.out ?_; intro wm U R
        have HR := Lib.hid (HR.out.apart U HD3.out)
        have HR3 := Lib.hid R; have HB := Lib.hid (HB.out.trans (U.below HG3.out)); clear U R
        refine hK.out _ _ ?_
        clear hK K
        simp only [Act.put, List.setIfInBounds_toArray, List.set_cons_zero, List.set_cons_succ]
        refine any_one 7 (by kernel_rfl) (by kernel_rfl) (fun o ho => ?_)
        simp only [List.getElem?_toArray, List.getElem?_cons_zero, List.getElem?_cons_succ, Option.some.injEq] at ho; subst ho
        refine ⟨by kernel_rfl, fun K hK => ?_⟩
        refine wp_value (by go_simp; try with_reducible rfl) ?_
        refine hK.out _ _ ?_
        clear hK K
        simp only [Act.put, List.setIfInBounds_toArray, List.set_cons_zero, List.set_cons_succ]
        refine any_one 10 (by kernel_rfl) (by kernel_rfl) (fun o ho => ?_)
        simp only [List.getElem?_toArray, List.getElem?_cons_zero, List.getElem?_cons_succ, Option.some.injEq] at ho; subst ho
        refine ⟨by kernel_rfl, fun K hK => ?_⟩
        refine wp_value (by go_simp; try with_reducible rfl) ?_
        refine hK.out _ _ ?_
        clear hK K
        simp only [Act.put, List.setIfInBounds_toArray, List.set_cons_zero, List.set_cons_succ]
        refine any_end (by kernel_rfl) ?_
        exact hK9.out _ _ ⟨b3, rfl, HR.out, HR3.out, HB.out⟩
  case cutB =>
    rintro a wn ⟨b3, rfl, hr, hr3, hb⟩
    have HR := Lib.hid hr
    have HR3 := Lib.hid hr3
    have HB := Lib.hid hb
    clear hr hr3 hb hc0
    go_wp2_with fail
    refine late_begin 17 (by kernel_rfl) ?_
    refine late_take 0 (by kernel_rfl) (by kernel_rfl) (by kernel_rfl) (by kernel_rfl) (by kernel_rfl) (fun _ _ d _ _ h => by cases d <;> exact h) (fun o ho => ?_)
    simp only [List.getElem?_toArray, List.getElem?_cons_zero, List.getElem?_cons_succ, Option.some.injEq] at ho; subst ho
    apply Exists.intro
    refine ⟨Or.inl ⟨by kernel_rfl, fun w' hl => Or.inl ?_⟩, ?_⟩
    · (go_simp; try with_reducible rfl)
    simp only [Act.put, List.setIfInBounds_toArray, List.set_cons_zero, List.set_cons_succ]
    refine late_take 1 (by kernel_rfl) (by kernel_rfl) (by kernel_rfl) (by kernel_rfl) (by kernel_rfl) (fun _ _ d _ _ h => by cases d <;> exact h) (fun o ho => ?_)
    simp only [List.getElem?_toArray, List.getElem?_cons_zero, List.getElem?_cons_succ, Option.some.injEq] at ho; subst ho
    apply Exists.intro
    refine ⟨Or.inl ⟨by kernel_rfl, fun w' hl => Or.inl ?_⟩, ?_⟩
    · (go_simp; try with_reducible rfl)
    simp only [Act.put, List.setIfInBounds_toArray, List.set_cons_zero, List.set_cons_succ]
    refine late_take 2 (by kernel_rfl) (by kernel_rfl) (by kernel_rfl) (by kernel_rfl) (by kernel_rfl) (fun _ _ d _ _ h => by cases d <;> exact h) (fun o ho => ?_)
    simp only [List.getElem?_toArray, List.getElem?_cons_zero, List.getElem?_cons_succ, Option.some.injEq] at ho; subst ho
    apply Exists.intro
    refine ⟨Or.inl ⟨by kernel_rfl, fun w' hl => Or.inl ?_⟩, ?_⟩
    · (go_simp; try with_reducible rfl)
    simp only [Act.put, List.setIfInBounds_toArray, List.set_cons_zero, List.set_cons_succ]
    refine late_take 3 (by kernel_rfl) (by kernel_rfl) (by kernel_rfl) (by kernel_rfl) (by kernel_rfl) (fun _ _ d _ _ h => by cases d <;> exact h) (fun o ho => ?_)
    simp only [List.getElem?_toArray, List.getElem?_cons_zero, List.getElem?_cons_succ, Option.some.injEq] at ho; subst ho
    apply Exists.intro
    refine ⟨Or.inl ⟨by kernel_rfl, fun w' hl => Or.inl ?_⟩, ?_⟩
    · (go_simp; try with_reducible rfl)
    simp only [Act.put, List.setIfInBounds_toArray, List.set_cons_zero, List.set_cons_succ]
    refine late_take 4 (by kernel_rfl) (by kernel_rfl) (by kernel_rfl) (by kernel_rfl) (by kernel_rfl) (fun _ _ d _ _ h => by cases d <;> exact h) (fun o ho => ?_)
    simp only [List.getElem?_toArray, List.getElem?_cons_zero, List.getElem?_cons_succ, Option.some.injEq] at ho; subst ho
    apply Exists.intro
    refine ⟨Or.inl ⟨by kernel_rfl, fun w' hl => Or.inl ?_⟩, ?_⟩
    · (go_simp; try with_reducible rfl)
    simp only [Act.put, List.setIfInBounds_toArray, List.set_cons_zero, List.set_cons_succ]
    refine late_take 5 (by kernel_rfl) (by kernel_rfl) (by kernel_rfl) (by kernel_rfl) (by kernel_rfl) (fun _ _ d _ _ h => by cases d <;> exact h) (fun o ho => ?_)
    simp only [List.getElem?_toArray, List.getElem?_cons_zero, List.getElem?_cons_succ, Option.some.injEq] at ho; subst ho
    apply Exists.intro
    refine ⟨Or.inl ⟨by kernel_rfl, fun w' hl => Or.inl ?_⟩, ?_⟩
    · (go_simp; try with_reducible rfl)
    simp only [Act.put, List.setIfInBounds_toArray, List.set_cons_zero, List.set_cons_succ]
    refine late_take 6 (by kernel_rfl) (by kernel_rfl) (by kernel_rfl) (by kernel_rfl) (by kernel_rfl) (fun _ _ d _ _ h => by cases d <;> exact h) (fun o ho => ?_)
    simp only [List.getElem?_toArray, List.getElem?_cons_zero, List.getElem?_cons_succ, Option.some.injEq] at ho; subst ho
    apply Exists.intro
    refine ⟨Or.inl ⟨by kernel_rfl, fun w' hl => Or.inl ?_⟩, ?_⟩
    · (go_simp; try with_reducible rfl)
    simp only [Act.put, List.setIfInBounds_toArray, List.set_cons_zero, List.set_cons_succ]
    refine late_take 7 (by kernel_rfl) (by kernel_rfl) (by kernel_rfl) (by kernel_rfl) (by kernel_rfl) (fun _ _ d _ _ h => by cases d <;> exact h) (fun o ho => ?_)
    simp only [List.getElem?_toArray, List.getElem?_cons_zero, List.getElem?_cons_succ, Option.some.injEq] at ho; subst ho
    apply Exists.intro
    refine ⟨Or.inl ⟨by kernel_rfl, fun w' hl => Or.inl ?_⟩, ?_⟩
    · (go_simp; try with_reducible rfl)
    simp only [Act.put, List.setIfInBounds_toArray, List.set_cons_zero, List.set_cons_succ]
    refine late_take 8 (by kernel_rfl) (by kernel_rfl) (by kernel_rfl) (by kernel_rfl) (by kernel_rfl) (fun _ _ d _ _ h => by cases d <;> exact h) (fun o ho => ?_)
    simp only [List.getElem?_toArray, List.getElem?_cons_zero, List.getElem?_cons_succ, Option.some.injEq] at ho; subst ho
    apply Exists.intro
    refine ⟨Or.inl ⟨by kernel_rfl, fun w' hl => Or.inl ?_⟩, ?_⟩
    · (go_simp; try with_reducible rfl)
    simp only [Act.put, List.setIfInBounds_toArray, List.set_cons_zero, List.set_cons_succ]
    refine late_take 9 (by kernel_rfl) (by kernel_rfl) (by kernel_rfl) (by kernel_rfl) (by kernel_rfl) (fun _ _ d _ _ h => by cases d <;> exact h) (fun o ho => ?_)
    simp only [List.getElem?_toArray, List.getElem?_cons_zero, List.getElem?_cons_succ, Option.some.injEq] at ho; subst ho
    refine ⟨_, Or.inl ⟨by kernel_rfl, fun w' hl => Or.inl (run_load _ rfl _ rfl (q3) (HR3.out.later hl))⟩, ?_⟩
    simp only [Act.put, List.setIfInBounds_toArray, List.set_cons_zero, List.set_cons_succ]
    refine late_take 11 (by kernel_rfl) (by kernel_rfl) (by kernel_rfl) (by kernel_rfl) (by kernel_rfl) (fun _ _ d _ _ h => by cases d <;> exact h) (fun o ho => ?_)
    simp only [List.getElem?_toArray, List.getElem?_cons_zero, List.getElem?_cons_succ, Option.some.injEq] at ho; subst ho
    apply Exists.intro
    refine ⟨Or.inl ⟨by kernel_rfl, fun w' hl => Or.inl ?_⟩, ?_⟩
    · (go_simp; try with_reducible rfl)
    simp only [Act.put, List.setIfInBounds_toArray, List.set_cons_zero, List.set_cons_succ]
    refine late_take 12 (by kernel_rfl) (by kernel_rfl) (by kernel_rfl) (by kernel_rfl) (by kernel_rfl) (fun _ _ d _ _ h => by cases d <;> exact h) (fun o ho => ?_)
    simp only [List.getElem?_toArray, List.getElem?_cons_zero, List.getElem?_cons_succ, Option.some.injEq] at ho; subst ho
    refine ⟨.string z, Or.inl ⟨by kernel_rfl, fun w' hl => Or.inl ?_⟩, ?_⟩
    · (go_simp; try simp [HRt.out])
    simp only [Act.put, List.setIfInBounds_toArray, List.set_cons_zero, List.set_cons_succ]
    refine late_one 10 (by kernel_rfl) (by kernel_rfl) (fun o ho => ?_)
    simp only [List.getElem?_toArray, List.getElem?_cons_zero, List.getElem?_cons_succ, Option.some.injEq] at ho; subst ho
    refine ⟨by kernel_rfl, fun wn hl K hK => ?_⟩
    have HR := Lib.hid (HR.out.later hl); have HR3 := Lib.hid (HR3.out.later hl); have HB := Lib.hid (below_on HB.out hl); clear hl
    refine wp_enter _ _ (by go_simp; exact ⟨rfl, rfl⟩) ?_
    refine (print_any q3 _ HFq.out (HV.out.on HB.out) (HC.out.on HB.out) (HP.out.on HB.out)).mono ?_; rintro e wm ⟨rfl, hb⟩; refine ⟨_, rfl, ?_⟩
    rw [HTz.out]
    refine hK.out _ _ hb ?_
    have HR := Lib.hid (HR.out.later hb); have HR3 := Lib.hid (HR3.out.later hb); have HB := Lib.hid (below_on HB.out hb); clear hb
    clear hK K
    simp only [Act.put, List.setIfInBounds_toArray, List.set_cons_zero, List.set_cons_succ]
    refine late_take 13 (by kernel_rfl) (by kernel_rfl) (by kernel_rfl) (by kernel_rfl) (by kernel_rfl) (fun _ _ d _ _ h => by cases d <;> exact h) (fun o ho => ?_)
    simp only [List.getElem?_toArray, List.getElem?_cons_zero, List.getElem?_cons_succ, Option.some.injEq] at ho; subst ho
    apply Exists.intro
    refine ⟨Or.inl ⟨by kernel_rfl, fun w' hl => Or.inl ?_⟩, ?_⟩
    · (go_simp; try with_reducible rfl)
    simp only [Act.put, List.setIfInBounds_toArray, List.set_cons_zero, List.set_cons_succ]
    refine late_take 14 (by kernel_rfl) (by kernel_rfl) (by kernel_rfl) (by kernel_rfl) (by kernel_rfl) (fun _ _ d _ _ h => by cases d <;> exact h) (fun o ho => ?_)
    simp only [List.getElem?_toArray, List.getElem?_cons_zero, List.getElem?_cons_succ, Option.some.injEq] at ho; subst ho
    apply Exists.intro
    refine ⟨Or.inl ⟨by kernel_rfl, fun w' hl => Or.inl ?_⟩, ?_⟩
    · (go_simp; try with_reducible rfl)
    simp only [Act.put, List.setIfInBounds_toArray, List.set_cons_zero, List.set_cons_succ]
    refine late_take 15 (by kernel_rfl) (by kernel_rfl) (by kernel_rfl) (by kernel_rfl) (by kernel_rfl) (fun _ _ d _ _ h => by cases d <;> exact h) (fun o ho => ?_)
    simp only [List.getElem?_toArray, List.getElem?_cons_zero, List.getElem?_cons_succ, Option.some.injEq] at ho; subst ho
    apply Exists.intro
    refine ⟨Or.inl ⟨by kernel_rfl, fun w' hl => Or.inl ?_⟩, ?_⟩
    · (go_simp; try with_reducible rfl)
    simp only [Act.put, List.setIfInBounds_toArray, List.set_cons_zero, List.set_cons_succ]
    refine late_take 16 (by kernel_rfl) (by kernel_rfl) (by kernel_rfl) (by kernel_rfl) (by kernel_rfl) (fun _ _ d _ _ h => by cases d <;> exact h) (fun o ho => ?_)
    simp only [List.getElem?_toArray, List.getElem?_cons_zero, List.getElem?_cons_succ, Option.some.injEq] at ho; subst ho
    apply Exists.intro
    refine ⟨Or.inl ⟨by kernel_rfl, fun w' hl => Or.inl ?_⟩, ?_⟩
    · (go_simp; try with_reducible rfl)
    simp only [Act.put, List.setIfInBounds_toArray, List.set_cons_zero, List.set_cons_succ]
    refine late_end (by kernel_rfl) (fun wn hl => ?_)
    have HR := Lib.hid (HR.out.later hl); have HR3 := Lib.hid (HR3.out.later hl); have HB := Lib.hid (below_on HB.out hl); clear hl
    go_wp2_with fail
    exact bodyPost_ret (results_tmp rfl _ _ _) rfl ⟨by simp, HB.out⟩
theorem walk (p : Nat → Int) (v b : Int) (hw : WfP p) (hv : (Lit.int .u8 v).wf = true) (hb : (Lit.int .u8 b).wf = true) (w : World) (hP : TabPow w) (hEr : TabErrR w) (hEs : TabErrS w) (hV : TabVar w) (hK : TabKn w) (hC : TabCorn w) (hM : TabMx w) :
    Calls Tryz.prog 8 #[.agg (posA p), .int .u8 v, .int .u8 b] w fun e w' => e = .returned (.bool true) ∧ Below w.heap.size w w' := by
  have hT : TabErr w := ⟨hEs, hEr⟩
  have hF := FitF.of hw
  have hv := u8_rng hv
  have hb := u8_rng hb
  cases hs : (fenL p).isEmpty
  · by_cases h9 : 9 ≤ v
    · obtain ⟨x0, s1, hx⟩ : ∃ x s1, fenL p = x :: s1 := by
        cases h : fenL p with
        | nil => rw [h] at hs; cases hs
        | cons x l => exact ⟨x, l, rfl⟩
      have h0 : p 0 < 9 := (wrB_parts (fenL_text9 (by rw [hx]; simp)).1).1
      by_cases hl : 200 < (fenL p ++ [byZ b]).length
      · exact bad_1_long p v b _ x0 s1 hv h9 hb w hF rfl hx h0 hl hM hT hC hV hP hK
      · have hl : (fenL p ++ [byZ b]).length ≤ 200 := by omega
        cases o2 : parO (p 0) (fenL p ++ [byZ b]) with
        | none => cases o3 : parO (p 0) s1 with
          | none => exact bad_1_00 p v b _ x0 s1 hv h9 hb w hF rfl hx h0 hl o2 o3 hM hT hC hV hP hK
          | some q3 => exact bad_1_01 p v b _ x0 s1 hv h9 hb w hF rfl hx h0 hl o2 q3 o3 hM hT hC hV hP hK
        | some q2 => cases o3 : parO (p 0) s1 with
          | none => exact bad_1_10 p v b _ x0 s1 hv h9 hb w hF rfl hx h0 hl q2 o2 o3 hM hT hC hV hP hK
          | some q3 => exact bad_1_11 p v b _ x0 s1 hv h9 hb w hF rfl hx h0 hl q2 o2 q3 o3 hM hT hC hV hP hK
    · have h9 : v < 9 := by omega
      obtain ⟨x0, s1, hx⟩ : ∃ x s1, fenL p = x :: s1 := by
        cases h : fenL p with
        | nil => rw [h] at hs; cases hs
        | cons x l => exact ⟨x, l, rfl⟩
      have h0 : p 0 < 9 := (wrB_parts (fenL_text9 (by rw [hx]; simp)).1).1
      by_cases hl : 200 < (fenL p ++ [byZ b]).length
      · exact bad_0_long p v b _ x0 s1 hv h9 hb w hF rfl hx h0 hl hM hT hC hV hP hK
      · have hl : (fenL p ++ [byZ b]).length ≤ 200 := by omega
        cases o2 : parO (p 0) (fenL p ++ [byZ b]) with
        | none => cases o3 : parO (p 0) s1 with
          | none => exact bad_0_00 p v b _ x0 s1 hv h9 hb w hF rfl hx h0 hl o2 o3 hM hT hC hV hP hK
          | some q3 => exact bad_0_01 p v b _ x0 s1 hv h9 hb w hF rfl hx h0 hl o2 q3 o3 hM hT hC hV hP hK
        | some q2 => cases o3 : parO (p 0) s1 with
          | none => exact bad_0_10 p v b _ x0 s1 hv h9 hb w hF rfl hx h0 hl q2 o2 o3 hM hT hC hV hP hK
          | some q3 => exact bad_0_11 p v b _ x0 s1 hv h9 hb w hF rfl hx h0 hl q2 o2 q3 o3 hM hT hC hV hP hK
  · exact bad_none p v b hv hb w hF hM hT hC hV hP hK hs
end Go.Proofs.YtkcflknjnefhbaaGreatDoor.fenBad
