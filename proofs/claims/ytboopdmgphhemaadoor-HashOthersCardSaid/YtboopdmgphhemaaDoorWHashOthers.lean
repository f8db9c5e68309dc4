/-
  The walk of HashOthers.
-/
import Derived.Test.YtboopdmgphhemaaDoorHaLaw
import Derived.WalkKit
import Derived.OpenShut
namespace Go.Proofs.YtboopdmgphhemaaDoor.hashOthers
open Go.RowKit
set_option linter.unusedVariables false
set_option linter.unusedSimpArgs false
set_option maxRecDepth 100000 in
set_option maxHeartbeats 4000000 in
theorem walk (p o : Nat → Int) (a2 a3 a4 : Int) (hp : WfP p) (ho : WfP o) (w2 : (Lit.int .u8 a2).wf = true) (w3 : (Lit.int .i64 a3).wf = true) (w4 : (Lit.int .u8 a4).wf = true) (w : World) (hT : TabMix w) :
    Calls Tryd.prog 7 #[.agg (posA p), .agg (posA o), .int .u8 a2, .int .i64 a3, .int .u8 a4] w fun e w' => e = .returned (.bool true) ∧ Below w.heap.size w w' := by
  have HT := Lib.hid hT
  clear hT
  obtain ⟨y0, y1⟩ := fit_u8 w2 rfl
  obtain ⟨z0, z1⟩ := fit_u8 w4 rfl
  obtain ⟨c, hc, ec⟩ : ∃ c : Nat, c < 2 ∧ a2 % 2 = (c : Int) := ⟨(a2 % 2).toNat, by omega, by omega⟩
  obtain ⟨k, hk, ek⟩ : ∃ k : Nat, k < 6 ∧ a4 % 6 = (k : Int) := ⟨(a4 % 6).toNat, by omega, by omega⟩
  obtain ⟨d, hd, ed⟩ := sdOf a3
  have HP := Lib.hid (FitP.of hp)
  have HO := Lib.hid (FitP.of ho)
  obtain ⟨q1, h1⟩ : ∃ q, upd p 78 (o 78) = q := ⟨_, rfl⟩
  obtain ⟨q2, h2⟩ : ∃ q, upd q1 83 (o 83) = q := ⟨_, rfl⟩
  obtain ⟨q3, h3⟩ : ∃ q, upd q2 (79 + c * 2 + d) (o (79 + c * 2 + d)) = q := ⟨_, rfl⟩
  obtain ⟨q4, h4⟩ : ∃ q, upd q3 (66 + c * 6 + k) (o (66 + c * 6 + k)) = q := ⟨_, rfl⟩
  obtain ⟨q5, h5⟩ : ∃ q, upd q4 (84 + c) (o (84 + c)) = q := ⟨_, rfl⟩
  obtain ⟨q6, h6⟩ : ∃ q, upd q5 65 (o 65) = q := ⟨_, rfl⟩
  have f1 : WfP q1 := h1 ▸ hp.set (ho 78 (by omega))
  have f2 : WfP q2 := h2 ▸ f1.set (ho 83 (by omega))
  have f3 : WfP q3 := h3 ▸ f2.set (ho _ (by omega))
  have f4 : WfP q4 := h4 ▸ f3.set (ho _ (by omega))
  have f5 : WfP q5 := h5 ▸ f4.set (ho _ (by omega))
  have f6 : WfP q6 := h6 ▸ f5.set (ho 65 (by omega))
  have HF1 := Lib.hid (FitP.of f1)
  have HF2 := Lib.hid (FitP.of f2)
  have HF3 := Lib.hid (FitP.of f3)
  have HF4 := Lib.hid (FitP.of f4)
  have HF6 := Lib.hid (FitP.of f6)
  have v1 : q1 78 = o 78 := by rw [← h1, upd_same]
  have v2 : q2 83 = o 83 := by rw [← h2, upd_same]
  have v3 : q3 (79 + c * 2 + d) = o (79 + c * 2 + d) := by rw [← h3, upd_same]
  have v4 : q4 (66 + c * 6 + k) = o (66 + c * 6 + k) := by rw [← h4, upd_same]
  have v5 : q6 (84 + c) = o (84 + c) := by rw [← h6, upd_off (by omega), ← h5, upd_same]
  have v6 : q6 65 = o 65 := by rw [← h6, upd_same]
  have u2 : q1 83 = p 83 := by rw [← h1, upd_off (by omega)]
  have u3 : q2 (79 + c * 2 + d) = p (79 + c * 2 + d) := by rw [← h2, upd_off (by omega), ← h1, upd_off (by omega)]
  have u4 : q3 (66 + c * 6 + k) = p (66 + c * 6 + k) := by rw [← h3, upd_off (by omega), ← h2, upd_off (by omega), ← h1, upd_off (by omega)]
  have u5 : q4 (84 + c) = p (84 + c) := by rw [← h4, upd_off (by omega), ← h3, upd_off (by omega), ← h2, upd_off (by omega), ← h1, upd_off (by omega)]
  have u6 : q5 65 = p 65 := by rw [← h5, upd_off (by omega), ← h4, upd_off (by omega), ← h3, upd_off (by omega), ← h2, upd_off (by omega), ← h1, upd_off (by omega)]
  obtain ⟨pm, hpm⟩ : ∃ m : Nat, p 65 = (m : Int) := ⟨(p 65).toNat, (Int.toNat_of_nonneg HP.out.prom.1).symm⟩
  obtain ⟨om, hom⟩ : ∃ m : Nat, o 65 = (m : Int) := ⟨(o 65).toNat, (Int.toNat_of_nonneg HO.out.prom.1).symm⟩
  have lpm : pm < W64 := by have := HP.out.prom.2; rw [hpm] at this; exact this
  have lom : om < W64 := by have := HO.out.prom.2; rw [hom] at this; exact this
  obtain ⟨k0, nk0⟩ : ∃ n, keyN p = n := ⟨_, rfl⟩
  obtain ⟨k1, nk1⟩ : ∃ n, keyN q1 = n := ⟨_, rfl⟩
  obtain ⟨k2, nk2⟩ : ∃ n, keyN q2 = n := ⟨_, rfl⟩
  obtain ⟨k3, nk3⟩ : ∃ n, keyN q3 = n := ⟨_, rfl⟩
  obtain ⟨k4, nk4⟩ : ∃ n, keyN q4 = n := ⟨_, rfl⟩
  obtain ⟨k6, nk6⟩ : ∃ n, keyN q6 = n := ⟨_, rfl⟩
  obtain ⟨t0, nt0⟩ : ∃ n, turnN (p 78) = n := ⟨_, rfl⟩
  obtain ⟨t1, nt1⟩ : ∃ n, turnN (o 78) = n := ⟨_, rfl⟩
  obtain ⟨s0, ns0⟩ : ∃ n, psgN (p 83) = n := ⟨_, rfl⟩
  obtain ⟨s1, ns1⟩ : ∃ n, psgN (o 83) = n := ⟨_, rfl⟩
  obtain ⟨r0, nr0⟩ : ∃ n, rookHN (c : Int) (d : Int) (p (79 + c * 2 + d)) = n := ⟨_, rfl⟩
  obtain ⟨r1, nr1⟩ : ∃ n, rookHN (c : Int) (d : Int) (o (79 + c * 2 + d)) = n := ⟨_, rfl⟩
  obtain ⟨g0, ng0⟩ : ∃ n, pockN (c : Int) (k : Int) (p (66 + c * 6 + k)) = n := ⟨_, rfl⟩
  obtain ⟨g1, ng1⟩ : ∃ n, pockN (c : Int) (k : Int) (o (66 + c * 6 + k)) = n := ⟨_, rfl⟩
  obtain ⟨e0, ne0⟩ : ∃ n, chkHN (c : Int) (p (84 + c)) = n := ⟨_, rfl⟩
  obtain ⟨e1, ne1⟩ : ∃ n, chkHN (c : Int) (o (84 + c)) = n := ⟨_, rfl⟩
  obtain ⟨m0, nm0⟩ : ∃ n, promN (pm ^^^ om) = n := ⟨_, rfl⟩
  have x1 : k0 ^^^ t0 ^^^ t1 = k1 := by rw [← nk0, ← nt0, ← nt1, ← nk1, ← h1, key_turn]
  have x2 : k1 ^^^ s0 ^^^ s1 = k2 := by rw [← nk1, ← ns0, ← ns1, ← nk2, ← h2, key_pass, u2]
  have x3 : k2 ^^^ r0 ^^^ r1 = k3 := by rw [← nk2, ← nr0, ← nr1, ← nk3, ← h3, key_rook q2 hc hd, u3]
  have x4 : k3 ^^^ g0 ^^^ g1 = k4 := by rw [← nk3, ← ng0, ← ng1, ← nk4, ← h4, key_pock q3 hc hk, u4]
  have x6 : k4 ^^^ e0 ^^^ e1 ^^^ m0 = k6 := by rw [← nk4, ← ne0, ← ne1, ← nm0, ← nk6, ← h6, key_prom, u6, ← h5, key_chk q4 hc, u5, promN_xor, hpm, hom, Int.toNat_natCast, Int.toNat_natCast]
  have lk0 : k0 < W64 := nk0 ▸ keyN_lt _
  have lk1 : k1 < W64 := nk1 ▸ keyN_lt _
  have lk2 : k2 < W64 := nk2 ▸ keyN_lt _
  have lk3 : k3 < W64 := nk3 ▸ keyN_lt _
  have lk4 : k4 < W64 := nk4 ▸ keyN_lt _
  have lk6 : k6 < W64 := nk6 ▸ keyN_lt _
  have lt0 : t0 < W64 := nt0 ▸ turnN_lt _
  have lt1 : t1 < W64 := nt1 ▸ turnN_lt _
  have ls0 : s0 < W64 := ns0 ▸ psgN_lt _
  have ls1 : s1 < W64 := ns1 ▸ psgN_lt _
  have lr0 : r0 < W64 := nr0 ▸ rookHN_lt _ _ _
  have lr1 : r1 < W64 := nr1 ▸ rookHN_lt _ _ _
  have lg0 : g0 < W64 := ng0 ▸ pockN_lt _ _ _
  have lg1 : g1 < W64 := ng1 ▸ pockN_lt _ _ _
  have le0 : e0 < W64 := ne0 ▸ chkHN_lt _ _
  have le1 : e1 < W64 := ne1 ▸ chkHN_lt _ _
  have lm0 : m0 < W64 := nm0 ▸ promN_lt _
  have HXt0 := Lib.hid (xor_nat lk0 lt0)
  have HZt0 := Lib.hid (show bits .xor .u64 ((k0 ^^^ t0 : Nat) : Int) ((t1 : Nat) : Int) = ((k1 : Nat) : Int) by rw [xor_nat (xor_lt64 lk0 lt0) lt1, x1])
  have HXs0 := Lib.hid (xor_nat lk1 ls0)
  have HZs0 := Lib.hid (show bits .xor .u64 ((k1 ^^^ s0 : Nat) : Int) ((s1 : Nat) : Int) = ((k2 : Nat) : Int) by rw [xor_nat (xor_lt64 lk1 ls0) ls1, x2])
  have HXr0 := Lib.hid (xor_nat lk2 lr0)
  have HZr0 := Lib.hid (show bits .xor .u64 ((k2 ^^^ r0 : Nat) : Int) ((r1 : Nat) : Int) = ((k3 : Nat) : Int) by rw [xor_nat (xor_lt64 lk2 lr0) lr1, x3])
  have HXg0 := Lib.hid (xor_nat lk3 lg0)
  have HZg0 := Lib.hid (show bits .xor .u64 ((k3 ^^^ g0 : Nat) : Int) ((g1 : Nat) : Int) = ((k4 : Nat) : Int) by rw [xor_nat (xor_lt64 lk3 lg0) lg1, x4])
  have HXe0 := Lib.hid (xor_nat lk4 le0)
  have HXe1 := Lib.hid (xor_nat (xor_lt64 lk4 le0) le1)
  have HXm := Lib.hid (xor_nat lpm lom)
  have HZm := Lib.hid (show bits .xor .u64 ((k4 ^^^ e0 ^^^ e1 : Nat) : Int) ((m0 : Nat) : Int) = ((k6 : Nat) : Int) by rw [xor_nat (xor_lt64 (xor_lt64 lk4 le0) le1) lm0, x6])
  have HNk0 := Lib.hid nk0
  have HNk1 := Lib.hid nk1
  have HNk2 := Lib.hid nk2
  have HNk3 := Lib.hid nk3
  have HNk4 := Lib.hid nk4
  have HNk6 := Lib.hid nk6
  have HNt0 := Lib.hid nt0
  have HNt1 := Lib.hid nt1
  have HNs0 := Lib.hid ns0
  have HNs1 := Lib.hid ns1
  have HNr0 := Lib.hid nr0
  have HNr1 := Lib.hid nr1
  have HNg0 := Lib.hid ng0
  have HNg1 := Lib.hid ng1
  have HNe0 := Lib.hid ne0
  have HNe1 := Lib.hid ne1
  have HNm0 := Lib.hid nm0
  have HE1 := Lib.hid h1
  have HE2 := Lib.hid h2
  have HE3 := Lib.hid h3
  have HE4 := Lib.hid h4
  have HE5 := Lib.hid h5
  have HE6 := Lib.hid h6
  have HV1 := Lib.hid v1
  have HV2 := Lib.hid v2
  have HV3 := Lib.hid v3
  have HV4 := Lib.hid v4
  have HV5 := Lib.hid v5
  have HV6 := Lib.hid v6
  have HW83 := Lib.hid (wrap_i64 (x := p 83) (by have := HP.out.pass; omega) (by have := HP.out.pass; omega))
  have HWo83 := Lib.hid (wrap_i64 (x := o 83) (by have := HO.out.pass; omega) (by have := HO.out.pass; omega))
  have HWr := Lib.hid (wrap_i64 (x := p (79 + c * 2 + d)) (by have := HP.out.rook (79 + c * 2 + d) (by omega) (by omega); omega) (by have := HP.out.rook (79 + c * 2 + d) (by omega) (by omega); omega))
  have HWor := Lib.hid (wrap_i64 (x := o (79 + c * 2 + d)) (by have := HO.out.rook (79 + c * 2 + d) (by omega) (by omega); omega) (by have := HO.out.rook (79 + c * 2 + d) (by omega) (by omega); omega))
  have HWc := Lib.hid (show IntKind.u8.wrap (c : Int) = (c : Int) from wrap_u8_small (by omega))
  have HWk := Lib.hid (show IntKind.u8.wrap (k : Int) = (k : Int) from wrap_u8_small hk)
  have HBp := Lib.hid (HP.out.pock (66 + c * 6 + k) (by omega) (by omega))
  have HBo := Lib.hid (HO.out.pock (66 + c * 6 + k) (by omega) (by omega))
  have HCp := Lib.hid (HP.out.chk (84 + c) (by omega) (by omega))
  have HCo := Lib.hid (HO.out.chk (84 + c) (by omega) (by omega))
  have c0 : (0 : Int) ≤ (c : Int) := by omega
  have HC0 := Lib.hid c0
  have lc : (c : Int) < 2 := by omega
  have ld : (d : Int) < 2 := by omega
  have lk : (k : Int) < 6 := by omega
  have HLc := Lib.hid hc
  have HLd := Lib.hid hd
  have HLk := Lib.hid hk
  have HPM := Lib.hid hpm
  have HOM := Lib.hid hom
  have HML := Lib.hid (xor_lt64 lpm lom)
  have HFm := Lib.hid (by kernel_rfl : Tryd.prog.follows .mixedOrders = true)
  clear hp ho w2 w3 w4 f1 f2 f3 f4 f5 f6 h1 h2 h3 h4 h5 h6 v1 v2 v3 v4 v5 v6 u2 u3 u4 u5 u6 hpm hom lpm lom x1 x2 x3 x4 x6 hc hk hd c0 nk0 nk1 nk2 nk3 nk4 nk6 nt0 nt1 ns0 ns1 nr0 nr1 ng0 ng1 ne0 ne1 nm0 lk0 lk1 lk2 lk3 lk4 lk6 lt0 lt1 ls0 ls1 lr0 lr1 lg0 lg1 le0 le1 lm0
  go_enter Tryd.func7, Tryd.ntmps7
  go_wp2_with (first
    | (refine step_box (op := ⟨some 5, _, _, _, _, _⟩) rfl _ rfl p rfl ?_; intro b5 w1 N R; have HB := Lib.hid N.below; have HRa := Lib.hid R; clear N R)
    | (refine step_box (op := ⟨some 6, _, _, _, _, _⟩) rfl _ rfl o rfl ?_; intro b6 w1 N R; have HRa := Lib.hid (pushed_row N HRa.out); have HRb := Lib.hid R; have HB := Lib.hid (below_on HB.out N.below); clear N R))
  refine (ha_awake _ (HT.out.on HB.out)).mono ?_; rintro e wn ⟨rfl, hb9⟩; have HRa := Lib.hid (HRa.out.later hb9); have HRb := Lib.hid (HRb.out.later hb9); have HB := Lib.hid (below_on HB.out hb9); clear hb9
  go_wp2_with (first
    | (refine step_load (by rfl) _ rfl b5 rfl p ?_ ?_; exact HRa.out)
    | (refine step_alloc (op := ⟨some 14, _, _, _, _, _⟩) rfl rfl ?_; intro bq wn N R; have HDa := Lib.hid (pushed_ne N HRa.out); have HDb := Lib.hid (pushed_ne N HRb.out); have HRa := Lib.hid (pushed_row N HRa.out); have HRb := Lib.hid (pushed_row N HRb.out); have HRq := Lib.hid R; have HG := Lib.hid (show w.heap.size ≤ bq by have := HB.out.size; have := N.at_; omega); have HB := Lib.hid (below_on HB.out N.below); clear N R)
    | (refine step_store rfl _ _ rfl bq rfl _ p rfl HRq.out ?_; intro wn U R; have HRa := Lib.hid (HRa.out.apart U HDa.out); have HRb := Lib.hid (HRb.out.apart U HDb.out); have HRq := Lib.hid R; have HB := Lib.hid (HB.out.trans (U.below HG.out)); clear U R)
    | (refine step_get (by rfl) 5 _ rfl b6 78 rfl Tryd.underlying5 rfl (.int .u8 (o 78)) (by rw [HRb.out.cell 78 (by decide)]; rfl) ?_)
    | (refine step_cell (by rfl) 5 _ _ rfl bq 78 rfl .u8 (o 78) rfl _ HRq.out (by decide) rfl sizeU8a ?_; intro wn U R; have HRa := Lib.hid (HRa.out.apart U HDa.out); have HRb := Lib.hid (HRb.out.apart U HDb.out); have HRq := Lib.hid R; have HB := Lib.hid (HB.out.trans (U.below HG.out)); clear U R))
  rw [HE1.out] at HRq
  refine late_begin 11 (by kernel_rfl) ?_
  refine late_take 0 (by kernel_rfl) (by kernel_rfl) (by kernel_rfl) (by kernel_rfl) (by kernel_rfl) (fun _ _ d _ _ h => by cases d <;> exact h) (fun o ho => ?_)
  simp only [List.getElem?_toArray, List.getElem?_cons_zero, List.getElem?_cons_succ, Option.some.injEq] at ho; subst ho
  refine ⟨_, Or.inl ⟨by kernel_rfl, fun w' hl => Or.inl (run_load _ rfl _ rfl (p) (HRa.out.later hl))⟩, ?_⟩
  simp only [Act.put, List.setIfInBounds_toArray, List.set_cons_zero, List.set_cons_succ]
  refine late_take 2 (by kernel_rfl) (by kernel_rfl) (by kernel_rfl) (by kernel_rfl) (by kernel_rfl) (fun _ _ d _ _ h => by cases d <;> exact h) (fun o ho => ?_)
  simp only [List.getElem?_toArray, List.getElem?_cons_zero, List.getElem?_cons_succ, Option.some.injEq] at ho; subst ho
  apply Exists.intro
  refine ⟨Or.inl ⟨by kernel_rfl, fun w' hl => Or.inl ?_⟩, ?_⟩
  · (go_simp; try with_reducible rfl)
  simp only [Act.put, List.setIfInBounds_toArray, List.set_cons_zero, List.set_cons_succ]
  refine late_take 3 (by kernel_rfl) (by kernel_rfl) (by kernel_rfl) (by kernel_rfl) (by kernel_rfl) (fun _ _ d _ _ h => by cases d <;> exact h) (fun o ho => ?_)
  simp only [List.getElem?_toArray, List.getElem?_cons_zero, List.getElem?_cons_succ, Option.some.injEq] at ho; subst ho
  refine ⟨.int .u8 (p 78), Or.inl ⟨by kernel_rfl, fun w' hl => Or.inl (run_get 5 _ rfl b5 (78) rfl Tryd.underlying5 rfl (.int .u8 (p 78)) (by rw [(HRa.out.later hl).cell (78) (by omega), k_u8 (by omega)]))⟩, ?_⟩
  simp only [Act.put, List.setIfInBounds_toArray, List.set_cons_zero, List.set_cons_succ]
  refine late_take 6 (by kernel_rfl) (by kernel_rfl) (by kernel_rfl) (by kernel_rfl) (by kernel_rfl) (fun _ _ d _ _ h => by cases d <;> exact h) (fun o ho => ?_)
  simp only [List.getElem?_toArray, List.getElem?_cons_zero, List.getElem?_cons_succ, Option.some.injEq] at ho; subst ho
  apply Exists.intro
  refine ⟨Or.inl ⟨by kernel_rfl, fun w' hl => Or.inl ?_⟩, ?_⟩
  · (go_simp; try with_reducible rfl)
  simp only [Act.put, List.setIfInBounds_toArray, List.set_cons_zero, List.set_cons_succ]
  refine late_take 7 (by kernel_rfl) (by kernel_rfl) (by kernel_rfl) (by kernel_rfl) (by kernel_rfl) (fun _ _ d _ _ h => by cases d <;> exact h) (fun o ho => ?_)
  simp only [List.getElem?_toArray, List.getElem?_cons_zero, List.getElem?_cons_succ, Option.some.injEq] at ho; subst ho
  refine ⟨.int .u8 (o 78), Or.inl ⟨by kernel_rfl, fun w' hl => Or.inl (run_get 5 _ rfl bq (78) rfl Tryd.underlying5 rfl (.int .u8 (o 78)) (by rw [(HRq.out.later hl).cell (78) (by omega), k_u8 (by omega), HV1.out]))⟩, ?_⟩
  simp only [Act.put, List.setIfInBounds_toArray, List.set_cons_zero, List.set_cons_succ]
  refine late_one 1 (by kernel_rfl) (by kernel_rfl) (fun o ho => ?_)
  simp only [List.getElem?_toArray, List.getElem?_cons_zero, List.getElem?_cons_succ, Option.some.injEq] at ho; subst ho
  refine ⟨by kernel_rfl, fun wn hl K hK => ?_⟩
  have HRa := Lib.hid (HRa.out.later hl); have HRb := Lib.hid (HRb.out.later hl); have HRq := Lib.hid (HRq.out.later hl); have HB := Lib.hid (below_on HB.out hl); clear hl
  refine wp_enter _ _ (by go_simp; exact ⟨rfl, rfl⟩) ?_
  refine (key_any p _ HP.out (HT.out.on HB.out)).mono ?_; rintro e wm ⟨rfl, hb⟩; refine ⟨_, rfl, ?_⟩
  rw [HNk0.out]
  refine hK.out _ _ hb ?_
  have HRa := Lib.hid (HRa.out.later hb); have HRb := Lib.hid (HRb.out.later hb); have HRq := Lib.hid (HRq.out.later hb); have HB := Lib.hid (below_on HB.out hb); clear hb
  clear hK K
  simp only [Act.put, List.setIfInBounds_toArray, List.set_cons_zero, List.set_cons_succ]
  refine late_one 4 (by kernel_rfl) (by kernel_rfl) (fun o ho => ?_)
  simp only [List.getElem?_toArray, List.getElem?_cons_zero, List.getElem?_cons_succ, Option.some.injEq] at ho; subst ho
  refine ⟨by kernel_rfl, fun wn hl K hK => ?_⟩
  have HRa := Lib.hid (HRa.out.later hl); have HRb := Lib.hid (HRb.out.later hl); have HRq := Lib.hid (HRq.out.later hl); have HB := Lib.hid (below_on HB.out hl); clear hl
  refine wp_enter _ _ (by go_simp; exact ⟨rfl, rfl⟩) ?_
  refine (turn_any (p 78) _ (HT.out.on HB.out)).mono ?_; rintro e wm ⟨rfl, hb⟩; refine ⟨_, rfl, ?_⟩
  rw [HNt0.out]
  refine hK.out _ _ hb ?_
  have HRa := Lib.hid (HRa.out.later hb); have HRb := Lib.hid (HRb.out.later hb); have HRq := Lib.hid (HRq.out.later hb); have HB := Lib.hid (below_on HB.out hb); clear hb
  clear hK K
  simp only [Act.put, List.setIfInBounds_toArray, List.set_cons_zero, List.set_cons_succ]
  refine late_take 5 (by kernel_rfl) (by kernel_rfl) (by kernel_rfl) (by kernel_rfl) (by kernel_rfl) (fun _ _ d _ _ h => by cases d <;> exact h) (fun o ho => ?_)
  simp only [List.getElem?_toArray, List.getElem?_cons_zero, List.getElem?_cons_succ, Option.some.injEq] at ho; subst ho
  refine ⟨.int .u64 ((k0 ^^^ t0 : Nat) : Int), Or.inl ⟨by kernel_rfl, fun w' hl => Or.inl ?_⟩, ?_⟩
  · (go_simp; rw [HXt0.out])
  simp only [Act.put, List.setIfInBounds_toArray, List.set_cons_zero, List.set_cons_succ]
  refine late_one 8 (by kernel_rfl) (by kernel_rfl) (fun o ho => ?_)
  simp only [List.getElem?_toArray, List.getElem?_cons_zero, List.getElem?_cons_succ, Option.some.injEq] at ho; subst ho
  refine ⟨by kernel_rfl, fun wn hl K hK => ?_⟩
  have HRa := Lib.hid (HRa.out.later hl); have HRb := Lib.hid (HRb.out.later hl); have HRq := Lib.hid (HRq.out.later hl); have HB := Lib.hid (below_on HB.out hl); clear hl
  refine wp_enter _ _ (by go_simp; exact ⟨rfl, rfl⟩) ?_
  refine (turn_any (o 78) _ (HT.out.on HB.out)).mono ?_; rintro e wm ⟨rfl, hb⟩; refine ⟨_, rfl, ?_⟩
  rw [HNt1.out]
  refine hK.out _ _ hb ?_
  have HRa := Lib.hid (HRa.out.later hb); have HRb := Lib.hid (HRb.out.later hb); have HRq := Lib.hid (HRq.out.later hb); have HB := Lib.hid (below_on HB.out hb); clear hb
  clear hK K
  simp only [Act.put, List.setIfInBounds_toArray, List.set_cons_zero, List.set_cons_succ]
  refine late_take 9 (by kernel_rfl) (by kernel_rfl) (by kernel_rfl) (by kernel_rfl) (by kernel_rfl) (fun _ _ d _ _ h => by cases d <;> exact h) (fun o ho => ?_)
  simp only [List.getElem?_toArray, List.getElem?_cons_zero, List.getElem?_cons_succ, Option.some.injEq] at ho; subst ho
  refine ⟨.int .u64 ((k1 : Nat) : Int), Or.inl ⟨by kernel_rfl, fun w' hl => Or.inl ?_⟩, ?_⟩
  · (go_simp; rw [HZt0.out])
  simp only [Act.put, List.setIfInBounds_toArray, List.set_cons_zero, List.set_cons_succ]
  refine late_take 10 (by kernel_rfl) (by kernel_rfl) (by kernel_rfl) (by kernel_rfl) (by kernel_rfl) (fun _ _ d _ _ h => by cases d <;> exact h) (fun o ho => ?_)
  simp only [List.getElem?_toArray, List.getElem?_cons_zero, List.getElem?_cons_succ, Option.some.injEq] at ho; subst ho
  apply Exists.intro
  refine ⟨Or.inl ⟨by kernel_rfl, fun w' hl => Or.inl ?_⟩, ?_⟩
  · (go_simp; try with_reducible rfl)
  simp only [Act.put, List.setIfInBounds_toArray, List.set_cons_zero, List.set_cons_succ]
  refine late_end (by kernel_rfl) (fun wn hl => ?_)
  have HRa := Lib.hid (HRa.out.later hl); have HRb := Lib.hid (HRb.out.later hl); have HRq := Lib.hid (HRq.out.later hl); have HB := Lib.hid (below_on HB.out hl); clear hl
  go_wp2_with (refine step_load (by rfl) _ rfl bq rfl q1 ?_ ?_; exact HRq.out)
  refine (key_any q1 _ HF1.out (HT.out.on HB.out)).mono ?_; rintro e wn ⟨rfl, hb9⟩; rw [HNk1.out]; have HRa := Lib.hid (HRa.out.later hb9); have HRb := Lib.hid (HRb.out.later hb9); have HRq := Lib.hid (HRq.out.later hb9); have HB := Lib.hid (below_on HB.out hb9); clear hb9
  go_wp2_with (first
    | (refine step_get (by rfl) 36 _ rfl b6 83 rfl Tryd.underlying36 rfl (.int .i8 (o 83)) (by rw [HRb.out.cell 83 (by decide)]; rfl) ?_)
    | (refine step_cell (by rfl) 36 _ _ rfl bq 83 rfl .i8 (o 83) rfl _ HRq.out (by decide) rfl sizeI8 ?_; intro wn U R; have HRa := Lib.hid (HRa.out.apart U HDa.out); have HRb := Lib.hid (HRb.out.apart U HDb.out); have HRq := Lib.hid R; have HB := Lib.hid (HB.out.trans (U.below HG.out)); clear U R))
  rw [HE2.out] at HRq
  refine late_begin 12 (by kernel_rfl) ?_
  refine late_take 0 (by kernel_rfl) (by kernel_rfl) (by kernel_rfl) (by kernel_rfl) (by kernel_rfl) (fun _ _ d _ _ h => by cases d <;> exact h) (fun o ho => ?_)
  simp only [List.getElem?_toArray, List.getElem?_cons_zero, List.getElem?_cons_succ, Option.some.injEq] at ho; subst ho
  apply Exists.intro
  refine ⟨Or.inl ⟨by kernel_rfl, fun w' hl => Or.inl ?_⟩, ?_⟩
  · (go_simp; try with_reducible rfl)
  simp only [Act.put, List.setIfInBounds_toArray, List.set_cons_zero, List.set_cons_succ]
  refine late_take 1 (by kernel_rfl) (by kernel_rfl) (by kernel_rfl) (by kernel_rfl) (by kernel_rfl) (fun _ _ d _ _ h => by cases d <;> exact h) (fun o ho => ?_)
  simp only [List.getElem?_toArray, List.getElem?_cons_zero, List.getElem?_cons_succ, Option.some.injEq] at ho; subst ho
  apply Exists.intro
  refine ⟨Or.inl ⟨by kernel_rfl, fun w' hl => Or.inl ?_⟩, ?_⟩
  · (go_simp; try with_reducible rfl)
  simp only [Act.put, List.setIfInBounds_toArray, List.set_cons_zero, List.set_cons_succ]
  refine late_take 2 (by kernel_rfl) (by kernel_rfl) (by kernel_rfl) (by kernel_rfl) (by kernel_rfl) (fun _ _ d _ _ h => by cases d <;> exact h) (fun o ho => ?_)
  simp only [List.getElem?_toArray, List.getElem?_cons_zero, List.getElem?_cons_succ, Option.some.injEq] at ho; subst ho
  refine ⟨.int .i8 (p 83), Or.inl ⟨by kernel_rfl, fun w' hl => Or.inl (run_get 36 _ rfl b5 (83) rfl Tryd.underlying36 rfl (.int .i8 (p 83)) (by rw [(HRa.out.later hl).cell (83) (by omega), k_i8 (by omega) (by omega)]))⟩, ?_⟩
  simp only [Act.put, List.setIfInBounds_toArray, List.set_cons_zero, List.set_cons_succ]
  refine late_take 3 (by kernel_rfl) (by kernel_rfl) (by kernel_rfl) (by kernel_rfl) (by kernel_rfl) (fun _ _ d _ _ h => by cases d <;> exact h) (fun o ho => ?_)
  simp only [List.getElem?_toArray, List.getElem?_cons_zero, List.getElem?_cons_succ, Option.some.injEq] at ho; subst ho
  refine ⟨.int .i64 (p 83), Or.inl ⟨by kernel_rfl, fun w' hl => Or.inl ?_⟩, ?_⟩
  · (go_simp; rw [HW83.out])
  simp only [Act.put, List.setIfInBounds_toArray, List.set_cons_zero, List.set_cons_succ]
  refine late_take 6 (by kernel_rfl) (by kernel_rfl) (by kernel_rfl) (by kernel_rfl) (by kernel_rfl) (fun _ _ d _ _ h => by cases d <;> exact h) (fun o ho => ?_)
  simp only [List.getElem?_toArray, List.getElem?_cons_zero, List.getElem?_cons_succ, Option.some.injEq] at ho; subst ho
  apply Exists.intro
  refine ⟨Or.inl ⟨by kernel_rfl, fun w' hl => Or.inl ?_⟩, ?_⟩
  · (go_simp; try with_reducible rfl)
  simp only [Act.put, List.setIfInBounds_toArray, List.set_cons_zero, List.set_cons_succ]
  refine late_take 7 (by kernel_rfl) (by kernel_rfl) (by kernel_rfl) (by kernel_rfl) (by kernel_rfl) (fun _ _ d _ _ h => by cases d <;> exact h) (fun o ho => ?_)
  simp only [List.getElem?_toArray, List.getElem?_cons_zero, List.getElem?_cons_succ, Option.some.injEq] at ho; subst ho
  refine ⟨.int .i8 (o 83), Or.inl ⟨by kernel_rfl, fun w' hl => Or.inl (run_get 36 _ rfl bq (83) rfl Tryd.underlying36 rfl (.int .i8 (o 83)) (by rw [(HRq.out.later hl).cell (83) (by omega), k_i8 (by omega) (by omega), HV2.out]))⟩, ?_⟩
  simp only [Act.put, List.setIfInBounds_toArray, List.set_cons_zero, List.set_cons_succ]
  refine late_take 8 (by kernel_rfl) (by kernel_rfl) (by kernel_rfl) (by kernel_rfl) (by kernel_rfl) (fun _ _ d _ _ h => by cases d <;> exact h) (fun o ho => ?_)
  simp only [List.getElem?_toArray, List.getElem?_cons_zero, List.getElem?_cons_succ, Option.some.injEq] at ho; subst ho
  refine ⟨.int .i64 (o 83), Or.inl ⟨by kernel_rfl, fun w' hl => Or.inl ?_⟩, ?_⟩
  · (go_simp; rw [HWo83.out])
  simp only [Act.put, List.setIfInBounds_toArray, List.set_cons_zero, List.set_cons_succ]
  refine late_one 4 (by kernel_rfl) (by kernel_rfl) (fun o ho => ?_)
  simp only [List.getElem?_toArray, List.getElem?_cons_zero, List.getElem?_cons_succ, Option.some.injEq] at ho; subst ho
  refine ⟨by kernel_rfl, fun wn hl K hK => ?_⟩
  have HRa := Lib.hid (HRa.out.later hl); have HRb := Lib.hid (HRb.out.later hl); have HRq := Lib.hid (HRq.out.later hl); have HB := Lib.hid (below_on HB.out hl); clear hl
  refine wp_enter _ _ (by go_simp; exact ⟨rfl, rfl⟩) ?_
  refine (passing_any (p 83) _ (HT.out.on HB.out)).mono ?_; rintro e wm ⟨rfl, hb⟩; refine ⟨_, rfl, ?_⟩
  rw [HNs0.out]
  refine hK.out _ _ hb ?_
  have HRa := Lib.hid (HRa.out.later hb); have HRb := Lib.hid (HRb.out.later hb); have HRq := Lib.hid (HRq.out.later hb); have HB := Lib.hid (below_on HB.out hb); clear hb
  clear hK K
  simp only [Act.put, List.setIfInBounds_toArray, List.set_cons_zero, List.set_cons_succ]
  refine late_take 5 (by kernel_rfl) (by kernel_rfl) (by kernel_rfl) (by kernel_rfl) (by kernel_rfl) (fun _ _ d _ _ h => by cases d <;> exact h) (fun o ho => ?_)
  simp only [List.getElem?_toArray, List.getElem?_cons_zero, List.getElem?_cons_succ, Option.some.injEq] at ho; subst ho
  refine ⟨.int .u64 ((k1 ^^^ s0 : Nat) : Int), Or.inl ⟨by kernel_rfl, fun w' hl => Or.inl ?_⟩, ?_⟩
  · (go_simp; rw [HXs0.out])
  simp only [Act.put, List.setIfInBounds_toArray, List.set_cons_zero, List.set_cons_succ]
  refine late_one 9 (by kernel_rfl) (by kernel_rfl) (fun o ho => ?_)
  simp only [List.getElem?_toArray, List.getElem?_cons_zero, List.getElem?_cons_succ, Option.some.injEq] at ho; subst ho
  refine ⟨by kernel_rfl, fun wn hl K hK => ?_⟩
  have HRa := Lib.hid (HRa.out.later hl); have HRb := Lib.hid (HRb.out.later hl); have HRq := Lib.hid (HRq.out.later hl); have HB := Lib.hid (below_on HB.out hl); clear hl
  refine wp_enter _ _ (by go_simp; exact ⟨rfl, rfl⟩) ?_
  refine (passing_any (o 83) _ (HT.out.on HB.out)).mono ?_; rintro e wm ⟨rfl, hb⟩; refine ⟨_, rfl, ?_⟩
  rw [HNs1.out]
  refine hK.out _ _ hb ?_
  have HRa := Lib.hid (HRa.out.later hb); have HRb := Lib.hid (HRb.out.later hb); have HRq := Lib.hid (HRq.out.later hb); have HB := Lib.hid (below_on HB.out hb); clear hb
  clear hK K
  simp only [Act.put, List.setIfInBounds_toArray, List.set_cons_zero, List.set_cons_succ]
  refine late_take 10 (by kernel_rfl) (by kernel_rfl) (by kernel_rfl) (by kernel_rfl) (by kernel_rfl) (fun _ _ d _ _ h => by cases d <;> exact h) (fun o ho => ?_)
  simp only [List.getElem?_toArray, List.getElem?_cons_zero, List.getElem?_cons_succ, Option.some.injEq] at ho; subst ho
  refine ⟨.int .u64 ((k2 : Nat) : Int), Or.inl ⟨by kernel_rfl, fun w' hl => Or.inl ?_⟩, ?_⟩
  · (go_simp; rw [HZs0.out])
  simp only [Act.put, List.setIfInBounds_toArray, List.set_cons_zero, List.set_cons_succ]
  refine late_take 11 (by kernel_rfl) (by kernel_rfl) (by kernel_rfl) (by kernel_rfl) (by kernel_rfl) (fun _ _ d _ _ h => by cases d <;> exact h) (fun o ho => ?_)
  simp only [List.getElem?_toArray, List.getElem?_cons_zero, List.getElem?_cons_succ, Option.some.injEq] at ho; subst ho
  apply Exists.intro
  refine ⟨Or.inl ⟨by kernel_rfl, fun w' hl => Or.inl ?_⟩, ?_⟩
  · (go_simp; try with_reducible rfl)
  simp only [Act.put, List.setIfInBounds_toArray, List.set_cons_zero, List.set_cons_succ]
  refine late_end (by kernel_rfl) (fun wn hl => ?_)
  have HRa := Lib.hid (HRa.out.later hl); have HRb := Lib.hid (HRb.out.later hl); have HRq := Lib.hid (HRq.out.later hl); have HB := Lib.hid (below_on HB.out hl); clear hl
  go_wp2_with (refine step_load (by rfl) _ rfl bq rfl q2 ?_ ?_; exact HRq.out)
  refine (key_any q2 _ HF2.out (HT.out.on HB.out)).mono ?_; rintro e wn ⟨rfl, hb9⟩; rw [HNk2.out]; have HRa := Lib.hid (HRa.out.later hb9); have HRb := Lib.hid (HRb.out.later hb9); have HRq := Lib.hid (HRq.out.later hb9); have HB := Lib.hid (below_on HB.out hb9); clear hb9
  go_wp2_with fail
  refine (wpIn_wide (n := 1)).1 ?_
  refine Wid.mid_begin (X := (· = bq)) HFm.out ?_
  refine Wid.mid_take 0 (by kernel_rfl) (by kernel_rfl) (by kernel_rfl) (by kernel_rfl) (by kernel_rfl) (fun _ _ d _ _ h => by cases d <;> exact h) (fun o ho => ?_)
  simp only [List.getElem?_toArray, List.getElem?_cons_zero, List.getElem?_cons_succ, Option.some.injEq] at ho; subst ho
  apply Exists.intro
  refine ⟨Or.inl ⟨by kernel_rfl, fun w' hl => ?_⟩, ?_⟩
  · (go_simp; try with_reducible rfl)
  simp only [Act.put, List.setIfInBounds_toArray, List.set_cons_zero, List.set_cons_succ]
  refine Wid.mid_take 1 (by kernel_rfl) (by kernel_rfl) (by kernel_rfl) (by kernel_rfl) (by kernel_rfl) (fun _ _ d _ _ h => by cases d <;> exact h) (fun o ho => ?_)
  simp only [List.getElem?_toArray, List.getElem?_cons_zero, List.getElem?_cons_succ, Option.some.injEq] at ho; subst ho
  apply Exists.intro
  refine ⟨Or.inl ⟨by kernel_rfl, fun w' hl => ?_⟩, ?_⟩
  · (go_simp; try with_reducible rfl)
  simp only [Act.put, List.setIfInBounds_toArray, List.set_cons_zero, List.set_cons_succ]
  refine Wid.mid_take 2 (by kernel_rfl) (by kernel_rfl) (by kernel_rfl) (by kernel_rfl) (by kernel_rfl) (fun _ _ d _ _ h => by cases d <;> exact h) (fun o ho => ?_)
  simp only [List.getElem?_toArray, List.getElem?_cons_zero, List.getElem?_cons_succ, Option.some.injEq] at ho; subst ho
  apply Exists.intro
  refine ⟨Or.inl ⟨by kernel_rfl, fun w' hl => ?_⟩, ?_⟩
  · (go_simp; try with_reducible rfl)
  simp only [Act.put, List.setIfInBounds_toArray, List.set_cons_zero, List.set_cons_succ]
  refine Wid.mid_take 3 (by kernel_rfl) (by kernel_rfl) (by kernel_rfl) (by kernel_rfl) (by kernel_rfl) (fun _ _ d _ _ h => by cases d <;> exact h) (fun o ho => ?_)
  simp only [List.getElem?_toArray, List.getElem?_cons_zero, List.getElem?_cons_succ, Option.some.injEq] at ho; subst ho
  apply Exists.intro
  refine ⟨Or.inl ⟨by kernel_rfl, fun w' hl => ?_⟩, ?_⟩
  · (go_simp; try with_reducible rfl)
  simp only [Act.put, List.setIfInBounds_toArray, List.set_cons_zero, List.set_cons_succ]
  refine Wid.mid_take 4 (by kernel_rfl) (by kernel_rfl) (by kernel_rfl) (by kernel_rfl) (by kernel_rfl) (fun _ _ d _ _ h => by cases d <;> exact h) (fun o ho => ?_)
  simp only [List.getElem?_toArray, List.getElem?_cons_zero, List.getElem?_cons_succ, Option.some.injEq] at ho; subst ho
  apply Exists.intro
  refine ⟨Or.inl ⟨by kernel_rfl, fun w' hl => ?_⟩, ?_⟩
  · (go_simp; try with_reducible rfl)
  simp only [Act.put, List.setIfInBounds_toArray, List.set_cons_zero, List.set_cons_succ]
  refine Wid.mid_take 5 (by kernel_rfl) (by kernel_rfl) (by kernel_rfl) (by kernel_rfl) (by kernel_rfl) (fun _ _ d _ _ h => by cases d <;> exact h) (fun o ho => ?_)
  simp only [List.getElem?_toArray, List.getElem?_cons_zero, List.getElem?_cons_succ, Option.some.injEq] at ho; subst ho
  refine ⟨.pointer (some ⟨b6, 79 + c * 2, none⟩), Or.inl ⟨by kernel_rfl, fun w' hl => ?_⟩, ?_⟩
  · (go_simp; first | done | (with_reducible rfl) | (intro hbad; exfalso; omega))
  simp only [Act.put, List.setIfInBounds_toArray, List.set_cons_zero, List.set_cons_succ]
  refine Wid.mid_take 6 (by kernel_rfl) (by kernel_rfl) (by kernel_rfl) (by kernel_rfl) (by kernel_rfl) (fun _ _ d _ _ h => by cases d <;> exact h) (fun o ho => ?_)
  simp only [List.getElem?_toArray, List.getElem?_cons_zero, List.getElem?_cons_succ, Option.some.injEq] at ho; subst ho
  refine ⟨.pointer (some ⟨b6, 79 + c * 2 + d, none⟩), Or.inl ⟨by kernel_rfl, fun w' hl => ?_⟩, ?_⟩
  · (go_simp; first | done | (with_reducible rfl) | (intro hbad; exfalso; omega))
  simp only [Act.put, List.setIfInBounds_toArray, List.set_cons_zero, List.set_cons_succ]
  refine Wid.mid_take 7 (by kernel_rfl) (by kernel_rfl) (by kernel_rfl) (by kernel_rfl) (by kernel_rfl) (fun _ _ d _ _ h => by cases d <;> exact h) (fun o ho => ?_)
  simp only [List.getElem?_toArray, List.getElem?_cons_zero, List.getElem?_cons_succ, Option.some.injEq] at ho; subst ho
  refine ⟨.int .i8 (o (79 + c * 2 + d)), Or.inl ⟨by kernel_rfl, fun w' hl => run_get 36 _ rfl b6 (79 + c * 2 + d) rfl Tryd.underlying36 rfl (.int .i8 (o (79 + c * 2 + d))) (by rw [(HRb.out.kept hl HDb.out).cell (79 + c * 2 + d) (by have := HLc.out; have := HLd.out; have := HLk.out; omega), k_i8 (by have := HLc.out; have := HLd.out; have := HLk.out; omega) (by have := HLc.out; have := HLd.out; have := HLk.out; omega)])⟩, ?_⟩
  simp only [Act.put, List.setIfInBounds_toArray, List.set_cons_zero, List.set_cons_succ]
  refine Wid.mid_take 8 (by kernel_rfl) (by kernel_rfl) (by kernel_rfl) (by kernel_rfl) (by kernel_rfl) (fun _ _ d _ _ h => by cases d <;> exact h) (fun o ho => ?_)
  simp only [List.getElem?_toArray, List.getElem?_cons_zero, List.getElem?_cons_succ, Option.some.injEq] at ho; subst ho
  apply Exists.intro
  refine ⟨Or.inl ⟨by kernel_rfl, fun w' hl => ?_⟩, ?_⟩
  · (go_simp; try with_reducible rfl)
  simp only [Act.put, List.setIfInBounds_toArray, List.set_cons_zero, List.set_cons_succ]
  refine Wid.mid_take 9 (by kernel_rfl) (by kernel_rfl) (by kernel_rfl) (by kernel_rfl) (by kernel_rfl) (fun _ _ d _ _ h => by cases d <;> exact h) (fun o ho => ?_)
  simp only [List.getElem?_toArray, List.getElem?_cons_zero, List.getElem?_cons_succ, Option.some.injEq] at ho; subst ho
  refine ⟨.pointer (some ⟨bq, 79 + c * 2, none⟩), Or.inl ⟨by kernel_rfl, fun w' hl => ?_⟩, ?_⟩
  · (go_simp; first | done | (with_reducible rfl) | (intro hbad; exfalso; omega))
  simp only [Act.put, List.setIfInBounds_toArray, List.set_cons_zero, List.set_cons_succ]
  refine Wid.mid_take 10 (by kernel_rfl) (by kernel_rfl) (by kernel_rfl) (by kernel_rfl) (by kernel_rfl) (fun _ _ d _ _ h => by cases d <;> exact h) (fun o ho => ?_)
  simp only [List.getElem?_toArray, List.getElem?_cons_zero, List.getElem?_cons_succ, Option.some.injEq] at ho; subst ho
  refine ⟨.pointer (some ⟨bq, 79 + c * 2 + d, none⟩), Or.inl ⟨by kernel_rfl, fun w' hl => ?_⟩, ?_⟩
  · (go_simp; first | done | (with_reducible rfl) | (intro hbad; exfalso; omega))
  simp only [Act.put, List.setIfInBounds_toArray, List.set_cons_zero, List.set_cons_succ]
  refine Wid.mid_one 11 (by kernel_rfl) (by kernel_rfl) (by kernel_rfl) (fun o ho => ?_)
  simp only [List.getElem?_toArray, List.getElem?_cons_zero, List.getElem?_cons_succ, Option.some.injEq] at ho; subst ho
  refine ⟨by kernel_rfl, fun wm hl K hK => ?_⟩
  have HRa := Lib.hid (HRa.out.later hl); have HRb := Lib.hid (HRb.out.later hl); have HRq := Lib.hid (HRq.out.later hl); have HB := Lib.hid (below_on HB.out hl); clear hl
  refine mid_cellP 36 _ _ rfl bq (79 + c * 2 + d) rfl .i8 ((o (79 + c * 2 + d))) rfl _ HRq.out (by have := HLc.out; have := HLd.out; have := HLk.out; omega) (k_i8 (by have := HLc.out; have := HLd.out; have := HLk.out; omega) (by have := HLc.out; have := HLd.out; have := HLk.out; omega)) sizeI8 ?_; intro wn U KU R
  refine hK.out _ _ KU ?_
  have HRa := Lib.hid (HRa.out.apart U HDa.out); have HRb := Lib.hid (HRb.out.apart U HDb.out); have HRq := Lib.hid R; have HB := Lib.hid (HB.out.trans (U.below HG.out)); clear U R KU
  clear hK K
  simp only [Act.put, List.setIfInBounds_toArray, List.set_cons_zero, List.set_cons_succ]
  rw [HE3.out] at HRq
  refine Wid.mid_end (by kernel_rfl) (fun wz hl => ?_)
  have HRa := Lib.hid (HRa.out.later hl); have HRb := Lib.hid (HRb.out.later hl); have HRq := Lib.hid (HRq.out.later hl); have HB := Lib.hid (below_on HB.out hl); clear hl
  go_wp2_with fail
  refine late_begin 26 (by kernel_rfl) ?_
  refine late_take 0 (by kernel_rfl) (by kernel_rfl) (by kernel_rfl) (by kernel_rfl) (by kernel_rfl) (fun _ _ d _ _ h => by cases d <;> exact h) (fun o ho => ?_)
  simp only [List.getElem?_toArray, List.getElem?_cons_zero, List.getElem?_cons_succ, Option.some.injEq] at ho; subst ho
  apply Exists.intro
  refine ⟨Or.inl ⟨by kernel_rfl, fun w' hl => Or.inl ?_⟩, ?_⟩
  · (go_simp; try with_reducible rfl)
  simp only [Act.put, List.setIfInBounds_toArray, List.set_cons_zero, List.set_cons_succ]
  refine late_take 1 (by kernel_rfl) (by kernel_rfl) (by kernel_rfl) (by kernel_rfl) (by kernel_rfl) (fun _ _ d _ _ h => by cases d <;> exact h) (fun o ho => ?_)
  simp only [List.getElem?_toArray, List.getElem?_cons_zero, List.getElem?_cons_succ, Option.some.injEq] at ho; subst ho
  apply Exists.intro
  refine ⟨Or.inl ⟨by kernel_rfl, fun w' hl => Or.inl ?_⟩, ?_⟩
  · (go_simp; try with_reducible rfl)
  simp only [Act.put, List.setIfInBounds_toArray, List.set_cons_zero, List.set_cons_succ]
  refine late_take 2 (by kernel_rfl) (by kernel_rfl) (by kernel_rfl) (by kernel_rfl) (by kernel_rfl) (fun _ _ d _ _ h => by cases d <;> exact h) (fun o ho => ?_)
  simp only [List.getElem?_toArray, List.getElem?_cons_zero, List.getElem?_cons_succ, Option.some.injEq] at ho; subst ho
  refine ⟨.int .u8 (c : Int), Or.inl ⟨by kernel_rfl, fun w' hl => Or.inl ?_⟩, ?_⟩
  · (go_simp; rw [HWc.out])
  simp only [Act.put, List.setIfInBounds_toArray, List.set_cons_zero, List.set_cons_succ]
  refine late_take 3 (by kernel_rfl) (by kernel_rfl) (by kernel_rfl) (by kernel_rfl) (by kernel_rfl) (fun _ _ d _ _ h => by cases d <;> exact h) (fun o ho => ?_)
  simp only [List.getElem?_toArray, List.getElem?_cons_zero, List.getElem?_cons_succ, Option.some.injEq] at ho; subst ho
  apply Exists.intro
  refine ⟨Or.inl ⟨by kernel_rfl, fun w' hl => Or.inl ?_⟩, ?_⟩
  · (go_simp; try with_reducible rfl)
  simp only [Act.put, List.setIfInBounds_toArray, List.set_cons_zero, List.set_cons_succ]
  refine late_take 4 (by kernel_rfl) (by kernel_rfl) (by kernel_rfl) (by kernel_rfl) (by kernel_rfl) (fun _ _ d _ _ h => by cases d <;> exact h) (fun o ho => ?_)
  simp only [List.getElem?_toArray, List.getElem?_cons_zero, List.getElem?_cons_succ, Option.some.injEq] at ho; subst ho
  apply Exists.intro
  refine ⟨Or.inl ⟨by kernel_rfl, fun w' hl => Or.inl ?_⟩, ?_⟩
  · (go_simp; try with_reducible rfl)
  simp only [Act.put, List.setIfInBounds_toArray, List.set_cons_zero, List.set_cons_succ]
  refine late_take 5 (by kernel_rfl) (by kernel_rfl) (by kernel_rfl) (by kernel_rfl) (by kernel_rfl) (fun _ _ d _ _ h => by cases d <;> exact h) (fun o ho => ?_)
  simp only [List.getElem?_toArray, List.getElem?_cons_zero, List.getElem?_cons_succ, Option.some.injEq] at ho; subst ho
  apply Exists.intro
  refine ⟨Or.inl ⟨by kernel_rfl, fun w' hl => Or.inl ?_⟩, ?_⟩
  · (go_simp; try with_reducible rfl)
  simp only [Act.put, List.setIfInBounds_toArray, List.set_cons_zero, List.set_cons_succ]
  refine late_take 6 (by kernel_rfl) (by kernel_rfl) (by kernel_rfl) (by kernel_rfl) (by kernel_rfl) (fun _ _ d _ _ h => by cases d <;> exact h) (fun o ho => ?_)
  simp only [List.getElem?_toArray, List.getElem?_cons_zero, List.getElem?_cons_succ, Option.some.injEq] at ho; subst ho
  apply Exists.intro
  refine ⟨Or.inl ⟨by kernel_rfl, fun w' hl => Or.inl ?_⟩, ?_⟩
  · (go_simp; try with_reducible rfl)
  simp only [Act.put, List.setIfInBounds_toArray, List.set_cons_zero, List.set_cons_succ]
  refine late_take 7 (by kernel_rfl) (by kernel_rfl) (by kernel_rfl) (by kernel_rfl) (by kernel_rfl) (fun _ _ d _ _ h => by cases d <;> exact h) (fun o ho => ?_)
  simp only [List.getElem?_toArray, List.getElem?_cons_zero, List.getElem?_cons_succ, Option.some.injEq] at ho; subst ho
  refine ⟨.pointer (some ⟨b5, 79 + c * 2, none⟩), Or.inl ⟨by kernel_rfl, fun w' hl => Or.inl ?_⟩, ?_⟩
  · (go_simp; first | done | (with_reducible rfl) | (intro hbad; exfalso; omega))
  simp only [Act.put, List.setIfInBounds_toArray, List.set_cons_zero, List.set_cons_succ]
  refine late_take 8 (by kernel_rfl) (by kernel_rfl) (by kernel_rfl) (by kernel_rfl) (by kernel_rfl) (fun _ _ d _ _ h => by cases d <;> exact h) (fun o ho => ?_)
  simp only [List.getElem?_toArray, List.getElem?_cons_zero, List.getElem?_cons_succ, Option.some.injEq] at ho; subst ho
  refine ⟨.pointer (some ⟨b5, 79 + c * 2 + d, none⟩), Or.inl ⟨by kernel_rfl, fun w' hl => Or.inl ?_⟩, ?_⟩
  · (go_simp; first | done | (with_reducible rfl) | (intro hbad; exfalso; omega))
  simp only [Act.put, List.setIfInBounds_toArray, List.set_cons_zero, List.set_cons_succ]
  refine late_take 9 (by kernel_rfl) (by kernel_rfl) (by kernel_rfl) (by kernel_rfl) (by kernel_rfl) (fun _ _ d _ _ h => by cases d <;> exact h) (fun o ho => ?_)
  simp only [List.getElem?_toArray, List.getElem?_cons_zero, List.getElem?_cons_succ, Option.some.injEq] at ho; subst ho
  refine ⟨.int .i8 (p (79 + c * 2 + d)), Or.inl ⟨by kernel_rfl, fun w' hl => Or.inl (run_get 36 _ rfl b5 (79 + c * 2 + d) rfl Tryd.underlying36 rfl (.int .i8 (p (79 + c * 2 + d))) (by rw [(HRa.out.later hl).cell (79 + c * 2 + d) (by have := HLc.out; have := HLd.out; have := HLk.out; omega), k_i8 (by have := HLc.out; have := HLd.out; have := HLk.out; omega) (by have := HLc.out; have := HLd.out; have := HLk.out; omega)]))⟩, ?_⟩
  simp only [Act.put, List.setIfInBounds_toArray, List.set_cons_zero, List.set_cons_succ]
  refine late_take 10 (by kernel_rfl) (by kernel_rfl) (by kernel_rfl) (by kernel_rfl) (by kernel_rfl) (fun _ _ d _ _ h => by cases d <;> exact h) (fun o ho => ?_)
  simp only [List.getElem?_toArray, List.getElem?_cons_zero, List.getElem?_cons_succ, Option.some.injEq] at ho; subst ho
  refine ⟨.int .i64 (p (79 + c * 2 + d)), Or.inl ⟨by kernel_rfl, fun w' hl => Or.inl ?_⟩, ?_⟩
  · (go_simp; rw [HWr.out])
  simp only [Act.put, List.setIfInBounds_toArray, List.set_cons_zero, List.set_cons_succ]
  refine late_take 13 (by kernel_rfl) (by kernel_rfl) (by kernel_rfl) (by kernel_rfl) (by kernel_rfl) (fun _ _ d _ _ h => by cases d <;> exact h) (fun o ho => ?_)
  simp only [List.getElem?_toArray, List.getElem?_cons_zero, List.getElem?_cons_succ, Option.some.injEq] at ho; subst ho
  apply Exists.intro
  refine ⟨Or.inl ⟨by kernel_rfl, fun w' hl => Or.inl ?_⟩, ?_⟩
  · (go_simp; try with_reducible rfl)
  simp only [Act.put, List.setIfInBounds_toArray, List.set_cons_zero, List.set_cons_succ]
  refine late_take 14 (by kernel_rfl) (by kernel_rfl) (by kernel_rfl) (by kernel_rfl) (by kernel_rfl) (fun _ _ d _ _ h => by cases d <;> exact h) (fun o ho => ?_)
  simp only [List.getElem?_toArray, List.getElem?_cons_zero, List.getElem?_cons_succ, Option.some.injEq] at ho; subst ho
  refine ⟨.int .u8 (c : Int), Or.inl ⟨by kernel_rfl, fun w' hl => Or.inl ?_⟩, ?_⟩
  · (go_simp; rw [HWc.out])
  simp only [Act.put, List.setIfInBounds_toArray, List.set_cons_zero, List.set_cons_succ]
  refine late_take 15 (by kernel_rfl) (by kernel_rfl) (by kernel_rfl) (by kernel_rfl) (by kernel_rfl) (fun _ _ d _ _ h => by cases d <;> exact h) (fun o ho => ?_)
  simp only [List.getElem?_toArray, List.getElem?_cons_zero, List.getElem?_cons_succ, Option.some.injEq] at ho; subst ho
  apply Exists.intro
  refine ⟨Or.inl ⟨by kernel_rfl, fun w' hl => Or.inl ?_⟩, ?_⟩
  · (go_simp; try with_reducible rfl)
  simp only [Act.put, List.setIfInBounds_toArray, List.set_cons_zero, List.set_cons_succ]
  refine late_take 16 (by kernel_rfl) (by kernel_rfl) (by kernel_rfl) (by kernel_rfl) (by kernel_rfl) (fun _ _ d _ _ h => by cases d <;> exact h) (fun o ho => ?_)
  simp only [List.getElem?_toArray, List.getElem?_cons_zero, List.getElem?_cons_succ, Option.some.injEq] at ho; subst ho
  apply Exists.intro
  refine ⟨Or.inl ⟨by kernel_rfl, fun w' hl => Or.inl ?_⟩, ?_⟩
  · (go_simp; try with_reducible rfl)
  simp only [Act.put, List.setIfInBounds_toArray, List.set_cons_zero, List.set_cons_succ]
  refine late_take 17 (by kernel_rfl) (by kernel_rfl) (by kernel_rfl) (by kernel_rfl) (by kernel_rfl) (fun _ _ d _ _ h => by cases d <;> exact h) (fun o ho => ?_)
  simp only [List.getElem?_toArray, List.getElem?_cons_zero, List.getElem?_cons_succ, Option.some.injEq] at ho; subst ho
  apply Exists.intro
  refine ⟨Or.inl ⟨by kernel_rfl, fun w' hl => Or.inl ?_⟩, ?_⟩
  · (go_simp; try with_reducible rfl)
  simp only [Act.put, List.setIfInBounds_toArray, List.set_cons_zero, List.set_cons_succ]
  refine late_take 18 (by kernel_rfl) (by kernel_rfl) (by kernel_rfl) (by kernel_rfl) (by kernel_rfl) (fun _ _ d _ _ h => by cases d <;> exact h) (fun o ho => ?_)
  simp only [List.getElem?_toArray, List.getElem?_cons_zero, List.getElem?_cons_succ, Option.some.injEq] at ho; subst ho
  apply Exists.intro
  refine ⟨Or.inl ⟨by kernel_rfl, fun w' hl => Or.inl ?_⟩, ?_⟩
  · (go_simp; try with_reducible rfl)
  simp only [Act.put, List.setIfInBounds_toArray, List.set_cons_zero, List.set_cons_succ]
  refine late_take 19 (by kernel_rfl) (by kernel_rfl) (by kernel_rfl) (by kernel_rfl) (by kernel_rfl) (fun _ _ d _ _ h => by cases d <;> exact h) (fun o ho => ?_)
  simp only [List.getElem?_toArray, List.getElem?_cons_zero, List.getElem?_cons_succ, Option.some.injEq] at ho; subst ho
  refine ⟨.pointer (some ⟨bq, 79 + c * 2, none⟩), Or.inl ⟨by kernel_rfl, fun w' hl => Or.inl ?_⟩, ?_⟩
  · (go_simp; first | done | (with_reducible rfl) | (intro hbad; exfalso; omega))
  simp only [Act.put, List.setIfInBounds_toArray, List.set_cons_zero, List.set_cons_succ]
  refine late_take 20 (by kernel_rfl) (by kernel_rfl) (by kernel_rfl) (by kernel_rfl) (by kernel_rfl) (fun _ _ d _ _ h => by cases d <;> exact h) (fun o ho => ?_)
  simp only [List.getElem?_toArray, List.getElem?_cons_zero, List.getElem?_cons_succ, Option.some.injEq] at ho; subst ho
  refine ⟨.pointer (some ⟨bq, 79 + c * 2 + d, none⟩), Or.inl ⟨by kernel_rfl, fun w' hl => Or.inl ?_⟩, ?_⟩
  · (go_simp; first | done | (with_reducible rfl) | (intro hbad; exfalso; omega))
  simp only [Act.put, List.setIfInBounds_toArray, List.set_cons_zero, List.set_cons_succ]
  refine late_take 21 (by kernel_rfl) (by kernel_rfl) (by kernel_rfl) (by kernel_rfl) (by kernel_rfl) (fun _ _ d _ _ h => by cases d <;> exact h) (fun o ho => ?_)
  simp only [List.getElem?_toArray, List.getElem?_cons_zero, List.getElem?_cons_succ, Option.some.injEq] at ho; subst ho
  refine ⟨.int .i8 (o (79 + c * 2 + d)), Or.inl ⟨by kernel_rfl, fun w' hl => Or.inl (run_get 36 _ rfl bq (79 + c * 2 + d) rfl Tryd.underlying36 rfl (.int .i8 (o (79 + c * 2 + d))) (by rw [(HRq.out.later hl).cell (79 + c * 2 + d) (by have := HLc.out; have := HLd.out; have := HLk.out; omega), k_i8 (by have := HLc.out; have := HLd.out; have := HLk.out; omega) (by have := HLc.out; have := HLd.out; have := HLk.out; omega), HV3.out]))⟩, ?_⟩
  simp only [Act.put, List.setIfInBounds_toArray, List.set_cons_zero, List.set_cons_succ]
  refine late_take 22 (by kernel_rfl) (by kernel_rfl) (by kernel_rfl) (by kernel_rfl) (by kernel_rfl) (fun _ _ d _ _ h => by cases d <;> exact h) (fun o ho => ?_)
  simp only [List.getElem?_toArray, List.getElem?_cons_zero, List.getElem?_cons_succ, Option.some.injEq] at ho; subst ho
  refine ⟨.int .i64 (o (79 + c * 2 + d)), Or.inl ⟨by kernel_rfl, fun w' hl => Or.inl ?_⟩, ?_⟩
  · (go_simp; rw [HWor.out])
  simp only [Act.put, List.setIfInBounds_toArray, List.set_cons_zero, List.set_cons_succ]
  refine late_one 11 (by kernel_rfl) (by kernel_rfl) (fun o ho => ?_)
  simp only [List.getElem?_toArray, List.getElem?_cons_zero, List.getElem?_cons_succ, Option.some.injEq] at ho; subst ho
  refine ⟨by kernel_rfl, fun wn hl K hK => ?_⟩
  have HRa := Lib.hid (HRa.out.later hl); have HRb := Lib.hid (HRb.out.later hl); have HRq := Lib.hid (HRq.out.later hl); have HB := Lib.hid (below_on HB.out hl); clear hl
  refine wp_enter _ _ (by go_simp; exact ⟨rfl, rfl⟩) ?_
  refine (rook_nany (c : Int) (d : Int) (p (79 + c * 2 + d)) _ HC0.out (HT.out.on HB.out)).mono ?_; rintro e wm ⟨rfl, hb⟩; refine ⟨_, rfl, ?_⟩
  rw [HNr0.out]
  refine hK.out _ _ hb ?_
  have HRa := Lib.hid (HRa.out.later hb); have HRb := Lib.hid (HRb.out.later hb); have HRq := Lib.hid (HRq.out.later hb); have HB := Lib.hid (below_on HB.out hb); clear hb
  clear hK K
  simp only [Act.put, List.setIfInBounds_toArray, List.set_cons_zero, List.set_cons_succ]
  refine late_take 12 (by kernel_rfl) (by kernel_rfl) (by kernel_rfl) (by kernel_rfl) (by kernel_rfl) (fun _ _ d _ _ h => by cases d <;> exact h) (fun o ho => ?_)
  simp only [List.getElem?_toArray, List.getElem?_cons_zero, List.getElem?_cons_succ, Option.some.injEq] at ho; subst ho
  refine ⟨.int .u64 ((k2 ^^^ r0 : Nat) : Int), Or.inl ⟨by kernel_rfl, fun w' hl => Or.inl ?_⟩, ?_⟩
  · (go_simp; rw [HXr0.out])
  simp only [Act.put, List.setIfInBounds_toArray, List.set_cons_zero, List.set_cons_succ]
  refine late_one 23 (by kernel_rfl) (by kernel_rfl) (fun o ho => ?_)
  simp only [List.getElem?_toArray, List.getElem?_cons_zero, List.getElem?_cons_succ, Option.some.injEq] at ho; subst ho
  refine ⟨by kernel_rfl, fun wn hl K hK => ?_⟩
  have HRa := Lib.hid (HRa.out.later hl); have HRb := Lib.hid (HRb.out.later hl); have HRq := Lib.hid (HRq.out.later hl); have HB := Lib.hid (below_on HB.out hl); clear hl
  refine wp_enter _ _ (by go_simp; exact ⟨rfl, rfl⟩) ?_
  refine (rook_nany (c : Int) (d : Int) (o (79 + c * 2 + d)) _ HC0.out (HT.out.on HB.out)).mono ?_; rintro e wm ⟨rfl, hb⟩; refine ⟨_, rfl, ?_⟩
  rw [HNr1.out]
  refine hK.out _ _ hb ?_
  have HRa := Lib.hid (HRa.out.later hb); have HRb := Lib.hid (HRb.out.later hb); have HRq := Lib.hid (HRq.out.later hb); have HB := Lib.hid (below_on HB.out hb); clear hb
  clear hK K
  simp only [Act.put, List.setIfInBounds_toArray, List.set_cons_zero, List.set_cons_succ]
  refine late_take 24 (by kernel_rfl) (by kernel_rfl) (by kernel_rfl) (by kernel_rfl) (by kernel_rfl) (fun _ _ d _ _ h => by cases d <;> exact h) (fun o ho => ?_)
  simp only [List.getElem?_toArray, List.getElem?_cons_zero, List.getElem?_cons_succ, Option.some.injEq] at ho; subst ho
  refine ⟨.int .u64 ((k3 : Nat) : Int), Or.inl ⟨by kernel_rfl, fun w' hl => Or.inl ?_⟩, ?_⟩
  · (go_simp; rw [HZr0.out])
  simp only [Act.put, List.setIfInBounds_toArray, List.set_cons_zero, List.set_cons_succ]
  refine late_take 25 (by kernel_rfl) (by kernel_rfl) (by kernel_rfl) (by kernel_rfl) (by kernel_rfl) (fun _ _ d _ _ h => by cases d <;> exact h) (fun o ho => ?_)
  simp only [List.getElem?_toArray, List.getElem?_cons_zero, List.getElem?_cons_succ, Option.some.injEq] at ho; subst ho
  apply Exists.intro
  refine ⟨Or.inl ⟨by kernel_rfl, fun w' hl => Or.inl ?_⟩, ?_⟩
  · (go_simp; try with_reducible rfl)
  simp only [Act.put, List.setIfInBounds_toArray, List.set_cons_zero, List.set_cons_succ]
  refine late_end (by kernel_rfl) (fun wn hl => ?_)
  have HRa := Lib.hid (HRa.out.later hl); have HRb := Lib.hid (HRb.out.later hl); have HRq := Lib.hid (HRq.out.later hl); have HB := Lib.hid (below_on HB.out hl); clear hl
  go_wp2_with (refine step_load (by rfl) _ rfl bq rfl q3 ?_ ?_; exact HRq.out)
  refine (key_any q3 _ HF3.out (HT.out.on HB.out)).mono ?_; rintro e wn ⟨rfl, hb9⟩; rw [HNk3.out]; have HRa := Lib.hid (HRa.out.later hb9); have HRb := Lib.hid (HRb.out.later hb9); have HRq := Lib.hid (HRq.out.later hb9); have HB := Lib.hid (below_on HB.out hb9); clear hb9
  go_wp2_with fail
  refine (wpIn_wide (n := 1)).1 ?_
  refine Wid.mid_begin (X := (· = bq)) HFm.out ?_
  refine Wid.mid_take 0 (by kernel_rfl) (by kernel_rfl) (by kernel_rfl) (by kernel_rfl) (by kernel_rfl) (fun _ _ d _ _ h => by cases d <;> exact h) (fun o ho => ?_)
  simp only [List.getElem?_toArray, List.getElem?_cons_zero, List.getElem?_cons_succ, Option.some.injEq] at ho; subst ho
  apply Exists.intro
  refine ⟨Or.inl ⟨by kernel_rfl, fun w' hl => ?_⟩, ?_⟩
  · (go_simp; try with_reducible rfl)
  simp only [Act.put, List.setIfInBounds_toArray, List.set_cons_zero, List.set_cons_succ]
  refine Wid.mid_take 1 (by kernel_rfl) (by kernel_rfl) (by kernel_rfl) (by kernel_rfl) (by kernel_rfl) (fun _ _ d _ _ h => by cases d <;> exact h) (fun o ho => ?_)
  simp only [List.getElem?_toArray, List.getElem?_cons_zero, List.getElem?_cons_succ, Option.some.injEq] at ho; subst ho
  apply Exists.intro
  refine ⟨Or.inl ⟨by kernel_rfl, fun w' hl => ?_⟩, ?_⟩
  · (go_simp; try with_reducible rfl)
  simp only [Act.put, List.setIfInBounds_toArray, List.set_cons_zero, List.set_cons_succ]
  refine Wid.mid_take 2 (by kernel_rfl) (by kernel_rfl) (by kernel_rfl) (by kernel_rfl) (by kernel_rfl) (fun _ _ d _ _ h => by cases d <;> exact h) (fun o ho => ?_)
  simp only [List.getElem?_toArray, List.getElem?_cons_zero, List.getElem?_cons_succ, Option.some.injEq] at ho; subst ho
  apply Exists.intro
  refine ⟨Or.inl ⟨by kernel_rfl, fun w' hl => ?_⟩, ?_⟩
  · (go_simp; try with_reducible rfl)
  simp only [Act.put, List.setIfInBounds_toArray, List.set_cons_zero, List.set_cons_succ]
  refine Wid.mid_take 3 (by kernel_rfl) (by kernel_rfl) (by kernel_rfl) (by kernel_rfl) (by kernel_rfl) (fun _ _ d _ _ h => by cases d <;> exact h) (fun o ho => ?_)
  simp only [List.getElem?_toArray, List.getElem?_cons_zero, List.getElem?_cons_succ, Option.some.injEq] at ho; subst ho
  apply Exists.intro
  refine ⟨Or.inl ⟨by kernel_rfl, fun w' hl => ?_⟩, ?_⟩
  · (go_simp; try with_reducible rfl)
  simp only [Act.put, List.setIfInBounds_toArray, List.set_cons_zero, List.set_cons_succ]
  refine Wid.mid_take 4 (by kernel_rfl) (by kernel_rfl) (by kernel_rfl) (by kernel_rfl) (by kernel_rfl) (fun _ _ d _ _ h => by cases d <;> exact h) (fun o ho => ?_)
  simp only [List.getElem?_toArray, List.getElem?_cons_zero, List.getElem?_cons_succ, Option.some.injEq] at ho; subst ho
  apply Exists.intro
  refine ⟨Or.inl ⟨by kernel_rfl, fun w' hl => ?_⟩, ?_⟩
  · (go_simp; try with_reducible rfl)
  simp only [Act.put, List.setIfInBounds_toArray, List.set_cons_zero, List.set_cons_succ]
  refine Wid.mid_take 5 (by kernel_rfl) (by kernel_rfl) (by kernel_rfl) (by kernel_rfl) (by kernel_rfl) (fun _ _ d _ _ h => by cases d <;> exact h) (fun o ho => ?_)
  simp only [List.getElem?_toArray, List.getElem?_cons_zero, List.getElem?_cons_succ, Option.some.injEq] at ho; subst ho
  refine ⟨.pointer (some ⟨b6, 66 + c * 6, none⟩), Or.inl ⟨by kernel_rfl, fun w' hl => ?_⟩, ?_⟩
  · (go_simp; first | done | (with_reducible rfl) | (intro hbad; exfalso; omega))
  simp only [Act.put, List.setIfInBounds_toArray, List.set_cons_zero, List.set_cons_succ]
  refine Wid.mid_take 6 (by kernel_rfl) (by kernel_rfl) (by kernel_rfl) (by kernel_rfl) (by kernel_rfl) (fun _ _ d _ _ h => by cases d <;> exact h) (fun o ho => ?_)
  simp only [List.getElem?_toArray, List.getElem?_cons_zero, List.getElem?_cons_succ, Option.some.injEq] at ho; subst ho
  refine ⟨.pointer (some ⟨b6, 66 + c * 6 + k, none⟩), Or.inl ⟨by kernel_rfl, fun w' hl => ?_⟩, ?_⟩
  · (go_simp; first | done | (with_reducible rfl) | (intro hbad; exfalso; omega))
  simp only [Act.put, List.setIfInBounds_toArray, List.set_cons_zero, List.set_cons_succ]
  refine Wid.mid_take 7 (by kernel_rfl) (by kernel_rfl) (by kernel_rfl) (by kernel_rfl) (by kernel_rfl) (fun _ _ d _ _ h => by cases d <;> exact h) (fun o ho => ?_)
  simp only [List.getElem?_toArray, List.getElem?_cons_zero, List.getElem?_cons_succ, Option.some.injEq] at ho; subst ho
  refine ⟨.int .u8 (o (66 + c * 6 + k)), Or.inl ⟨by kernel_rfl, fun w' hl => run_get 5 _ rfl b6 (66 + c * 6 + k) rfl Tryd.underlying5 rfl (.int .u8 (o (66 + c * 6 + k))) (by rw [(HRb.out.kept hl HDb.out).cell (66 + c * 6 + k) (by have := HLc.out; have := HLd.out; have := HLk.out; omega), k_u8 (by have := HLc.out; have := HLd.out; have := HLk.out; omega)])⟩, ?_⟩
  simp only [Act.put, List.setIfInBounds_toArray, List.set_cons_zero, List.set_cons_succ]
  refine Wid.mid_take 8 (by kernel_rfl) (by kernel_rfl) (by kernel_rfl) (by kernel_rfl) (by kernel_rfl) (fun _ _ d _ _ h => by cases d <;> exact h) (fun o ho => ?_)
  simp only [List.getElem?_toArray, List.getElem?_cons_zero, List.getElem?_cons_succ, Option.some.injEq] at ho; subst ho
  apply Exists.intro
  refine ⟨Or.inl ⟨by kernel_rfl, fun w' hl => ?_⟩, ?_⟩
  · (go_simp; try with_reducible rfl)
  simp only [Act.put, List.setIfInBounds_toArray, List.set_cons_zero, List.set_cons_succ]
  refine Wid.mid_take 9 (by kernel_rfl) (by kernel_rfl) (by kernel_rfl) (by kernel_rfl) (by kernel_rfl) (fun _ _ d _ _ h => by cases d <;> exact h) (fun o ho => ?_)
  simp only [List.getElem?_toArray, List.getElem?_cons_zero, List.getElem?_cons_succ, Option.some.injEq] at ho; subst ho
  refine ⟨.pointer (some ⟨bq, 66 + c * 6, none⟩), Or.inl ⟨by kernel_rfl, fun w' hl => ?_⟩, ?_⟩
  · (go_simp; first | done | (with_reducible rfl) | (intro hbad; exfalso; omega))
  simp only [Act.put, List.setIfInBounds_toArray, List.set_cons_zero, List.set_cons_succ]
  refine Wid.mid_take 10 (by kernel_rfl) (by kernel_rfl) (by kernel_rfl) (by kernel_rfl) (by kernel_rfl) (fun _ _ d _ _ h => by cases d <;> exact h) (fun o ho => ?_)
  simp only [List.getElem?_toArray, List.getElem?_cons_zero, List.getElem?_cons_succ, Option.some.injEq] at ho; subst ho
  refine ⟨.pointer (some ⟨bq, 66 + c * 6 + k, none⟩), Or.inl ⟨by kernel_rfl, fun w' hl => ?_⟩, ?_⟩
  · (go_simp; first | done | (with_reducible rfl) | (intro hbad; exfalso; omega))
  simp only [Act.put, List.setIfInBounds_toArray, List.set_cons_zero, List.set_cons_succ]
  refine Wid.mid_one 11 (by kernel_rfl) (by kernel_rfl) (by kernel_rfl) (fun o ho => ?_)
  simp only [List.getElem?_toArray, List.getElem?_cons_zero, List.getElem?_cons_succ, Option.some.injEq] at ho; subst ho
  refine ⟨by kernel_rfl, fun wm hl K hK => ?_⟩
  have HRa := Lib.hid (HRa.out.later hl); have HRb := Lib.hid (HRb.out.later hl); have HRq := Lib.hid (HRq.out.later hl); have HB := Lib.hid (below_on HB.out hl); clear hl
  refine mid_cellP 5 _ _ rfl bq (66 + c * 6 + k) rfl .u8 ((o (66 + c * 6 + k))) rfl _ HRq.out (by have := HLc.out; have := HLd.out; have := HLk.out; omega) (k_u8 (by have := HLc.out; have := HLd.out; have := HLk.out; omega)) sizeU8a ?_; intro wn U KU R
  refine hK.out _ _ KU ?_
  have HRa := Lib.hid (HRa.out.apart U HDa.out); have HRb := Lib.hid (HRb.out.apart U HDb.out); have HRq := Lib.hid R; have HB := Lib.hid (HB.out.trans (U.below HG.out)); clear U R KU
  clear hK K
  simp only [Act.put, List.setIfInBounds_toArray, List.set_cons_zero, List.set_cons_succ]
  rw [HE4.out] at HRq
  refine Wid.mid_end (by kernel_rfl) (fun wz hl => ?_)
  have HRa := Lib.hid (HRa.out.later hl); have HRb := Lib.hid (HRb.out.later hl); have HRq := Lib.hid (HRq.out.later hl); have HB := Lib.hid (below_on HB.out hl); clear hl
  go_wp2_with fail
  refine late_begin 26 (by kernel_rfl) ?_
  refine late_take 0 (by kernel_rfl) (by kernel_rfl) (by kernel_rfl) (by kernel_rfl) (by kernel_rfl) (fun _ _ d _ _ h => by cases d <;> exact h) (fun o ho => ?_)
  simp only [List.getElem?_toArray, List.getElem?_cons_zero, List.getElem?_cons_succ, Option.some.injEq] at ho; subst ho
  apply Exists.intro
  refine ⟨Or.inl ⟨by kernel_rfl, fun w' hl => Or.inl ?_⟩, ?_⟩
  · (go_simp; try with_reducible rfl)
  simp only [Act.put, List.setIfInBounds_toArray, List.set_cons_zero, List.set_cons_succ]
  refine late_take 1 (by kernel_rfl) (by kernel_rfl) (by kernel_rfl) (by kernel_rfl) (by kernel_rfl) (fun _ _ d _ _ h => by cases d <;> exact h) (fun o ho => ?_)
  simp only [List.getElem?_toArray, List.getElem?_cons_zero, List.getElem?_cons_succ, Option.some.injEq] at ho; subst ho
  apply Exists.intro
  refine ⟨Or.inl ⟨by kernel_rfl, fun w' hl => Or.inl ?_⟩, ?_⟩
  · (go_simp; try with_reducible rfl)
  simp only [Act.put, List.setIfInBounds_toArray, List.set_cons_zero, List.set_cons_succ]
  refine late_take 2 (by kernel_rfl) (by kernel_rfl) (by kernel_rfl) (by kernel_rfl) (by kernel_rfl) (fun _ _ d _ _ h => by cases d <;> exact h) (fun o ho => ?_)
  simp only [List.getElem?_toArray, List.getElem?_cons_zero, List.getElem?_cons_succ, Option.some.injEq] at ho; subst ho
  refine ⟨.int .u8 (c : Int), Or.inl ⟨by kernel_rfl, fun w' hl => Or.inl ?_⟩, ?_⟩
  · (go_simp; rw [HWc.out])
  simp only [Act.put, List.setIfInBounds_toArray, List.set_cons_zero, List.set_cons_succ]
  refine late_take 3 (by kernel_rfl) (by kernel_rfl) (by kernel_rfl) (by kernel_rfl) (by kernel_rfl) (fun _ _ d _ _ h => by cases d <;> exact h) (fun o ho => ?_)
  simp only [List.getElem?_toArray, List.getElem?_cons_zero, List.getElem?_cons_succ, Option.some.injEq] at ho; subst ho
  apply Exists.intro
  refine ⟨Or.inl ⟨by kernel_rfl, fun w' hl => Or.inl ?_⟩, ?_⟩
  · (go_simp; try with_reducible rfl)
  simp only [Act.put, List.setIfInBounds_toArray, List.set_cons_zero, List.set_cons_succ]
  refine late_take 4 (by kernel_rfl) (by kernel_rfl) (by kernel_rfl) (by kernel_rfl) (by kernel_rfl) (fun _ _ d _ _ h => by cases d <;> exact h) (fun o ho => ?_)
  simp only [List.getElem?_toArray, List.getElem?_cons_zero, List.getElem?_cons_succ, Option.some.injEq] at ho; subst ho
  refine ⟨.int .u8 (k : Int), Or.inl ⟨by kernel_rfl, fun w' hl => Or.inl ?_⟩, ?_⟩
  · (go_simp; rw [HWk.out])
  simp only [Act.put, List.setIfInBounds_toArray, List.set_cons_zero, List.set_cons_succ]
  refine late_take 5 (by kernel_rfl) (by kernel_rfl) (by kernel_rfl) (by kernel_rfl) (by kernel_rfl) (fun _ _ d _ _ h => by cases d <;> exact h) (fun o ho => ?_)
  simp only [List.getElem?_toArray, List.getElem?_cons_zero, List.getElem?_cons_succ, Option.some.injEq] at ho; subst ho
  apply Exists.intro
  refine ⟨Or.inl ⟨by kernel_rfl, fun w' hl => Or.inl ?_⟩, ?_⟩
  · (go_simp; try with_reducible rfl)
  simp only [Act.put, List.setIfInBounds_toArray, List.set_cons_zero, List.set_cons_succ]
  refine late_take 6 (by kernel_rfl) (by kernel_rfl) (by kernel_rfl) (by kernel_rfl) (by kernel_rfl) (fun _ _ d _ _ h => by cases d <;> exact h) (fun o ho => ?_)
  simp only [List.getElem?_toArray, List.getElem?_cons_zero, List.getElem?_cons_succ, Option.some.injEq] at ho; subst ho
  apply Exists.intro
  refine ⟨Or.inl ⟨by kernel_rfl, fun w' hl => Or.inl ?_⟩, ?_⟩
  · (go_simp; try with_reducible rfl)
  simp only [Act.put, List.setIfInBounds_toArray, List.set_cons_zero, List.set_cons_succ]
  refine late_take 7 (by kernel_rfl) (by kernel_rfl) (by kernel_rfl) (by kernel_rfl) (by kernel_rfl) (fun _ _ d _ _ h => by cases d <;> exact h) (fun o ho => ?_)
  simp only [List.getElem?_toArray, List.getElem?_cons_zero, List.getElem?_cons_succ, Option.some.injEq] at ho; subst ho
  apply Exists.intro
  refine ⟨Or.inl ⟨by kernel_rfl, fun w' hl => Or.inl ?_⟩, ?_⟩
  · (go_simp; try with_reducible rfl)
  simp only [Act.put, List.setIfInBounds_toArray, List.set_cons_zero, List.set_cons_succ]
  refine late_take 8 (by kernel_rfl) (by kernel_rfl) (by kernel_rfl) (by kernel_rfl) (by kernel_rfl) (fun _ _ d _ _ h => by cases d <;> exact h) (fun o ho => ?_)
  simp only [List.getElem?_toArray, List.getElem?_cons_zero, List.getElem?_cons_succ, Option.some.injEq] at ho; subst ho
  refine ⟨.pointer (some ⟨b5, 66 + c * 6, none⟩), Or.inl ⟨by kernel_rfl, fun w' hl => Or.inl ?_⟩, ?_⟩
  · (go_simp; first | done | (with_reducible rfl) | (intro hbad; exfalso; omega))
  simp only [Act.put, List.setIfInBounds_toArray, List.set_cons_zero, List.set_cons_succ]
  refine late_take 9 (by kernel_rfl) (by kernel_rfl) (by kernel_rfl) (by kernel_rfl) (by kernel_rfl) (fun _ _ d _ _ h => by cases d <;> exact h) (fun o ho => ?_)
  simp only [List.getElem?_toArray, List.getElem?_cons_zero, List.getElem?_cons_succ, Option.some.injEq] at ho; subst ho
  refine ⟨.pointer (some ⟨b5, 66 + c * 6 + k, none⟩), Or.inl ⟨by kernel_rfl, fun w' hl => Or.inl ?_⟩, ?_⟩
  · (go_simp; first | done | (with_reducible rfl) | (intro hbad; exfalso; omega))
  simp only [Act.put, List.setIfInBounds_toArray, List.set_cons_zero, List.set_cons_succ]
  refine late_take 10 (by kernel_rfl) (by kernel_rfl) (by kernel_rfl) (by kernel_rfl) (by kernel_rfl) (fun _ _ d _ _ h => by cases d <;> exact h) (fun o ho => ?_)
  simp only [List.getElem?_toArray, List.getElem?_cons_zero, List.getElem?_cons_succ, Option.some.injEq] at ho; subst ho
  refine ⟨.int .u8 (p (66 + c * 6 + k)), Or.inl ⟨by kernel_rfl, fun w' hl => Or.inl (run_get 5 _ rfl b5 (66 + c * 6 + k) rfl Tryd.underlying5 rfl (.int .u8 (p (66 + c * 6 + k))) (by rw [(HRa.out.later hl).cell (66 + c * 6 + k) (by have := HLc.out; have := HLd.out; have := HLk.out; omega), k_u8 (by have := HLc.out; have := HLd.out; have := HLk.out; omega)]))⟩, ?_⟩
  simp only [Act.put, List.setIfInBounds_toArray, List.set_cons_zero, List.set_cons_succ]
  refine late_take 13 (by kernel_rfl) (by kernel_rfl) (by kernel_rfl) (by kernel_rfl) (by kernel_rfl) (fun _ _ d _ _ h => by cases d <;> exact h) (fun o ho => ?_)
  simp only [List.getElem?_toArray, List.getElem?_cons_zero, List.getElem?_cons_succ, Option.some.injEq] at ho; subst ho
  apply Exists.intro
  refine ⟨Or.inl ⟨by kernel_rfl, fun w' hl => Or.inl ?_⟩, ?_⟩
  · (go_simp; try with_reducible rfl)
  simp only [Act.put, List.setIfInBounds_toArray, List.set_cons_zero, List.set_cons_succ]
  refine late_take 14 (by kernel_rfl) (by kernel_rfl) (by kernel_rfl) (by kernel_rfl) (by kernel_rfl) (fun _ _ d _ _ h => by cases d <;> exact h) (fun o ho => ?_)
  simp only [List.getElem?_toArray, List.getElem?_cons_zero, List.getElem?_cons_succ, Option.some.injEq] at ho; subst ho
  refine ⟨.int .u8 (c : Int), Or.inl ⟨by kernel_rfl, fun w' hl => Or.inl ?_⟩, ?_⟩
  · (go_simp; rw [HWc.out])
  simp only [Act.put, List.setIfInBounds_toArray, List.set_cons_zero, List.set_cons_succ]
  refine late_take 15 (by kernel_rfl) (by kernel_rfl) (by kernel_rfl) (by kernel_rfl) (by kernel_rfl) (fun _ _ d _ _ h => by cases d <;> exact h) (fun o ho => ?_)
  simp only [List.getElem?_toArray, List.getElem?_cons_zero, List.getElem?_cons_succ, Option.some.injEq] at ho; subst ho
  apply Exists.intro
  refine ⟨Or.inl ⟨by kernel_rfl, fun w' hl => Or.inl ?_⟩, ?_⟩
  · (go_simp; try with_reducible rfl)
  simp only [Act.put, List.setIfInBounds_toArray, List.set_cons_zero, List.set_cons_succ]
  refine late_take 16 (by kernel_rfl) (by kernel_rfl) (by kernel_rfl) (by kernel_rfl) (by kernel_rfl) (fun _ _ d _ _ h => by cases d <;> exact h) (fun o ho => ?_)
  simp only [List.getElem?_toArray, List.getElem?_cons_zero, List.getElem?_cons_succ, Option.some.injEq] at ho; subst ho
  refine ⟨.int .u8 (k : Int), Or.inl ⟨by kernel_rfl, fun w' hl => Or.inl ?_⟩, ?_⟩
  · (go_simp; rw [HWk.out])
  simp only [Act.put, List.setIfInBounds_toArray, List.set_cons_zero, List.set_cons_succ]
  refine late_take 17 (by kernel_rfl) (by kernel_rfl) (by kernel_rfl) (by kernel_rfl) (by kernel_rfl) (fun _ _ d _ _ h => by cases d <;> exact h) (fun o ho => ?_)
  simp only [List.getElem?_toArray, List.getElem?_cons_zero, List.getElem?_cons_succ, Option.some.injEq] at ho; subst ho
  apply Exists.intro
  refine ⟨Or.inl ⟨by kernel_rfl, fun w' hl => Or.inl ?_⟩, ?_⟩
  · (go_simp; try with_reducible rfl)
  simp only [Act.put, List.setIfInBounds_toArray, List.set_cons_zero, List.set_cons_succ]
  refine late_take 18 (by kernel_rfl) (by kernel_rfl) (by kernel_rfl) (by kernel_rfl) (by kernel_rfl) (fun _ _ d _ _ h => by cases d <;> exact h) (fun o ho => ?_)
  simp only [List.getElem?_toArray, List.getElem?_cons_zero, List.getElem?_cons_succ, Option.some.injEq] at ho; subst ho
  apply Exists.intro
  refine ⟨Or.inl ⟨by kernel_rfl, fun w' hl => Or.inl ?_⟩, ?_⟩
  · (go_simp; try with_reducible rfl)
  simp only [Act.put, List.setIfInBounds_toArray, List.set_cons_zero, List.set_cons_succ]
  refine late_take 19 (by kernel_rfl) (by kernel_rfl) (by kernel_rfl) (by kernel_rfl) (by kernel_rfl) (fun _ _ d _ _ h => by cases d <;> exact h) (fun o ho => ?_)
  simp only [List.getElem?_toArray, List.getElem?_cons_zero, List.getElem?_cons_succ, Option.some.injEq] at ho; subst ho
  apply Exists.intro
  refine ⟨Or.inl ⟨by kernel_rfl, fun w' hl => Or.inl ?_⟩, ?_⟩
  · (go_simp; try with_reducible rfl)
  simp only [Act.put, List.setIfInBounds_toArray, List.set_cons_zero, List.set_cons_succ]
  refine late_take 20 (by kernel_rfl) (by kernel_rfl) (by kernel_rfl) (by kernel_rfl) (by kernel_rfl) (fun _ _ d _ _ h => by cases d <;> exact h) (fun o ho => ?_)
  simp only [List.getElem?_toArray, List.getElem?_cons_zero, List.getElem?_cons_succ, Option.some.injEq] at ho; subst ho
  refine ⟨.pointer (some ⟨bq, 66 + c * 6, none⟩), Or.inl ⟨by kernel_rfl, fun w' hl => Or.inl ?_⟩, ?_⟩
  · (go_simp; first | done | (with_reducible rfl) | (intro hbad; exfalso; omega))
  simp only [Act.put, List.setIfInBounds_toArray, List.set_cons_zero, List.set_cons_succ]
  refine late_take 21 (by kernel_rfl) (by kernel_rfl) (by kernel_rfl) (by kernel_rfl) (by kernel_rfl) (fun _ _ d _ _ h => by cases d <;> exact h) (fun o ho => ?_)
  simp only [List.getElem?_toArray, List.getElem?_cons_zero, List.getElem?_cons_succ, Option.some.injEq] at ho; subst ho
  refine ⟨.pointer (some ⟨bq, 66 + c * 6 + k, none⟩), Or.inl ⟨by kernel_rfl, fun w' hl => Or.inl ?_⟩, ?_⟩
  · (go_simp; first | done | (with_reducible rfl) | (intro hbad; exfalso; omega))
  simp only [Act.put, List.setIfInBounds_toArray, List.set_cons_zero, List.set_cons_succ]
  refine late_take 22 (by kernel_rfl) (by kernel_rfl) (by kernel_rfl) (by kernel_rfl) (by kernel_rfl) (fun _ _ d _ _ h => by cases d <;> exact h) (fun o ho => ?_)
  simp only [List.getElem?_toArray, List.getElem?_cons_zero, List.getElem?_cons_succ, Option.some.injEq] at ho; subst ho
  refine ⟨.int .u8 (o (66 + c * 6 + k)), Or.inl ⟨by kernel_rfl, fun w' hl => Or.inl (run_get 5 _ rfl bq (66 + c * 6 + k) rfl Tryd.underlying5 rfl (.int .u8 (o (66 + c * 6 + k))) (by rw [(HRq.out.later hl).cell (66 + c * 6 + k) (by have := HLc.out; have := HLd.out; have := HLk.out; omega), k_u8 (by have := HLc.out; have := HLd.out; have := HLk.out; omega), HV4.out]))⟩, ?_⟩
  simp only [Act.put, List.setIfInBounds_toArray, List.set_cons_zero, List.set_cons_succ]
  refine late_one 11 (by kernel_rfl) (by kernel_rfl) (fun o ho => ?_)
  simp only [List.getElem?_toArray, List.getElem?_cons_zero, List.getElem?_cons_succ, Option.some.injEq] at ho; subst ho
  refine ⟨by kernel_rfl, fun wn hl K hK => ?_⟩
  have HRa := Lib.hid (HRa.out.later hl); have HRb := Lib.hid (HRb.out.later hl); have HRq := Lib.hid (HRq.out.later hl); have HB := Lib.hid (below_on HB.out hl); clear hl
  refine wp_enter _ _ (by go_simp; exact ⟨rfl, rfl⟩) ?_
  refine (pocket_any (c : Int) (k : Int) (p (66 + c * 6 + k)) _ HC0.out HBp.out.1 HBp.out.2 (HT.out.on HB.out)).mono ?_; rintro e wm ⟨rfl, hb⟩; refine ⟨_, rfl, ?_⟩
  rw [HNg0.out]
  refine hK.out _ _ hb ?_
  have HRa := Lib.hid (HRa.out.later hb); have HRb := Lib.hid (HRb.out.later hb); have HRq := Lib.hid (HRq.out.later hb); have HB := Lib.hid (below_on HB.out hb); clear hb
  clear hK K
  simp only [Act.put, List.setIfInBounds_toArray, List.set_cons_zero, List.set_cons_succ]
  refine late_take 12 (by kernel_rfl) (by kernel_rfl) (by kernel_rfl) (by kernel_rfl) (by kernel_rfl) (fun _ _ d _ _ h => by cases d <;> exact h) (fun o ho => ?_)
  simp only [List.getElem?_toArray, List.getElem?_cons_zero, List.getElem?_cons_succ, Option.some.injEq] at ho; subst ho
  refine ⟨.int .u64 ((k3 ^^^ g0 : Nat) : Int), Or.inl ⟨by kernel_rfl, fun w' hl => Or.inl ?_⟩, ?_⟩
  · (go_simp; rw [HXg0.out])
  simp only [Act.put, List.setIfInBounds_toArray, List.set_cons_zero, List.set_cons_succ]
  refine late_one 23 (by kernel_rfl) (by kernel_rfl) (fun o ho => ?_)
  simp only [List.getElem?_toArray, List.getElem?_cons_zero, List.getElem?_cons_succ, Option.some.injEq] at ho; subst ho
  refine ⟨by kernel_rfl, fun wn hl K hK => ?_⟩
  have HRa := Lib.hid (HRa.out.later hl); have HRb := Lib.hid (HRb.out.later hl); have HRq := Lib.hid (HRq.out.later hl); have HB := Lib.hid (below_on HB.out hl); clear hl
  refine wp_enter _ _ (by go_simp; exact ⟨rfl, rfl⟩) ?_
  refine (pocket_any (c : Int) (k : Int) (o (66 + c * 6 + k)) _ HC0.out HBo.out.1 HBo.out.2 (HT.out.on HB.out)).mono ?_; rintro e wm ⟨rfl, hb⟩; refine ⟨_, rfl, ?_⟩
  rw [HNg1.out]
  refine hK.out _ _ hb ?_
  have HRa := Lib.hid (HRa.out.later hb); have HRb := Lib.hid (HRb.out.later hb); have HRq := Lib.hid (HRq.out.later hb); have HB := Lib.hid (below_on HB.out hb); clear hb
  clear hK K
  simp only [Act.put, List.setIfInBounds_toArray, List.set_cons_zero, List.set_cons_succ]
  refine late_take 24 (by kernel_rfl) (by kernel_rfl) (by kernel_rfl) (by kernel_rfl) (by kernel_rfl) (fun _ _ d _ _ h => by cases d <;> exact h) (fun o ho => ?_)
  simp only [List.getElem?_toArray, List.getElem?_cons_zero, List.getElem?_cons_succ, Option.some.injEq] at ho; subst ho
  refine ⟨.int .u64 ((k4 : Nat) : Int), Or.inl ⟨by kernel_rfl, fun w' hl => Or.inl ?_⟩, ?_⟩
  · (go_simp; rw [HZg0.out])
  simp only [Act.put, List.setIfInBounds_toArray, List.set_cons_zero, List.set_cons_succ]
  refine late_take 25 (by kernel_rfl) (by kernel_rfl) (by kernel_rfl) (by kernel_rfl) (by kernel_rfl) (fun _ _ d _ _ h => by cases d <;> exact h) (fun o ho => ?_)
  simp only [List.getElem?_toArray, List.getElem?_cons_zero, List.getElem?_cons_succ, Option.some.injEq] at ho; subst ho
  apply Exists.intro
  refine ⟨Or.inl ⟨by kernel_rfl, fun w' hl => Or.inl ?_⟩, ?_⟩
  · (go_simp; try with_reducible rfl)
  simp only [Act.put, List.setIfInBounds_toArray, List.set_cons_zero, List.set_cons_succ]
  refine late_end (by kernel_rfl) (fun wn hl => ?_)
  have HRa := Lib.hid (HRa.out.later hl); have HRb := Lib.hid (HRb.out.later hl); have HRq := Lib.hid (HRq.out.later hl); have HB := Lib.hid (below_on HB.out hl); clear hl
  go_wp2_with (refine step_load (by rfl) _ rfl bq rfl q4 ?_ ?_; exact HRq.out)
  refine (key_any q4 _ HF4.out (HT.out.on HB.out)).mono ?_; rintro e wn ⟨rfl, hb9⟩; rw [HNk4.out]; have HRa := Lib.hid (HRa.out.later hb9); have HRb := Lib.hid (HRb.out.later hb9); have HRq := Lib.hid (HRq.out.later hb9); have HB := Lib.hid (below_on HB.out hb9); clear hb9
  go_wp2_with fail
  refine (wpIn_wide (n := 1)).1 ?_
  refine Wid.mid_begin (X := (· = bq)) HFm.out ?_
  refine Wid.mid_take 0 (by kernel_rfl) (by kernel_rfl) (by kernel_rfl) (by kernel_rfl) (by kernel_rfl) (fun _ _ d _ _ h => by cases d <;> exact h) (fun o ho => ?_)
  simp only [List.getElem?_toArray, List.getElem?_cons_zero, List.getElem?_cons_succ, Option.some.injEq] at ho; subst ho
  apply Exists.intro
  refine ⟨Or.inl ⟨by kernel_rfl, fun w' hl => ?_⟩, ?_⟩
  · (go_simp; try with_reducible rfl)
  simp only [Act.put, List.setIfInBounds_toArray, List.set_cons_zero, List.set_cons_succ]
  refine Wid.mid_take 1 (by kernel_rfl) (by kernel_rfl) (by kernel_rfl) (by kernel_rfl) (by kernel_rfl) (fun _ _ d _ _ h => by cases d <;> exact h) (fun o ho => ?_)
  simp only [List.getElem?_toArray, List.getElem?_cons_zero, List.getElem?_cons_succ, Option.some.injEq] at ho; subst ho
  apply Exists.intro
  refine ⟨Or.inl ⟨by kernel_rfl, fun w' hl => ?_⟩, ?_⟩
  · (go_simp; try with_reducible rfl)
  simp only [Act.put, List.setIfInBounds_toArray, List.set_cons_zero, List.set_cons_succ]
  refine Wid.mid_take 2 (by kernel_rfl) (by kernel_rfl) (by kernel_rfl) (by kernel_rfl) (by kernel_rfl) (fun _ _ d _ _ h => by cases d <;> exact h) (fun o ho => ?_)
  simp only [List.getElem?_toArray, List.getElem?_cons_zero, List.getElem?_cons_succ, Option.some.injEq] at ho; subst ho
  apply Exists.intro
  refine ⟨Or.inl ⟨by kernel_rfl, fun w' hl => ?_⟩, ?_⟩
  · (go_simp; try with_reducible rfl)
  simp only [Act.put, List.setIfInBounds_toArray, List.set_cons_zero, List.set_cons_succ]
  refine Wid.mid_take 3 (by kernel_rfl) (by kernel_rfl) (by kernel_rfl) (by kernel_rfl) (by kernel_rfl) (fun _ _ d _ _ h => by cases d <;> exact h) (fun o ho => ?_)
  simp only [List.getElem?_toArray, List.getElem?_cons_zero, List.getElem?_cons_succ, Option.some.injEq] at ho; subst ho
  refine ⟨.pointer (some ⟨b6, 84 + c, none⟩), Or.inl ⟨by kernel_rfl, fun w' hl => ?_⟩, ?_⟩
  · (go_simp; first | done | (with_reducible rfl) | (intro hbad; exfalso; omega))
  simp only [Act.put, List.setIfInBounds_toArray, List.set_cons_zero, List.set_cons_succ]
  refine Wid.mid_take 4 (by kernel_rfl) (by kernel_rfl) (by kernel_rfl) (by kernel_rfl) (by kernel_rfl) (fun _ _ d _ _ h => by cases d <;> exact h) (fun o ho => ?_)
  simp only [List.getElem?_toArray, List.getElem?_cons_zero, List.getElem?_cons_succ, Option.some.injEq] at ho; subst ho
  refine ⟨.int .u8 (o (84 + c)), Or.inl ⟨by kernel_rfl, fun w' hl => run_get 5 _ rfl b6 (84 + c) rfl Tryd.underlying5 rfl (.int .u8 (o (84 + c))) (by rw [(HRb.out.kept hl HDb.out).cell (84 + c) (by have := HLc.out; have := HLd.out; have := HLk.out; omega), k_u8 (by have := HLc.out; have := HLd.out; have := HLk.out; omega)])⟩, ?_⟩
  simp only [Act.put, List.setIfInBounds_toArray, List.set_cons_zero, List.set_cons_succ]
  refine Wid.mid_take 5 (by kernel_rfl) (by kernel_rfl) (by kernel_rfl) (by kernel_rfl) (by kernel_rfl) (fun _ _ d _ _ h => by cases d <;> exact h) (fun o ho => ?_)
  simp only [List.getElem?_toArray, List.getElem?_cons_zero, List.getElem?_cons_succ, Option.some.injEq] at ho; subst ho
  apply Exists.intro
  refine ⟨Or.inl ⟨by kernel_rfl, fun w' hl => ?_⟩, ?_⟩
  · (go_simp; try with_reducible rfl)
  simp only [Act.put, List.setIfInBounds_toArray, List.set_cons_zero, List.set_cons_succ]
  refine Wid.mid_take 6 (by kernel_rfl) (by kernel_rfl) (by kernel_rfl) (by kernel_rfl) (by kernel_rfl) (fun _ _ d _ _ h => by cases d <;> exact h) (fun o ho => ?_)
  simp only [List.getElem?_toArray, List.getElem?_cons_zero, List.getElem?_cons_succ, Option.some.injEq] at ho; subst ho
  refine ⟨.int .u64 (om : Int), Or.inl ⟨by kernel_rfl, fun w' hl => run_get 22 _ rfl b6 (65) rfl Tryd.underlying22 rfl (.int .u64 (om : Int)) (by rw [(HRb.out.kept hl HDb.out).cell (65) (by omega), HOM.out, show kAt 65 = .u64 from rfl])⟩, ?_⟩
  simp only [Act.put, List.setIfInBounds_toArray, List.set_cons_zero, List.set_cons_succ]
  refine Wid.mid_take 7 (by kernel_rfl) (by kernel_rfl) (by kernel_rfl) (by kernel_rfl) (by kernel_rfl) (fun _ _ d _ _ h => by cases d <;> exact h) (fun o ho => ?_)
  simp only [List.getElem?_toArray, List.getElem?_cons_zero, List.getElem?_cons_succ, Option.some.injEq] at ho; subst ho
  apply Exists.intro
  refine ⟨Or.inl ⟨by kernel_rfl, fun w' hl => ?_⟩, ?_⟩
  · (go_simp; try with_reducible rfl)
  simp only [Act.put, List.setIfInBounds_toArray, List.set_cons_zero, List.set_cons_succ]
  refine Wid.mid_take 8 (by kernel_rfl) (by kernel_rfl) (by kernel_rfl) (by kernel_rfl) (by kernel_rfl) (fun _ _ d _ _ h => by cases d <;> exact h) (fun o ho => ?_)
  simp only [List.getElem?_toArray, List.getElem?_cons_zero, List.getElem?_cons_succ, Option.some.injEq] at ho; subst ho
  refine ⟨.pointer (some ⟨bq, 84 + c, none⟩), Or.inl ⟨by kernel_rfl, fun w' hl => ?_⟩, ?_⟩
  · (go_simp; first | done | (with_reducible rfl) | (intro hbad; exfalso; omega))
  simp only [Act.put, List.setIfInBounds_toArray, List.set_cons_zero, List.set_cons_succ]
  refine Wid.mid_one 9 (by kernel_rfl) (by kernel_rfl) (by kernel_rfl) (fun o ho => ?_)
  simp only [List.getElem?_toArray, List.getElem?_cons_zero, List.getElem?_cons_succ, Option.some.injEq] at ho; subst ho
  refine ⟨by kernel_rfl, fun wm hl K hK => ?_⟩
  have HRa := Lib.hid (HRa.out.later hl); have HRb := Lib.hid (HRb.out.later hl); have HRq := Lib.hid (HRq.out.later hl); have HB := Lib.hid (below_on HB.out hl); clear hl
  refine mid_cellP 5 _ _ rfl bq (84 + c) rfl .u8 (o (84 + c)) rfl _ HRq.out (by have := HLc.out; have := HLd.out; have := HLk.out; omega) (k_u8 (by have := HLc.out; have := HLd.out; have := HLk.out; omega)) sizeU8a ?_; intro wn U KU R
  refine hK.out _ _ KU ?_
  have HRa := Lib.hid (HRa.out.apart U HDa.out); have HRb := Lib.hid (HRb.out.apart U HDb.out); have HRq := Lib.hid R; have HB := Lib.hid (HB.out.trans (U.below HG.out)); clear U R KU
  clear hK K
  simp only [Act.put, List.setIfInBounds_toArray, List.set_cons_zero, List.set_cons_succ]
  rw [HE5.out] at HRq
  refine Wid.mid_take 10 (by kernel_rfl) (by kernel_rfl) (by kernel_rfl) (by kernel_rfl) (by kernel_rfl) (fun _ _ d _ _ h => by cases d <;> exact h) (fun o ho => ?_)
  simp only [List.getElem?_toArray, List.getElem?_cons_zero, List.getElem?_cons_succ, Option.some.injEq] at ho; subst ho
  apply Exists.intro
  refine ⟨Or.inl ⟨by kernel_rfl, fun w' hl => ?_⟩, ?_⟩
  · (go_simp; try with_reducible rfl)
  simp only [Act.put, List.setIfInBounds_toArray, List.set_cons_zero, List.set_cons_succ]
  refine Wid.mid_one 11 (by kernel_rfl) (by kernel_rfl) (by kernel_rfl) (fun o ho => ?_)
  simp only [List.getElem?_toArray, List.getElem?_cons_zero, List.getElem?_cons_succ, Option.some.injEq] at ho; subst ho
  refine ⟨by kernel_rfl, fun wm hl K hK => ?_⟩
  have HRa := Lib.hid (HRa.out.later hl); have HRb := Lib.hid (HRb.out.later hl); have HRq := Lib.hid (HRq.out.later hl); have HB := Lib.hid (below_on HB.out hl); clear hl
  refine mid_cellP 22 _ _ rfl bq (65) rfl .u64 ((om : Int)) rfl _ HRq.out (by have := HLc.out; have := HLd.out; have := HLk.out; omega) (rfl) sizeU64a ?_; intro wn U KU R
  refine hK.out _ _ KU ?_
  have HRa := Lib.hid (HRa.out.apart U HDa.out); have HRb := Lib.hid (HRb.out.apart U HDb.out); have HRq := Lib.hid R; have HB := Lib.hid (HB.out.trans (U.below HG.out)); clear U R KU
  clear hK K
  simp only [Act.put, List.setIfInBounds_toArray, List.set_cons_zero, List.set_cons_succ]
  rw [← HOM.out, HE6.out] at HRq
  refine Wid.mid_end (by kernel_rfl) (fun wz hl => ?_)
  have HRa := Lib.hid (HRa.out.later hl); have HRb := Lib.hid (HRb.out.later hl); have HRq := Lib.hid (HRq.out.later hl); have HB := Lib.hid (below_on HB.out hl); clear hl
  go_wp2_with fail
  refine late_begin 25 (by kernel_rfl) ?_
  refine late_take 0 (by kernel_rfl) (by kernel_rfl) (by kernel_rfl) (by kernel_rfl) (by kernel_rfl) (fun _ _ d _ _ h => by cases d <;> exact h) (fun o ho => ?_)
  simp only [List.getElem?_toArray, List.getElem?_cons_zero, List.getElem?_cons_succ, Option.some.injEq] at ho; subst ho
  apply Exists.intro
  refine ⟨Or.inl ⟨by kernel_rfl, fun w' hl => Or.inl ?_⟩, ?_⟩
  · (go_simp; try with_reducible rfl)
  simp only [Act.put, List.setIfInBounds_toArray, List.set_cons_zero, List.set_cons_succ]
  refine late_take 1 (by kernel_rfl) (by kernel_rfl) (by kernel_rfl) (by kernel_rfl) (by kernel_rfl) (fun _ _ d _ _ h => by cases d <;> exact h) (fun o ho => ?_)
  simp only [List.getElem?_toArray, List.getElem?_cons_zero, List.getElem?_cons_succ, Option.some.injEq] at ho; subst ho
  apply Exists.intro
  refine ⟨Or.inl ⟨by kernel_rfl, fun w' hl => Or.inl ?_⟩, ?_⟩
  · (go_simp; try with_reducible rfl)
  simp only [Act.put, List.setIfInBounds_toArray, List.set_cons_zero, List.set_cons_succ]
  refine late_take 2 (by kernel_rfl) (by kernel_rfl) (by kernel_rfl) (by kernel_rfl) (by kernel_rfl) (fun _ _ d _ _ h => by cases d <;> exact h) (fun o ho => ?_)
  simp only [List.getElem?_toArray, List.getElem?_cons_zero, List.getElem?_cons_succ, Option.some.injEq] at ho; subst ho
  refine ⟨.int .u8 (c : Int), Or.inl ⟨by kernel_rfl, fun w' hl => Or.inl ?_⟩, ?_⟩
  · (go_simp; rw [HWc.out])
  simp only [Act.put, List.setIfInBounds_toArray, List.set_cons_zero, List.set_cons_succ]
  refine late_take 3 (by kernel_rfl) (by kernel_rfl) (by kernel_rfl) (by kernel_rfl) (by kernel_rfl) (fun _ _ d _ _ h => by cases d <;> exact h) (fun o ho => ?_)
  simp only [List.getElem?_toArray, List.getElem?_cons_zero, List.getElem?_cons_succ, Option.some.injEq] at ho; subst ho
  apply Exists.intro
  refine ⟨Or.inl ⟨by kernel_rfl, fun w' hl => Or.inl ?_⟩, ?_⟩
  · (go_simp; try with_reducible rfl)
  simp only [Act.put, List.setIfInBounds_toArray, List.set_cons_zero, List.set_cons_succ]
  refine late_take 4 (by kernel_rfl) (by kernel_rfl) (by kernel_rfl) (by kernel_rfl) (by kernel_rfl) (fun _ _ d _ _ h => by cases d <;> exact h) (fun o ho => ?_)
  simp only [List.getElem?_toArray, List.getElem?_cons_zero, List.getElem?_cons_succ, Option.some.injEq] at ho; subst ho
  apply Exists.intro
  refine ⟨Or.inl ⟨by kernel_rfl, fun w' hl => Or.inl ?_⟩, ?_⟩
  · (go_simp; try with_reducible rfl)
  simp only [Act.put, List.setIfInBounds_toArray, List.set_cons_zero, List.set_cons_succ]
  refine late_take 5 (by kernel_rfl) (by kernel_rfl) (by kernel_rfl) (by kernel_rfl) (by kernel_rfl) (fun _ _ d _ _ h => by cases d <;> exact h) (fun o ho => ?_)
  simp only [List.getElem?_toArray, List.getElem?_cons_zero, List.getElem?_cons_succ, Option.some.injEq] at ho; subst ho
  refine ⟨.pointer (some ⟨b5, 84 + c, none⟩), Or.inl ⟨by kernel_rfl, fun w' hl => Or.inl ?_⟩, ?_⟩
  · (go_simp; first | done | (with_reducible rfl) | (intro hbad; exfalso; omega))
  simp only [Act.put, List.setIfInBounds_toArray, List.set_cons_zero, List.set_cons_succ]
  refine late_take 6 (by kernel_rfl) (by kernel_rfl) (by kernel_rfl) (by kernel_rfl) (by kernel_rfl) (fun _ _ d _ _ h => by cases d <;> exact h) (fun o ho => ?_)
  simp only [List.getElem?_toArray, List.getElem?_cons_zero, List.getElem?_cons_succ, Option.some.injEq] at ho; subst ho
  refine ⟨.int .u8 (p (84 + c)), Or.inl ⟨by kernel_rfl, fun w' hl => Or.inl (run_get 5 _ rfl b5 (84 + c) rfl Tryd.underlying5 rfl (.int .u8 (p (84 + c))) (by rw [(HRa.out.later hl).cell (84 + c) (by have := HLc.out; have := HLd.out; have := HLk.out; omega), k_u8 (by have := HLc.out; have := HLd.out; have := HLk.out; omega)]))⟩, ?_⟩
  simp only [Act.put, List.setIfInBounds_toArray, List.set_cons_zero, List.set_cons_succ]
  refine late_take 9 (by kernel_rfl) (by kernel_rfl) (by kernel_rfl) (by kernel_rfl) (by kernel_rfl) (fun _ _ d _ _ h => by cases d <;> exact h) (fun o ho => ?_)
  simp only [List.getElem?_toArray, List.getElem?_cons_zero, List.getElem?_cons_succ, Option.some.injEq] at ho; subst ho
  apply Exists.intro
  refine ⟨Or.inl ⟨by kernel_rfl, fun w' hl => Or.inl ?_⟩, ?_⟩
  · (go_simp; try with_reducible rfl)
  simp only [Act.put, List.setIfInBounds_toArray, List.set_cons_zero, List.set_cons_succ]
  refine late_take 10 (by kernel_rfl) (by kernel_rfl) (by kernel_rfl) (by kernel_rfl) (by kernel_rfl) (fun _ _ d _ _ h => by cases d <;> exact h) (fun o ho => ?_)
  simp only [List.getElem?_toArray, List.getElem?_cons_zero, List.getElem?_cons_succ, Option.some.injEq] at ho; subst ho
  refine ⟨.int .u8 (c : Int), Or.inl ⟨by kernel_rfl, fun w' hl => Or.inl ?_⟩, ?_⟩
  · (go_simp; rw [HWc.out])
  simp only [Act.put, List.setIfInBounds_toArray, List.set_cons_zero, List.set_cons_succ]
  refine late_take 11 (by kernel_rfl) (by kernel_rfl) (by kernel_rfl) (by kernel_rfl) (by kernel_rfl) (fun _ _ d _ _ h => by cases d <;> exact h) (fun o ho => ?_)
  simp only [List.getElem?_toArray, List.getElem?_cons_zero, List.getElem?_cons_succ, Option.some.injEq] at ho; subst ho
  apply Exists.intro
  refine ⟨Or.inl ⟨by kernel_rfl, fun w' hl => Or.inl ?_⟩, ?_⟩
  · (go_simp; try with_reducible rfl)
  simp only [Act.put, List.setIfInBounds_toArray, List.set_cons_zero, List.set_cons_succ]
  refine late_take 12 (by kernel_rfl) (by kernel_rfl) (by kernel_rfl) (by kernel_rfl) (by kernel_rfl) (fun _ _ d _ _ h => by cases d <;> exact h) (fun o ho => ?_)
  simp only [List.getElem?_toArray, List.getElem?_cons_zero, List.getElem?_cons_succ, Option.some.injEq] at ho; subst ho
  apply Exists.intro
  refine ⟨Or.inl ⟨by kernel_rfl, fun w' hl => Or.inl ?_⟩, ?_⟩
  · (go_simp; try with_reducible rfl)
  simp only [Act.put, List.setIfInBounds_toArray, List.set_cons_zero, List.set_cons_succ]
  refine late_take 13 (by kernel_rfl) (by kernel_rfl) (by kernel_rfl) (by kernel_rfl) (by kernel_rfl) (fun _ _ d _ _ h => by cases d <;> exact h) (fun o ho => ?_)
  simp only [List.getElem?_toArray, List.getElem?_cons_zero, List.getElem?_cons_succ, Option.some.injEq] at ho; subst ho
  refine ⟨.pointer (some ⟨bq, 84 + c, none⟩), Or.inl ⟨by kernel_rfl, fun w' hl => Or.inl ?_⟩, ?_⟩
  · (go_simp; first | done | (with_reducible rfl) | (intro hbad; exfalso; omega))
  simp only [Act.put, List.setIfInBounds_toArray, List.set_cons_zero, List.set_cons_succ]
  refine late_take 14 (by kernel_rfl) (by kernel_rfl) (by kernel_rfl) (by kernel_rfl) (by kernel_rfl) (fun _ _ d _ _ h => by cases d <;> exact h) (fun o ho => ?_)
  simp only [List.getElem?_toArray, List.getElem?_cons_zero, List.getElem?_cons_succ, Option.some.injEq] at ho; subst ho
  refine ⟨.int .u8 (o (84 + c)), Or.inl ⟨by kernel_rfl, fun w' hl => Or.inl (run_get 5 _ rfl bq (84 + c) rfl Tryd.underlying5 rfl (.int .u8 (o (84 + c))) (by rw [(HRq.out.later hl).cell (84 + c) (by have := HLc.out; have := HLd.out; have := HLk.out; omega), k_u8 (by have := HLc.out; have := HLd.out; have := HLk.out; omega), HV5.out]))⟩, ?_⟩
  simp only [Act.put, List.setIfInBounds_toArray, List.set_cons_zero, List.set_cons_succ]
  refine late_take 17 (by kernel_rfl) (by kernel_rfl) (by kernel_rfl) (by kernel_rfl) (by kernel_rfl) (fun _ _ d _ _ h => by cases d <;> exact h) (fun o ho => ?_)
  simp only [List.getElem?_toArray, List.getElem?_cons_zero, List.getElem?_cons_succ, Option.some.injEq] at ho; subst ho
  apply Exists.intro
  refine ⟨Or.inl ⟨by kernel_rfl, fun w' hl => Or.inl ?_⟩, ?_⟩
  · (go_simp; try with_reducible rfl)
  simp only [Act.put, List.setIfInBounds_toArray, List.set_cons_zero, List.set_cons_succ]
  refine late_take 18 (by kernel_rfl) (by kernel_rfl) (by kernel_rfl) (by kernel_rfl) (by kernel_rfl) (fun _ _ d _ _ h => by cases d <;> exact h) (fun o ho => ?_)
  simp only [List.getElem?_toArray, List.getElem?_cons_zero, List.getElem?_cons_succ, Option.some.injEq] at ho; subst ho
  refine ⟨.int .u64 (pm : Int), Or.inl ⟨by kernel_rfl, fun w' hl => Or.inl (run_get 22 _ rfl b5 (65) rfl Tryd.underlying22 rfl (.int .u64 (pm : Int)) (by rw [(HRa.out.later hl).cell (65) (by omega), HPM.out, show kAt 65 = .u64 from rfl]))⟩, ?_⟩
  simp only [Act.put, List.setIfInBounds_toArray, List.set_cons_zero, List.set_cons_succ]
  refine late_take 19 (by kernel_rfl) (by kernel_rfl) (by kernel_rfl) (by kernel_rfl) (by kernel_rfl) (fun _ _ d _ _ h => by cases d <;> exact h) (fun o ho => ?_)
  simp only [List.getElem?_toArray, List.getElem?_cons_zero, List.getElem?_cons_succ, Option.some.injEq] at ho; subst ho
  apply Exists.intro
  refine ⟨Or.inl ⟨by kernel_rfl, fun w' hl => Or.inl ?_⟩, ?_⟩
  · (go_simp; try with_reducible rfl)
  simp only [Act.put, List.setIfInBounds_toArray, List.set_cons_zero, List.set_cons_succ]
  refine late_take 20 (by kernel_rfl) (by kernel_rfl) (by kernel_rfl) (by kernel_rfl) (by kernel_rfl) (fun _ _ d _ _ h => by cases d <;> exact h) (fun o ho => ?_)
  simp only [List.getElem?_toArray, List.getElem?_cons_zero, List.getElem?_cons_succ, Option.some.injEq] at ho; subst ho
  refine ⟨.int .u64 (om : Int), Or.inl ⟨by kernel_rfl, fun w' hl => Or.inl (run_get 22 _ rfl bq (65) rfl Tryd.underlying22 rfl (.int .u64 (om : Int)) (by rw [(HRq.out.later hl).cell (65) (by omega), HV6.out, HOM.out, show kAt 65 = .u64 from rfl]))⟩, ?_⟩
  simp only [Act.put, List.setIfInBounds_toArray, List.set_cons_zero, List.set_cons_succ]
  refine late_take 21 (by kernel_rfl) (by kernel_rfl) (by kernel_rfl) (by kernel_rfl) (by kernel_rfl) (fun _ _ d _ _ h => by cases d <;> exact h) (fun o ho => ?_)
  simp only [List.getElem?_toArray, List.getElem?_cons_zero, List.getElem?_cons_succ, Option.some.injEq] at ho; subst ho
  refine ⟨.int .u64 ((pm ^^^ om : Nat) : Int), Or.inl ⟨by kernel_rfl, fun w' hl => Or.inl ?_⟩, ?_⟩
  · (go_simp; rw [HXm.out])
  simp only [Act.put, List.setIfInBounds_toArray, List.set_cons_zero, List.set_cons_succ]
  refine late_one 7 (by kernel_rfl) (by kernel_rfl) (fun o ho => ?_)
  simp only [List.getElem?_toArray, List.getElem?_cons_zero, List.getElem?_cons_succ, Option.some.injEq] at ho; subst ho
  refine ⟨by kernel_rfl, fun wn hl K hK => ?_⟩
  have HRa := Lib.hid (HRa.out.later hl); have HRb := Lib.hid (HRb.out.later hl); have HRq := Lib.hid (HRq.out.later hl); have HB := Lib.hid (below_on HB.out hl); clear hl
  refine wp_enter _ _ (by go_simp; exact ⟨rfl, rfl⟩) ?_
  refine (checks_nany (c : Int) (p (84 + c)) _ HC0.out HCp.out.1 HCp.out.2 (HT.out.on HB.out)).mono ?_; rintro e wm ⟨rfl, hb⟩; refine ⟨_, rfl, ?_⟩
  rw [HNe0.out]
  refine hK.out _ _ hb ?_
  have HRa := Lib.hid (HRa.out.later hb); have HRb := Lib.hid (HRb.out.later hb); have HRq := Lib.hid (HRq.out.later hb); have HB := Lib.hid (below_on HB.out hb); clear hb
  clear hK K
  simp only [Act.put, List.setIfInBounds_toArray, List.set_cons_zero, List.set_cons_succ]
  refine late_take 8 (by kernel_rfl) (by kernel_rfl) (by kernel_rfl) (by kernel_rfl) (by kernel_rfl) (fun _ _ d _ _ h => by cases d <;> exact h) (fun o ho => ?_)
  simp only [List.getElem?_toArray, List.getElem?_cons_zero, List.getElem?_cons_succ, Option.some.injEq] at ho; subst ho
  refine ⟨.int .u64 ((k4 ^^^ e0 : Nat) : Int), Or.inl ⟨by kernel_rfl, fun w' hl => Or.inl ?_⟩, ?_⟩
  · (go_simp; rw [HXe0.out])
  simp only [Act.put, List.setIfInBounds_toArray, List.set_cons_zero, List.set_cons_succ]
  refine late_one 15 (by kernel_rfl) (by kernel_rfl) (fun o ho => ?_)
  simp only [List.getElem?_toArray, List.getElem?_cons_zero, List.getElem?_cons_succ, Option.some.injEq] at ho; subst ho
  refine ⟨by kernel_rfl, fun wn hl K hK => ?_⟩
  have HRa := Lib.hid (HRa.out.later hl); have HRb := Lib.hid (HRb.out.later hl); have HRq := Lib.hid (HRq.out.later hl); have HB := Lib.hid (below_on HB.out hl); clear hl
  refine wp_enter _ _ (by go_simp; exact ⟨rfl, rfl⟩) ?_
  refine (checks_nany (c : Int) (o (84 + c)) _ HC0.out HCo.out.1 HCo.out.2 (HT.out.on HB.out)).mono ?_; rintro e wm ⟨rfl, hb⟩; refine ⟨_, rfl, ?_⟩
  rw [HNe1.out]
  refine hK.out _ _ hb ?_
  have HRa := Lib.hid (HRa.out.later hb); have HRb := Lib.hid (HRb.out.later hb); have HRq := Lib.hid (HRq.out.later hb); have HB := Lib.hid (below_on HB.out hb); clear hb
  clear hK K
  simp only [Act.put, List.setIfInBounds_toArray, List.set_cons_zero, List.set_cons_succ]
  refine late_take 16 (by kernel_rfl) (by kernel_rfl) (by kernel_rfl) (by kernel_rfl) (by kernel_rfl) (fun _ _ d _ _ h => by cases d <;> exact h) (fun o ho => ?_)
  simp only [List.getElem?_toArray, List.getElem?_cons_zero, List.getElem?_cons_succ, Option.some.injEq] at ho; subst ho
  refine ⟨.int .u64 ((k4 ^^^ e0 ^^^ e1 : Nat) : Int), Or.inl ⟨by kernel_rfl, fun w' hl => Or.inl ?_⟩, ?_⟩
  · (go_simp; rw [HXe1.out])
  simp only [Act.put, List.setIfInBounds_toArray, List.set_cons_zero, List.set_cons_succ]
  refine late_one 22 (by kernel_rfl) (by kernel_rfl) (fun o ho => ?_)
  simp only [List.getElem?_toArray, List.getElem?_cons_zero, List.getElem?_cons_succ, Option.some.injEq] at ho; subst ho
  refine ⟨by kernel_rfl, fun wn hl K hK => ?_⟩
  have HRa := Lib.hid (HRa.out.later hl); have HRb := Lib.hid (HRb.out.later hl); have HRq := Lib.hid (HRq.out.later hl); have HB := Lib.hid (below_on HB.out hl); clear hl
  refine wp_enter _ _ (by go_simp; exact ⟨rfl, rfl⟩) ?_
  refine (promoted_any (pm ^^^ om) _ HML.out (HT.out.on HB.out)).mono ?_; rintro e wm ⟨rfl, hb⟩; refine ⟨_, rfl, ?_⟩
  rw [HNm0.out]
  refine hK.out _ _ hb ?_
  have HRa := Lib.hid (HRa.out.later hb); have HRb := Lib.hid (HRb.out.later hb); have HRq := Lib.hid (HRq.out.later hb); have HB := Lib.hid (below_on HB.out hb); clear hb
  clear hK K
  simp only [Act.put, List.setIfInBounds_toArray, List.set_cons_zero, List.set_cons_succ]
  refine late_take 23 (by kernel_rfl) (by kernel_rfl) (by kernel_rfl) (by kernel_rfl) (by kernel_rfl) (fun _ _ d _ _ h => by cases d <;> exact h) (fun o ho => ?_)
  simp only [List.getElem?_toArray, List.getElem?_cons_zero, List.getElem?_cons_succ, Option.some.injEq] at ho; subst ho
  refine ⟨.int .u64 ((k6 : Nat) : Int), Or.inl ⟨by kernel_rfl, fun w' hl => Or.inl ?_⟩, ?_⟩
  · (go_simp; rw [HZm.out])
  simp only [Act.put, List.setIfInBounds_toArray, List.set_cons_zero, List.set_cons_succ]
  refine late_take 24 (by kernel_rfl) (by kernel_rfl) (by kernel_rfl) (by kernel_rfl) (by kernel_rfl) (fun _ _ d _ _ h => by cases d <;> exact h) (fun o ho => ?_)
  simp only [List.getElem?_toArray, List.getElem?_cons_zero, List.getElem?_cons_succ, Option.some.injEq] at ho; subst ho
  apply Exists.intro
  refine ⟨Or.inl ⟨by kernel_rfl, fun w' hl => Or.inl ?_⟩, ?_⟩
  · (go_simp; try with_reducible rfl)
  simp only [Act.put, List.setIfInBounds_toArray, List.set_cons_zero, List.set_cons_succ]
  refine late_end (by kernel_rfl) (fun wn hl => ?_)
  have HRa := Lib.hid (HRa.out.later hl); have HRb := Lib.hid (HRb.out.later hl); have HRq := Lib.hid (HRq.out.later hl); have HB := Lib.hid (below_on HB.out hl); clear hl
  go_wp2_with (refine step_load (by rfl) _ rfl bq rfl q6 ?_ ?_; exact HRq.out)
  refine (key_any q6 _ HF6.out (HT.out.on HB.out)).mono ?_; rintro e wn ⟨rfl, hb9⟩; rw [HNk6.out]; have HRa := Lib.hid (HRa.out.later hb9); have HRb := Lib.hid (HRb.out.later hb9); have HRq := Lib.hid (HRq.out.later hb9); have HB := Lib.hid (below_on HB.out hb9); clear hb9
  go_wp2_with fail
  go_ret
  exact ⟨rfl, HB.out⟩
end Go.Proofs.YtboopdmgphhemaaDoor.hashOthers
