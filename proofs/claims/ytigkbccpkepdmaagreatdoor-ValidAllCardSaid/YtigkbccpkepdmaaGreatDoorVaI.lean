/-
 Layer 12's awake.
-/
import Derived.Test.YtigkbccpkepdmaaGreatDoorVaH
import Derived.Test.YtigkbccpkepdmaaGreatDoorRoundW
namespace Go.Proofs.YtigkbccpkepdmaaGreatDoor
open Go.RowKit
set_option linter.unusedVariables false
set_option linter.unusedSimpArgs false

section
variable {X : Nat → Prop} {n : Nat} {P : Program} {ops : Array Oper} {Q : Exit → Act → World → Prop} {md : Region.Mode}
/-- Whatever of these comes first. -/
theorem mid_some (rs : List Nat) {k : Nat} {listed : Array Bool} {a : Act} {w : World} (hd : Wid.noDefer ops = true) (hr : Region.ready md ops listed = rs) (hne : rs ≠ []) (hz : rs.all (fun i => (ops[i]?).isSome) = true)
  (h : ∀ i, i ∈ rs → ∀ o : Oper, ops[i]? = some o → Region.wanted o (yielded ops a.tmps) = true ∧ ∀ w', Below w.heap.size w w' → ∀ K : Act → World → Prop, Shut (∀ a2 w2, Kept X w' w2 → Wid.Mid X n P md ops Q k (listed.setIfInBounds i true) a2 w2 → K a2 w2) → Wid.WpR n P o a w' K Q) : Wid.Mid X n P md ops Q (k + 1) listed a w := fun w' hw' =>
 ⟨fun h0 => (by rw [hr] at h0; exact absurd h0 hne), fun j hj => by
  rw [hr] at hj
  obtain ⟨o, ho⟩ := Option.isSome_iff_exists.1 (List.all_eq_true.1 hz j hj)
  obtain ⟨hw, h⟩ := h j hj o ho
  unfold wpOpIn
  rw [ho]
  simp only [hw, if_true]
  exact Wid.opIn_of (Wid.noDefer_spec hd _ _ · ho) (h w' hw' _ fun a2 w2 hl hk => ⟨hl, hk⟩).out⟩
theorem wp_cutK {K : Act → World → Prop} {a : Act} {w : World} {x : Code} (M : Act → World → Prop) (h1 : ∀ K : Act → World → Prop, Shut (∀ a w, M a w → K a w) → x.wp P (Exit.then K Q) a w) (h2 : ∀ a w, M a w → K a w) : x.wp P (Exit.then K Q) a w := h1 K h2
theorem mid_with {k k' : Nat} {listed listed' : Array Bool} {a : Act} {w : World} (M : Act → World → Prop) (h2 : ∀ a w, M a w → Wid.Mid X n P md ops Q k' listed' a w) (h1 : Shut (∀ a w, M a w → Wid.Mid X n P md ops Q k' listed' a w) → Wid.Mid X n P md ops Q k listed a w) : Wid.Mid X n P md ops Q k listed a w := h1 h2
end
theorem run_allocP {o : Oper} {a : Act} {w : World} (ho : o.op = .alloc 31) : (execOp a.eval o).run Tryz.prog w = .ok (.value (.pointer (some ⟨w.heap.size, 0, none⟩))) (w.alloc (.cells (posA zeroP) 31)) := by
 have hz : ∀ w, (zeroValue 31).run Tryz.prog w = .ok (.agg (posA zeroP)) w := fun w => by
  cases hq : Tryz.prog.info? 31 with
  | none => have := info31; simp [hq] at this
  | some i => have := info31; simp [hq] at this; simp [zeroValue, typeInfo, hq, this.1]
 unfold execOp
 simp only [ho, Instr.alloc, Sem.run_bind, Sem.run_pure, Result.andThen_ok, hz]
 rfl
theorem mid_allocP {o : Oper} {a : Act} {w : World} {n : Nat} {K : Act → World → Prop} {Q : Exit → Act → World → Prop} (ho : o.op = .alloc 31) (h : ∀ b w', New b w w' → Row w' b zeroP → K (a.put o.dst (.pointer (some ⟨b, 0, none⟩))) w') : Wid.WpR n Tryz.prog o a w K Q := ⟨by
 rw [run_allocP ho]
 exact h _ _ (New.alloc w _) (heap_alloc_new w (.cells (posA zeroP) 31))⟩
theorem mid_storeP {o : Oper} {a : Act} {w : World} {n : Nat} {K : Act → World → Prop} {Q : Exit → Act → World → Prop} (x y : Operand) (ho : o.op = .store 31 x y) (b : Nat) (hx : a.eval x = .pointer (some ⟨b, 0, none⟩)) (p q : Nat → Int) (hy : a.eval y = .agg (posA q)) (hr : Row w b p)
  (h : ∀ w', Upd b w w' → Row w' b q → K (a.put o.dst undef) w') : Wid.WpR n Tryz.prog o a w K Q := ⟨by
 have hrun := run_storeVar_mid (P := Tryz.prog) w b 0 31 (posA q) (by rw [posA_size]; exact hr.there 0 88 (by omega)) (by rw [posA_size]; exact size31) (posA_one q)
 have hk := h _ (Upd.setCells _ _ _ _) hr.whole
 unfold execOp
 simp only [ho, hx, hy, Instr.storeAt, Instr.sureAddr, Sem.run_bind, Sem.run_pure, Result.andThen_ok, hrun]
 exact hk⟩
theorem kept_upd {b B : Nat} {w w' : World} (h : Upd b w w') (hb : B ≤ b) : Kept (B ≤ ·) w w' := Kept.of_below (h.below hb)
theorem vcheck_k {p : Nat → Int} {n : Int} (h : hdZ (wrL p) = n) (w : World) (hp : FitP p) (hT : TabVar w) (hD : TabDb w) (hL : TabLead w) (hU : TabUs w) : Calls Tryz.prog 7 #[.agg (posA p)] w (IntL n w) := h ▸ vcheck_any p w hp hT hD hL hU
theorem size26b : (Tryz.prog.info? 26).map (·.size) = some 1 := by kernel_rfl
set_option maxRecDepth 100000 in
set_option maxHeartbeats 4000000 in
theorem va_awake (w : World) (hT : TabVar w) (hK : TabKn w) (hD : TabDb w) (hL : TabLead w) (hU : TabUs w) : Calls Tryz.prog 8 #[] w (BoL true w) := by
 have HT := Lib.hid hT
 have HK := Lib.hid hK
 have HD := Lib.hid hD
 have HL := Lib.hid hL
 have HU := Lib.hid hU
 obtain ⟨P, hP⟩ : ∃ P, startP 0 = P := ⟨_, rfl⟩
 have HP0 := Lib.hid hP
 have K1 := Lib.hid (show hdZ (wrL P) = 0 by rw [← hP]; exact hq_1)
 have F1 := Lib.hid (show FitP P by rw [← hP]; exact hf_1)
 have K2 := Lib.hid (show hdZ (wrL (upd P 61 0)) = 120 by rw [← hP]; exact hq_2)
 have F2 := Lib.hid (show FitP (upd P 61 0) by rw [← hP]; exact hf_2)
 have K3 := Lib.hid (show hdZ (wrL (upd P 57 1)) = 121 by rw [← hP]; exact hq_3)
 have F3 := Lib.hid (show FitP (upd P 57 1) by rw [← hP]; exact hf_3)
 have K4 := Lib.hid (show hdZ (wrL (upd P 8 0)) = 123 by rw [← hP]; exact hq_4)
 have F4 := Lib.hid (show FitP (upd P 8 0) by rw [← hP]; exact hf_4)
 have K5 := Lib.hid (show hdZ (wrL (upd P 83 20)) = 124 by rw [← hP]; exact hq_5)
 have F5 := Lib.hid (show FitP (upd P 83 20) by rw [← hP]; exact hf_5)
 have K6 := Lib.hid (show hdZ (wrL vaE) = 126 by exact hq_6)
 have F6 := Lib.hid (show FitP vaE by exact hf_6)
 have K7 := Lib.hid (show hdZ (wrL vaEF) = 0 by exact hq_7)
 have F7 := Lib.hid (show FitP vaEF by exact hf_7)
 clear hT hK hD hL hU hP
 have HB := Lib.hid (Below.refl w.heap.size w)
 go_enter Tryz.func8, Tryz.ntmps8
 go_wp2_with (first
   | (go_at_call 20; refine (start_any 0 _ (by decide) (HT.out.on HB.out) (HK.out.on HB.out)).mono ?_; rintro e w3 ⟨rfl, hb⟩; rw [HP0.out]; have HB := Lib.hid (below_on HB.out hb); clear hb)
   | (refine step_alloc rfl rfl ?_; intro b1 wn N R; have HR1 := Lib.hid R; have HG1 := Lib.hid (show w.heap.size ≤ b1 by have := HB.out.size; have := N.at_; omega); have HB := Lib.hid (below_on HB.out N.below); clear N R)
   | (refine step_store rfl _ _ rfl b1 rfl _ P rfl HR1.out ?_; intro wn U R; have HR1 := Lib.hid R; have HB := Lib.hid (HB.out.trans (U.below HG1.out)); clear U R))
 obtain ⟨wx0, hwx⟩ : ∃ x, x = wn := ⟨_, rfl⟩
 have HL1 := Lib.hid (show b1 < wx0.heap.size by rw [hwx]; exact HR1.out.lt)
 have HW0 := Lib.hid (show w.heap.size ≤ wx0.heap.size by rw [hwx]; exact HB.out.size)
 have HX0 := Lib.hid (show Below wx0.heap.size wx0 wn by rw [hwx]; exact Below.refl _ _)
 clear hwx
 refine wp_cutK (fun a w' => ∃ b3 b4 b5 b6 : Nat, a = { tmps := (.bool false :: .pointer (some ⟨b1, 0, none⟩) :: .bool true :: .pointer (some ⟨b3, 0, none⟩) :: .pointer (some ⟨b4, 0, none⟩) :: .pointer (some ⟨b5, 0, none⟩) :: .pointer (some ⟨b6, 0, none⟩) :: undef :: undef :: .tuple #[.agg (posA P), .bool true] :: .tuple #[.agg (posA P), .bool true] :: .agg (posA P) :: .bool true :: .agg (posA P) :: .agg (posA P) :: .agg (posA P) :: .agg (posA P) :: undef :: undef :: undef :: undef :: undef :: undef :: undef :: undef :: undef :: undef :: undef :: undef :: undef :: undef :: undef :: undef :: undef :: undef :: undef :: undef :: undef :: undef :: undef :: undef :: undef :: undef :: undef :: undef :: undef :: undef :: undef :: undef :: undef :: undef :: undef :: undef :: undef :: undef :: undef :: undef :: undef :: undef :: undef :: undef :: undef :: undef :: undef :: undef :: undef :: undef :: undef :: undef :: [] : List Value).toArray, defers := [] } ∧ Row w' b1 P ∧ Row w' b3 P ∧ Row w' b4 P ∧ Row w' b5 P ∧ Row w' b6 P ∧ b1 ≠ b3 ∧ b1 ≠ b4 ∧ b1 ≠ b5 ∧ b1 ≠ b6 ∧ b3 ≠ b4 ∧ b3 ≠ b5 ∧ b3 ≠ b6 ∧ b4 ≠ b5 ∧ b4 ≠ b6 ∧ b5 ≠ b6 ∧ wx0.heap.size ≤ b3 ∧ wx0.heap.size ≤ b4 ∧ wx0.heap.size ≤ b5 ∧ wx0.heap.size ≤ b6 ∧ Below w.heap.size w w') (fun K hK => ?_) ?_
 ·have HFm := Lib.hid (by kernel_rfl : Tryz.prog.follows .mixedOrders = true)
  refine (wpIn_wide (n := 1)).1 ?_
  refine Wid.mid_begin (X := (wx0.heap.size ≤ ·)) HFm.out ?_
  refine Wid.mid_take 0 (by kernel_rfl) (by kernel_rfl) (by kernel_rfl) (by kernel_rfl) (by kernel_rfl) (fun _ _ d _ _ h => by cases d <;> exact h) (fun o ho => ?_)
  simp only [qa, qb, qc, qd] at ho; subst ho
  refine ⟨_, Or.inl ⟨by kernel_rfl, fun w' hl => run_load _ rfl _ rfl P (show Row w' b1 P from (hl.same b1 HR1.out.lt (Nat.not_le.2 HL1.out)).trans HR1.out)⟩, ?_⟩
  simp only [Act.put, pa, pb, pc]
  refine Wid.mid_take 1 (by kernel_rfl) (by kernel_rfl) (by kernel_rfl) (by kernel_rfl) (by kernel_rfl) (fun _ _ d _ _ h => by cases d <;> exact h) (fun o ho => ?_)
  simp only [qa, qb, qc, qd] at ho; subst ho
  refine ⟨_, Or.inl ⟨by kernel_rfl, fun w' hl => run_load _ rfl _ rfl P (show Row w' b1 P from (hl.same b1 HR1.out.lt (Nat.not_le.2 HL1.out)).trans HR1.out)⟩, ?_⟩
  simp only [Act.put, pa, pb, pc]
  refine Wid.mid_take 2 (by kernel_rfl) (by kernel_rfl) (by kernel_rfl) (by kernel_rfl) (by kernel_rfl) (fun _ _ d _ _ h => by cases d <;> exact h) (fun o ho => ?_)
  simp only [qa, qb, qc, qd] at ho; subst ho
  refine ⟨_, Or.inl ⟨by kernel_rfl, fun w' hl => run_load _ rfl _ rfl P (show Row w' b1 P from (hl.same b1 HR1.out.lt (Nat.not_le.2 HL1.out)).trans HR1.out)⟩, ?_⟩
  simp only [Act.put, pa, pb, pc]
  refine Wid.mid_take 3 (by kernel_rfl) (by kernel_rfl) (by kernel_rfl) (by kernel_rfl) (by kernel_rfl) (fun _ _ d _ _ h => by cases d <;> exact h) (fun o ho => ?_)
  simp only [qa, qb, qc, qd] at ho; subst ho
  refine ⟨_, Or.inl ⟨by kernel_rfl, fun w' hl => run_load _ rfl _ rfl P (show Row w' b1 P from (hl.same b1 HR1.out.lt (Nat.not_le.2 HL1.out)).trans HR1.out)⟩, ?_⟩
  simp only [Act.put, pa, pb, pc]
  refine mid_with (k' := 4) (listed' := #[true, true, true, true, true, true, true, true, false, false, false, false]) (fun a w' => ∃ b3 b4 b5 b6 : Nat, a = { tmps := (.bool false :: .pointer (some ⟨b1, 0, none⟩) :: .bool true :: .pointer (some ⟨b3, 0, none⟩) :: .pointer (some ⟨b4, 0, none⟩) :: .pointer (some ⟨b5, 0, none⟩) :: .pointer (some ⟨b6, 0, none⟩) :: undef :: undef :: .tuple #[.agg (posA P), .bool true] :: .tuple #[.agg (posA P), .bool true] :: .agg (posA P) :: .bool true :: .agg (posA P) :: .agg (posA P) :: .agg (posA P) :: .agg (posA P) :: undef :: undef :: undef :: undef :: undef :: undef :: undef :: undef :: undef :: undef :: undef :: undef :: undef :: undef :: undef :: undef :: undef :: undef :: undef :: undef :: undef :: undef :: undef :: undef :: undef :: undef :: undef :: undef :: undef :: undef :: undef :: undef :: undef :: undef :: undef :: undef :: undef :: undef :: undef :: undef :: undef :: undef :: undef :: undef :: undef :: undef :: undef :: undef :: undef :: undef :: undef :: undef :: [] : List Value).toArray, defers := [] } ∧ Row w' b1 P ∧ Row w' b3 zeroP ∧ Row w' b4 zeroP ∧ Row w' b5 zeroP ∧ Row w' b6 zeroP ∧ b1 ≠ b3 ∧ b1 ≠ b4 ∧ b1 ≠ b5 ∧ b1 ≠ b6 ∧ b3 ≠ b4 ∧ b3 ≠ b5 ∧ b3 ≠ b6 ∧ b4 ≠ b5 ∧ b4 ≠ b6 ∧ b5 ≠ b6 ∧ wx0.heap.size ≤ b3 ∧ wx0.heap.size ≤ b4 ∧ wx0.heap.size ≤ b5 ∧ wx0.heap.size ≤ b6 ∧ Below w.heap.size w w') ?_ (fun hF => ?_)
  ·rintro a wx ⟨b3, b4, b5, b6, rfl, hr1, hr3, hr4, hr5, hr6, hd1_3, hd1_4, hd1_5, hd1_6, hd3_4, hd3_5, hd3_6, hd4_5, hd4_6, hd5_6, hg3, hg4, hg5, hg6, hbx⟩
   have HB := Lib.hid hbx
   have HR1 := Lib.hid hr1
   have HR3 := Lib.hid hr3
   have HR4 := Lib.hid hr4
   have HR5 := Lib.hid hr5
   have HR6 := Lib.hid hr6
   have HD1_3 := Lib.hid hd1_3
   have HD3_1 := Lib.hid (Ne.symm hd1_3)
   have HD1_4 := Lib.hid hd1_4
   have HD4_1 := Lib.hid (Ne.symm hd1_4)
   have HD1_5 := Lib.hid hd1_5
   have HD5_1 := Lib.hid (Ne.symm hd1_5)
   have HD1_6 := Lib.hid hd1_6
   have HD6_1 := Lib.hid (Ne.symm hd1_6)
   have HD3_4 := Lib.hid hd3_4
   have HD4_3 := Lib.hid (Ne.symm hd3_4)
   have HD3_5 := Lib.hid hd3_5
   have HD5_3 := Lib.hid (Ne.symm hd3_5)
   have HD3_6 := Lib.hid hd3_6
   have HD6_3 := Lib.hid (Ne.symm hd3_6)
   have HD4_5 := Lib.hid hd4_5
   have HD5_4 := Lib.hid (Ne.symm hd4_5)
   have HD4_6 := Lib.hid hd4_6
   have HD6_4 := Lib.hid (Ne.symm hd4_6)
   have HD5_6 := Lib.hid hd5_6
   have HD6_5 := Lib.hid (Ne.symm hd5_6)
   have HG3 := Lib.hid hg3
   have HG4 := Lib.hid hg4
   have HG5 := Lib.hid hg5
   have HG6 := Lib.hid hg6
   clear hbx hr1 hr3 hr4 hr5 hr6 hd1_3 hd1_4 hd1_5 hd1_6 hd3_4 hd3_5 hd3_6 hd4_5 hd4_6 hd5_6 hg3 hg4 hg5 hg6
   refine Wid.mid_one 8 (by kernel_rfl) (by kernel_rfl) (by kernel_rfl) (fun o ho => ?_)
   simp only [qa, qb, qc, qd] at ho; subst ho
   refine ⟨by kernel_rfl, fun wn hl Kx hKx => ?_⟩
   have HR1 := Lib.hid (HR1.out.later hl); have HR3 := Lib.hid (HR3.out.later hl); have HR4 := Lib.hid (HR4.out.later hl); have HR5 := Lib.hid (HR5.out.later hl); have HR6 := Lib.hid (HR6.out.later hl); have HB := Lib.hid (below_on HB.out hl); clear hl
   refine mid_storeP _ _ rfl b3 rfl zeroP P rfl HR3.out ?_; intro wm U R
   have HR1 := Lib.hid (HR1.out.apart U HD1_3.out)
   have HR4 := Lib.hid (HR4.out.apart U HD4_3.out)
   have HR5 := Lib.hid (HR5.out.apart U HD5_3.out)
   have HR6 := Lib.hid (HR6.out.apart U HD6_3.out)
   refine hKx.out _ _ (kept_upd U HG3.out) ?_
   have HR3 := Lib.hid R; have HB := Lib.hid (HB.out.trans (U.below (Nat.le_trans HW0.out HG3.out))); clear U R
   clear hKx Kx
   simp only [Act.put, pa, pb, pc]
   refine Wid.mid_one 9 (by kernel_rfl) (by kernel_rfl) (by kernel_rfl) (fun o ho => ?_)
   simp only [qa, qb, qc, qd] at ho; subst ho
   refine ⟨by kernel_rfl, fun wn hl Kx hKx => ?_⟩
   have HR1 := Lib.hid (HR1.out.later hl); have HR3 := Lib.hid (HR3.out.later hl); have HR4 := Lib.hid (HR4.out.later hl); have HR5 := Lib.hid (HR5.out.later hl); have HR6 := Lib.hid (HR6.out.later hl); have HB := Lib.hid (below_on HB.out hl); clear hl
   refine mid_storeP _ _ rfl b4 rfl zeroP P rfl HR4.out ?_; intro wm U R
   have HR1 := Lib.hid (HR1.out.apart U HD1_4.out)
   have HR3 := Lib.hid (HR3.out.apart U HD3_4.out)
   have HR5 := Lib.hid (HR5.out.apart U HD5_4.out)
   have HR6 := Lib.hid (HR6.out.apart U HD6_4.out)
   refine hKx.out _ _ (kept_upd U HG4.out) ?_
   have HR4 := Lib.hid R; have HB := Lib.hid (HB.out.trans (U.below (Nat.le_trans HW0.out HG4.out))); clear U R
   clear hKx Kx
   simp only [Act.put, pa, pb, pc]
   refine Wid.mid_one 10 (by kernel_rfl) (by kernel_rfl) (by kernel_rfl) (fun o ho => ?_)
   simp only [qa, qb, qc, qd] at ho; subst ho
   refine ⟨by kernel_rfl, fun wn hl Kx hKx => ?_⟩
   have HR1 := Lib.hid (HR1.out.later hl); have HR3 := Lib.hid (HR3.out.later hl); have HR4 := Lib.hid (HR4.out.later hl); have HR5 := Lib.hid (HR5.out.later hl); have HR6 := Lib.hid (HR6.out.later hl); have HB := Lib.hid (below_on HB.out hl); clear hl
   refine mid_storeP _ _ rfl b5 rfl zeroP P rfl HR5.out ?_; intro wm U R
   have HR1 := Lib.hid (HR1.out.apart U HD1_5.out)
   have HR3 := Lib.hid (HR3.out.apart U HD3_5.out)
   have HR4 := Lib.hid (HR4.out.apart U HD4_5.out)
   have HR6 := Lib.hid (HR6.out.apart U HD6_5.out)
   refine hKx.out _ _ (kept_upd U HG5.out) ?_
   have HR5 := Lib.hid R; have HB := Lib.hid (HB.out.trans (U.below (Nat.le_trans HW0.out HG5.out))); clear U R
   clear hKx Kx
   simp only [Act.put, pa, pb, pc]
   refine Wid.mid_one 11 (by kernel_rfl) (by kernel_rfl) (by kernel_rfl) (fun o ho => ?_)
   simp only [qa, qb, qc, qd] at ho; subst ho
   refine ⟨by kernel_rfl, fun wn hl Kx hKx => ?_⟩
   have HR1 := Lib.hid (HR1.out.later hl); have HR3 := Lib.hid (HR3.out.later hl); have HR4 := Lib.hid (HR4.out.later hl); have HR5 := Lib.hid (HR5.out.later hl); have HR6 := Lib.hid (HR6.out.later hl); have HB := Lib.hid (below_on HB.out hl); clear hl
   refine mid_storeP _ _ rfl b6 rfl zeroP P rfl HR6.out ?_; intro wm U R
   have HR1 := Lib.hid (HR1.out.apart U HD1_6.out)
   have HR3 := Lib.hid (HR3.out.apart U HD3_6.out)
   have HR4 := Lib.hid (HR4.out.apart U HD4_6.out)
   have HR5 := Lib.hid (HR5.out.apart U HD5_6.out)
   refine hKx.out _ _ (kept_upd U HG6.out) ?_
   have HR6 := Lib.hid R; have HB := Lib.hid (HB.out.trans (U.below (Nat.le_trans HW0.out HG6.out))); clear U R
   clear hKx Kx
   simp only [Act.put, pa, pb, pc]
   refine Wid.mid_end (by kernel_rfl) (fun wn hl => ?_)
   have HR1 := Lib.hid (HR1.out.later hl); have HR3 := Lib.hid (HR3.out.later hl); have HR4 := Lib.hid (HR4.out.later hl); have HR5 := Lib.hid (HR5.out.later hl); have HR6 := Lib.hid (HR6.out.later hl); have HB := Lib.hid (below_on HB.out hl); clear hl
   refine hK.out _ _ ⟨b3, b4, b5, b6, rfl, HR1.out, HR3.out, HR4.out, HR5.out, HR6.out, HD1_3.out, HD1_4.out, HD1_5.out, HD1_6.out, HD3_4.out, HD3_5.out, HD3_6.out, HD4_5.out, HD4_6.out, HD5_6.out, HG3.out, HG4.out, HG5.out, HG6.out, HB.out⟩
  ·refine mid_some [4, 5, 6, 7] (by kernel_rfl) (by kernel_rfl) (by simp) (by kernel_rfl) (fun i hi => ?_)
   simp only [List.mem_cons, List.not_mem_nil, or_false] at hi
   rcases hi with rfl | rfl | rfl | rfl
   ·intro o ho
    simp only [qa, qb, qc, qd] at ho; subst ho
    refine ⟨by kernel_rfl, fun wn hl Kx hKx => ?_⟩
    have HX0 := Lib.hid (HX0.out.trans (hl.mono HX0.out.size))
    have HR1 := Lib.hid (HR1.out.later hl); have HB := Lib.hid (below_on HB.out hl); clear hl
    refine mid_allocP rfl ?_; intro b3 wm N R
    have HD1_3 := Lib.hid (vnew_ne N HR1.out)
    have HG3 := Lib.hid (show wx0.heap.size ≤ b3 by have := HX0.out.size; have := N.at_; omega)
    have hb := N.below
    have HRn := Lib.hid R
    clear N R
    refine hKx.out _ _ (Kept.of_call _ hb) ?_
    have HX0 := Lib.hid (HX0.out.trans (hb.mono HX0.out.size))
    have HR1 := Lib.hid (HR1.out.later hb); have HB := Lib.hid (below_on HB.out hb); clear hb
    have HR3 := HRn; clear HRn
    clear hKx Kx
    simp only [Act.put, pa, pb, pc]
    refine mid_some [5, 6, 7] (by kernel_rfl) (by kernel_rfl) (by simp) (by kernel_rfl) (fun i hi => ?_)
    simp only [List.mem_cons, List.not_mem_nil, or_false] at hi
    rcases hi with rfl | rfl | rfl
    ·intro o ho
     simp only [qa, qb, qc, qd] at ho; subst ho
     refine ⟨by kernel_rfl, fun wn hl Kx hKx => ?_⟩
     have HX0 := Lib.hid (HX0.out.trans (hl.mono HX0.out.size))
     have HR1 := Lib.hid (HR1.out.later hl); have HR3 := Lib.hid (HR3.out.later hl); have HB := Lib.hid (below_on HB.out hl); clear hl
     refine mid_allocP rfl ?_; intro b4 wm N R
     have HD1_4 := Lib.hid (vnew_ne N HR1.out)
     have HD3_4 := Lib.hid (vnew_ne N HR3.out)
     have HG4 := Lib.hid (show wx0.heap.size ≤ b4 by have := HX0.out.size; have := N.at_; omega)
     have hb := N.below
     have HRn := Lib.hid R
     clear N R
     refine hKx.out _ _ (Kept.of_call _ hb) ?_
     have HX0 := Lib.hid (HX0.out.trans (hb.mono HX0.out.size))
     have HR1 := Lib.hid (HR1.out.later hb); have HR3 := Lib.hid (HR3.out.later hb); have HB := Lib.hid (below_on HB.out hb); clear hb
     have HR4 := HRn; clear HRn
     clear hKx Kx
     simp only [Act.put, pa, pb, pc]
     refine mid_some [6, 7] (by kernel_rfl) (by kernel_rfl) (by simp) (by kernel_rfl) (fun i hi => ?_)
     simp only [List.mem_cons, List.not_mem_nil, or_false] at hi
     rcases hi with rfl | rfl
     ·intro o ho
      simp only [qa, qb, qc, qd] at ho; subst ho
      refine ⟨by kernel_rfl, fun wn hl Kx hKx => ?_⟩
      have HX0 := Lib.hid (HX0.out.trans (hl.mono HX0.out.size))
      have HR1 := Lib.hid (HR1.out.later hl); have HR3 := Lib.hid (HR3.out.later hl); have HR4 := Lib.hid (HR4.out.later hl); have HB := Lib.hid (below_on HB.out hl); clear hl
      refine mid_allocP rfl ?_; intro b5 wm N R
      have HD1_5 := Lib.hid (vnew_ne N HR1.out)
      have HD3_5 := Lib.hid (vnew_ne N HR3.out)
      have HD4_5 := Lib.hid (vnew_ne N HR4.out)
      have HG5 := Lib.hid (show wx0.heap.size ≤ b5 by have := HX0.out.size; have := N.at_; omega)
      have hb := N.below
      have HRn := Lib.hid R
      clear N R
      refine hKx.out _ _ (Kept.of_call _ hb) ?_
      have HX0 := Lib.hid (HX0.out.trans (hb.mono HX0.out.size))
      have HR1 := Lib.hid (HR1.out.later hb); have HR3 := Lib.hid (HR3.out.later hb); have HR4 := Lib.hid (HR4.out.later hb); have HB := Lib.hid (below_on HB.out hb); clear hb
      have HR5 := HRn; clear HRn
      clear hKx Kx
      simp only [Act.put, pa, pb, pc]
      refine Wid.mid_one 7 (by kernel_rfl) (by kernel_rfl) (by kernel_rfl) (fun o ho => ?_)
      simp only [qa, qb, qc, qd] at ho; subst ho
      refine ⟨by kernel_rfl, fun wn hl Kx hKx => ?_⟩
      have HX0 := Lib.hid (HX0.out.trans (hl.mono HX0.out.size))
      have HR1 := Lib.hid (HR1.out.later hl); have HR3 := Lib.hid (HR3.out.later hl); have HR4 := Lib.hid (HR4.out.later hl); have HR5 := Lib.hid (HR5.out.later hl); have HB := Lib.hid (below_on HB.out hl); clear hl
      refine mid_allocP rfl ?_; intro b6 wm N R
      have HD1_6 := Lib.hid (vnew_ne N HR1.out)
      have HD3_6 := Lib.hid (vnew_ne N HR3.out)
      have HD4_6 := Lib.hid (vnew_ne N HR4.out)
      have HD5_6 := Lib.hid (vnew_ne N HR5.out)
      have HG6 := Lib.hid (show wx0.heap.size ≤ b6 by have := HX0.out.size; have := N.at_; omega)
      have hb := N.below
      have HRn := Lib.hid R
      clear N R
      refine hKx.out _ _ (Kept.of_call _ hb) ?_
      have HX0 := Lib.hid (HX0.out.trans (hb.mono HX0.out.size))
      have HR1 := Lib.hid (HR1.out.later hb); have HR3 := Lib.hid (HR3.out.later hb); have HR4 := Lib.hid (HR4.out.later hb); have HR5 := Lib.hid (HR5.out.later hb); have HB := Lib.hid (below_on HB.out hb); clear hb
      have HR6 := HRn; clear HRn
      clear hKx Kx
      simp only [Act.put, pa, pb, pc]
      exact hF.out _ _ ⟨b3, b4, b5, b6, rfl, HR1.out, HR3.out, HR4.out, HR5.out, HR6.out, HD1_3.out, HD1_4.out, HD1_5.out, HD1_6.out, HD3_4.out, HD3_5.out, HD3_6.out, HD4_5.out, HD4_6.out, HD5_6.out, HG3.out, HG4.out, HG5.out, HG6.out, HB.out⟩
     ·intro o ho
      simp only [qa, qb, qc, qd] at ho; subst ho
      refine ⟨by kernel_rfl, fun wn hl Kx hKx => ?_⟩
      have HX0 := Lib.hid (HX0.out.trans (hl.mono HX0.out.size))
      have HR1 := Lib.hid (HR1.out.later hl); have HR3 := Lib.hid (HR3.out.later hl); have HR4 := Lib.hid (HR4.out.later hl); have HB := Lib.hid (below_on HB.out hl); clear hl
      refine mid_allocP rfl ?_; intro b6 wm N R
      have HD1_6 := Lib.hid (vnew_ne N HR1.out)
      have HD3_6 := Lib.hid (vnew_ne N HR3.out)
      have HD4_6 := Lib.hid (vnew_ne N HR4.out)
      have HG6 := Lib.hid (show wx0.heap.size ≤ b6 by have := HX0.out.size; have := N.at_; omega)
      have hb := N.below
      have HRn := Lib.hid R
      clear N R
      refine hKx.out _ _ (Kept.of_call _ hb) ?_
      have HX0 := Lib.hid (HX0.out.trans (hb.mono HX0.out.size))
      have HR1 := Lib.hid (HR1.out.later hb); have HR3 := Lib.hid (HR3.out.later hb); have HR4 := Lib.hid (HR4.out.later hb); have HB := Lib.hid (below_on HB.out hb); clear hb
      have HR6 := HRn; clear HRn
      clear hKx Kx
      simp only [Act.put, pa, pb, pc]
      refine Wid.mid_one 6 (by kernel_rfl) (by kernel_rfl) (by kernel_rfl) (fun o ho => ?_)
      simp only [qa, qb, qc, qd] at ho; subst ho
      refine ⟨by kernel_rfl, fun wn hl Kx hKx => ?_⟩
      have HX0 := Lib.hid (HX0.out.trans (hl.mono HX0.out.size))
      have HR1 := Lib.hid (HR1.out.later hl); have HR3 := Lib.hid (HR3.out.later hl); have HR4 := Lib.hid (HR4.out.later hl); have HR6 := Lib.hid (HR6.out.later hl); have HB := Lib.hid (below_on HB.out hl); clear hl
      refine mid_allocP rfl ?_; intro b5 wm N R
      have HD1_5 := Lib.hid (vnew_ne N HR1.out)
      have HD3_5 := Lib.hid (vnew_ne N HR3.out)
      have HD4_5 := Lib.hid (vnew_ne N HR4.out)
      have HD5_6 := Lib.hid (Ne.symm (vnew_ne N HR6.out))
      have HG5 := Lib.hid (show wx0.heap.size ≤ b5 by have := HX0.out.size; have := N.at_; omega)
      have hb := N.below
      have HRn := Lib.hid R
      clear N R
      refine hKx.out _ _ (Kept.of_call _ hb) ?_
      have HX0 := Lib.hid (HX0.out.trans (hb.mono HX0.out.size))
      have HR1 := Lib.hid (HR1.out.later hb); have HR3 := Lib.hid (HR3.out.later hb); have HR4 := Lib.hid (HR4.out.later hb); have HR6 := Lib.hid (HR6.out.later hb); have HB := Lib.hid (below_on HB.out hb); clear hb
      have HR5 := HRn; clear HRn
      clear hKx Kx
      simp only [Act.put, pa, pb, pc]
      exact hF.out _ _ ⟨b3, b4, b5, b6, rfl, HR1.out, HR3.out, HR4.out, HR5.out, HR6.out, HD1_3.out, HD1_4.out, HD1_5.out, HD1_6.out, HD3_4.out, HD3_5.out, HD3_6.out, HD4_5.out, HD4_6.out, HD5_6.out, HG3.out, HG4.out, HG5.out, HG6.out, HB.out⟩
    ·intro o ho
     simp only [qa, qb, qc, qd] at ho; subst ho
     refine ⟨by kernel_rfl, fun wn hl Kx hKx => ?_⟩
     have HX0 := Lib.hid (HX0.out.trans (hl.mono HX0.out.size))
     have HR1 := Lib.hid (HR1.out.later hl); have HR3 := Lib.hid (HR3.out.later hl); have HB := Lib.hid (below_on HB.out hl); clear hl
     refine mid_allocP rfl ?_; intro b5 wm N R
     have HD1_5 := Lib.hid (vnew_ne N HR1.out)
     have HD3_5 := Lib.hid (vnew_ne N HR3.out)
     have HG5 := Lib.hid (show wx0.heap.size ≤ b5 by have := HX0.out.size; have := N.at_; omega)
     have hb := N.below
     have HRn := Lib.hid R
     clear N R
     refine hKx.out _ _ (Kept.of_call _ hb) ?_
     have HX0 := Lib.hid (HX0.out.trans (hb.mono HX0.out.size))
     have HR1 := Lib.hid (HR1.out.later hb); have HR3 := Lib.hid (HR3.out.later hb); have HB := Lib.hid (below_on HB.out hb); clear hb
     have HR5 := HRn; clear HRn
     clear hKx Kx
     simp only [Act.put, pa, pb, pc]
     refine mid_some [5, 7] (by kernel_rfl) (by kernel_rfl) (by simp) (by kernel_rfl) (fun i hi => ?_)
     simp only [List.mem_cons, List.not_mem_nil, or_false] at hi
     rcases hi with rfl | rfl
     ·intro o ho
      simp only [qa, qb, qc, qd] at ho; subst ho
      refine ⟨by kernel_rfl, fun wn hl Kx hKx => ?_⟩
      have HX0 := Lib.hid (HX0.out.trans (hl.mono HX0.out.size))
      have HR1 := Lib.hid (HR1.out.later hl); have HR3 := Lib.hid (HR3.out.later hl); have HR5 := Lib.hid (HR5.out.later hl); have HB := Lib.hid (below_on HB.out hl); clear hl
      refine mid_allocP rfl ?_; intro b4 wm N R
      have HD1_4 := Lib.hid (vnew_ne N HR1.out)
      have HD3_4 := Lib.hid (vnew_ne N HR3.out)
      have HD4_5 := Lib.hid (Ne.symm (vnew_ne N HR5.out))
      have HG4 := Lib.hid (show wx0.heap.size ≤ b4 by have := HX0.out.size; have := N.at_; omega)
      have hb := N.below
      have HRn := Lib.hid R
      clear N R
      refine hKx.out _ _ (Kept.of_call _ hb) ?_
      have HX0 := Lib.hid (HX0.out.trans (hb.mono HX0.out.size))
      have HR1 := Lib.hid (HR1.out.later hb); have HR3 := Lib.hid (HR3.out.later hb); have HR5 := Lib.hid (HR5.out.later hb); have HB := Lib.hid (below_on HB.out hb); clear hb
      have HR4 := HRn; clear HRn
      clear hKx Kx
      simp only [Act.put, pa, pb, pc]
      refine Wid.mid_one 7 (by kernel_rfl) (by kernel_rfl) (by kernel_rfl) (fun o ho => ?_)
      simp only [qa, qb, qc, qd] at ho; subst ho
      refine ⟨by kernel_rfl, fun wn hl Kx hKx => ?_⟩
      have HX0 := Lib.hid (HX0.out.trans (hl.mono HX0.out.size))
      have HR1 := Lib.hid (HR1.out.later hl); have HR3 := Lib.hid (HR3.out.later hl); have HR5 := Lib.hid (HR5.out.later hl); have HR4 := Lib.hid (HR4.out.later hl); have HB := Lib.hid (below_on HB.out hl); clear hl
      refine mid_allocP rfl ?_; intro b6 wm N R
      have HD1_6 := Lib.hid (vnew_ne N HR1.out)
      have HD3_6 := Lib.hid (vnew_ne N HR3.out)
      have HD5_6 := Lib.hid (vnew_ne N HR5.out)
      have HD4_6 := Lib.hid (vnew_ne N HR4.out)
      have HG6 := Lib.hid (show wx0.heap.size ≤ b6 by have := HX0.out.size; have := N.at_; omega)
      have hb := N.below
      have HRn := Lib.hid R
      clear N R
      refine hKx.out _ _ (Kept.of_call _ hb) ?_
      have HX0 := Lib.hid (HX0.out.trans (hb.mono HX0.out.size))
      have HR1 := Lib.hid (HR1.out.later hb); have HR3 := Lib.hid (HR3.out.later hb); have HR5 := Lib.hid (HR5.out.later hb); have HR4 := Lib.hid (HR4.out.later hb); have HB := Lib.hid (below_on HB.out hb); clear hb
      have HR6 := HRn; clear HRn
      clear hKx Kx
      simp only [Act.put, pa, pb, pc]
      exact hF.out _ _ ⟨b3, b4, b5, b6, rfl, HR1.out, HR3.out, HR4.out, HR5.out, HR6.out, HD1_3.out, HD1_4.out, HD1_5.out, HD1_6.out, HD3_4.out, HD3_5.out, HD3_6.out, HD4_5.out, HD4_6.out, HD5_6.out, HG3.out, HG4.out, HG5.out, HG6.out, HB.out⟩
     ·intro o ho
      simp only [qa, qb, qc, qd] at ho; subst ho
      refine ⟨by kernel_rfl, fun wn hl Kx hKx => ?_⟩
      have HX0 := Lib.hid (HX0.out.trans (hl.mono HX0.out.size))
      have HR1 := Lib.hid (HR1.out.later hl); have HR3 := Lib.hid (HR3.out.later hl); have HR5 := Lib.hid (HR5.out.later hl); have HB := Lib.hid (below_on HB.out hl); clear hl
      refine mid_allocP rfl ?_; intro b6 wm N R
      have HD1_6 := Lib.hid (vnew_ne N HR1.out)
      have HD3_6 := Lib.hid (vnew_ne N HR3.out)
      have HD5_6 := Lib.hid (vnew_ne N HR5.out)
      have HG6 := Lib.hid (show wx0.heap.size ≤ b6 by have := HX0.out.size; have := N.at_; omega)
      have hb := N.below
      have HRn := Lib.hid R
      clear N R
      refine hKx.out _ _ (Kept.of_call _ hb) ?_
      have HX0 := Lib.hid (HX0.out.trans (hb.mono HX0.out.size))
      have HR1 := Lib.hid (HR1.out.later hb); have HR3 := Lib.hid (HR3.out.later hb); have HR5 := Lib.hid (HR5.out.later hb); have HB := Lib.hid (below_on HB.out hb); clear hb
      have HR6 := HRn; clear HRn
      clear hKx Kx
      simp only [Act.put, pa, pb, pc]
      refine Wid.mid_one 5 (by kernel_rfl) (by kernel_rfl) (by kernel_rfl) (fun o ho => ?_)
      simp only [qa, qb, qc, qd] at ho; subst ho
      refine ⟨by kernel_rfl, fun wn hl Kx hKx => ?_⟩
      have HX0 := Lib.hid (HX0.out.trans (hl.mono HX0.out.size))
      have HR1 := Lib.hid (HR1.out.later hl); have HR3 := Lib.hid (HR3.out.later hl); have HR5 := Lib.hid (HR5.out.later hl); have HR6 := Lib.hid (HR6.out.later hl); have HB := Lib.hid (below_on HB.out hl); clear hl
      refine mid_allocP rfl ?_; intro b4 wm N R
      have HD1_4 := Lib.hid (vnew_ne N HR1.out)
      have HD3_4 := Lib.hid (vnew_ne N HR3.out)
      have HD4_5 := Lib.hid (Ne.symm (vnew_ne N HR5.out))
      have HD4_6 := Lib.hid (Ne.symm (vnew_ne N HR6.out))
      have HG4 := Lib.hid (show wx0.heap.size ≤ b4 by have := HX0.out.size; have := N.at_; omega)
      have hb := N.below
      have HRn := Lib.hid R
      clear N R
      refine hKx.out _ _ (Kept.of_call _ hb) ?_
      have HX0 := Lib.hid (HX0.out.trans (hb.mono HX0.out.size))
      have HR1 := Lib.hid (HR1.out.later hb); have HR3 := Lib.hid (HR3.out.later hb); have HR5 := Lib.hid (HR5.out.later hb); have HR6 := Lib.hid (HR6.out.later hb); have HB := Lib.hid (below_on HB.out hb); clear hb
      have HR4 := HRn; clear HRn
      clear hKx Kx
      simp only [Act.put, pa, pb, pc]
      exact hF.out _ _ ⟨b3, b4, b5, b6, rfl, HR1.out, HR3.out, HR4.out, HR5.out, HR6.out, HD1_3.out, HD1_4.out, HD1_5.out, HD1_6.out, HD3_4.out, HD3_5.out, HD3_6.out, HD4_5.out, HD4_6.out, HD5_6.out, HG3.out, HG4.out, HG5.out, HG6.out, HB.out⟩
    ·intro o ho
     simp only [qa, qb, qc, qd] at ho; subst ho
     refine ⟨by kernel_rfl, fun wn hl Kx hKx => ?_⟩
     have HX0 := Lib.hid (HX0.out.trans (hl.mono HX0.out.size))
     have HR1 := Lib.hid (HR1.out.later hl); have HR3 := Lib.hid (HR3.out.later hl); have HB := Lib.hid (below_on HB.out hl); clear hl
     refine mid_allocP rfl ?_; intro b6 wm N R
     have HD1_6 := Lib.hid (vnew_ne N HR1.out)
     have HD3_6 := Lib.hid (vnew_ne N HR3.out)
     have HG6 := Lib.hid (show wx0.heap.size ≤ b6 by have := HX0.out.size; have := N.at_; omega)
     have hb := N.below
     have HRn := Lib.hid R
     clear N R
     refine hKx.out _ _ (Kept.of_call _ hb) ?_
     have HX0 := Lib.hid (HX0.out.trans (hb.mono HX0.out.size))
     have HR1 := Lib.hid (HR1.out.later hb); have HR3 := Lib.hid (HR3.out.later hb); have HB := Lib.hid (below_on HB.out hb); clear hb
     have HR6 := HRn; clear HRn
     clear hKx Kx
     simp only [Act.put, pa, pb, pc]
     refine mid_some [5, 6] (by kernel_rfl) (by kernel_rfl) (by simp) (by kernel_rfl) (fun i hi => ?_)
     simp only [List.mem_cons, List.not_mem_nil, or_false] at hi
     rcases hi with rfl | rfl
     ·intro o ho
      simp only [qa, qb, qc, qd] at ho; subst ho
      refine ⟨by kernel_rfl, fun wn hl Kx hKx => ?_⟩
      have HX0 := Lib.hid (HX0.out.trans (hl.mono HX0.out.size))
      have HR1 := Lib.hid (HR1.out.later hl); have HR3 := Lib.hid (HR3.out.later hl); have HR6 := Lib.hid (HR6.out.later hl); have HB := Lib.hid (below_on HB.out hl); clear hl
      refine mid_allocP rfl ?_; intro b4 wm N R
      have HD1_4 := Lib.hid (vnew_ne N HR1.out)
      have HD3_4 := Lib.hid (vnew_ne N HR3.out)
      have HD4_6 := Lib.hid (Ne.symm (vnew_ne N HR6.out))
      have HG4 := Lib.hid (show wx0.heap.size ≤ b4 by have := HX0.out.size; have := N.at_; omega)
      have hb := N.below
      have HRn := Lib.hid R
      clear N R
      refine hKx.out _ _ (Kept.of_call _ hb) ?_
      have HX0 := Lib.hid (HX0.out.trans (hb.mono HX0.out.size))
      have HR1 := Lib.hid (HR1.out.later hb); have HR3 := Lib.hid (HR3.out.later hb); have HR6 := Lib.hid (HR6.out.later hb); have HB := Lib.hid (below_on HB.out hb); clear hb
      have HR4 := HRn; clear HRn
      clear hKx Kx
      simp only [Act.put, pa, pb, pc]
      refine Wid.mid_one 6 (by kernel_rfl) (by kernel_rfl) (by kernel_rfl) (fun o ho => ?_)
      simp only [qa, qb, qc, qd] at ho; subst ho
      refine ⟨by kernel_rfl, fun wn hl Kx hKx => ?_⟩
      have HX0 := Lib.hid (HX0.out.trans (hl.mono HX0.out.size))
      have HR1 := Lib.hid (HR1.out.later hl); have HR3 := Lib.hid (HR3.out.later hl); have HR6 := Lib.hid (HR6.out.later hl); have HR4 := Lib.hid (HR4.out.later hl); have HB := Lib.hid (below_on HB.out hl); clear hl
      refine mid_allocP rfl ?_; intro b5 wm N R
      have HD1_5 := Lib.hid (vnew_ne N HR1.out)
      have HD3_5 := Lib.hid (vnew_ne N HR3.out)
      have HD5_6 := Lib.hid (Ne.symm (vnew_ne N HR6.out))
      have HD4_5 := Lib.hid (vnew_ne N HR4.out)
      have HG5 := Lib.hid (show wx0.heap.size ≤ b5 by have := HX0.out.size; have := N.at_; omega)
      have hb := N.below
      have HRn := Lib.hid R
      clear N R
      refine hKx.out _ _ (Kept.of_call _ hb) ?_
      have HX0 := Lib.hid (HX0.out.trans (hb.mono HX0.out.size))
      have HR1 := Lib.hid (HR1.out.later hb); have HR3 := Lib.hid (HR3.out.later hb); have HR6 := Lib.hid (HR6.out.later hb); have HR4 := Lib.hid (HR4.out.later hb); have HB := Lib.hid (below_on HB.out hb); clear hb
      have HR5 := HRn; clear HRn
      clear hKx Kx
      simp only [Act.put, pa, pb, pc]
      exact hF.out _ _ ⟨b3, b4, b5, b6, rfl, HR1.out, HR3.out, HR4.out, HR5.out, HR6.out, HD1_3.out, HD1_4.out, HD1_5.out, HD1_6.out, HD3_4.out, HD3_5.out, HD3_6.out, HD4_5.out, HD4_6.out, HD5_6.out, HG3.out, HG4.out, HG5.out, HG6.out, HB.out⟩
     ·intro o ho
      simp only [qa, qb, qc, qd] at ho; subst ho
      refine ⟨by kernel_rfl, fun wn hl Kx hKx => ?_⟩
      have HX0 := Lib.hid (HX0.out.trans (hl.mono HX0.out.size))
      have HR1 := Lib.hid (HR1.out.later hl); have HR3 := Lib.hid (HR3.out.later hl); have HR6 := Lib.hid (HR6.out.later hl); have HB := Lib.hid (below_on HB.out hl); clear hl
      refine mid_allocP rfl ?_; intro b5 wm N R
      have HD1_5 := Lib.hid (vnew_ne N HR1.out)
      have HD3_5 := Lib.hid (vnew_ne N HR3.out)
      have HD5_6 := Lib.hid (Ne.symm (vnew_ne N HR6.out))
      have HG5 := Lib.hid (show wx0.heap.size ≤ b5 by have := HX0.out.size; have := N.at_; omega)
      have hb := N.below
      have HRn := Lib.hid R
      clear N R
      refine hKx.out _ _ (Kept.of_call _ hb) ?_
      have HX0 := Lib.hid (HX0.out.trans (hb.mono HX0.out.size))
      have HR1 := Lib.hid (HR1.out.later hb); have HR3 := Lib.hid (HR3.out.later hb); have HR6 := Lib.hid (HR6.out.later hb); have HB := Lib.hid (below_on HB.out hb); clear hb
      have HR5 := HRn; clear HRn
      clear hKx Kx
      simp only [Act.put, pa, pb, pc]
      refine Wid.mid_one 5 (by kernel_rfl) (by kernel_rfl) (by kernel_rfl) (fun o ho => ?_)
      simp only [qa, qb, qc, qd] at ho; subst ho
      refine ⟨by kernel_rfl, fun wn hl Kx hKx => ?_⟩
      have HX0 := Lib.hid (HX0.out.trans (hl.mono HX0.out.size))
      have HR1 := Lib.hid (HR1.out.later hl); have HR3 := Lib.hid (HR3.out.later hl); have HR6 := Lib.hid (HR6.out.later hl); have HR5 := Lib.hid (HR5.out.later hl); have HB := Lib.hid (below_on HB.out hl); clear hl
      refine mid_allocP rfl ?_; intro b4 wm N R
      have HD1_4 := Lib.hid (vnew_ne N HR1.out)
      have HD3_4 := Lib.hid (vnew_ne N HR3.out)
      have HD4_6 := Lib.hid (Ne.symm (vnew_ne N HR6.out))
      have HD4_5 := Lib.hid (Ne.symm (vnew_ne N HR5.out))
      have HG4 := Lib.hid (show wx0.heap.size ≤ b4 by have := HX0.out.size; have := N.at_; omega)
      have hb := N.below
      have HRn := Lib.hid R
      clear N R
      refine hKx.out _ _ (Kept.of_call _ hb) ?_
      have HX0 := Lib.hid (HX0.out.trans (hb.mono HX0.out.size))
      have HR1 := Lib.hid (HR1.out.later hb); have HR3 := Lib.hid (HR3.out.later hb); have HR6 := Lib.hid (HR6.out.later hb); have HR5 := Lib.hid (HR5.out.later hb); have HB := Lib.hid (below_on HB.out hb); clear hb
      have HR4 := HRn; clear HRn
      clear hKx Kx
      simp only [Act.put, pa, pb, pc]
      exact hF.out _ _ ⟨b3, b4, b5, b6, rfl, HR1.out, HR3.out, HR4.out, HR5.out, HR6.out, HD1_3.out, HD1_4.out, HD1_5.out, HD1_6.out, HD3_4.out, HD3_5.out, HD3_6.out, HD4_5.out, HD4_6.out, HD5_6.out, HG3.out, HG4.out, HG5.out, HG6.out, HB.out⟩
   ·intro o ho
    simp only [qa, qb, qc, qd] at ho; subst ho
    refine ⟨by kernel_rfl, fun wn hl Kx hKx => ?_⟩
    have HX0 := Lib.hid (HX0.out.trans (hl.mono HX0.out.size))
    have HR1 := Lib.hid (HR1.out.later hl); have HB := Lib.hid (below_on HB.out hl); clear hl
    refine mid_allocP rfl ?_; intro b4 wm N R
    have HD1_4 := Lib.hid (vnew_ne N HR1.out)
    have HG4 := Lib.hid (show wx0.heap.size ≤ b4 by have := HX0.out.size; have := N.at_; omega)
    have hb := N.below
    have HRn := Lib.hid R
    clear N R
    refine hKx.out _ _ (Kept.of_call _ hb) ?_
    have HX0 := Lib.hid (HX0.out.trans (hb.mono HX0.out.size))
    have HR1 := Lib.hid (HR1.out.later hb); have HB := Lib.hid (below_on HB.out hb); clear hb
    have HR4 := HRn; clear HRn
    clear hKx Kx
    simp only [Act.put, pa, pb, pc]
    refine mid_some [4, 6, 7] (by kernel_rfl) (by kernel_rfl) (by simp) (by kernel_rfl) (fun i hi => ?_)
    simp only [List.mem_cons, List.not_mem_nil, or_false] at hi
    rcases hi with rfl | rfl | rfl
    ·intro o ho
     simp only [qa, qb, qc, qd] at ho; subst ho
     refine ⟨by kernel_rfl, fun wn hl Kx hKx => ?_⟩
     have HX0 := Lib.hid (HX0.out.trans (hl.mono HX0.out.size))
     have HR1 := Lib.hid (HR1.out.later hl); have HR4 := Lib.hid (HR4.out.later hl); have HB := Lib.hid (below_on HB.out hl); clear hl
     refine mid_allocP rfl ?_; intro b3 wm N R
     have HD1_3 := Lib.hid (vnew_ne N HR1.out)
     have HD3_4 := Lib.hid (Ne.symm (vnew_ne N HR4.out))
     have HG3 := Lib.hid (show wx0.heap.size ≤ b3 by have := HX0.out.size; have := N.at_; omega)
     have hb := N.below
     have HRn := Lib.hid R
     clear N R
     refine hKx.out _ _ (Kept.of_call _ hb) ?_
     have HX0 := Lib.hid (HX0.out.trans (hb.mono HX0.out.size))
     have HR1 := Lib.hid (HR1.out.later hb); have HR4 := Lib.hid (HR4.out.later hb); have HB := Lib.hid (below_on HB.out hb); clear hb
     have HR3 := HRn; clear HRn
     clear hKx Kx
     simp only [Act.put, pa, pb, pc]
     refine mid_some [6, 7] (by kernel_rfl) (by kernel_rfl) (by simp) (by kernel_rfl) (fun i hi => ?_)
     simp only [List.mem_cons, List.not_mem_nil, or_false] at hi
     rcases hi with rfl | rfl
     ·intro o ho
      simp only [qa, qb, qc, qd] at ho; subst ho
      refine ⟨by kernel_rfl, fun wn hl Kx hKx => ?_⟩
      have HX0 := Lib.hid (HX0.out.trans (hl.mono HX0.out.size))
      have HR1 := Lib.hid (HR1.out.later hl); have HR4 := Lib.hid (HR4.out.later hl); have HR3 := Lib.hid (HR3.out.later hl); have HB := Lib.hid (below_on HB.out hl); clear hl
      refine mid_allocP rfl ?_; intro b5 wm N R
      have HD1_5 := Lib.hid (vnew_ne N HR1.out)
      have HD4_5 := Lib.hid (vnew_ne N HR4.out)
      have HD3_5 := Lib.hid (vnew_ne N HR3.out)
      have HG5 := Lib.hid (show wx0.heap.size ≤ b5 by have := HX0.out.size; have := N.at_; omega)
      have hb := N.below
      have HRn := Lib.hid R
      clear N R
      refine hKx.out _ _ (Kept.of_call _ hb) ?_
      have HX0 := Lib.hid (HX0.out.trans (hb.mono HX0.out.size))
      have HR1 := Lib.hid (HR1.out.later hb); have HR4 := Lib.hid (HR4.out.later hb); have HR3 := Lib.hid (HR3.out.later hb); have HB := Lib.hid (below_on HB.out hb); clear hb
      have HR5 := HRn; clear HRn
      clear hKx Kx
      simp only [Act.put, pa, pb, pc]
      refine Wid.mid_one 7 (by kernel_rfl) (by kernel_rfl) (by kernel_rfl) (fun o ho => ?_)
      simp only [qa, qb, qc, qd] at ho; subst ho
      refine ⟨by kernel_rfl, fun wn hl Kx hKx => ?_⟩
      have HX0 := Lib.hid (HX0.out.trans (hl.mono HX0.out.size))
      have HR1 := Lib.hid (HR1.out.later hl); have HR4 := Lib.hid (HR4.out.later hl); have HR3 := Lib.hid (HR3.out.later hl); have HR5 := Lib.hid (HR5.out.later hl); have HB := Lib.hid (below_on HB.out hl); clear hl
      refine mid_allocP rfl ?_; intro b6 wm N R
      have HD1_6 := Lib.hid (vnew_ne N HR1.out)
      have HD4_6 := Lib.hid (vnew_ne N HR4.out)
      have HD3_6 := Lib.hid (vnew_ne N HR3.out)
      have HD5_6 := Lib.hid (vnew_ne N HR5.out)
      have HG6 := Lib.hid (show wx0.heap.size ≤ b6 by have := HX0.out.size; have := N.at_; omega)
      have hb := N.below
      have HRn := Lib.hid R
      clear N R
      refine hKx.out _ _ (Kept.of_call _ hb) ?_
      have HX0 := Lib.hid (HX0.out.trans (hb.mono HX0.out.size))
      have HR1 := Lib.hid (HR1.out.later hb); have HR4 := Lib.hid (HR4.out.later hb); have HR3 := Lib.hid (HR3.out.later hb); have HR5 := Lib.hid (HR5.out.later hb); have HB := Lib.hid (below_on HB.out hb); clear hb
      have HR6 := HRn; clear HRn
      clear hKx Kx
      simp only [Act.put, pa, pb, pc]
      exact hF.out _ _ ⟨b3, b4, b5, b6, rfl, HR1.out, HR3.out, HR4.out, HR5.out, HR6.out, HD1_3.out, HD1_4.out, HD1_5.out, HD1_6.out, HD3_4.out, HD3_5.out, HD3_6.out, HD4_5.out, HD4_6.out, HD5_6.out, HG3.out, HG4.out, HG5.out, HG6.out, HB.out⟩
     ·intro o ho
      simp only [qa, qb, qc, qd] at ho; subst ho
      refine ⟨by kernel_rfl, fun wn hl Kx hKx => ?_⟩
      have HX0 := Lib.hid (HX0.out.trans (hl.mono HX0.out.size))
      have HR1 := Lib.hid (HR1.out.later hl); have HR4 := Lib.hid (HR4.out.later hl); have HR3 := Lib.hid (HR3.out.later hl); have HB := Lib.hid (below_on HB.out hl); clear hl
      refine mid_allocP rfl ?_; intro b6 wm N R
      have HD1_6 := Lib.hid (vnew_ne N HR1.out)
      have HD4_6 := Lib.hid (vnew_ne N HR4.out)
      have HD3_6 := Lib.hid (vnew_ne N HR3.out)
      have HG6 := Lib.hid (show wx0.heap.size ≤ b6 by have := HX0.out.size; have := N.at_; omega)
      have hb := N.below
      have HRn := Lib.hid R
      clear N R
      refine hKx.out _ _ (Kept.of_call _ hb) ?_
      have HX0 := Lib.hid (HX0.out.trans (hb.mono HX0.out.size))
      have HR1 := Lib.hid (HR1.out.later hb); have HR4 := Lib.hid (HR4.out.later hb); have HR3 := Lib.hid (HR3.out.later hb); have HB := Lib.hid (below_on HB.out hb); clear hb
      have HR6 := HRn; clear HRn
      clear hKx Kx
      simp only [Act.put, pa, pb, pc]
      refine Wid.mid_one 6 (by kernel_rfl) (by kernel_rfl) (by kernel_rfl) (fun o ho => ?_)
      simp only [qa, qb, qc, qd] at ho; subst ho
      refine ⟨by kernel_rfl, fun wn hl Kx hKx => ?_⟩
      have HX0 := Lib.hid (HX0.out.trans (hl.mono HX0.out.size))
      have HR1 := Lib.hid (HR1.out.later hl); have HR4 := Lib.hid (HR4.out.later hl); have HR3 := Lib.hid (HR3.out.later hl); have HR6 := Lib.hid (HR6.out.later hl); have HB := Lib.hid (below_on HB.out hl); clear hl
      refine mid_allocP rfl ?_; intro b5 wm N R
      have HD1_5 := Lib.hid (vnew_ne N HR1.out)
      have HD4_5 := Lib.hid (vnew_ne N HR4.out)
      have HD3_5 := Lib.hid (vnew_ne N HR3.out)
      have HD5_6 := Lib.hid (Ne.symm (vnew_ne N HR6.out))
      have HG5 := Lib.hid (show wx0.heap.size ≤ b5 by have := HX0.out.size; have := N.at_; omega)
      have hb := N.below
      have HRn := Lib.hid R
      clear N R
      refine hKx.out _ _ (Kept.of_call _ hb) ?_
      have HX0 := Lib.hid (HX0.out.trans (hb.mono HX0.out.size))
      have HR1 := Lib.hid (HR1.out.later hb); have HR4 := Lib.hid (HR4.out.later hb); have HR3 := Lib.hid (HR3.out.later hb); have HR6 := Lib.hid (HR6.out.later hb); have HB := Lib.hid (below_on HB.out hb); clear hb
      have HR5 := HRn; clear HRn
      clear hKx Kx
      simp only [Act.put, pa, pb, pc]
      exact hF.out _ _ ⟨b3, b4, b5, b6, rfl, HR1.out, HR3.out, HR4.out, HR5.out, HR6.out, HD1_3.out, HD1_4.out, HD1_5.out, HD1_6.out, HD3_4.out, HD3_5.out, HD3_6.out, HD4_5.out, HD4_6.out, HD5_6.out, HG3.out, HG4.out, HG5.out, HG6.out, HB.out⟩
    ·intro o ho
     simp only [qa, qb, qc, qd] at ho; subst ho
     refine ⟨by kernel_rfl, fun wn hl Kx hKx => ?_⟩
     have HX0 := Lib.hid (HX0.out.trans (hl.mono HX0.out.size))
     have HR1 := Lib.hid (HR1.out.later hl); have HR4 := Lib.hid (HR4.out.later hl); have HB := Lib.hid (below_on HB.out hl); clear hl
     refine mid_allocP rfl ?_; intro b5 wm N R
     have HD1_5 := Lib.hid (vnew_ne N HR1.out)
     have HD4_5 := Lib.hid (vnew_ne N HR4.out)
     have HG5 := Lib.hid (show wx0.heap.size ≤ b5 by have := HX0.out.size; have := N.at_; omega)
     have hb := N.below
     have HRn := Lib.hid R
     clear N R
     refine hKx.out _ _ (Kept.of_call _ hb) ?_
     have HX0 := Lib.hid (HX0.out.trans (hb.mono HX0.out.size))
     have HR1 := Lib.hid (HR1.out.later hb); have HR4 := Lib.hid (HR4.out.later hb); have HB := Lib.hid (below_on HB.out hb); clear hb
     have HR5 := HRn; clear HRn
     clear hKx Kx
     simp only [Act.put, pa, pb, pc]
     refine mid_some [4, 7] (by kernel_rfl) (by kernel_rfl) (by simp) (by kernel_rfl) (fun i hi => ?_)
     simp only [List.mem_cons, List.not_mem_nil, or_false] at hi
     rcases hi with rfl | rfl
     ·intro o ho
      simp only [qa, qb, qc, qd] at ho; subst ho
      refine ⟨by kernel_rfl, fun wn hl Kx hKx => ?_⟩
      have HX0 := Lib.hid (HX0.out.trans (hl.mono HX0.out.size))
      have HR1 := Lib.hid (HR1.out.later hl); have HR4 := Lib.hid (HR4.out.later hl); have HR5 := Lib.hid (HR5.out.later hl); have HB := Lib.hid (below_on HB.out hl); clear hl
      refine mid_allocP rfl ?_; intro b3 wm N R
      have HD1_3 := Lib.hid (vnew_ne N HR1.out)
      have HD3_4 := Lib.hid (Ne.symm (vnew_ne N HR4.out))
      have HD3_5 := Lib.hid (Ne.symm (vnew_ne N HR5.out))
      have HG3 := Lib.hid (show wx0.heap.size ≤ b3 by have := HX0.out.size; have := N.at_; omega)
      have hb := N.below
      have HRn := Lib.hid R
      clear N R
      refine hKx.out _ _ (Kept.of_call _ hb) ?_
      have HX0 := Lib.hid (HX0.out.trans (hb.mono HX0.out.size))
      have HR1 := Lib.hid (HR1.out.later hb); have HR4 := Lib.hid (HR4.out.later hb); have HR5 := Lib.hid (HR5.out.later hb); have HB := Lib.hid (below_on HB.out hb); clear hb
      have HR3 := HRn; clear HRn
      clear hKx Kx
      simp only [Act.put, pa, pb, pc]
      refine Wid.mid_one 7 (by kernel_rfl) (by kernel_rfl) (by kernel_rfl) (fun o ho => ?_)
      simp only [qa, qb, qc, qd] at ho; subst ho
      refine ⟨by kernel_rfl, fun wn hl Kx hKx => ?_⟩
      have HX0 := Lib.hid (HX0.out.trans (hl.mono HX0.out.size))
      have HR1 := Lib.hid (HR1.out.later hl); have HR4 := Lib.hid (HR4.out.later hl); have HR5 := Lib.hid (HR5.out.later hl); have HR3 := Lib.hid (HR3.out.later hl); have HB := Lib.hid (below_on HB.out hl); clear hl
      refine mid_allocP rfl ?_; intro b6 wm N R
      have HD1_6 := Lib.hid (vnew_ne N HR1.out)
      have HD4_6 := Lib.hid (vnew_ne N HR4.out)
      have HD5_6 := Lib.hid (vnew_ne N HR5.out)
      have HD3_6 := Lib.hid (vnew_ne N HR3.out)
      have HG6 := Lib.hid (show wx0.heap.size ≤ b6 by have := HX0.out.size; have := N.at_; omega)
      have hb := N.below
      have HRn := Lib.hid R
      clear N R
      refine hKx.out _ _ (Kept.of_call _ hb) ?_
      have HX0 := Lib.hid (HX0.out.trans (hb.mono HX0.out.size))
      have HR1 := Lib.hid (HR1.out.later hb); have HR4 := Lib.hid (HR4.out.later hb); have HR5 := Lib.hid (HR5.out.later hb); have HR3 := Lib.hid (HR3.out.later hb); have HB := Lib.hid (below_on HB.out hb); clear hb
      have HR6 := HRn; clear HRn
      clear hKx Kx
      simp only [Act.put, pa, pb, pc]
      exact hF.out _ _ ⟨b3, b4, b5, b6, rfl, HR1.out, HR3.out, HR4.out, HR5.out, HR6.out, HD1_3.out, HD1_4.out, HD1_5.out, HD1_6.out, HD3_4.out, HD3_5.out, HD3_6.out, HD4_5.out, HD4_6.out, HD5_6.out, HG3.out, HG4.out, HG5.out, HG6.out, HB.out⟩
     ·intro o ho
      simp only [qa, qb, qc, qd] at ho; subst ho
      refine ⟨by kernel_rfl, fun wn hl Kx hKx => ?_⟩
      have HX0 := Lib.hid (HX0.out.trans (hl.mono HX0.out.size))
      have HR1 := Lib.hid (HR1.out.later hl); have HR4 := Lib.hid (HR4.out.later hl); have HR5 := Lib.hid (HR5.out.later hl); have HB := Lib.hid (below_on HB.out hl); clear hl
      refine mid_allocP rfl ?_; intro b6 wm N R
      have HD1_6 := Lib.hid (vnew_ne N HR1.out)
      have HD4_6 := Lib.hid (vnew_ne N HR4.out)
      have HD5_6 := Lib.hid (vnew_ne N HR5.out)
      have HG6 := Lib.hid (show wx0.heap.size ≤ b6 by have := HX0.out.size; have := N.at_; omega)
      have hb := N.below
      have HRn := Lib.hid R
      clear N R
      refine hKx.out _ _ (Kept.of_call _ hb) ?_
      have HX0 := Lib.hid (HX0.out.trans (hb.mono HX0.out.size))
      have HR1 := Lib.hid (HR1.out.later hb); have HR4 := Lib.hid (HR4.out.later hb); have HR5 := Lib.hid (HR5.out.later hb); have HB := Lib.hid (below_on HB.out hb); clear hb
      have HR6 := HRn; clear HRn
      clear hKx Kx
      simp only [Act.put, pa, pb, pc]
      refine Wid.mid_one 4 (by kernel_rfl) (by kernel_rfl) (by kernel_rfl) (fun o ho => ?_)
      simp only [qa, qb, qc, qd] at ho; subst ho
      refine ⟨by kernel_rfl, fun wn hl Kx hKx => ?_⟩
      have HX0 := Lib.hid (HX0.out.trans (hl.mono HX0.out.size))
      have HR1 := Lib.hid (HR1.out.later hl); have HR4 := Lib.hid (HR4.out.later hl); have HR5 := Lib.hid (HR5.out.later hl); have HR6 := Lib.hid (HR6.out.later hl); have HB := Lib.hid (below_on HB.out hl); clear hl
      refine mid_allocP rfl ?_; intro b3 wm N R
      have HD1_3 := Lib.hid (vnew_ne N HR1.out)
      have HD3_4 := Lib.hid (Ne.symm (vnew_ne N HR4.out))
      have HD3_5 := Lib.hid (Ne.symm (vnew_ne N HR5.out))
      have HD3_6 := Lib.hid (Ne.symm (vnew_ne N HR6.out))
      have HG3 := Lib.hid (show wx0.heap.size ≤ b3 by have := HX0.out.size; have := N.at_; omega)
      have hb := N.below
      have HRn := Lib.hid R
      clear N R
      refine hKx.out _ _ (Kept.of_call _ hb) ?_
      have HX0 := Lib.hid (HX0.out.trans (hb.mono HX0.out.size))
      have HR1 := Lib.hid (HR1.out.later hb); have HR4 := Lib.hid (HR4.out.later hb); have HR5 := Lib.hid (HR5.out.later hb); have HR6 := Lib.hid (HR6.out.later hb); have HB := Lib.hid (below_on HB.out hb); clear hb
      have HR3 := HRn; clear HRn
      clear hKx Kx
      simp only [Act.put, pa, pb, pc]
      exact hF.out _ _ ⟨b3, b4, b5, b6, rfl, HR1.out, HR3.out, HR4.out, HR5.out, HR6.out, HD1_3.out, HD1_4.out, HD1_5.out, HD1_6.out, HD3_4.out, HD3_5.out, HD3_6.out, HD4_5.out, HD4_6.out, HD5_6.out, HG3.out, HG4.out, HG5.out, HG6.out, HB.out⟩
    ·intro o ho
     simp only [qa, qb, qc, qd] at ho; subst ho
     refine ⟨by kernel_rfl, fun wn hl Kx hKx => ?_⟩
     have HX0 := Lib.hid (HX0.out.trans (hl.mono HX0.out.size))
     have HR1 := Lib.hid (HR1.out.later hl); have HR4 := Lib.hid (HR4.out.later hl); have HB := Lib.hid (below_on HB.out hl); clear hl
     refine mid_allocP rfl ?_; intro b6 wm N R
     have HD1_6 := Lib.hid (vnew_ne N HR1.out)
     have HD4_6 := Lib.hid (vnew_ne N HR4.out)
     have HG6 := Lib.hid (show wx0.heap.size ≤ b6 by have := HX0.out.size; have := N.at_; omega)
     have hb := N.below
     have HRn := Lib.hid R
     clear N R
     refine hKx.out _ _ (Kept.of_call _ hb) ?_
     have HX0 := Lib.hid (HX0.out.trans (hb.mono HX0.out.size))
     have HR1 := Lib.hid (HR1.out.later hb); have HR4 := Lib.hid (HR4.out.later hb); have HB := Lib.hid (below_on HB.out hb); clear hb
     have HR6 := HRn; clear HRn
     clear hKx Kx
     simp only [Act.put, pa, pb, pc]
     refine mid_some [4, 6] (by kernel_rfl) (by kernel_rfl) (by simp) (by kernel_rfl) (fun i hi => ?_)
     simp only [List.mem_cons, List.not_mem_nil, or_false] at hi
     rcases hi with rfl | rfl
     ·intro o ho
      simp only [qa, qb, qc, qd] at ho; subst ho
      refine ⟨by kernel_rfl, fun wn hl Kx hKx => ?_⟩
      have HX0 := Lib.hid (HX0.out.trans (hl.mono HX0.out.size))
      have HR1 := Lib.hid (HR1.out.later hl); have HR4 := Lib.hid (HR4.out.later hl); have HR6 := Lib.hid (HR6.out.later hl); have HB := Lib.hid (below_on HB.out hl); clear hl
      refine mid_allocP rfl ?_; intro b3 wm N R
      have HD1_3 := Lib.hid (vnew_ne N HR1.out)
      have HD3_4 := Lib.hid (Ne.symm (vnew_ne N HR4.out))
      have HD3_6 := Lib.hid (Ne.symm (vnew_ne N HR6.out))
      have HG3 := Lib.hid (show wx0.heap.size ≤ b3 by have := HX0.out.size; have := N.at_; omega)
      have hb := N.below
      have HRn := Lib.hid R
      clear N R
      refine hKx.out _ _ (Kept.of_call _ hb) ?_
      have HX0 := Lib.hid (HX0.out.trans (hb.mono HX0.out.size))
      have HR1 := Lib.hid (HR1.out.later hb); have HR4 := Lib.hid (HR4.out.later hb); have HR6 := Lib.hid (HR6.out.later hb); have HB := Lib.hid (below_on HB.out hb); clear hb
      have HR3 := HRn; clear HRn
      clear hKx Kx
      simp only [Act.put, pa, pb, pc]
      refine Wid.mid_one 6 (by kernel_rfl) (by kernel_rfl) (by kernel_rfl) (fun o ho => ?_)
      simp only [qa, qb, qc, qd] at ho; subst ho
      refine ⟨by kernel_rfl, fun wn hl Kx hKx => ?_⟩
      have HX0 := Lib.hid (HX0.out.trans (hl.mono HX0.out.size))
      have HR1 := Lib.hid (HR1.out.later hl); have HR4 := Lib.hid (HR4.out.later hl); have HR6 := Lib.hid (HR6.out.later hl); have HR3 := Lib.hid (HR3.out.later hl); have HB := Lib.hid (below_on HB.out hl); clear hl
      refine mid_allocP rfl ?_; intro b5 wm N R
      have HD1_5 := Lib.hid (vnew_ne N HR1.out)
      have HD4_5 := Lib.hid (vnew_ne N HR4.out)
      have HD5_6 := Lib.hid (Ne.symm (vnew_ne N HR6.out))
      have HD3_5 := Lib.hid (vnew_ne N HR3.out)
      have HG5 := Lib.hid (show wx0.heap.size ≤ b5 by have := HX0.out.size; have := N.at_; omega)
      have hb := N.below
      have HRn := Lib.hid R
      clear N R
      refine hKx.out _ _ (Kept.of_call _ hb) ?_
      have HX0 := Lib.hid (HX0.out.trans (hb.mono HX0.out.size))
      have HR1 := Lib.hid (HR1.out.later hb); have HR4 := Lib.hid (HR4.out.later hb); have HR6 := Lib.hid (HR6.out.later hb); have HR3 := Lib.hid (HR3.out.later hb); have HB := Lib.hid (below_on HB.out hb); clear hb
      have HR5 := HRn; clear HRn
      clear hKx Kx
      simp only [Act.put, pa, pb, pc]
      exact hF.out _ _ ⟨b3, b4, b5, b6, rfl, HR1.out, HR3.out, HR4.out, HR5.out, HR6.out, HD1_3.out, HD1_4.out, HD1_5.out, HD1_6.out, HD3_4.out, HD3_5.out, HD3_6.out, HD4_5.out, HD4_6.out, HD5_6.out, HG3.out, HG4.out, HG5.out, HG6.out, HB.out⟩
     ·intro o ho
      simp only [qa, qb, qc, qd] at ho; subst ho
      refine ⟨by kernel_rfl, fun wn hl Kx hKx => ?_⟩
      have HX0 := Lib.hid (HX0.out.trans (hl.mono HX0.out.size))
      have HR1 := Lib.hid (HR1.out.later hl); have HR4 := Lib.hid (HR4.out.later hl); have HR6 := Lib.hid (HR6.out.later hl); have HB := Lib.hid (below_on HB.out hl); clear hl
      refine mid_allocP rfl ?_; intro b5 wm N R
      have HD1_5 := Lib.hid (vnew_ne N HR1.out)
      have HD4_5 := Lib.hid (vnew_ne N HR4.out)
      have HD5_6 := Lib.hid (Ne.symm (vnew_ne N HR6.out))
      have HG5 := Lib.hid (show wx0.heap.size ≤ b5 by have := HX0.out.size; have := N.at_; omega)
      have hb := N.below
      have HRn := Lib.hid R
      clear N R
      refine hKx.out _ _ (Kept.of_call _ hb) ?_
      have HX0 := Lib.hid (HX0.out.trans (hb.mono HX0.out.size))
      have HR1 := Lib.hid (HR1.out.later hb); have HR4 := Lib.hid (HR4.out.later hb); have HR6 := Lib.hid (HR6.out.later hb); have HB := Lib.hid (below_on HB.out hb); clear hb
      have HR5 := HRn; clear HRn
      clear hKx Kx
      simp only [Act.put, pa, pb, pc]
      refine Wid.mid_one 4 (by kernel_rfl) (by kernel_rfl) (by kernel_rfl) (fun o ho => ?_)
      simp only [qa, qb, qc, qd] at ho; subst ho
      refine ⟨by kernel_rfl, fun wn hl Kx hKx => ?_⟩
      have HX0 := Lib.hid (HX0.out.trans (hl.mono HX0.out.size))
      have HR1 := Lib.hid (HR1.out.later hl); have HR4 := Lib.hid (HR4.out.later hl); have HR6 := Lib.hid (HR6.out.later hl); have HR5 := Lib.hid (HR5.out.later hl); have HB := Lib.hid (below_on HB.out hl); clear hl
      refine mid_allocP rfl ?_; intro b3 wm N R
      have HD1_3 := Lib.hid (vnew_ne N HR1.out)
      have HD3_4 := Lib.hid (Ne.symm (vnew_ne N HR4.out))
      have HD3_6 := Lib.hid (Ne.symm (vnew_ne N HR6.out))
      have HD3_5 := Lib.hid (Ne.symm (vnew_ne N HR5.out))
      have HG3 := Lib.hid (show wx0.heap.size ≤ b3 by have := HX0.out.size; have := N.at_; omega)
      have hb := N.below
      have HRn := Lib.hid R
      clear N R
      refine hKx.out _ _ (Kept.of_call _ hb) ?_
      have HX0 := Lib.hid (HX0.out.trans (hb.mono HX0.out.size))
      have HR1 := Lib.hid (HR1.out.later hb); have HR4 := Lib.hid (HR4.out.later hb); have HR6 := Lib.hid (HR6.out.later hb); have HR5 := Lib.hid (HR5.out.later hb); have HB := Lib.hid (below_on HB.out hb); clear hb
      have HR3 := HRn; clear HRn
      clear hKx Kx
      simp only [Act.put, pa, pb, pc]
      exact hF.out _ _ ⟨b3, b4, b5, b6, rfl, HR1.out, HR3.out, HR4.out, HR5.out, HR6.out, HD1_3.out, HD1_4.out, HD1_5.out, HD1_6.out, HD3_4.out, HD3_5.out, HD3_6.out, HD4_5.out, HD4_6.out, HD5_6.out, HG3.out, HG4.out, HG5.out, HG6.out, HB.out⟩
   ·intro o ho
    simp only [qa, qb, qc, qd] at ho; subst ho
    refine ⟨by kernel_rfl, fun wn hl Kx hKx => ?_⟩
    have HX0 := Lib.hid (HX0.out.trans (hl.mono HX0.out.size))
    have HR1 := Lib.hid (HR1.out.later hl); have HB := Lib.hid (below_on HB.out hl); clear hl
    refine mid_allocP rfl ?_; intro b5 wm N R
    have HD1_5 := Lib.hid (vnew_ne N HR1.out)
    have HG5 := Lib.hid (show wx0.heap.size ≤ b5 by have := HX0.out.size; have := N.at_; omega)
    have hb := N.below
    have HRn := Lib.hid R
    clear N R
    refine hKx.out _ _ (Kept.of_call _ hb) ?_
    have HX0 := Lib.hid (HX0.out.trans (hb.mono HX0.out.size))
    have HR1 := Lib.hid (HR1.out.later hb); have HB := Lib.hid (below_on HB.out hb); clear hb
    have HR5 := HRn; clear HRn
    clear hKx Kx
    simp only [Act.put, pa, pb, pc]
    refine mid_some [4, 5, 7] (by kernel_rfl) (by kernel_rfl) (by simp) (by kernel_rfl) (fun i hi => ?_)
    simp only [List.mem_cons, List.not_mem_nil, or_false] at hi
    rcases hi with rfl | rfl | rfl
    ·intro o ho
     simp only [qa, qb, qc, qd] at ho; subst ho
     refine ⟨by kernel_rfl, fun wn hl Kx hKx => ?_⟩
     have HX0 := Lib.hid (HX0.out.trans (hl.mono HX0.out.size))
     have HR1 := Lib.hid (HR1.out.later hl); have HR5 := Lib.hid (HR5.out.later hl); have HB := Lib.hid (below_on HB.out hl); clear hl
     refine mid_allocP rfl ?_; intro b3 wm N R
     have HD1_3 := Lib.hid (vnew_ne N HR1.out)
     have HD3_5 := Lib.hid (Ne.symm (vnew_ne N HR5.out))
     have HG3 := Lib.hid (show wx0.heap.size ≤ b3 by have := HX0.out.size; have := N.at_; omega)
     have hb := N.below
     have HRn := Lib.hid R
     clear N R
     refine hKx.out _ _ (Kept.of_call _ hb) ?_
     have HX0 := Lib.hid (HX0.out.trans (hb.mono HX0.out.size))
     have HR1 := Lib.hid (HR1.out.later hb); have HR5 := Lib.hid (HR5.out.later hb); have HB := Lib.hid (below_on HB.out hb); clear hb
     have HR3 := HRn; clear HRn
     clear hKx Kx
     simp only [Act.put, pa, pb, pc]
     refine mid_some [5, 7] (by kernel_rfl) (by kernel_rfl) (by simp) (by kernel_rfl) (fun i hi => ?_)
     simp only [List.mem_cons, List.not_mem_nil, or_false] at hi
     rcases hi with rfl | rfl
     ·intro o ho
      simp only [qa, qb, qc, qd] at ho; subst ho
      refine ⟨by kernel_rfl, fun wn hl Kx hKx => ?_⟩
      have HX0 := Lib.hid (HX0.out.trans (hl.mono HX0.out.size))
      have HR1 := Lib.hid (HR1.out.later hl); have HR5 := Lib.hid (HR5.out.later hl); have HR3 := Lib.hid (HR3.out.later hl); have HB := Lib.hid (below_on HB.out hl); clear hl
      refine mid_allocP rfl ?_; intro b4 wm N R
      have HD1_4 := Lib.hid (vnew_ne N HR1.out)
      have HD4_5 := Lib.hid (Ne.symm (vnew_ne N HR5.out))
      have HD3_4 := Lib.hid (vnew_ne N HR3.out)
      have HG4 := Lib.hid (show wx0.heap.size ≤ b4 by have := HX0.out.size; have := N.at_; omega)
      have hb := N.below
      have HRn := Lib.hid R
      clear N R
      refine hKx.out _ _ (Kept.of_call _ hb) ?_
      have HX0 := Lib.hid (HX0.out.trans (hb.mono HX0.out.size))
      have HR1 := Lib.hid (HR1.out.later hb); have HR5 := Lib.hid (HR5.out.later hb); have HR3 := Lib.hid (HR3.out.later hb); have HB := Lib.hid (below_on HB.out hb); clear hb
      have HR4 := HRn; clear HRn
      clear hKx Kx
      simp only [Act.put, pa, pb, pc]
      refine Wid.mid_one 7 (by kernel_rfl) (by kernel_rfl) (by kernel_rfl) (fun o ho => ?_)
      simp only [qa, qb, qc, qd] at ho; subst ho
      refine ⟨by kernel_rfl, fun wn hl Kx hKx => ?_⟩
      have HX0 := Lib.hid (HX0.out.trans (hl.mono HX0.out.size))
      have HR1 := Lib.hid (HR1.out.later hl); have HR5 := Lib.hid (HR5.out.later hl); have HR3 := Lib.hid (HR3.out.later hl); have HR4 := Lib.hid (HR4.out.later hl); have HB := Lib.hid (below_on HB.out hl); clear hl
      refine mid_allocP rfl ?_; intro b6 wm N R
      have HD1_6 := Lib.hid (vnew_ne N HR1.out)
      have HD5_6 := Lib.hid (vnew_ne N HR5.out)
      have HD3_6 := Lib.hid (vnew_ne N HR3.out)
      have HD4_6 := Lib.hid (vnew_ne N HR4.out)
      have HG6 := Lib.hid (show wx0.heap.size ≤ b6 by have := HX0.out.size; have := N.at_; omega)
      have hb := N.below
      have HRn := Lib.hid R
      clear N R
      refine hKx.out _ _ (Kept.of_call _ hb) ?_
      have HX0 := Lib.hid (HX0.out.trans (hb.mono HX0.out.size))
      have HR1 := Lib.hid (HR1.out.later hb); have HR5 := Lib.hid (HR5.out.later hb); have HR3 := Lib.hid (HR3.out.later hb); have HR4 := Lib.hid (HR4.out.later hb); have HB := Lib.hid (below_on HB.out hb); clear hb
      have HR6 := HRn; clear HRn
      clear hKx Kx
      simp only [Act.put, pa, pb, pc]
      exact hF.out _ _ ⟨b3, b4, b5, b6, rfl, HR1.out, HR3.out, HR4.out, HR5.out, HR6.out, HD1_3.out, HD1_4.out, HD1_5.out, HD1_6.out, HD3_4.out, HD3_5.out, HD3_6.out, HD4_5.out, HD4_6.out, HD5_6.out, HG3.out, HG4.out, HG5.out, HG6.out, HB.out⟩
     ·intro o ho
      simp only [qa, qb, qc, qd] at ho; subst ho
      refine ⟨by kernel_rfl, fun wn hl Kx hKx => ?_⟩
      have HX0 := Lib.hid (HX0.out.trans (hl.mono HX0.out.size))
      have HR1 := Lib.hid (HR1.out.later hl); have HR5 := Lib.hid (HR5.out.later hl); have HR3 := Lib.hid (HR3.out.later hl); have HB := Lib.hid (below_on HB.out hl); clear hl
      refine mid_allocP rfl ?_; intro b6 wm N R
      have HD1_6 := Lib.hid (vnew_ne N HR1.out)
      have HD5_6 := Lib.hid (vnew_ne N HR5.out)
      have HD3_6 := Lib.hid (vnew_ne N HR3.out)
      have HG6 := Lib.hid (show wx0.heap.size ≤ b6 by have := HX0.out.size; have := N.at_; omega)
      have hb := N.below
      have HRn := Lib.hid R
      clear N R
      refine hKx.out _ _ (Kept.of_call _ hb) ?_
      have HX0 := Lib.hid (HX0.out.trans (hb.mono HX0.out.size))
      have HR1 := Lib.hid (HR1.out.later hb); have HR5 := Lib.hid (HR5.out.later hb); have HR3 := Lib.hid (HR3.out.later hb); have HB := Lib.hid (below_on HB.out hb); clear hb
      have HR6 := HRn; clear HRn
      clear hKx Kx
      simp only [Act.put, pa, pb, pc]
      refine Wid.mid_one 5 (by kernel_rfl) (by kernel_rfl) (by kernel_rfl) (fun o ho => ?_)
      simp only [qa, qb, qc, qd] at ho; subst ho
      refine ⟨by kernel_rfl, fun wn hl Kx hKx => ?_⟩
      have HX0 := Lib.hid (HX0.out.trans (hl.mono HX0.out.size))
      have HR1 := Lib.hid (HR1.out.later hl); have HR5 := Lib.hid (HR5.out.later hl); have HR3 := Lib.hid (HR3.out.later hl); have HR6 := Lib.hid (HR6.out.later hl); have HB := Lib.hid (below_on HB.out hl); clear hl
      refine mid_allocP rfl ?_; intro b4 wm N R
      have HD1_4 := Lib.hid (vnew_ne N HR1.out)
      have HD4_5 := Lib.hid (Ne.symm (vnew_ne N HR5.out))
      have HD3_4 := Lib.hid (vnew_ne N HR3.out)
      have HD4_6 := Lib.hid (Ne.symm (vnew_ne N HR6.out))
      have HG4 := Lib.hid (show wx0.heap.size ≤ b4 by have := HX0.out.size; have := N.at_; omega)
      have hb := N.below
      have HRn := Lib.hid R
      clear N R
      refine hKx.out _ _ (Kept.of_call _ hb) ?_
      have HX0 := Lib.hid (HX0.out.trans (hb.mono HX0.out.size))
      have HR1 := Lib.hid (HR1.out.later hb); have HR5 := Lib.hid (HR5.out.later hb); have HR3 := Lib.hid (HR3.out.later hb); have HR6 := Lib.hid (HR6.out.later hb); have HB := Lib.hid (below_on HB.out hb); clear hb
      have HR4 := HRn; clear HRn
      clear hKx Kx
      simp only [Act.put, pa, pb, pc]
      exact hF.out _ _ ⟨b3, b4, b5, b6, rfl, HR1.out, HR3.out, HR4.out, HR5.out, HR6.out, HD1_3.out, HD1_4.out, HD1_5.out, HD1_6.out, HD3_4.out, HD3_5.out, HD3_6.out, HD4_5.out, HD4_6.out, HD5_6.out, HG3.out, HG4.out, HG5.out, HG6.out, HB.out⟩
    ·intro o ho
     simp only [qa, qb, qc, qd] at ho; subst ho
     refine ⟨by kernel_rfl, fun wn hl Kx hKx => ?_⟩
     have HX0 := Lib.hid (HX0.out.trans (hl.mono HX0.out.size))
     have HR1 := Lib.hid (HR1.out.later hl); have HR5 := Lib.hid (HR5.out.later hl); have HB := Lib.hid (below_on HB.out hl); clear hl
     refine mid_allocP rfl ?_; intro b4 wm N R
     have HD1_4 := Lib.hid (vnew_ne N HR1.out)
     have HD4_5 := Lib.hid (Ne.symm (vnew_ne N HR5.out))
     have HG4 := Lib.hid (show wx0.heap.size ≤ b4 by have := HX0.out.size; have := N.at_; omega)
     have hb := N.below
     have HRn := Lib.hid R
     clear N R
     refine hKx.out _ _ (Kept.of_call _ hb) ?_
     have HX0 := Lib.hid (HX0.out.trans (hb.mono HX0.out.size))
     have HR1 := Lib.hid (HR1.out.later hb); have HR5 := Lib.hid (HR5.out.later hb); have HB := Lib.hid (below_on HB.out hb); clear hb
     have HR4 := HRn; clear HRn
     clear hKx Kx
     simp only [Act.put, pa, pb, pc]
     refine mid_some [4, 7] (by kernel_rfl) (by kernel_rfl) (by simp) (by kernel_rfl) (fun i hi => ?_)
     simp only [List.mem_cons, List.not_mem_nil, or_false] at hi
     rcases hi with rfl | rfl
     ·intro o ho
      simp only [qa, qb, qc, qd] at ho; subst ho
      refine ⟨by kernel_rfl, fun wn hl Kx hKx => ?_⟩
      have HX0 := Lib.hid (HX0.out.trans (hl.mono HX0.out.size))
      have HR1 := Lib.hid (HR1.out.later hl); have HR5 := Lib.hid (HR5.out.later hl); have HR4 := Lib.hid (HR4.out.later hl); have HB := Lib.hid (below_on HB.out hl); clear hl
      refine mid_allocP rfl ?_; intro b3 wm N R
      have HD1_3 := Lib.hid (vnew_ne N HR1.out)
      have HD3_5 := Lib.hid (Ne.symm (vnew_ne N HR5.out))
      have HD3_4 := Lib.hid (Ne.symm (vnew_ne N HR4.out))
      have HG3 := Lib.hid (show wx0.heap.size ≤ b3 by have := HX0.out.size; have := N.at_; omega)
      have hb := N.below
      have HRn := Lib.hid R
      clear N R
      refine hKx.out _ _ (Kept.of_call _ hb) ?_
      have HX0 := Lib.hid (HX0.out.trans (hb.mono HX0.out.size))
      have HR1 := Lib.hid (HR1.out.later hb); have HR5 := Lib.hid (HR5.out.later hb); have HR4 := Lib.hid (HR4.out.later hb); have HB := Lib.hid (below_on HB.out hb); clear hb
      have HR3 := HRn; clear HRn
      clear hKx Kx
      simp only [Act.put, pa, pb, pc]
      refine Wid.mid_one 7 (by kernel_rfl) (by kernel_rfl) (by kernel_rfl) (fun o ho => ?_)
      simp only [qa, qb, qc, qd] at ho; subst ho
      refine ⟨by kernel_rfl, fun wn hl Kx hKx => ?_⟩
      have HX0 := Lib.hid (HX0.out.trans (hl.mono HX0.out.size))
      have HR1 := Lib.hid (HR1.out.later hl); have HR5 := Lib.hid (HR5.out.later hl); have HR4 := Lib.hid (HR4.out.later hl); have HR3 := Lib.hid (HR3.out.later hl); have HB := Lib.hid (below_on HB.out hl); clear hl
      refine mid_allocP rfl ?_; intro b6 wm N R
      have HD1_6 := Lib.hid (vnew_ne N HR1.out)
      have HD5_6 := Lib.hid (vnew_ne N HR5.out)
      have HD4_6 := Lib.hid (vnew_ne N HR4.out)
      have HD3_6 := Lib.hid (vnew_ne N HR3.out)
      have HG6 := Lib.hid (show wx0.heap.size ≤ b6 by have := HX0.out.size; have := N.at_; omega)
      have hb := N.below
      have HRn := Lib.hid R
      clear N R
      refine hKx.out _ _ (Kept.of_call _ hb) ?_
      have HX0 := Lib.hid (HX0.out.trans (hb.mono HX0.out.size))
      have HR1 := Lib.hid (HR1.out.later hb); have HR5 := Lib.hid (HR5.out.later hb); have HR4 := Lib.hid (HR4.out.later hb); have HR3 := Lib.hid (HR3.out.later hb); have HB := Lib.hid (below_on HB.out hb); clear hb
      have HR6 := HRn; clear HRn
      clear hKx Kx
      simp only [Act.put, pa, pb, pc]
      exact hF.out _ _ ⟨b3, b4, b5, b6, rfl, HR1.out, HR3.out, HR4.out, HR5.out, HR6.out, HD1_3.out, HD1_4.out, HD1_5.out, HD1_6.out, HD3_4.out, HD3_5.out, HD3_6.out, HD4_5.out, HD4_6.out, HD5_6.out, HG3.out, HG4.out, HG5.out, HG6.out, HB.out⟩
     ·intro o ho
      simp only [qa, qb, qc, qd] at ho; subst ho
      refine ⟨by kernel_rfl, fun wn hl Kx hKx => ?_⟩
      have HX0 := Lib.hid (HX0.out.trans (hl.mono HX0.out.size))
      have HR1 := Lib.hid (HR1.out.later hl); have HR5 := Lib.hid (HR5.out.later hl); have HR4 := Lib.hid (HR4.out.later hl); have HB := Lib.hid (below_on HB.out hl); clear hl
      refine mid_allocP rfl ?_; intro b6 wm N R
      have HD1_6 := Lib.hid (vnew_ne N HR1.out)
      have HD5_6 := Lib.hid (vnew_ne N HR5.out)
      have HD4_6 := Lib.hid (vnew_ne N HR4.out)
      have HG6 := Lib.hid (show wx0.heap.size ≤ b6 by have := HX0.out.size; have := N.at_; omega)
      have hb := N.below
      have HRn := Lib.hid R
      clear N R
      refine hKx.out _ _ (Kept.of_call _ hb) ?_
      have HX0 := Lib.hid (HX0.out.trans (hb.mono HX0.out.size))
      have HR1 := Lib.hid (HR1.out.later hb); have HR5 := Lib.hid (HR5.out.later hb); have HR4 := Lib.hid (HR4.out.later hb); have HB := Lib.hid (below_on HB.out hb); clear hb
      have HR6 := HRn; clear HRn
      clear hKx Kx
      simp only [Act.put, pa, pb, pc]
      refine Wid.mid_one 4 (by kernel_rfl) (by kernel_rfl) (by kernel_rfl) (fun o ho => ?_)
      simp only [qa, qb, qc, qd] at ho; subst ho
      refine ⟨by kernel_rfl, fun wn hl Kx hKx => ?_⟩
      have HX0 := Lib.hid (HX0.out.trans (hl.mono HX0.out.size))
      have HR1 := Lib.hid (HR1.out.later hl); have HR5 := Lib.hid (HR5.out.later hl); have HR4 := Lib.hid (HR4.out.later hl); have HR6 := Lib.hid (HR6.out.later hl); have HB := Lib.hid (below_on HB.out hl); clear hl
      refine mid_allocP rfl ?_; intro b3 wm N R
      have HD1_3 := Lib.hid (vnew_ne N HR1.out)
      have HD3_5 := Lib.hid (Ne.symm (vnew_ne N HR5.out))
      have HD3_4 := Lib.hid (Ne.symm (vnew_ne N HR4.out))
      have HD3_6 := Lib.hid (Ne.symm (vnew_ne N HR6.out))
      have HG3 := Lib.hid (show wx0.heap.size ≤ b3 by have := HX0.out.size; have := N.at_; omega)
      have hb := N.below
      have HRn := Lib.hid R
      clear N R
      refine hKx.out _ _ (Kept.of_call _ hb) ?_
      have HX0 := Lib.hid (HX0.out.trans (hb.mono HX0.out.size))
      have HR1 := Lib.hid (HR1.out.later hb); have HR5 := Lib.hid (HR5.out.later hb); have HR4 := Lib.hid (HR4.out.later hb); have HR6 := Lib.hid (HR6.out.later hb); have HB := Lib.hid (below_on HB.out hb); clear hb
      have HR3 := HRn; clear HRn
      clear hKx Kx
      simp only [Act.put, pa, pb, pc]
      exact hF.out _ _ ⟨b3, b4, b5, b6, rfl, HR1.out, HR3.out, HR4.out, HR5.out, HR6.out, HD1_3.out, HD1_4.out, HD1_5.out, HD1_6.out, HD3_4.out, HD3_5.out, HD3_6.out, HD4_5.out, HD4_6.out, HD5_6.out, HG3.out, HG4.out, HG5.out, HG6.out, HB.out⟩
    ·intro o ho
     simp only [qa, qb, qc, qd] at ho; subst ho
     refine ⟨by kernel_rfl, fun wn hl Kx hKx => ?_⟩
     have HX0 := Lib.hid (HX0.out.trans (hl.mono HX0.out.size))
     have HR1 := Lib.hid (HR1.out.later hl); have HR5 := Lib.hid (HR5.out.later hl); have HB := Lib.hid (below_on HB.out hl); clear hl
     refine mid_allocP rfl ?_; intro b6 wm N R
     have HD1_6 := Lib.hid (vnew_ne N HR1.out)
     have HD5_6 := Lib.hid (vnew_ne N HR5.out)
     have HG6 := Lib.hid (show wx0.heap.size ≤ b6 by have := HX0.out.size; have := N.at_; omega)
     have hb := N.below
     have HRn := Lib.hid R
     clear N R
     refine hKx.out _ _ (Kept.of_call _ hb) ?_
     have HX0 := Lib.hid (HX0.out.trans (hb.mono HX0.out.size))
     have HR1 := Lib.hid (HR1.out.later hb); have HR5 := Lib.hid (HR5.out.later hb); have HB := Lib.hid (below_on HB.out hb); clear hb
     have HR6 := HRn; clear HRn
     clear hKx Kx
     simp only [Act.put, pa, pb, pc]
     refine mid_some [4, 5] (by kernel_rfl) (by kernel_rfl) (by simp) (by kernel_rfl) (fun i hi => ?_)
     simp only [List.mem_cons, List.not_mem_nil, or_false] at hi
     rcases hi with rfl | rfl
     ·intro o ho
      simp only [qa, qb, qc, qd] at ho; subst ho
      refine ⟨by kernel_rfl, fun wn hl Kx hKx => ?_⟩
      have HX0 := Lib.hid (HX0.out.trans (hl.mono HX0.out.size))
      have HR1 := Lib.hid (HR1.out.later hl); have HR5 := Lib.hid (HR5.out.later hl); have HR6 := Lib.hid (HR6.out.later hl); have HB := Lib.hid (below_on HB.out hl); clear hl
      refine mid_allocP rfl ?_; intro b3 wm N R
      have HD1_3 := Lib.hid (vnew_ne N HR1.out)
      have HD3_5 := Lib.hid (Ne.symm (vnew_ne N HR5.out))
      have HD3_6 := Lib.hid (Ne.symm (vnew_ne N HR6.out))
      have HG3 := Lib.hid (show wx0.heap.size ≤ b3 by have := HX0.out.size; have := N.at_; omega)
      have hb := N.below
      have HRn := Lib.hid R
      clear N R
      refine hKx.out _ _ (Kept.of_call _ hb) ?_
      have HX0 := Lib.hid (HX0.out.trans (hb.mono HX0.out.size))
      have HR1 := Lib.hid (HR1.out.later hb); have HR5 := Lib.hid (HR5.out.later hb); have HR6 := Lib.hid (HR6.out.later hb); have HB := Lib.hid (below_on HB.out hb); clear hb
      have HR3 := HRn; clear HRn
      clear hKx Kx
      simp only [Act.put, pa, pb, pc]
      refine Wid.mid_one 5 (by kernel_rfl) (by kernel_rfl) (by kernel_rfl) (fun o ho => ?_)
      simp only [qa, qb, qc, qd] at ho; subst ho
      refine ⟨by kernel_rfl, fun wn hl Kx hKx => ?_⟩
      have HX0 := Lib.hid (HX0.out.trans (hl.mono HX0.out.size))
      have HR1 := Lib.hid (HR1.out.later hl); have HR5 := Lib.hid (HR5.out.later hl); have HR6 := Lib.hid (HR6.out.later hl); have HR3 := Lib.hid (HR3.out.later hl); have HB := Lib.hid (below_on HB.out hl); clear hl
      refine mid_allocP rfl ?_; intro b4 wm N R
      have HD1_4 := Lib.hid (vnew_ne N HR1.out)
      have HD4_5 := Lib.hid (Ne.symm (vnew_ne N HR5.out))
      have HD4_6 := Lib.hid (Ne.symm (vnew_ne N HR6.out))
      have HD3_4 := Lib.hid (vnew_ne N HR3.out)
      have HG4 := Lib.hid (show wx0.heap.size ≤ b4 by have := HX0.out.size; have := N.at_; omega)
      have hb := N.below
      have HRn := Lib.hid R
      clear N R
      refine hKx.out _ _ (Kept.of_call _ hb) ?_
      have HX0 := Lib.hid (HX0.out.trans (hb.mono HX0.out.size))
      have HR1 := Lib.hid (HR1.out.later hb); have HR5 := Lib.hid (HR5.out.later hb); have HR6 := Lib.hid (HR6.out.later hb); have HR3 := Lib.hid (HR3.out.later hb); have HB := Lib.hid (below_on HB.out hb); clear hb
      have HR4 := HRn; clear HRn
      clear hKx Kx
      simp only [Act.put, pa, pb, pc]
      exact hF.out _ _ ⟨b3, b4, b5, b6, rfl, HR1.out, HR3.out, HR4.out, HR5.out, HR6.out, HD1_3.out, HD1_4.out, HD1_5.out, HD1_6.out, HD3_4.out, HD3_5.out, HD3_6.out, HD4_5.out, HD4_6.out, HD5_6.out, HG3.out, HG4.out, HG5.out, HG6.out, HB.out⟩
     ·intro o ho
      simp only [qa, qb, qc, qd] at ho; subst ho
      refine ⟨by kernel_rfl, fun wn hl Kx hKx => ?_⟩
      have HX0 := Lib.hid (HX0.out.trans (hl.mono HX0.out.size))
      have HR1 := Lib.hid (HR1.out.later hl); have HR5 := Lib.hid (HR5.out.later hl); have HR6 := Lib.hid (HR6.out.later hl); have HB := Lib.hid (below_on HB.out hl); clear hl
      refine mid_allocP rfl ?_; intro b4 wm N R
      have HD1_4 := Lib.hid (vnew_ne N HR1.out)
      have HD4_5 := Lib.hid (Ne.symm (vnew_ne N HR5.out))
      have HD4_6 := Lib.hid (Ne.symm (vnew_ne N HR6.out))
      have HG4 := Lib.hid (show wx0.heap.size ≤ b4 by have := HX0.out.size; have := N.at_; omega)
      have hb := N.below
      have HRn := Lib.hid R
      clear N R
      refine hKx.out _ _ (Kept.of_call _ hb) ?_
      have HX0 := Lib.hid (HX0.out.trans (hb.mono HX0.out.size))
      have HR1 := Lib.hid (HR1.out.later hb); have HR5 := Lib.hid (HR5.out.later hb); have HR6 := Lib.hid (HR6.out.later hb); have HB := Lib.hid (below_on HB.out hb); clear hb
      have HR4 := HRn; clear HRn
      clear hKx Kx
      simp only [Act.put, pa, pb, pc]
      refine Wid.mid_one 4 (by kernel_rfl) (by kernel_rfl) (by kernel_rfl) (fun o ho => ?_)
      simp only [qa, qb, qc, qd] at ho; subst ho
      refine ⟨by kernel_rfl, fun wn hl Kx hKx => ?_⟩
      have HX0 := Lib.hid (HX0.out.trans (hl.mono HX0.out.size))
      have HR1 := Lib.hid (HR1.out.later hl); have HR5 := Lib.hid (HR5.out.later hl); have HR6 := Lib.hid (HR6.out.later hl); have HR4 := Lib.hid (HR4.out.later hl); have HB := Lib.hid (below_on HB.out hl); clear hl
      refine mid_allocP rfl ?_; intro b3 wm N R
      have HD1_3 := Lib.hid (vnew_ne N HR1.out)
      have HD3_5 := Lib.hid (Ne.symm (vnew_ne N HR5.out))
      have HD3_6 := Lib.hid (Ne.symm (vnew_ne N HR6.out))
      have HD3_4 := Lib.hid (Ne.symm (vnew_ne N HR4.out))
      have HG3 := Lib.hid (show wx0.heap.size ≤ b3 by have := HX0.out.size; have := N.at_; omega)
      have hb := N.below
      have HRn := Lib.hid R
      clear N R
      refine hKx.out _ _ (Kept.of_call _ hb) ?_
      have HX0 := Lib.hid (HX0.out.trans (hb.mono HX0.out.size))
      have HR1 := Lib.hid (HR1.out.later hb); have HR5 := Lib.hid (HR5.out.later hb); have HR6 := Lib.hid (HR6.out.later hb); have HR4 := Lib.hid (HR4.out.later hb); have HB := Lib.hid (below_on HB.out hb); clear hb
      have HR3 := HRn; clear HRn
      clear hKx Kx
      simp only [Act.put, pa, pb, pc]
      exact hF.out _ _ ⟨b3, b4, b5, b6, rfl, HR1.out, HR3.out, HR4.out, HR5.out, HR6.out, HD1_3.out, HD1_4.out, HD1_5.out, HD1_6.out, HD3_4.out, HD3_5.out, HD3_6.out, HD4_5.out, HD4_6.out, HD5_6.out, HG3.out, HG4.out, HG5.out, HG6.out, HB.out⟩
   ·intro o ho
    simp only [qa, qb, qc, qd] at ho; subst ho
    refine ⟨by kernel_rfl, fun wn hl Kx hKx => ?_⟩
    have HX0 := Lib.hid (HX0.out.trans (hl.mono HX0.out.size))
    have HR1 := Lib.hid (HR1.out.later hl); have HB := Lib.hid (below_on HB.out hl); clear hl
    refine mid_allocP rfl ?_; intro b6 wm N R
    have HD1_6 := Lib.hid (vnew_ne N HR1.out)
    have HG6 := Lib.hid (show wx0.heap.size ≤ b6 by have := HX0.out.size; have := N.at_; omega)
    have hb := N.below
    have HRn := Lib.hid R
    clear N R
    refine hKx.out _ _ (Kept.of_call _ hb) ?_
    have HX0 := Lib.hid (HX0.out.trans (hb.mono HX0.out.size))
    have HR1 := Lib.hid (HR1.out.later hb); have HB := Lib.hid (below_on HB.out hb); clear hb
    have HR6 := HRn; clear HRn
    clear hKx Kx
    simp only [Act.put, pa, pb, pc]
    refine mid_some [4, 5, 6] (by kernel_rfl) (by kernel_rfl) (by simp) (by kernel_rfl) (fun i hi => ?_)
    simp only [List.mem_cons, List.not_mem_nil, or_false] at hi
    rcases hi with rfl | rfl | rfl
    ·intro o ho
     simp only [qa, qb, qc, qd] at ho; subst ho
     refine ⟨by kernel_rfl, fun wn hl Kx hKx => ?_⟩
     have HX0 := Lib.hid (HX0.out.trans (hl.mono HX0.out.size))
     have HR1 := Lib.hid (HR1.out.later hl); have HR6 := Lib.hid (HR6.out.later hl); have HB := Lib.hid (below_on HB.out hl); clear hl
     refine mid_allocP rfl ?_; intro b3 wm N R
     have HD1_3 := Lib.hid (vnew_ne N HR1.out)
     have HD3_6 := Lib.hid (Ne.symm (vnew_ne N HR6.out))
     have HG3 := Lib.hid (show wx0.heap.size ≤ b3 by have := HX0.out.size; have := N.at_; omega)
     have hb := N.below
     have HRn := Lib.hid R
     clear N R
     refine hKx.out _ _ (Kept.of_call _ hb) ?_
     have HX0 := Lib.hid (HX0.out.trans (hb.mono HX0.out.size))
     have HR1 := Lib.hid (HR1.out.later hb); have HR6 := Lib.hid (HR6.out.later hb); have HB := Lib.hid (below_on HB.out hb); clear hb
     have HR3 := HRn; clear HRn
     clear hKx Kx
     simp only [Act.put, pa, pb, pc]
     refine mid_some [5, 6] (by kernel_rfl) (by kernel_rfl) (by simp) (by kernel_rfl) (fun i hi => ?_)
     simp only [List.mem_cons, List.not_mem_nil, or_false] at hi
     rcases hi with rfl | rfl
     ·intro o ho
      simp only [qa, qb, qc, qd] at ho; subst ho
      refine ⟨by kernel_rfl, fun wn hl Kx hKx => ?_⟩
      have HX0 := Lib.hid (HX0.out.trans (hl.mono HX0.out.size))
      have HR1 := Lib.hid (HR1.out.later hl); have HR6 := Lib.hid (HR6.out.later hl); have HR3 := Lib.hid (HR3.out.later hl); have HB := Lib.hid (below_on HB.out hl); clear hl
      refine mid_allocP rfl ?_; intro b4 wm N R
      have HD1_4 := Lib.hid (vnew_ne N HR1.out)
      have HD4_6 := Lib.hid (Ne.symm (vnew_ne N HR6.out))
      have HD3_4 := Lib.hid (vnew_ne N HR3.out)
      have HG4 := Lib.hid (show wx0.heap.size ≤ b4 by have := HX0.out.size; have := N.at_; omega)
      have hb := N.below
      have HRn := Lib.hid R
      clear N R
      refine hKx.out _ _ (Kept.of_call _ hb) ?_
      have HX0 := Lib.hid (HX0.out.trans (hb.mono HX0.out.size))
      have HR1 := Lib.hid (HR1.out.later hb); have HR6 := Lib.hid (HR6.out.later hb); have HR3 := Lib.hid (HR3.out.later hb); have HB := Lib.hid (below_on HB.out hb); clear hb
      have HR4 := HRn; clear HRn
      clear hKx Kx
      simp only [Act.put, pa, pb, pc]
      refine Wid.mid_one 6 (by kernel_rfl) (by kernel_rfl) (by kernel_rfl) (fun o ho => ?_)
      simp only [qa, qb, qc, qd] at ho; subst ho
      refine ⟨by kernel_rfl, fun wn hl Kx hKx => ?_⟩
      have HX0 := Lib.hid (HX0.out.trans (hl.mono HX0.out.size))
      have HR1 := Lib.hid (HR1.out.later hl); have HR6 := Lib.hid (HR6.out.later hl); have HR3 := Lib.hid (HR3.out.later hl); have HR4 := Lib.hid (HR4.out.later hl); have HB := Lib.hid (below_on HB.out hl); clear hl
      refine mid_allocP rfl ?_; intro b5 wm N R
      have HD1_5 := Lib.hid (vnew_ne N HR1.out)
      have HD5_6 := Lib.hid (Ne.symm (vnew_ne N HR6.out))
      have HD3_5 := Lib.hid (vnew_ne N HR3.out)
      have HD4_5 := Lib.hid (vnew_ne N HR4.out)
      have HG5 := Lib.hid (show wx0.heap.size ≤ b5 by have := HX0.out.size; have := N.at_; omega)
      have hb := N.below
      have HRn := Lib.hid R
      clear N R
      refine hKx.out _ _ (Kept.of_call _ hb) ?_
      have HX0 := Lib.hid (HX0.out.trans (hb.mono HX0.out.size))
      have HR1 := Lib.hid (HR1.out.later hb); have HR6 := Lib.hid (HR6.out.later hb); have HR3 := Lib.hid (HR3.out.later hb); have HR4 := Lib.hid (HR4.out.later hb); have HB := Lib.hid (below_on HB.out hb); clear hb
      have HR5 := HRn; clear HRn
      clear hKx Kx
      simp only [Act.put, pa, pb, pc]
      exact hF.out _ _ ⟨b3, b4, b5, b6, rfl, HR1.out, HR3.out, HR4.out, HR5.out, HR6.out, HD1_3.out, HD1_4.out, HD1_5.out, HD1_6.out, HD3_4.out, HD3_5.out, HD3_6.out, HD4_5.out, HD4_6.out, HD5_6.out, HG3.out, HG4.out, HG5.out, HG6.out, HB.out⟩
     ·intro o ho
      simp only [qa, qb, qc, qd] at ho; subst ho
      refine ⟨by kernel_rfl, fun wn hl Kx hKx => ?_⟩
      have HX0 := Lib.hid (HX0.out.trans (hl.mono HX0.out.size))
      have HR1 := Lib.hid (HR1.out.later hl); have HR6 := Lib.hid (HR6.out.later hl); have HR3 := Lib.hid (HR3.out.later hl); have HB := Lib.hid (below_on HB.out hl); clear hl
      refine mid_allocP rfl ?_; intro b5 wm N R
      have HD1_5 := Lib.hid (vnew_ne N HR1.out)
      have HD5_6 := Lib.hid (Ne.symm (vnew_ne N HR6.out))
      have HD3_5 := Lib.hid (vnew_ne N HR3.out)
      have HG5 := Lib.hid (show wx0.heap.size ≤ b5 by have := HX0.out.size; have := N.at_; omega)
      have hb := N.below
      have HRn := Lib.hid R
      clear N R
      refine hKx.out _ _ (Kept.of_call _ hb) ?_
      have HX0 := Lib.hid (HX0.out.trans (hb.mono HX0.out.size))
      have HR1 := Lib.hid (HR1.out.later hb); have HR6 := Lib.hid (HR6.out.later hb); have HR3 := Lib.hid (HR3.out.later hb); have HB := Lib.hid (below_on HB.out hb); clear hb
      have HR5 := HRn; clear HRn
      clear hKx Kx
      simp only [Act.put, pa, pb, pc]
      refine Wid.mid_one 5 (by kernel_rfl) (by kernel_rfl) (by kernel_rfl) (fun o ho => ?_)
      simp only [qa, qb, qc, qd] at ho; subst ho
      refine ⟨by kernel_rfl, fun wn hl Kx hKx => ?_⟩
      have HX0 := Lib.hid (HX0.out.trans (hl.mono HX0.out.size))
      have HR1 := Lib.hid (HR1.out.later hl); have HR6 := Lib.hid (HR6.out.later hl); have HR3 := Lib.hid (HR3.out.later hl); have HR5 := Lib.hid (HR5.out.later hl); have HB := Lib.hid (below_on HB.out hl); clear hl
      refine mid_allocP rfl ?_; intro b4 wm N R
      have HD1_4 := Lib.hid (vnew_ne N HR1.out)
      have HD4_6 := Lib.hid (Ne.symm (vnew_ne N HR6.out))
      have HD3_4 := Lib.hid (vnew_ne N HR3.out)
      have HD4_5 := Lib.hid (Ne.symm (vnew_ne N HR5.out))
      have HG4 := Lib.hid (show wx0.heap.size ≤ b4 by have := HX0.out.size; have := N.at_; omega)
      have hb := N.below
      have HRn := Lib.hid R
      clear N R
      refine hKx.out _ _ (Kept.of_call _ hb) ?_
      have HX0 := Lib.hid (HX0.out.trans (hb.mono HX0.out.size))
      have HR1 := Lib.hid (HR1.out.later hb); have HR6 := Lib.hid (HR6.out.later hb); have HR3 := Lib.hid (HR3.out.later hb); have HR5 := Lib.hid (HR5.out.later hb); have HB := Lib.hid (below_on HB.out hb); clear hb
      have HR4 := HRn; clear HRn
      clear hKx Kx
      simp only [Act.put, pa, pb, pc]
      exact hF.out _ _ ⟨b3, b4, b5, b6, rfl, HR1.out, HR3.out, HR4.out, HR5.out, HR6.out, HD1_3.out, HD1_4.out, HD1_5.out, HD1_6.out, HD3_4.out, HD3_5.out, HD3_6.out, HD4_5.out, HD4_6.out, HD5_6.out, HG3.out, HG4.out, HG5.out, HG6.out, HB.out⟩
    ·intro o ho
     simp only [qa, qb, qc, qd] at ho; subst ho
     refine ⟨by kernel_rfl, fun wn hl Kx hKx => ?_⟩
     have HX0 := Lib.hid (HX0.out.trans (hl.mono HX0.out.size))
     have HR1 := Lib.hid (HR1.out.later hl); have HR6 := Lib.hid (HR6.out.later hl); have HB := Lib.hid (below_on HB.out hl); clear hl
     refine mid_allocP rfl ?_; intro b4 wm N R
     have HD1_4 := Lib.hid (vnew_ne N HR1.out)
     have HD4_6 := Lib.hid (Ne.symm (vnew_ne N HR6.out))
     have HG4 := Lib.hid (show wx0.heap.size ≤ b4 by have := HX0.out.size; have := N.at_; omega)
     have hb := N.below
     have HRn := Lib.hid R
     clear N R
     refine hKx.out _ _ (Kept.of_call _ hb) ?_
     have HX0 := Lib.hid (HX0.out.trans (hb.mono HX0.out.size))
     have HR1 := Lib.hid (HR1.out.later hb); have HR6 := Lib.hid (HR6.out.later hb); have HB := Lib.hid (below_on HB.out hb); clear hb
     have HR4 := HRn; clear HRn
     clear hKx Kx
     simp only [Act.put, pa, pb, pc]
     refine mid_some [4, 6] (by kernel_rfl) (by kernel_rfl) (by simp) (by kernel_rfl) (fun i hi => ?_)
     simp only [List.mem_cons, List.not_mem_nil, or_false] at hi
     rcases hi with rfl | rfl
     ·intro o ho
      simp only [qa, qb, qc, qd] at ho; subst ho
      refine ⟨by kernel_rfl, fun wn hl Kx hKx => ?_⟩
      have HX0 := Lib.hid (HX0.out.trans (hl.mono HX0.out.size))
      have HR1 := Lib.hid (HR1.out.later hl); have HR6 := Lib.hid (HR6.out.later hl); have HR4 := Lib.hid (HR4.out.later hl); have HB := Lib.hid (below_on HB.out hl); clear hl
      refine mid_allocP rfl ?_; intro b3 wm N R
      have HD1_3 := Lib.hid (vnew_ne N HR1.out)
      have HD3_6 := Lib.hid (Ne.symm (vnew_ne N HR6.out))
      have HD3_4 := Lib.hid (Ne.symm (vnew_ne N HR4.out))
      have HG3 := Lib.hid (show wx0.heap.size ≤ b3 by have := HX0.out.size; have := N.at_; omega)
      have hb := N.below
      have HRn := Lib.hid R
      clear N R
      refine hKx.out _ _ (Kept.of_call _ hb) ?_
      have HX0 := Lib.hid (HX0.out.trans (hb.mono HX0.out.size))
      have HR1 := Lib.hid (HR1.out.later hb); have HR6 := Lib.hid (HR6.out.later hb); have HR4 := Lib.hid (HR4.out.later hb); have HB := Lib.hid (below_on HB.out hb); clear hb
      have HR3 := HRn; clear HRn
      clear hKx Kx
      simp only [Act.put, pa, pb, pc]
      refine Wid.mid_one 6 (by kernel_rfl) (by kernel_rfl) (by kernel_rfl) (fun o ho => ?_)
      simp only [qa, qb, qc, qd] at ho; subst ho
      refine ⟨by kernel_rfl, fun wn hl Kx hKx => ?_⟩
      have HX0 := Lib.hid (HX0.out.trans (hl.mono HX0.out.size))
      have HR1 := Lib.hid (HR1.out.later hl); have HR6 := Lib.hid (HR6.out.later hl); have HR4 := Lib.hid (HR4.out.later hl); have HR3 := Lib.hid (HR3.out.later hl); have HB := Lib.hid (below_on HB.out hl); clear hl
      refine mid_allocP rfl ?_; intro b5 wm N R
      have HD1_5 := Lib.hid (vnew_ne N HR1.out)
      have HD5_6 := Lib.hid (Ne.symm (vnew_ne N HR6.out))
      have HD4_5 := Lib.hid (vnew_ne N HR4.out)
      have HD3_5 := Lib.hid (vnew_ne N HR3.out)
      have HG5 := Lib.hid (show wx0.heap.size ≤ b5 by have := HX0.out.size; have := N.at_; omega)
      have hb := N.below
      have HRn := Lib.hid R
      clear N R
      refine hKx.out _ _ (Kept.of_call _ hb) ?_
      have HX0 := Lib.hid (HX0.out.trans (hb.mono HX0.out.size))
      have HR1 := Lib.hid (HR1.out.later hb); have HR6 := Lib.hid (HR6.out.later hb); have HR4 := Lib.hid (HR4.out.later hb); have HR3 := Lib.hid (HR3.out.later hb); have HB := Lib.hid (below_on HB.out hb); clear hb
      have HR5 := HRn; clear HRn
      clear hKx Kx
      simp only [Act.put, pa, pb, pc]
      exact hF.out _ _ ⟨b3, b4, b5, b6, rfl, HR1.out, HR3.out, HR4.out, HR5.out, HR6.out, HD1_3.out, HD1_4.out, HD1_5.out, HD1_6.out, HD3_4.out, HD3_5.out, HD3_6.out, HD4_5.out, HD4_6.out, HD5_6.out, HG3.out, HG4.out, HG5.out, HG6.out, HB.out⟩
     ·intro o ho
      simp only [qa, qb, qc, qd] at ho; subst ho
      refine ⟨by kernel_rfl, fun wn hl Kx hKx => ?_⟩
      have HX0 := Lib.hid (HX0.out.trans (hl.mono HX0.out.size))
      have HR1 := Lib.hid (HR1.out.later hl); have HR6 := Lib.hid (HR6.out.later hl); have HR4 := Lib.hid (HR4.out.later hl); have HB := Lib.hid (below_on HB.out hl); clear hl
      refine mid_allocP rfl ?_; intro b5 wm N R
      have HD1_5 := Lib.hid (vnew_ne N HR1.out)
      have HD5_6 := Lib.hid (Ne.symm (vnew_ne N HR6.out))
      have HD4_5 := Lib.hid (vnew_ne N HR4.out)
      have HG5 := Lib.hid (show wx0.heap.size ≤ b5 by have := HX0.out.size; have := N.at_; omega)
      have hb := N.below
      have HRn := Lib.hid R
      clear N R
      refine hKx.out _ _ (Kept.of_call _ hb) ?_
      have HX0 := Lib.hid (HX0.out.trans (hb.mono HX0.out.size))
      have HR1 := Lib.hid (HR1.out.later hb); have HR6 := Lib.hid (HR6.out.later hb); have HR4 := Lib.hid (HR4.out.later hb); have HB := Lib.hid (below_on HB.out hb); clear hb
      have HR5 := HRn; clear HRn
      clear hKx Kx
      simp only [Act.put, pa, pb, pc]
      refine Wid.mid_one 4 (by kernel_rfl) (by kernel_rfl) (by kernel_rfl) (fun o ho => ?_)
      simp only [qa, qb, qc, qd] at ho; subst ho
      refine ⟨by kernel_rfl, fun wn hl Kx hKx => ?_⟩
      have HX0 := Lib.hid (HX0.out.trans (hl.mono HX0.out.size))
      have HR1 := Lib.hid (HR1.out.later hl); have HR6 := Lib.hid (HR6.out.later hl); have HR4 := Lib.hid (HR4.out.later hl); have HR5 := Lib.hid (HR5.out.later hl); have HB := Lib.hid (below_on HB.out hl); clear hl
      refine mid_allocP rfl ?_; intro b3 wm N R
      have HD1_3 := Lib.hid (vnew_ne N HR1.out)
      have HD3_6 := Lib.hid (Ne.symm (vnew_ne N HR6.out))
      have HD3_4 := Lib.hid (Ne.symm (vnew_ne N HR4.out))
      have HD3_5 := Lib.hid (Ne.symm (vnew_ne N HR5.out))
      have HG3 := Lib.hid (show wx0.heap.size ≤ b3 by have := HX0.out.size; have := N.at_; omega)
      have hb := N.below
      have HRn := Lib.hid R
      clear N R
      refine hKx.out _ _ (Kept.of_call _ hb) ?_
      have HX0 := Lib.hid (HX0.out.trans (hb.mono HX0.out.size))
      have HR1 := Lib.hid (HR1.out.later hb); have HR6 := Lib.hid (HR6.out.later hb); have HR4 := Lib.hid (HR4.out.later hb); have HR5 := Lib.hid (HR5.out.later hb); have HB := Lib.hid (below_on HB.out hb); clear hb
      have HR3 := HRn; clear HRn
      clear hKx Kx
      simp only [Act.put, pa, pb, pc]
      exact hF.out _ _ ⟨b3, b4, b5, b6, rfl, HR1.out, HR3.out, HR4.out, HR5.out, HR6.out, HD1_3.out, HD1_4.out, HD1_5.out, HD1_6.out, HD3_4.out, HD3_5.out, HD3_6.out, HD4_5.out, HD4_6.out, HD5_6.out, HG3.out, HG4.out, HG5.out, HG6.out, HB.out⟩
    ·intro o ho
     simp only [qa, qb, qc, qd] at ho; subst ho
     refine ⟨by kernel_rfl, fun wn hl Kx hKx => ?_⟩
     have HX0 := Lib.hid (HX0.out.trans (hl.mono HX0.out.size))
     have HR1 := Lib.hid (HR1.out.later hl); have HR6 := Lib.hid (HR6.out.later hl); have HB := Lib.hid (below_on HB.out hl); clear hl
     refine mid_allocP rfl ?_; intro b5 wm N R
     have HD1_5 := Lib.hid (vnew_ne N HR1.out)
     have HD5_6 := Lib.hid (Ne.symm (vnew_ne N HR6.out))
     have HG5 := Lib.hid (show wx0.heap.size ≤ b5 by have := HX0.out.size; have := N.at_; omega)
     have hb := N.below
     have HRn := Lib.hid R
     clear N R
     refine hKx.out _ _ (Kept.of_call _ hb) ?_
     have HX0 := Lib.hid (HX0.out.trans (hb.mono HX0.out.size))
     have HR1 := Lib.hid (HR1.out.later hb); have HR6 := Lib.hid (HR6.out.later hb); have HB := Lib.hid (below_on HB.out hb); clear hb
     have HR5 := HRn; clear HRn
     clear hKx Kx
     simp only [Act.put, pa, pb, pc]
     refine mid_some [4, 5] (by kernel_rfl) (by kernel_rfl) (by simp) (by kernel_rfl) (fun i hi => ?_)
     simp only [List.mem_cons, List.not_mem_nil, or_false] at hi
     rcases hi with rfl | rfl
     ·intro o ho
      simp only [qa, qb, qc, qd] at ho; subst ho
      refine ⟨by kernel_rfl, fun wn hl Kx hKx => ?_⟩
      have HX0 := Lib.hid (HX0.out.trans (hl.mono HX0.out.size))
      have HR1 := Lib.hid (HR1.out.later hl); have HR6 := Lib.hid (HR6.out.later hl); have HR5 := Lib.hid (HR5.out.later hl); have HB := Lib.hid (below_on HB.out hl); clear hl
      refine mid_allocP rfl ?_; intro b3 wm N R
      have HD1_3 := Lib.hid (vnew_ne N HR1.out)
      have HD3_6 := Lib.hid (Ne.symm (vnew_ne N HR6.out))
      have HD3_5 := Lib.hid (Ne.symm (vnew_ne N HR5.out))
      have HG3 := Lib.hid (show wx0.heap.size ≤ b3 by have := HX0.out.size; have := N.at_; omega)
      have hb := N.below
      have HRn := Lib.hid R
      clear N R
      refine hKx.out _ _ (Kept.of_call _ hb) ?_
      have HX0 := Lib.hid (HX0.out.trans (hb.mono HX0.out.size))
      have HR1 := Lib.hid (HR1.out.later hb); have HR6 := Lib.hid (HR6.out.later hb); have HR5 := Lib.hid (HR5.out.later hb); have HB := Lib.hid (below_on HB.out hb); clear hb
      have HR3 := HRn; clear HRn
      clear hKx Kx
      simp only [Act.put, pa, pb, pc]
      refine Wid.mid_one 5 (by kernel_rfl) (by kernel_rfl) (by kernel_rfl) (fun o ho => ?_)
      simp only [qa, qb, qc, qd] at ho; subst ho
      refine ⟨by kernel_rfl, fun wn hl Kx hKx => ?_⟩
      have HX0 := Lib.hid (HX0.out.trans (hl.mono HX0.out.size))
      have HR1 := Lib.hid (HR1.out.later hl); have HR6 := Lib.hid (HR6.out.later hl); have HR5 := Lib.hid (HR5.out.later hl); have HR3 := Lib.hid (HR3.out.later hl); have HB := Lib.hid (below_on HB.out hl); clear hl
      refine mid_allocP rfl ?_; intro b4 wm N R
      have HD1_4 := Lib.hid (vnew_ne N HR1.out)
      have HD4_6 := Lib.hid (Ne.symm (vnew_ne N HR6.out))
      have HD4_5 := Lib.hid (Ne.symm (vnew_ne N HR5.out))
      have HD3_4 := Lib.hid (vnew_ne N HR3.out)
      have HG4 := Lib.hid (show wx0.heap.size ≤ b4 by have := HX0.out.size; have := N.at_; omega)
      have hb := N.below
      have HRn := Lib.hid R
      clear N R
      refine hKx.out _ _ (Kept.of_call _ hb) ?_
      have HX0 := Lib.hid (HX0.out.trans (hb.mono HX0.out.size))
      have HR1 := Lib.hid (HR1.out.later hb); have HR6 := Lib.hid (HR6.out.later hb); have HR5 := Lib.hid (HR5.out.later hb); have HR3 := Lib.hid (HR3.out.later hb); have HB := Lib.hid (below_on HB.out hb); clear hb
      have HR4 := HRn; clear HRn
      clear hKx Kx
      simp only [Act.put, pa, pb, pc]
      exact hF.out _ _ ⟨b3, b4, b5, b6, rfl, HR1.out, HR3.out, HR4.out, HR5.out, HR6.out, HD1_3.out, HD1_4.out, HD1_5.out, HD1_6.out, HD3_4.out, HD3_5.out, HD3_6.out, HD4_5.out, HD4_6.out, HD5_6.out, HG3.out, HG4.out, HG5.out, HG6.out, HB.out⟩
     ·intro o ho
      simp only [qa, qb, qc, qd] at ho; subst ho
      refine ⟨by kernel_rfl, fun wn hl Kx hKx => ?_⟩
      have HX0 := Lib.hid (HX0.out.trans (hl.mono HX0.out.size))
      have HR1 := Lib.hid (HR1.out.later hl); have HR6 := Lib.hid (HR6.out.later hl); have HR5 := Lib.hid (HR5.out.later hl); have HB := Lib.hid (below_on HB.out hl); clear hl
      refine mid_allocP rfl ?_; intro b4 wm N R
      have HD1_4 := Lib.hid (vnew_ne N HR1.out)
      have HD4_6 := Lib.hid (Ne.symm (vnew_ne N HR6.out))
      have HD4_5 := Lib.hid (Ne.symm (vnew_ne N HR5.out))
      have HG4 := Lib.hid (show wx0.heap.size ≤ b4 by have := HX0.out.size; have := N.at_; omega)
      have hb := N.below
      have HRn := Lib.hid R
      clear N R
      refine hKx.out _ _ (Kept.of_call _ hb) ?_
      have HX0 := Lib.hid (HX0.out.trans (hb.mono HX0.out.size))
      have HR1 := Lib.hid (HR1.out.later hb); have HR6 := Lib.hid (HR6.out.later hb); have HR5 := Lib.hid (HR5.out.later hb); have HB := Lib.hid (below_on HB.out hb); clear hb
      have HR4 := HRn; clear HRn
      clear hKx Kx
      simp only [Act.put, pa, pb, pc]
      refine Wid.mid_one 4 (by kernel_rfl) (by kernel_rfl) (by kernel_rfl) (fun o ho => ?_)
      simp only [qa, qb, qc, qd] at ho; subst ho
      refine ⟨by kernel_rfl, fun wn hl Kx hKx => ?_⟩
      have HX0 := Lib.hid (HX0.out.trans (hl.mono HX0.out.size))
      have HR1 := Lib.hid (HR1.out.later hl); have HR6 := Lib.hid (HR6.out.later hl); have HR5 := Lib.hid (HR5.out.later hl); have HR4 := Lib.hid (HR4.out.later hl); have HB := Lib.hid (below_on HB.out hl); clear hl
      refine mid_allocP rfl ?_; intro b3 wm N R
      have HD1_3 := Lib.hid (vnew_ne N HR1.out)
      have HD3_6 := Lib.hid (Ne.symm (vnew_ne N HR6.out))
      have HD3_5 := Lib.hid (Ne.symm (vnew_ne N HR5.out))
      have HD3_4 := Lib.hid (Ne.symm (vnew_ne N HR4.out))
      have HG3 := Lib.hid (show wx0.heap.size ≤ b3 by have := HX0.out.size; have := N.at_; omega)
      have hb := N.below
      have HRn := Lib.hid R
      clear N R
      refine hKx.out _ _ (Kept.of_call _ hb) ?_
      have HX0 := Lib.hid (HX0.out.trans (hb.mono HX0.out.size))
      have HR1 := Lib.hid (HR1.out.later hb); have HR6 := Lib.hid (HR6.out.later hb); have HR5 := Lib.hid (HR5.out.later hb); have HR4 := Lib.hid (HR4.out.later hb); have HB := Lib.hid (below_on HB.out hb); clear hb
      have HR3 := HRn; clear HRn
      clear hKx Kx
      simp only [Act.put, pa, pb, pc]
      exact hF.out _ _ ⟨b3, b4, b5, b6, rfl, HR1.out, HR3.out, HR4.out, HR5.out, HR6.out, HD1_3.out, HD1_4.out, HD1_5.out, HD1_6.out, HD3_4.out, HD3_5.out, HD3_6.out, HD4_5.out, HD4_6.out, HD5_6.out, HG3.out, HG4.out, HG5.out, HG6.out, HB.out⟩
 rintro a wx ⟨b3, b4, b5, b6, rfl, hr1, hr3, hr4, hr5, hr6, hd1_3, hd1_4, hd1_5, hd1_6, hd3_4, hd3_5, hd3_6, hd4_5, hd4_6, hd5_6, hg3, hg4, hg5, hg6, hbx⟩
 refine (‹∀ (a : Act) (w : World), Code.wp _ _ _ a w → _›) _ _ ?_
 have HB := Lib.hid hbx
 have HR1 := Lib.hid hr1
 have HR3 := Lib.hid hr3
 have HR4 := Lib.hid hr4
 have HR5 := Lib.hid hr5
 have HR6 := Lib.hid hr6
 have HD1_3 := Lib.hid hd1_3
 have HD3_1 := Lib.hid (Ne.symm hd1_3)
 have HD1_4 := Lib.hid hd1_4
 have HD4_1 := Lib.hid (Ne.symm hd1_4)
 have HD1_5 := Lib.hid hd1_5
 have HD5_1 := Lib.hid (Ne.symm hd1_5)
 have HD1_6 := Lib.hid hd1_6
 have HD6_1 := Lib.hid (Ne.symm hd1_6)
 have HD3_4 := Lib.hid hd3_4
 have HD4_3 := Lib.hid (Ne.symm hd3_4)
 have HD3_5 := Lib.hid hd3_5
 have HD5_3 := Lib.hid (Ne.symm hd3_5)
 have HD3_6 := Lib.hid hd3_6
 have HD6_3 := Lib.hid (Ne.symm hd3_6)
 have HD4_5 := Lib.hid hd4_5
 have HD5_4 := Lib.hid (Ne.symm hd4_5)
 have HD4_6 := Lib.hid hd4_6
 have HD6_4 := Lib.hid (Ne.symm hd4_6)
 have HD5_6 := Lib.hid hd5_6
 have HD6_5 := Lib.hid (Ne.symm hd5_6)
 have HG3 := Lib.hid (Nat.le_trans HW0.out hg3)
 have HG4 := Lib.hid (Nat.le_trans HW0.out hg4)
 have HG5 := Lib.hid (Nat.le_trans HW0.out hg5)
 have HG6 := Lib.hid (Nat.le_trans HW0.out hg6)
 clear hbx hr1 hr3 hr4 hr5 hr6 hd1_3 hd1_4 hd1_5 hd1_6 hd3_4 hd3_5 hd3_6 hd4_5 hd4_6 hd5_6 hg3 hg4 hg5 hg6
 have HQu1 := Lib.hid trivial
 have HQu2 := Lib.hid trivial
 have HQu3 := Lib.hid trivial
 have HQu4 := Lib.hid trivial
 have HQu5 := Lib.hid trivial
 have HQu6 := Lib.hid trivial
 have HQu7 := Lib.hid trivial
 have HQu8 := Lib.hid trivial
 have HQu9 := Lib.hid trivial
 have HQu10 := Lib.hid trivial
 have HQu11 := Lib.hid trivial
 have HQu12 := Lib.hid trivial
 have HQu13 := Lib.hid trivial
 have HQu14 := Lib.hid trivial
 have HQu15 := Lib.hid trivial
 have HQu16 := Lib.hid trivial
 have HQu17 := Lib.hid trivial
 have HQu18 := Lib.hid trivial
 have HQu19 := Lib.hid trivial
 have HQu20 := Lib.hid trivial
 have HQu21 := Lib.hid trivial
 have HQu22 := Lib.hid trivial
 have HQu23 := Lib.hid trivial
 have HQu24 := Lib.hid trivial
 have HQu25 := Lib.hid trivial
 have HQu26 := Lib.hid trivial
 have HQu27 := Lib.hid trivial
 have HQu28 := Lib.hid trivial
 go_wp2_with (first
   | (clear HQu1; refine step_cell (by rfl) 5 _ _ rfl b3 61 rfl .u8 0 rfl _ HR3.out (by omega) rfl size5 ?_; intro wn U R; have HR1 := Lib.hid (HR1.out.apart U HD1_3.out); have HR4 := Lib.hid (HR4.out.apart U HD4_3.out); have HR5 := Lib.hid (HR5.out.apart U HD5_3.out); have HR6 := Lib.hid (HR6.out.apart U HD6_3.out); have HR3 := Lib.hid R; have HB := Lib.hid (HB.out.trans (U.below HG3.out)); clear U R)
   | (clear HQu2; refine step_cell (by rfl) 5 _ _ rfl b4 57 rfl .u8 1 rfl _ HR4.out (by omega) rfl size5 ?_; intro wn U R; have HR1 := Lib.hid (HR1.out.apart U HD1_4.out); have HR3 := Lib.hid (HR3.out.apart U HD3_4.out); have HR5 := Lib.hid (HR5.out.apart U HD5_4.out); have HR6 := Lib.hid (HR6.out.apart U HD6_4.out); have HR4 := Lib.hid R; have HB := Lib.hid (HB.out.trans (U.below HG4.out)); clear U R)
   | (clear HQu3; refine step_cell (by rfl) 5 _ _ rfl b5 8 rfl .u8 0 rfl _ HR5.out (by omega) rfl size5 ?_; intro wn U R; have HR1 := Lib.hid (HR1.out.apart U HD1_5.out); have HR3 := Lib.hid (HR3.out.apart U HD3_5.out); have HR4 := Lib.hid (HR4.out.apart U HD4_5.out); have HR6 := Lib.hid (HR6.out.apart U HD6_5.out); have HR5 := Lib.hid R; have HB := Lib.hid (HB.out.trans (U.below HG5.out)); clear U R)
   | (clear HQu4; refine step_cell (by rfl) 26 _ _ rfl b6 83 rfl .i8 20 rfl _ HR6.out (by omega) rfl size26b ?_; intro wn U R; have HR1 := Lib.hid (HR1.out.apart U HD1_6.out); have HR3 := Lib.hid (HR3.out.apart U HD3_6.out); have HR4 := Lib.hid (HR4.out.apart U HD4_6.out); have HR5 := Lib.hid (HR5.out.apart U HD5_6.out); have HR6 := Lib.hid R; have HB := Lib.hid (HB.out.trans (U.below HG6.out)); clear U R)
   | (clear HQu5; refine step_build rfl 31 _ rfl (posA vaE0) built_E ?_)
   | (clear HQu6; refine step_alloc rfl rfl ?_; intro b7 wn N R; have HD1_7 := Lib.hid (vnew_ne N HR1.out); have HD7_1 := Lib.hid (Ne.symm HD1_7.out); have HR1 := Lib.hid (vnew_row N HR1.out); have HD3_7 := Lib.hid (vnew_ne N HR3.out); have HD7_3 := Lib.hid (Ne.symm HD3_7.out); have HR3 := Lib.hid (vnew_row N HR3.out); have HD4_7 := Lib.hid (vnew_ne N HR4.out); have HD7_4 := Lib.hid (Ne.symm HD4_7.out); have HR4 := Lib.hid (vnew_row N HR4.out); have HD5_7 := Lib.hid (vnew_ne N HR5.out); have HD7_5 := Lib.hid (Ne.symm HD5_7.out); have HR5 := Lib.hid (vnew_row N HR5.out); have HD6_7 := Lib.hid (vnew_ne N HR6.out); have HD7_6 := Lib.hid (Ne.symm HD6_7.out); have HR6 := Lib.hid (vnew_row N HR6.out); have HR7 := Lib.hid R; have HG7 := Lib.hid (show w.heap.size ≤ b7 by have := HB.out.size; have := N.at_; omega); have HB := Lib.hid (below_on HB.out N.below); clear N R)
   | (clear HQu7; refine step_store rfl _ _ rfl b7 rfl zeroP vaE0 rfl ?_ ?_; exact HR7.out; intro wn U R; have HR1 := Lib.hid (HR1.out.apart U HD1_7.out); have HR3 := Lib.hid (HR3.out.apart U HD3_7.out); have HR4 := Lib.hid (HR4.out.apart U HD4_7.out); have HR5 := Lib.hid (HR5.out.apart U HD5_7.out); have HR6 := Lib.hid (HR6.out.apart U HD6_7.out); have HR7 := Lib.hid R; have HB := Lib.hid (HB.out.trans (U.below HG7.out)); clear U R)
   | (clear HQu8; refine step_cell (by rfl) 5 _ _ rfl b7 5 rfl .u8 6 rfl _ HR7.out (by omega) rfl size5 ?_; intro wn U R; have HR1 := Lib.hid (HR1.out.apart U HD1_7.out); have HR3 := Lib.hid (HR3.out.apart U HD3_7.out); have HR4 := Lib.hid (HR4.out.apart U HD4_7.out); have HR5 := Lib.hid (HR5.out.apart U HD5_7.out); have HR6 := Lib.hid (HR6.out.apart U HD6_7.out); have HR7 := Lib.hid R; have HB := Lib.hid (HB.out.trans (U.below HG7.out)); clear U R)
   | (clear HQu9; refine step_cell (by rfl) 5 _ _ rfl b7 61 rfl .u8 12 rfl _ HR7.out (by omega) rfl size5 ?_; intro wn U R; have HR1 := Lib.hid (HR1.out.apart U HD1_7.out); have HR3 := Lib.hid (HR3.out.apart U HD3_7.out); have HR4 := Lib.hid (HR4.out.apart U HD4_7.out); have HR5 := Lib.hid (HR5.out.apart U HD5_7.out); have HR6 := Lib.hid (HR6.out.apart U HD6_7.out); have HR7 := Lib.hid R; have HB := Lib.hid (HB.out.trans (U.below HG7.out)); clear U R)
   | (clear HQu10; refine step_cell (by rfl) 5 _ _ rfl b7 57 rfl .u8 14 rfl _ HR7.out (by omega) rfl size5 ?_; intro wn U R; have HR1 := Lib.hid (HR1.out.apart U HD1_7.out); have HR3 := Lib.hid (HR3.out.apart U HD3_7.out); have HR4 := Lib.hid (HR4.out.apart U HD4_7.out); have HR5 := Lib.hid (HR5.out.apart U HD5_7.out); have HR6 := Lib.hid (HR6.out.apart U HD6_7.out); have HR7 := Lib.hid R; have HB := Lib.hid (HB.out.trans (U.below HG7.out)); clear U R)
   | (clear HQu11; refine step_load rfl _ rfl b7 rfl vaE ?_ ?_; exact HR7.out)
   | (clear HQu12; refine step_alloc rfl rfl ?_; intro b8 wn N R; have HD1_8 := Lib.hid (vnew_ne N HR1.out); have HD8_1 := Lib.hid (Ne.symm HD1_8.out); have HR1 := Lib.hid (vnew_row N HR1.out); have HD3_8 := Lib.hid (vnew_ne N HR3.out); have HD8_3 := Lib.hid (Ne.symm HD3_8.out); have HR3 := Lib.hid (vnew_row N HR3.out); have HD4_8 := Lib.hid (vnew_ne N HR4.out); have HD8_4 := Lib.hid (Ne.symm HD4_8.out); have HR4 := Lib.hid (vnew_row N HR4.out); have HD5_8 := Lib.hid (vnew_ne N HR5.out); have HD8_5 := Lib.hid (Ne.symm HD5_8.out); have HR5 := Lib.hid (vnew_row N HR5.out); have HD6_8 := Lib.hid (vnew_ne N HR6.out); have HD8_6 := Lib.hid (Ne.symm HD6_8.out); have HR6 := Lib.hid (vnew_row N HR6.out); have HD7_8 := Lib.hid (vnew_ne N HR7.out); have HD8_7 := Lib.hid (Ne.symm HD7_8.out); have HR7 := Lib.hid (vnew_row N HR7.out); have HR8 := Lib.hid R; have HG8 := Lib.hid (show w.heap.size ≤ b8 by have := HB.out.size; have := N.at_; omega); have HB := Lib.hid (below_on HB.out N.below); clear N R)
   | (clear HQu13; refine step_store rfl _ _ rfl b8 rfl zeroP vaE rfl ?_ ?_; exact HR8.out; intro wn U R; have HR1 := Lib.hid (HR1.out.apart U HD1_8.out); have HR3 := Lib.hid (HR3.out.apart U HD3_8.out); have HR4 := Lib.hid (HR4.out.apart U HD4_8.out); have HR5 := Lib.hid (HR5.out.apart U HD5_8.out); have HR6 := Lib.hid (HR6.out.apart U HD6_8.out); have HR7 := Lib.hid (HR7.out.apart U HD7_8.out); have HR8 := Lib.hid R; have HB := Lib.hid (HB.out.trans (U.below HG8.out)); clear U R)
   | (clear HQu14; refine step_cell (by rfl) 5 _ _ rfl b8 78 rfl .u8 0 rfl _ HR8.out (by omega) rfl size5 ?_; intro wn U R; have HR1 := Lib.hid (HR1.out.apart U HD1_8.out); have HR3 := Lib.hid (HR3.out.apart U HD3_8.out); have HR4 := Lib.hid (HR4.out.apart U HD4_8.out); have HR5 := Lib.hid (HR5.out.apart U HD5_8.out); have HR6 := Lib.hid (HR6.out.apart U HD6_8.out); have HR7 := Lib.hid (HR7.out.apart U HD7_8.out); have HR8 := Lib.hid R; have HB := Lib.hid (HB.out.trans (U.below HG8.out)); clear U R)
   | (clear HQu15; refine step_load rfl _ rfl b1 rfl P ?_ ?_; exact HR1.out)
   | (clear HQu16; go_at_call 7; refine (vcheck_k K1.out _ F1.out (HT.out.on HB.out) (HD.out.next HB.out) (HL.out.next HB.out) (HU.out.on HB.out)).mono ?_; rintro e w3 ⟨rfl, hb⟩; have HR1 := Lib.hid (HR1.out.later hb); have HR3 := Lib.hid (HR3.out.later hb); have HR4 := Lib.hid (HR4.out.later hb); have HR5 := Lib.hid (HR5.out.later hb); have HR6 := Lib.hid (HR6.out.later hb); have HR7 := Lib.hid (HR7.out.later hb); have HR8 := Lib.hid (HR8.out.later hb); have HB := Lib.hid (below_on HB.out hb); clear hb)
   | (clear HQu17; refine step_load rfl _ rfl b3 rfl (upd P 61 0) ?_ ?_; exact HR3.out)
   | (clear HQu18; go_at_call 7; refine (vcheck_k K2.out _ F2.out (HT.out.on HB.out) (HD.out.next HB.out) (HL.out.next HB.out) (HU.out.on HB.out)).mono ?_; rintro e w3 ⟨rfl, hb⟩; have HR1 := Lib.hid (HR1.out.later hb); have HR3 := Lib.hid (HR3.out.later hb); have HR4 := Lib.hid (HR4.out.later hb); have HR5 := Lib.hid (HR5.out.later hb); have HR6 := Lib.hid (HR6.out.later hb); have HR7 := Lib.hid (HR7.out.later hb); have HR8 := Lib.hid (HR8.out.later hb); have HB := Lib.hid (below_on HB.out hb); clear hb)
   | (clear HQu19; refine step_load rfl _ rfl b4 rfl (upd P 57 1) ?_ ?_; exact HR4.out)
   | (clear HQu20; go_at_call 7; refine (vcheck_k K3.out _ F3.out (HT.out.on HB.out) (HD.out.next HB.out) (HL.out.next HB.out) (HU.out.on HB.out)).mono ?_; rintro e w3 ⟨rfl, hb⟩; have HR1 := Lib.hid (HR1.out.later hb); have HR3 := Lib.hid (HR3.out.later hb); have HR4 := Lib.hid (HR4.out.later hb); have HR5 := Lib.hid (HR5.out.later hb); have HR6 := Lib.hid (HR6.out.later hb); have HR7 := Lib.hid (HR7.out.later hb); have HR8 := Lib.hid (HR8.out.later hb); have HB := Lib.hid (below_on HB.out hb); clear hb)
   | (clear HQu21; refine step_load rfl _ rfl b5 rfl (upd P 8 0) ?_ ?_; exact HR5.out)
   | (clear HQu22; go_at_call 7; refine (vcheck_k K4.out _ F4.out (HT.out.on HB.out) (HD.out.next HB.out) (HL.out.next HB.out) (HU.out.on HB.out)).mono ?_; rintro e w3 ⟨rfl, hb⟩; have HR1 := Lib.hid (HR1.out.later hb); have HR3 := Lib.hid (HR3.out.later hb); have HR4 := Lib.hid (HR4.out.later hb); have HR5 := Lib.hid (HR5.out.later hb); have HR6 := Lib.hid (HR6.out.later hb); have HR7 := Lib.hid (HR7.out.later hb); have HR8 := Lib.hid (HR8.out.later hb); have HB := Lib.hid (below_on HB.out hb); clear hb)
   | (clear HQu23; refine step_load rfl _ rfl b6 rfl (upd P 83 20) ?_ ?_; exact HR6.out)
   | (clear HQu24; go_at_call 7; refine (vcheck_k K5.out _ F5.out (HT.out.on HB.out) (HD.out.next HB.out) (HL.out.next HB.out) (HU.out.on HB.out)).mono ?_; rintro e w3 ⟨rfl, hb⟩; have HR1 := Lib.hid (HR1.out.later hb); have HR3 := Lib.hid (HR3.out.later hb); have HR4 := Lib.hid (HR4.out.later hb); have HR5 := Lib.hid (HR5.out.later hb); have HR6 := Lib.hid (HR6.out.later hb); have HR7 := Lib.hid (HR7.out.later hb); have HR8 := Lib.hid (HR8.out.later hb); have HB := Lib.hid (below_on HB.out hb); clear hb)
   | (clear HQu25; refine step_load rfl _ rfl b7 rfl vaE ?_ ?_; exact HR7.out)
   | (clear HQu26; go_at_call 7; refine (vcheck_k K6.out _ F6.out (HT.out.on HB.out) (HD.out.next HB.out) (HL.out.next HB.out) (HU.out.on HB.out)).mono ?_; rintro e w3 ⟨rfl, hb⟩; have HR1 := Lib.hid (HR1.out.later hb); have HR3 := Lib.hid (HR3.out.later hb); have HR4 := Lib.hid (HR4.out.later hb); have HR5 := Lib.hid (HR5.out.later hb); have HR6 := Lib.hid (HR6.out.later hb); have HR7 := Lib.hid (HR7.out.later hb); have HR8 := Lib.hid (HR8.out.later hb); have HB := Lib.hid (below_on HB.out hb); clear hb)
   | (clear HQu27; refine step_load rfl _ rfl b8 rfl vaEF ?_ ?_; exact HR8.out)
   | (clear HQu28; go_at_call 7; refine (vcheck_k K7.out _ F7.out (HT.out.on HB.out) (HD.out.next HB.out) (HL.out.next HB.out) (HU.out.on HB.out)).mono ?_; rintro e w3 ⟨rfl, hb⟩; have HR1 := Lib.hid (HR1.out.later hb); have HR3 := Lib.hid (HR3.out.later hb); have HR4 := Lib.hid (HR4.out.later hb); have HR5 := Lib.hid (HR5.out.later hb); have HR6 := Lib.hid (HR6.out.later hb); have HR7 := Lib.hid (HR7.out.later hb); have HR8 := Lib.hid (HR8.out.later hb); have HB := Lib.hid (below_on HB.out hb); clear hb))
 go_ret
 exact ⟨rfl, HB.out⟩
end Go.Proofs.YtigkbccpkepdmaaGreatDoor
