/-
 Several texts in one: AfF, AfI, AfJ, AfL.
-/
import Derived.Test.YteblmnbagbdiiaaGreatDoorAfGrB
import Derived.Test.YteblmnbagbdiiaaGreatDoorAfGrA
/-
 Layer 16: contract of the change's rights.
-/
set_option maxRecDepth 100000
set_option maxHeartbeats 4000000
namespace Go.Proofs.YteblmnbagbdiiaaGreatDoor
open Go.RowKit Go.Shelf
set_option linter.unusedVariables false
set_option linter.unusedSimpArgs false
attribute [local go_sem] Oper.semAt_some

theorem wf_i8A {n : Int} (h : -128 ≤ n ∧ n ≤ 127) : (Lit.int .i8 n).wf = true := by
 have a : IntKind.i8.min = -128 := by decide
 have b : IntKind.i8.max = 127 := by decide
 exact af_wf ⟨by rw [a]; omega, by rw [b]; omega⟩
theorem kAt_i8A {i : Nat} (h0 : 79 ≤ i) (h1 : i ≤ 83) : kAt i = .i8 := by unfold kAt; rw [if_neg (by omega), if_pos (by omega)]
theorem WfP.i8 {p : Nat → Int} (h : WfP p) {i : Nat} (h0 : 79 ≤ i) (h1 : i ≤ 83) : -128 ≤ p i ∧ p i ≤ 127 := by
 have := af_of (h i (by omega))
 rw [kAt_i8A h0 h1] at this
 have a : IntKind.i8.min = -128 := by decide
 have b : IntKind.i8.max = 127 := by decide
 omega
theorem WfP.no1 {p : Nat → Int} (h : WfP p) {i : Nat} (h0 : 79 ≤ i) (h1 : i ≤ 83) : WfP (upd p i (-1)) := h.up i _ (by rw [kAt_i8A h0 h1]; exact wf_i8A ⟨by omega, by omega⟩)
theorem WfP.rg {p : Nat → Int} (h : WfP p) (k c : Int) {i : Nat} (h0 : 79 ≤ i) (h1 : i ≤ 83) : WfP (rgA p k c i) := by
 unfold rgA
 cases keeB p c (p i) k
 ·exact h.no1 h0 h1
 ·exact h
theorem WfP.noK {p : Nat → Int} (h : WfP p) (c : Ch) : WfP (noK p c) := by
 unfold Go.Proofs.YteblmnbagbdiiaaGreatDoor.noK noR
 cases kndZ c.x == 6
 ·exact h
 ·cases p 78 == 0
  ·exact (h.no1 (by decide) (by decide)).no1 (by decide) (by decide)
  ·exact (h.no1 (by decide) (by decide)).no1 (by decide) (by decide)
theorem rgA_out {p : Nat → Int} (k c : Int) {i j : Nat} (h : j ≠ i) : rgA p k c i j = p j := by
 unfold rgA
 cases keeB p c (p i) k
 ·exact upd_other _ _ _ _ h
 ·rfl
theorem noK_out {p : Nat → Int} (c : Ch) {j : Nat} (h : j < 79 ∨ 82 < j) : noK p c j = p j := by
 unfold noK noR
 cases kndZ c.x == 6
 ·rfl
 ·cases p 78 == 0 <;> exact (upd_other _ _ _ _ (by omega)).trans (upd_other _ _ _ _ (by omega))
theorem rig_out {p : Nat → Int} (c : Ch) {j : Nat} (h : j < 79 ∨ 82 < j) : rigA p c j = p j := by
 unfold rigA
 rw [rgA_out _ _ (by omega), rgA_out _ _ (by omega), rgA_out _ _ (by omega), rgA_out _ _ (by omega), noK_out c h]
theorem ChR.rig {p : Nat → Int} {c : Ch} (h : ChR p c) : ChR (rigA p c) c :=
 h.to (((((h.wf.noK c).rg _ _ (by decide) (by decide)).rg _ _ (by decide) (by decide)).rg _ _ (by decide) (by decide)).rg _ _ (by decide) (by decide)) (rig_out c (Or.inl (by decide)))
theorem rg_yes {p : Nat → Int} {k c : Int} {i : Nat} {q : Nat → Int} (e : rgA p k c i = q) (h : keeB p c (p i) k = true) : q = p := by rw [← e]; unfold rgA; rw [h]; rfl
theorem rg_no {p : Nat → Int} {k c : Int} {i : Nat} {q : Nat → Int} (e : rgA p k c i = q) (h : keeB p c (p i) k = false) : q = upd p i (-1) := by rw [← e]; unfold rgA; rw [h]; rfl
theorem keepK {p : Nat → Int} {col f : Int} {c : Ch} {x : Bool} (e : keeB p col f c.k = x) (b : Nat) (w : World) (hC : CH w b p c) (hp : BdR p) (hD : TabDb w) (hc0 : 0 ≤ col) :
  Calls Tryz.prog 139 #[.pointer (some ⟨b, 0, none⟩), .int .u8 col, .int .i64 f] w (BoL x w) := e ▸ af_keep b p c col f w hC hp hD hc0
theorem size26 : (Tryz.prog.info? 26).map (·.size) = some 1 := by kernel_rfl
section laws
variable {ops : Array Oper} {rest : List Oper} {op : Oper} {a : Act} {w : World} {Q : Exit → Act → World → Prop} {b : Nat} {p q : Nat → Int} {c : Ch}
theorem step_pair2 (hw : Region.wanted op (yielded ops a.tmps) = true) (x : Operand) (ho : op.op = .load 27 x) (i : Nat) (hx : a.eval x = .pointer (some ⟨b, i, none⟩)) (hr : CH w b p c) (hi : i + 2 ≤ 88) (u v : Value) (hu : .int (kAt i) (p i) = u) (hv : .int (kAt (i + 1)) (p (i + 1)) = v)
  (h : wpList Tryz.prog ops Q rest (a.put op.dst (.agg #[u, v])) w) : wpList Tryz.prog ops Q (op :: rest) a w :=
 ch_pair hw x ho i hx hr hi (by
  have e : (partL p i 2).toArray = #[u, v] := by rw [← hu, ← hv]; simp [partL, List.range_succ]
  rw [e]; exact h)
end laws
theorem late_two {o : Oper} {a : Act} {w : World} {K : Act → World → Prop} {Q : Exit → Act → World → Prop} (x y : Operand) (ho : o.op = .store 27 x y) (b i : Nat) (hx : a.eval x = .pointer (some ⟨b, i, none⟩)) (u v : Int) (hy : a.eval y = .agg #[.int .i8 u, .int .i8 v])
  (p : Nat → Int) (c : Ch) (hr : CH w b p c) (h0 : 79 ≤ i) (h1 : i ≤ 81) (h : ∀ w', Upd b w w' → CH w' b (upd (upd p i u) (i + 1) v) c → K (a.put o.dst undef) w') : Wp Tryz.prog o a w K Q :=
 ⟨wp_store_mid 27 x y ho b i #[.int .i8 u, .int .i8 v] hx hy (hr.there i 2 (by omega)) sizePr (by simp [Value.oneCell']) (h _ (Upd.setCells _ _ _ _) (hr.pair i u v h0 h1))⟩
theorem af_rights (b : Nat) (p : Nat → Int) (c : Ch) (w : World) (hC : CH w b p c) (hR : ChR p c) (hT : AfT b w) : Calls Tryz.prog 67 #[.pointer (some ⟨b, 0, none⟩)] w (AfL b (rigA p c) c w) := by
 have HC := H_ hC
 have HM := H_ hR.m
 have HR := H_ hR
 have hx := hR.x
 have HT := H_ hT
 obtain ⟨q0, e0⟩ : ∃ q, noK p c = q := ⟨_, rfl⟩
 obtain ⟨q1, e1⟩ : ∃ q, rgA q0 c.k 0 79 = q := ⟨_, rfl⟩
 obtain ⟨q2, e2⟩ : ∃ q, rgA q1 c.k 0 80 = q := ⟨_, rfl⟩
 obtain ⟨q3, e3⟩ : ∃ q, rgA q2 c.k 1 81 = q := ⟨_, rfl⟩
 obtain ⟨q4, e4⟩ : ∃ q, rgA q3 c.k 1 82 = q := ⟨_, rfl⟩
 have hq0 : WfP q0 := e0 ▸ hR.wf.noK c
 have hq1 : WfP q1 := e1 ▸ hq0.rg _ _ (by decide) (by decide)
 have hq2 : WfP q2 := e2 ▸ hq1.rg _ _ (by decide) (by decide)
 have hq3 : WfP q3 := e3 ▸ hq2.rg _ _ (by decide) (by decide)
 have hfin : rigA p c = q4 := by unfold rigA; rw [e0, e1, e2, e3, e4]
 rw [hfin]
 have Hq0 := H_ hq0
 have Hq1 := H_ hq1
 have Hq2 := H_ hq2
 have Hq3 := H_ hq3
 have Eq1 := H_ e1
 have Eq2 := H_ e2
 have Eq3 := H_ e3
 have Eq4 := H_ e4
 have HE0 := H_ e0
 have HTn := H_ hR.turn
 clear hC hR hT hq0 hq1 hq2 hq3 e0 e1 e2 e3 e4 hfin
 have HB := H_ (Kept.refl (fun k => k = b) w)
 cases g : (kndZ c.x == 6)
 ·have gn : kndZ c.x ≠ 6 := beq_eq_false_iff_ne.1 g
  have HC := H_ (show CH w b q0 c by rw [← HE0.out]; unfold noK; rw [g]; exact HC.out)
  go_enter Tryz.func67, Tryz.ntmps67
  go_wp2_with (first
   | (refine step_get rfl 5 _ rfl b 93 rfl Tryz.underlying5 rfl (.int .u8 c.x) (HC.out.x) ?_)
   | (go_at_call 138; refine (knd_any _ _ (by omega) (by omega)).mono ?_; rintro e w3 ⟨rfl, rfl⟩))
  go_loopw [22] (fun i wr => (i = .int .u8 0 ∧ CH wr b q0 c ∨ i = .int .u8 1 ∧ CH wr b q2 c ∨ i = .int .u8 2 ∧ CH wr b q4 c) ∧ Kept (fun k => k = b) w wr) (fun i _ => 2 - (intOf i).toNat)
  case atStart => exact ⟨Or.inl ⟨rfl, HC.out⟩, HB.out⟩
  case round =>
   clear HC HB
   obtain ⟨hrel, hk⟩ := hrel
   have HB := H_ hk
   clear hk
   rcases hrel with ⟨rfl, hc⟩ | ⟨rfl, hc⟩ | ⟨rfl, hc⟩
   ·have HC := H_ hc
    clear hc
    go_wp2_with (refine step_pair2 rfl _ rfl 79 rfl HC.out (by decide) (.int .i8 (q0 79)) (.int .i8 (q0 80)) rfl rfl ?_)
    go_loopw [32] (fun i wr => (i = .int .i64 0 ∧ CH wr b q0 c ∨ i = .int .i64 1 ∧ CH wr b q1 c ∨ i = .int .i64 2 ∧ CH wr b q2 c) ∧ Kept (fun k => k = b) w wr) (fun i _ => 2 - (intOf i).toNat)
    case atStart => exact ⟨Or.inl ⟨rfl, HC.out⟩, HB.out⟩
    case round =>
     clear HC HB
     obtain ⟨hrel, hk⟩ := hrel
     have HB := H_ hk
     clear hk
     rcases hrel with ⟨rfl, hc⟩ | ⟨rfl, hc⟩ | ⟨rfl, hc⟩
     ·have HC := H_ hc
      clear hc
      have hr := Hq0.out.i8 (i := 79) (by decide) (by decide)
      obtain ⟨f, hf⟩ : ∃ f, q0 79 = f := ⟨_, rfl⟩
      have hfx : q0 79 = f := hf
      rw [hf] at hr ⊢
      have hw : wrap64 f = f := IntWalk.wrap64_in _ ⟨by omega, by omega⟩
      cases g : keeB q0 0 f c.k
      ·have HG := H_ g
       have HY := H_ (rg_no Eq1.out (by rw [hfx]; exact g))
       clear g hf
       go_wp2_with (first
        | (guard_target = gI 35; refine step_index (op := ⟨some 35, .index _ _ _, _, _, _, _⟩) rfl 27 26 _ _ rfl 2 _ rfl .i64 0 rfl (by decide) Tryz.underlying27 Tryz.underlying26 rfl size26 (.int .i8 f) rfl ?_)
        | (go_at_call 139; refine (keepK HG.out b _ HC.out Hq0.out.dr.bd (HT.out.at HB.out).db (by decide)).mono ?_; rintro e w3 ⟨rfl, hb⟩; have HC := H_ (HC.out.later hb); have HB := H_ (kept_on HB.out hb); clear hb)
        | (refine ch_cell rfl 26 _ _ rfl 79 rfl .i8 (-1) rfl HC.out (by decide) rfl size5 ?_; intro wn U R; have HC := H_ R; have HB := H_ (kept_upd HB.out U); clear U R))
       go_roundw
       case rel => exact ⟨Or.inr (Or.inl ⟨by go_num, by rw [HY.out]; exact HC.out⟩), HB.out⟩
       case measure => simp [intOf]
      ·have HG := H_ g
       have HY := H_ (rg_yes Eq1.out (by rw [hfx]; exact g))
       clear g hf
       go_wp2_with (first
        | (guard_target = gI 35; refine step_index (op := ⟨some 35, .index _ _ _, _, _, _, _⟩) rfl 27 26 _ _ rfl 2 _ rfl .i64 0 rfl (by decide) Tryz.underlying27 Tryz.underlying26 rfl size26 (.int .i8 f) rfl ?_)
        | (go_at_call 139; refine (keepK HG.out b _ HC.out Hq0.out.dr.bd (HT.out.at HB.out).db (by decide)).mono ?_; rintro e w3 ⟨rfl, hb⟩; have HC := H_ (HC.out.later hb); have HB := H_ (kept_on HB.out hb); clear hb))
       go_roundw
       case rel => exact ⟨Or.inr (Or.inl ⟨by go_num, by rw [HY.out]; exact HC.out⟩), HB.out⟩
       case measure => simp [intOf]
     ·have HC := H_ hc
      clear hc
      have hr := Hq0.out.i8 (i := 80) (by decide) (by decide)
      obtain ⟨f, hf⟩ : ∃ f, q0 80 = f := ⟨_, rfl⟩
      have hfx : q1 80 = f := by rw [← hf, ← Eq1.out]; exact rgA_out _ _ (by decide)
      rw [hf] at hr ⊢
      have hw : wrap64 f = f := IntWalk.wrap64_in _ ⟨by omega, by omega⟩
      cases g : keeB q1 0 f c.k
      ·have HG := H_ g
       have HY := H_ (rg_no Eq2.out (by rw [hfx]; exact g))
       clear g hf
       go_wp2_with (first
        | (guard_target = gI 35; refine step_index (op := ⟨some 35, .index _ _ _, _, _, _, _⟩) rfl 27 26 _ _ rfl 2 _ rfl .i64 1 rfl (by decide) Tryz.underlying27 Tryz.underlying26 rfl size26 (.int .i8 f) rfl ?_)
        | (go_at_call 139; refine (keepK HG.out b _ HC.out Hq1.out.dr.bd (HT.out.at HB.out).db (by decide)).mono ?_; rintro e w3 ⟨rfl, hb⟩; have HC := H_ (HC.out.later hb); have HB := H_ (kept_on HB.out hb); clear hb)
        | (refine ch_cell rfl 26 _ _ rfl 80 rfl .i8 (-1) rfl HC.out (by decide) rfl size5 ?_; intro wn U R; have HC := H_ R; have HB := H_ (kept_upd HB.out U); clear U R))
       go_roundw
       case rel => exact ⟨Or.inr (Or.inr ⟨by go_num, by rw [HY.out]; exact HC.out⟩), HB.out⟩
       case measure => simp [intOf]
      ·have HG := H_ g
       have HY := H_ (rg_yes Eq2.out (by rw [hfx]; exact g))
       clear g hf
       go_wp2_with (first
        | (guard_target = gI 35; refine step_index (op := ⟨some 35, .index _ _ _, _, _, _, _⟩) rfl 27 26 _ _ rfl 2 _ rfl .i64 1 rfl (by decide) Tryz.underlying27 Tryz.underlying26 rfl size26 (.int .i8 f) rfl ?_)
        | (go_at_call 139; refine (keepK HG.out b _ HC.out Hq1.out.dr.bd (HT.out.at HB.out).db (by decide)).mono ?_; rintro e w3 ⟨rfl, hb⟩; have HC := H_ (HC.out.later hb); have HB := H_ (kept_on HB.out hb); clear hb))
       go_roundw
       case rel => exact ⟨Or.inr (Or.inr ⟨by go_num, by rw [HY.out]; exact HC.out⟩), HB.out⟩
       case measure => simp [intOf]
     ·have HC := H_ hc
      clear hc
      go_wp2_with fail
      go_roundw
      case rel => exact ⟨Or.inr (Or.inl ⟨by go_num, HC.out⟩), HB.out⟩
      case measure => simp [intOf]
   ·have HC := H_ hc
    clear hc
    go_wp2_with (refine step_pair2 rfl _ rfl 81 rfl HC.out (by decide) (.int .i8 (q2 81)) (.int .i8 (q2 82)) rfl rfl ?_)
    go_loopw [32] (fun i wr => (i = .int .i64 0 ∧ CH wr b q2 c ∨ i = .int .i64 1 ∧ CH wr b q3 c ∨ i = .int .i64 2 ∧ CH wr b q4 c) ∧ Kept (fun k => k = b) w wr) (fun i _ => 2 - (intOf i).toNat)
    case atStart => exact ⟨Or.inl ⟨rfl, HC.out⟩, HB.out⟩
    case round =>
     clear HC HB
     obtain ⟨hrel, hk⟩ := hrel
     have HB := H_ hk
     clear hk
     rcases hrel with ⟨rfl, hc⟩ | ⟨rfl, hc⟩ | ⟨rfl, hc⟩
     ·have HC := H_ hc
      clear hc
      have hr := Hq2.out.i8 (i := 81) (by decide) (by decide)
      obtain ⟨f, hf⟩ : ∃ f, q2 81 = f := ⟨_, rfl⟩
      have hfx : q2 81 = f := hf
      rw [hf] at hr ⊢
      have hw : wrap64 f = f := IntWalk.wrap64_in _ ⟨by omega, by omega⟩
      cases g : keeB q2 1 f c.k
      ·have HG := H_ g
       have HY := H_ (rg_no Eq3.out (by rw [hfx]; exact g))
       clear g hf
       go_wp2_with (first
        | (guard_target = gI 35; refine step_index (op := ⟨some 35, .index _ _ _, _, _, _, _⟩) rfl 27 26 _ _ rfl 2 _ rfl .i64 0 rfl (by decide) Tryz.underlying27 Tryz.underlying26 rfl size26 (.int .i8 f) rfl ?_)
        | (go_at_call 139; refine (keepK HG.out b _ HC.out Hq2.out.dr.bd (HT.out.at HB.out).db (by decide)).mono ?_; rintro e w3 ⟨rfl, hb⟩; have HC := H_ (HC.out.later hb); have HB := H_ (kept_on HB.out hb); clear hb)
        | (refine ch_cell rfl 26 _ _ rfl 81 rfl .i8 (-1) rfl HC.out (by decide) rfl size5 ?_; intro wn U R; have HC := H_ R; have HB := H_ (kept_upd HB.out U); clear U R))
       go_roundw
       case rel => exact ⟨Or.inr (Or.inl ⟨by go_num, by rw [HY.out]; exact HC.out⟩), HB.out⟩
       case measure => simp [intOf]
      ·have HG := H_ g
       have HY := H_ (rg_yes Eq3.out (by rw [hfx]; exact g))
       clear g hf
       go_wp2_with (first
        | (guard_target = gI 35; refine step_index (op := ⟨some 35, .index _ _ _, _, _, _, _⟩) rfl 27 26 _ _ rfl 2 _ rfl .i64 0 rfl (by decide) Tryz.underlying27 Tryz.underlying26 rfl size26 (.int .i8 f) rfl ?_)
        | (go_at_call 139; refine (keepK HG.out b _ HC.out Hq2.out.dr.bd (HT.out.at HB.out).db (by decide)).mono ?_; rintro e w3 ⟨rfl, hb⟩; have HC := H_ (HC.out.later hb); have HB := H_ (kept_on HB.out hb); clear hb))
       go_roundw
       case rel => exact ⟨Or.inr (Or.inl ⟨by go_num, by rw [HY.out]; exact HC.out⟩), HB.out⟩
       case measure => simp [intOf]
     ·have HC := H_ hc
      clear hc
      have hr := Hq2.out.i8 (i := 82) (by decide) (by decide)
      obtain ⟨f, hf⟩ : ∃ f, q2 82 = f := ⟨_, rfl⟩
      have hfx : q3 82 = f := by rw [← hf, ← Eq3.out]; exact rgA_out _ _ (by decide)
      rw [hf] at hr ⊢
      have hw : wrap64 f = f := IntWalk.wrap64_in _ ⟨by omega, by omega⟩
      cases g : keeB q3 1 f c.k
      ·have HG := H_ g
       have HY := H_ (rg_no Eq4.out (by rw [hfx]; exact g))
       clear g hf
       go_wp2_with (first
        | (guard_target = gI 35; refine step_index (op := ⟨some 35, .index _ _ _, _, _, _, _⟩) rfl 27 26 _ _ rfl 2 _ rfl .i64 1 rfl (by decide) Tryz.underlying27 Tryz.underlying26 rfl size26 (.int .i8 f) rfl ?_)
        | (go_at_call 139; refine (keepK HG.out b _ HC.out Hq3.out.dr.bd (HT.out.at HB.out).db (by decide)).mono ?_; rintro e w3 ⟨rfl, hb⟩; have HC := H_ (HC.out.later hb); have HB := H_ (kept_on HB.out hb); clear hb)
        | (refine ch_cell rfl 26 _ _ rfl 82 rfl .i8 (-1) rfl HC.out (by decide) rfl size5 ?_; intro wn U R; have HC := H_ R; have HB := H_ (kept_upd HB.out U); clear U R))
       go_roundw
       case rel => exact ⟨Or.inr (Or.inr ⟨by go_num, by rw [HY.out]; exact HC.out⟩), HB.out⟩
       case measure => simp [intOf]
      ·have HG := H_ g
       have HY := H_ (rg_yes Eq4.out (by rw [hfx]; exact g))
       clear g hf
       go_wp2_with (first
        | (guard_target = gI 35; refine step_index (op := ⟨some 35, .index _ _ _, _, _, _, _⟩) rfl 27 26 _ _ rfl 2 _ rfl .i64 1 rfl (by decide) Tryz.underlying27 Tryz.underlying26 rfl size26 (.int .i8 f) rfl ?_)
        | (go_at_call 139; refine (keepK HG.out b _ HC.out Hq3.out.dr.bd (HT.out.at HB.out).db (by decide)).mono ?_; rintro e w3 ⟨rfl, hb⟩; have HC := H_ (HC.out.later hb); have HB := H_ (kept_on HB.out hb); clear hb))
       go_roundw
       case rel => exact ⟨Or.inr (Or.inr ⟨by go_num, by rw [HY.out]; exact HC.out⟩), HB.out⟩
       case measure => simp [intOf]
     ·have HC := H_ hc
      clear hc
      go_wp2_with fail
      go_roundw
      case rel => exact ⟨Or.inr (Or.inr ⟨by go_num, HC.out⟩), HB.out⟩
      case measure => simp [intOf]
   ·have HC := H_ hc
    clear hc
    go_wp2_with fail
    refine bodyPost_end (results_none rfl _ _ _) rfl ?_
    exact ⟨⟨_, rfl⟩, HC.out, HB.out⟩
 ·have gn : kndZ c.x = 6 := eq_of_beq g
  rcases HTn.out with h78 | h78
  ·have H78 := H_ h78
   have HN := H_ (show noK p c = upd (upd p 79 (-1)) 80 (-1) by unfold noK noR; rw [g, h78]; rfl)
   clear h78
   go_enter Tryz.func67, Tryz.ntmps67
   go_wp2_with (first
    | (refine step_get rfl 5 _ rfl b 93 rfl Tryz.underlying5 rfl (.int .u8 c.x) (HC.out.x) ?_)
    | (go_at_call 138; refine (knd_any _ _ (by omega) (by omega)).mono ?_; rintro e w3 ⟨rfl, rfl⟩))
   refine late_begin 11 (by kernel_rfl) ?_
   refine lw 0 rfl ?_
   simp only [Act.put, pa, pb, pc]
   refine lw 1 rfl ?_
   simp only [Act.put, pa, pb, pc]
   refine lw 2 rfl ?_
   simp only [Act.put, pa, pb, pc]
   refine lw 3 rfl ?_
   simp only [Act.put, pa, pb, pc]
   refine lw 4 rfl ?_
   simp only [Act.put, pa, pb, pc]
   refine lv 5 rfl ⟨.int .u8 0, fun w' hl => (run_get 5 _ rfl b 78 rfl Tryz.underlying5 rfl (.int .u8 0) (((HC.out.later hl).cell 78 (by decide)).trans (by rw [H78.out]; rfl))), ?_⟩
   simp only [Act.put, pa, pb, pc]
   refine lw 6 rfl ?_
   simp only [Act.put, pa, pb, pc]
   refine late_takeD 7 [8, 9, 10, 11] (by kernel_rfl) (by kernel_rfl) (by kernel_rfl) (by kernel_rfl) (by kernel_rfl) (fun _ _ d _ _ h => by cases d <;> exact h) (fun o ho => ?_)
   simp only [qa, qb, qc, qd] at ho; subst ho
   apply Exists.intro
   refine ⟨Or.inl ⟨by kernel_rfl, fun w' hl => Or.inl ?_⟩, ?_⟩
   ·(go_simp; try with_reducible rfl)
   simp only [Act.put, pa, pb, pc]
   refine late_takeD 8 [9, 10, 11] (by kernel_rfl) (by kernel_rfl) (by kernel_rfl) (by kernel_rfl) (by kernel_rfl) (fun _ _ d _ _ h => by cases d <;> exact h) (fun o ho => ?_)
   simp only [qa, qb, qc, qd] at ho; subst ho
   apply Exists.intro
   refine ⟨Or.inl ⟨by kernel_rfl, fun w' hl => Or.inl ?_⟩, ?_⟩
   ·(go_simp; try with_reducible rfl)
   simp only [Act.put, pa, pb, pc]
   refine late_takeD 9 [10, 11] (by kernel_rfl) (by kernel_rfl) (by kernel_rfl) (by kernel_rfl) (by kernel_rfl) (fun _ _ d _ _ h => by cases d <;> exact h) (fun o ho => ?_)
   simp only [qa, qb, qc, qd] at ho; subst ho
   apply Exists.intro
   refine ⟨Or.inl ⟨by kernel_rfl, fun w' hl => Or.inl ?_⟩, ?_⟩
   ·(go_simp; try with_reducible rfl)
   simp only [Act.put, pa, pb, pc]
   refine lw 10 rfl ?_
   simp only [Act.put, pa, pb, pc]
   refine late_last 11 (by kernel_rfl) (by kernel_rfl) (by kernel_rfl) (fun o ho => ?_)
   simp only [qa, qb, qc, qd] at ho; subst ho
   refine ⟨by kernel_rfl, fun wn hl K hK => ?_⟩
   have HC := H_ (HC.out.later hl); have HB := H_ (kept_on HB.out hl); clear hl
   refine late_two _ _ rfl b 79 rfl (-1) (-1) rfl p c HC.out (by decide) (by decide) ?_; intro wm U R; have HC := H_ (show CH wm b q0 c by rw [← HE0.out, HN.out]; exact R); have HB := H_ (kept_upd HB.out U); clear U R
   refine hK.out _ _ ?_
   clear hK K
   simp only [Act.put, pa, pb, pc]
   go_wp2_with fail
   go_loopw [22] (fun i wr => (i = .int .u8 0 ∧ CH wr b q0 c ∨ i = .int .u8 1 ∧ CH wr b q2 c ∨ i = .int .u8 2 ∧ CH wr b q4 c) ∧ Kept (fun k => k = b) w wr) (fun i _ => 2 - (intOf i).toNat)
   case atStart => exact ⟨Or.inl ⟨rfl, HC.out⟩, HB.out⟩
   case round =>
    clear HC HB
    obtain ⟨hrel, hk⟩ := hrel
    have HB := H_ hk
    clear hk
    rcases hrel with ⟨rfl, hc⟩ | ⟨rfl, hc⟩ | ⟨rfl, hc⟩
    ·have HC := H_ hc
     clear hc
     go_wp2_with (refine step_pair2 rfl _ rfl 79 rfl HC.out (by decide) (.int .i8 (q0 79)) (.int .i8 (q0 80)) rfl rfl ?_)
     go_loopw [32] (fun i wr => (i = .int .i64 0 ∧ CH wr b q0 c ∨ i = .int .i64 1 ∧ CH wr b q1 c ∨ i = .int .i64 2 ∧ CH wr b q2 c) ∧ Kept (fun k => k = b) w wr) (fun i _ => 2 - (intOf i).toNat)
     case atStart => exact ⟨Or.inl ⟨rfl, HC.out⟩, HB.out⟩
     case round =>
      clear HC HB
      obtain ⟨hrel, hk⟩ := hrel
      have HB := H_ hk
      clear hk
      rcases hrel with ⟨rfl, hc⟩ | ⟨rfl, hc⟩ | ⟨rfl, hc⟩
      ·have HC := H_ hc
       clear hc
       have hr := Hq0.out.i8 (i := 79) (by decide) (by decide)
       obtain ⟨f, hf⟩ : ∃ f, q0 79 = f := ⟨_, rfl⟩
       have hfx : q0 79 = f := hf
       rw [hf] at hr ⊢
       have hw : wrap64 f = f := IntWalk.wrap64_in _ ⟨by omega, by omega⟩
       cases g : keeB q0 0 f c.k
       ·have HG := H_ g
        have HY := H_ (rg_no Eq1.out (by rw [hfx]; exact g))
        clear g hf
        go_wp2_with (first
         | (guard_target = gI 35; refine step_index (op := ⟨some 35, .index _ _ _, _, _, _, _⟩) rfl 27 26 _ _ rfl 2 _ rfl .i64 0 rfl (by decide) Tryz.underlying27 Tryz.underlying26 rfl size26 (.int .i8 f) rfl ?_)
         | (go_at_call 139; refine (keepK HG.out b _ HC.out Hq0.out.dr.bd (HT.out.at HB.out).db (by decide)).mono ?_; rintro e w3 ⟨rfl, hb⟩; have HC := H_ (HC.out.later hb); have HB := H_ (kept_on HB.out hb); clear hb)
         | (refine ch_cell rfl 26 _ _ rfl 79 rfl .i8 (-1) rfl HC.out (by decide) rfl size5 ?_; intro wn U R; have HC := H_ R; have HB := H_ (kept_upd HB.out U); clear U R))
        go_roundw
        case rel => exact ⟨Or.inr (Or.inl ⟨by go_num, by rw [HY.out]; exact HC.out⟩), HB.out⟩
        case measure => simp [intOf]
       ·have HG := H_ g
        have HY := H_ (rg_yes Eq1.out (by rw [hfx]; exact g))
        clear g hf
        go_wp2_with (first
         | (guard_target = gI 35; refine step_index (op := ⟨some 35, .index _ _ _, _, _, _, _⟩) rfl 27 26 _ _ rfl 2 _ rfl .i64 0 rfl (by decide) Tryz.underlying27 Tryz.underlying26 rfl size26 (.int .i8 f) rfl ?_)
         | (go_at_call 139; refine (keepK HG.out b _ HC.out Hq0.out.dr.bd (HT.out.at HB.out).db (by decide)).mono ?_; rintro e w3 ⟨rfl, hb⟩; have HC := H_ (HC.out.later hb); have HB := H_ (kept_on HB.out hb); clear hb))
        go_roundw
        case rel => exact ⟨Or.inr (Or.inl ⟨by go_num, by rw [HY.out]; exact HC.out⟩), HB.out⟩
        case measure => simp [intOf]
      ·have HC := H_ hc
       clear hc
       have hr := Hq0.out.i8 (i := 80) (by decide) (by decide)
       obtain ⟨f, hf⟩ : ∃ f, q0 80 = f := ⟨_, rfl⟩
       have hfx : q1 80 = f := by rw [← hf, ← Eq1.out]; exact rgA_out _ _ (by decide)
       rw [hf] at hr ⊢
       have hw : wrap64 f = f := IntWalk.wrap64_in _ ⟨by omega, by omega⟩
       cases g : keeB q1 0 f c.k
       ·have HG := H_ g
        have HY := H_ (rg_no Eq2.out (by rw [hfx]; exact g))
        clear g hf
        go_wp2_with (first
         | (guard_target = gI 35; refine step_index (op := ⟨some 35, .index _ _ _, _, _, _, _⟩) rfl 27 26 _ _ rfl 2 _ rfl .i64 1 rfl (by decide) Tryz.underlying27 Tryz.underlying26 rfl size26 (.int .i8 f) rfl ?_)
         | (go_at_call 139; refine (keepK HG.out b _ HC.out Hq1.out.dr.bd (HT.out.at HB.out).db (by decide)).mono ?_; rintro e w3 ⟨rfl, hb⟩; have HC := H_ (HC.out.later hb); have HB := H_ (kept_on HB.out hb); clear hb)
         | (refine ch_cell rfl 26 _ _ rfl 80 rfl .i8 (-1) rfl HC.out (by decide) rfl size5 ?_; intro wn U R; have HC := H_ R; have HB := H_ (kept_upd HB.out U); clear U R))
        go_roundw
        case rel => exact ⟨Or.inr (Or.inr ⟨by go_num, by rw [HY.out]; exact HC.out⟩), HB.out⟩
        case measure => simp [intOf]
       ·have HG := H_ g
        have HY := H_ (rg_yes Eq2.out (by rw [hfx]; exact g))
        clear g hf
        go_wp2_with (first
         | (guard_target = gI 35; refine step_index (op := ⟨some 35, .index _ _ _, _, _, _, _⟩) rfl 27 26 _ _ rfl 2 _ rfl .i64 1 rfl (by decide) Tryz.underlying27 Tryz.underlying26 rfl size26 (.int .i8 f) rfl ?_)
         | (go_at_call 139; refine (keepK HG.out b _ HC.out Hq1.out.dr.bd (HT.out.at HB.out).db (by decide)).mono ?_; rintro e w3 ⟨rfl, hb⟩; have HC := H_ (HC.out.later hb); have HB := H_ (kept_on HB.out hb); clear hb))
        go_roundw
        case rel => exact ⟨Or.inr (Or.inr ⟨by go_num, by rw [HY.out]; exact HC.out⟩), HB.out⟩
        case measure => simp [intOf]
      ·have HC := H_ hc
       clear hc
       go_wp2_with fail
       go_roundw
       case rel => exact ⟨Or.inr (Or.inl ⟨by go_num, HC.out⟩), HB.out⟩
       case measure => simp [intOf]
    ·have HC := H_ hc
     clear hc
     go_wp2_with (refine step_pair2 rfl _ rfl 81 rfl HC.out (by decide) (.int .i8 (q2 81)) (.int .i8 (q2 82)) rfl rfl ?_)
     go_loopw [32] (fun i wr => (i = .int .i64 0 ∧ CH wr b q2 c ∨ i = .int .i64 1 ∧ CH wr b q3 c ∨ i = .int .i64 2 ∧ CH wr b q4 c) ∧ Kept (fun k => k = b) w wr) (fun i _ => 2 - (intOf i).toNat)
     case atStart => exact ⟨Or.inl ⟨rfl, HC.out⟩, HB.out⟩
     case round =>
      clear HC HB
      obtain ⟨hrel, hk⟩ := hrel
      have HB := H_ hk
      clear hk
      rcases hrel with ⟨rfl, hc⟩ | ⟨rfl, hc⟩ | ⟨rfl, hc⟩
      ·have HC := H_ hc
       clear hc
       have hr := Hq2.out.i8 (i := 81) (by decide) (by decide)
       obtain ⟨f, hf⟩ : ∃ f, q2 81 = f := ⟨_, rfl⟩
       have hfx : q2 81 = f := hf
       rw [hf] at hr ⊢
       have hw : wrap64 f = f := IntWalk.wrap64_in _ ⟨by omega, by omega⟩
       cases g : keeB q2 1 f c.k
       ·have HG := H_ g
        have HY := H_ (rg_no Eq3.out (by rw [hfx]; exact g))
        clear g hf
        go_wp2_with (first
         | (guard_target = gI 35; refine step_index (op := ⟨some 35, .index _ _ _, _, _, _, _⟩) rfl 27 26 _ _ rfl 2 _ rfl .i64 0 rfl (by decide) Tryz.underlying27 Tryz.underlying26 rfl size26 (.int .i8 f) rfl ?_)
         | (go_at_call 139; refine (keepK HG.out b _ HC.out Hq2.out.dr.bd (HT.out.at HB.out).db (by decide)).mono ?_; rintro e w3 ⟨rfl, hb⟩; have HC := H_ (HC.out.later hb); have HB := H_ (kept_on HB.out hb); clear hb)
         | (refine ch_cell rfl 26 _ _ rfl 81 rfl .i8 (-1) rfl HC.out (by decide) rfl size5 ?_; intro wn U R; have HC := H_ R; have HB := H_ (kept_upd HB.out U); clear U R))
        go_roundw
        case rel => exact ⟨Or.inr (Or.inl ⟨by go_num, by rw [HY.out]; exact HC.out⟩), HB.out⟩
        case measure => simp [intOf]
       ·have HG := H_ g
        have HY := H_ (rg_yes Eq3.out (by rw [hfx]; exact g))
        clear g hf
        go_wp2_with (first
         | (guard_target = gI 35; refine step_index (op := ⟨some 35, .index _ _ _, _, _, _, _⟩) rfl 27 26 _ _ rfl 2 _ rfl .i64 0 rfl (by decide) Tryz.underlying27 Tryz.underlying26 rfl size26 (.int .i8 f) rfl ?_)
         | (go_at_call 139; refine (keepK HG.out b _ HC.out Hq2.out.dr.bd (HT.out.at HB.out).db (by decide)).mono ?_; rintro e w3 ⟨rfl, hb⟩; have HC := H_ (HC.out.later hb); have HB := H_ (kept_on HB.out hb); clear hb))
        go_roundw
        case rel => exact ⟨Or.inr (Or.inl ⟨by go_num, by rw [HY.out]; exact HC.out⟩), HB.out⟩
        case measure => simp [intOf]
      ·have HC := H_ hc
       clear hc
       have hr := Hq2.out.i8 (i := 82) (by decide) (by decide)
       obtain ⟨f, hf⟩ : ∃ f, q2 82 = f := ⟨_, rfl⟩
       have hfx : q3 82 = f := by rw [← hf, ← Eq3.out]; exact rgA_out _ _ (by decide)
       rw [hf] at hr ⊢
       have hw : wrap64 f = f := IntWalk.wrap64_in _ ⟨by omega, by omega⟩
       cases g : keeB q3 1 f c.k
       ·have HG := H_ g
        have HY := H_ (rg_no Eq4.out (by rw [hfx]; exact g))
        clear g hf
        go_wp2_with (first
         | (guard_target = gI 35; refine step_index (op := ⟨some 35, .index _ _ _, _, _, _, _⟩) rfl 27 26 _ _ rfl 2 _ rfl .i64 1 rfl (by decide) Tryz.underlying27 Tryz.underlying26 rfl size26 (.int .i8 f) rfl ?_)
         | (go_at_call 139; refine (keepK HG.out b _ HC.out Hq3.out.dr.bd (HT.out.at HB.out).db (by decide)).mono ?_; rintro e w3 ⟨rfl, hb⟩; have HC := H_ (HC.out.later hb); have HB := H_ (kept_on HB.out hb); clear hb)
         | (refine ch_cell rfl 26 _ _ rfl 82 rfl .i8 (-1) rfl HC.out (by decide) rfl size5 ?_; intro wn U R; have HC := H_ R; have HB := H_ (kept_upd HB.out U); clear U R))
        go_roundw
        case rel => exact ⟨Or.inr (Or.inr ⟨by go_num, by rw [HY.out]; exact HC.out⟩), HB.out⟩
        case measure => simp [intOf]
       ·have HG := H_ g
        have HY := H_ (rg_yes Eq4.out (by rw [hfx]; exact g))
        clear g hf
        go_wp2_with (first
         | (guard_target = gI 35; refine step_index (op := ⟨some 35, .index _ _ _, _, _, _, _⟩) rfl 27 26 _ _ rfl 2 _ rfl .i64 1 rfl (by decide) Tryz.underlying27 Tryz.underlying26 rfl size26 (.int .i8 f) rfl ?_)
         | (go_at_call 139; refine (keepK HG.out b _ HC.out Hq3.out.dr.bd (HT.out.at HB.out).db (by decide)).mono ?_; rintro e w3 ⟨rfl, hb⟩; have HC := H_ (HC.out.later hb); have HB := H_ (kept_on HB.out hb); clear hb))
        go_roundw
        case rel => exact ⟨Or.inr (Or.inr ⟨by go_num, by rw [HY.out]; exact HC.out⟩), HB.out⟩
        case measure => simp [intOf]
      ·have HC := H_ hc
       clear hc
       go_wp2_with fail
       go_roundw
       case rel => exact ⟨Or.inr (Or.inr ⟨by go_num, HC.out⟩), HB.out⟩
       case measure => simp [intOf]
    ·have HC := H_ hc
     clear hc
     go_wp2_with fail
     refine bodyPost_end (results_none rfl _ _ _) rfl ?_
     exact ⟨⟨_, rfl⟩, HC.out, HB.out⟩
  ·have H78 := H_ h78
   have HN := H_ (show noK p c = upd (upd p 81 (-1)) 82 (-1) by unfold noK noR; rw [g, h78]; rfl)
   clear h78
   go_enter Tryz.func67, Tryz.ntmps67
   go_wp2_with (first
    | (refine step_get rfl 5 _ rfl b 93 rfl Tryz.underlying5 rfl (.int .u8 c.x) (HC.out.x) ?_)
    | (go_at_call 138; refine (knd_any _ _ (by omega) (by omega)).mono ?_; rintro e w3 ⟨rfl, rfl⟩))
   refine late_begin 11 (by kernel_rfl) ?_
   refine lw 0 rfl ?_
   simp only [Act.put, pa, pb, pc]
   refine lw 1 rfl ?_
   simp only [Act.put, pa, pb, pc]
   refine lw 2 rfl ?_
   simp only [Act.put, pa, pb, pc]
   refine lw 3 rfl ?_
   simp only [Act.put, pa, pb, pc]
   refine lw 4 rfl ?_
   simp only [Act.put, pa, pb, pc]
   refine lv 5 rfl ⟨.int .u8 1, fun w' hl => (run_get 5 _ rfl b 78 rfl Tryz.underlying5 rfl (.int .u8 1) (((HC.out.later hl).cell 78 (by decide)).trans (by rw [H78.out]; rfl))), ?_⟩
   simp only [Act.put, pa, pb, pc]
   refine lw 6 rfl ?_
   simp only [Act.put, pa, pb, pc]
   refine late_takeD 7 [8, 9, 10, 11] (by kernel_rfl) (by kernel_rfl) (by kernel_rfl) (by kernel_rfl) (by kernel_rfl) (fun _ _ d _ _ h => by cases d <;> exact h) (fun o ho => ?_)
   simp only [qa, qb, qc, qd] at ho; subst ho
   apply Exists.intro
   refine ⟨Or.inl ⟨by kernel_rfl, fun w' hl => Or.inl ?_⟩, ?_⟩
   ·(go_simp; try with_reducible rfl)
   simp only [Act.put, pa, pb, pc]
   refine late_takeD 8 [9, 10, 11] (by kernel_rfl) (by kernel_rfl) (by kernel_rfl) (by kernel_rfl) (by kernel_rfl) (fun _ _ d _ _ h => by cases d <;> exact h) (fun o ho => ?_)
   simp only [qa, qb, qc, qd] at ho; subst ho
   apply Exists.intro
   refine ⟨Or.inl ⟨by kernel_rfl, fun w' hl => Or.inl ?_⟩, ?_⟩
   ·(go_simp; try with_reducible rfl)
   simp only [Act.put, pa, pb, pc]
   refine late_takeD 9 [10, 11] (by kernel_rfl) (by kernel_rfl) (by kernel_rfl) (by kernel_rfl) (by kernel_rfl) (fun _ _ d _ _ h => by cases d <;> exact h) (fun o ho => ?_)
   simp only [qa, qb, qc, qd] at ho; subst ho
   apply Exists.intro
   refine ⟨Or.inl ⟨by kernel_rfl, fun w' hl => Or.inl ?_⟩, ?_⟩
   ·(go_simp; try with_reducible rfl)
   simp only [Act.put, pa, pb, pc]
   refine lw 10 rfl ?_
   simp only [Act.put, pa, pb, pc]
   refine late_last 11 (by kernel_rfl) (by kernel_rfl) (by kernel_rfl) (fun o ho => ?_)
   simp only [qa, qb, qc, qd] at ho; subst ho
   refine ⟨by kernel_rfl, fun wn hl K hK => ?_⟩
   have HC := H_ (HC.out.later hl); have HB := H_ (kept_on HB.out hl); clear hl
   refine late_two _ _ rfl b 81 rfl (-1) (-1) rfl p c HC.out (by decide) (by decide) ?_; intro wm U R; have HC := H_ (show CH wm b q0 c by rw [← HE0.out, HN.out]; exact R); have HB := H_ (kept_upd HB.out U); clear U R
   refine hK.out _ _ ?_
   clear hK K
   simp only [Act.put, pa, pb, pc]
   go_wp2_with fail
   go_loopw [22] (fun i wr => (i = .int .u8 0 ∧ CH wr b q0 c ∨ i = .int .u8 1 ∧ CH wr b q2 c ∨ i = .int .u8 2 ∧ CH wr b q4 c) ∧ Kept (fun k => k = b) w wr) (fun i _ => 2 - (intOf i).toNat)
   case atStart => exact ⟨Or.inl ⟨rfl, HC.out⟩, HB.out⟩
   case round =>
    clear HC HB
    obtain ⟨hrel, hk⟩ := hrel
    have HB := H_ hk
    clear hk
    rcases hrel with ⟨rfl, hc⟩ | ⟨rfl, hc⟩ | ⟨rfl, hc⟩
    ·have HC := H_ hc
     clear hc
     go_wp2_with (refine step_pair2 rfl _ rfl 79 rfl HC.out (by decide) (.int .i8 (q0 79)) (.int .i8 (q0 80)) rfl rfl ?_)
     go_loopw [32] (fun i wr => (i = .int .i64 0 ∧ CH wr b q0 c ∨ i = .int .i64 1 ∧ CH wr b q1 c ∨ i = .int .i64 2 ∧ CH wr b q2 c) ∧ Kept (fun k => k = b) w wr) (fun i _ => 2 - (intOf i).toNat)
     case atStart => exact ⟨Or.inl ⟨rfl, HC.out⟩, HB.out⟩
     case round =>
      clear HC HB
      obtain ⟨hrel, hk⟩ := hrel
      have HB := H_ hk
      clear hk
      rcases hrel with ⟨rfl, hc⟩ | ⟨rfl, hc⟩ | ⟨rfl, hc⟩
      ·have HC := H_ hc
       clear hc
       have hr := Hq0.out.i8 (i := 79) (by decide) (by decide)
       obtain ⟨f, hf⟩ : ∃ f, q0 79 = f := ⟨_, rfl⟩
       have hfx : q0 79 = f := hf
       rw [hf] at hr ⊢
       have hw : wrap64 f = f := IntWalk.wrap64_in _ ⟨by omega, by omega⟩
       cases g : keeB q0 0 f c.k
       ·have HG := H_ g
        have HY := H_ (rg_no Eq1.out (by rw [hfx]; exact g))
        clear g hf
        go_wp2_with (first
         | (guard_target = gI 35; refine step_index (op := ⟨some 35, .index _ _ _, _, _, _, _⟩) rfl 27 26 _ _ rfl 2 _ rfl .i64 0 rfl (by decide) Tryz.underlying27 Tryz.underlying26 rfl size26 (.int .i8 f) rfl ?_)
         | (go_at_call 139; refine (keepK HG.out b _ HC.out Hq0.out.dr.bd (HT.out.at HB.out).db (by decide)).mono ?_; rintro e w3 ⟨rfl, hb⟩; have HC := H_ (HC.out.later hb); have HB := H_ (kept_on HB.out hb); clear hb)
         | (refine ch_cell rfl 26 _ _ rfl 79 rfl .i8 (-1) rfl HC.out (by decide) rfl size5 ?_; intro wn U R; have HC := H_ R; have HB := H_ (kept_upd HB.out U); clear U R))
        go_roundw
        case rel => exact ⟨Or.inr (Or.inl ⟨by go_num, by rw [HY.out]; exact HC.out⟩), HB.out⟩
        case measure => simp [intOf]
       ·have HG := H_ g
        have HY := H_ (rg_yes Eq1.out (by rw [hfx]; exact g))
        clear g hf
        go_wp2_with (first
         | (guard_target = gI 35; refine step_index (op := ⟨some 35, .index _ _ _, _, _, _, _⟩) rfl 27 26 _ _ rfl 2 _ rfl .i64 0 rfl (by decide) Tryz.underlying27 Tryz.underlying26 rfl size26 (.int .i8 f) rfl ?_)
         | (go_at_call 139; refine (keepK HG.out b _ HC.out Hq0.out.dr.bd (HT.out.at HB.out).db (by decide)).mono ?_; rintro e w3 ⟨rfl, hb⟩; have HC := H_ (HC.out.later hb); have HB := H_ (kept_on HB.out hb); clear hb))
        go_roundw
        case rel => exact ⟨Or.inr (Or.inl ⟨by go_num, by rw [HY.out]; exact HC.out⟩), HB.out⟩
        case measure => simp [intOf]
      ·have HC := H_ hc
       clear hc
       have hr := Hq0.out.i8 (i := 80) (by decide) (by decide)
       obtain ⟨f, hf⟩ : ∃ f, q0 80 = f := ⟨_, rfl⟩
       have hfx : q1 80 = f := by rw [← hf, ← Eq1.out]; exact rgA_out _ _ (by decide)
       rw [hf] at hr ⊢
       have hw : wrap64 f = f := IntWalk.wrap64_in _ ⟨by omega, by omega⟩
       cases g : keeB q1 0 f c.k
       ·have HG := H_ g
        have HY := H_ (rg_no Eq2.out (by rw [hfx]; exact g))
        clear g hf
        go_wp2_with (first
         | (guard_target = gI 35; refine step_index (op := ⟨some 35, .index _ _ _, _, _, _, _⟩) rfl 27 26 _ _ rfl 2 _ rfl .i64 1 rfl (by decide) Tryz.underlying27 Tryz.underlying26 rfl size26 (.int .i8 f) rfl ?_)
         | (go_at_call 139; refine (keepK HG.out b _ HC.out Hq1.out.dr.bd (HT.out.at HB.out).db (by decide)).mono ?_; rintro e w3 ⟨rfl, hb⟩; have HC := H_ (HC.out.later hb); have HB := H_ (kept_on HB.out hb); clear hb)
         | (refine ch_cell rfl 26 _ _ rfl 80 rfl .i8 (-1) rfl HC.out (by decide) rfl size5 ?_; intro wn U R; have HC := H_ R; have HB := H_ (kept_upd HB.out U); clear U R))
        go_roundw
        case rel => exact ⟨Or.inr (Or.inr ⟨by go_num, by rw [HY.out]; exact HC.out⟩), HB.out⟩
        case measure => simp [intOf]
       ·have HG := H_ g
        have HY := H_ (rg_yes Eq2.out (by rw [hfx]; exact g))
        clear g hf
        go_wp2_with (first
         | (guard_target = gI 35; refine step_index (op := ⟨some 35, .index _ _ _, _, _, _, _⟩) rfl 27 26 _ _ rfl 2 _ rfl .i64 1 rfl (by decide) Tryz.underlying27 Tryz.underlying26 rfl size26 (.int .i8 f) rfl ?_)
         | (go_at_call 139; refine (keepK HG.out b _ HC.out Hq1.out.dr.bd (HT.out.at HB.out).db (by decide)).mono ?_; rintro e w3 ⟨rfl, hb⟩; have HC := H_ (HC.out.later hb); have HB := H_ (kept_on HB.out hb); clear hb))
        go_roundw
        case rel => exact ⟨Or.inr (Or.inr ⟨by go_num, by rw [HY.out]; exact HC.out⟩), HB.out⟩
        case measure => simp [intOf]
      ·have HC := H_ hc
       clear hc
       go_wp2_with fail
       go_roundw
       case rel => exact ⟨Or.inr (Or.inl ⟨by go_num, HC.out⟩), HB.out⟩
       case measure => simp [intOf]
    ·have HC := H_ hc
     clear hc
     go_wp2_with (refine step_pair2 rfl _ rfl 81 rfl HC.out (by decide) (.int .i8 (q2 81)) (.int .i8 (q2 82)) rfl rfl ?_)
     go_loopw [32] (fun i wr => (i = .int .i64 0 ∧ CH wr b q2 c ∨ i = .int .i64 1 ∧ CH wr b q3 c ∨ i = .int .i64 2 ∧ CH wr b q4 c) ∧ Kept (fun k => k = b) w wr) (fun i _ => 2 - (intOf i).toNat)
     case atStart => exact ⟨Or.inl ⟨rfl, HC.out⟩, HB.out⟩
     case round =>
      clear HC HB
      obtain ⟨hrel, hk⟩ := hrel
      have HB := H_ hk
      clear hk
      rcases hrel with ⟨rfl, hc⟩ | ⟨rfl, hc⟩ | ⟨rfl, hc⟩
      ·have HC := H_ hc
       clear hc
       have hr := Hq2.out.i8 (i := 81) (by decide) (by decide)
       obtain ⟨f, hf⟩ : ∃ f, q2 81 = f := ⟨_, rfl⟩
       have hfx : q2 81 = f := hf
       rw [hf] at hr ⊢
       have hw : wrap64 f = f := IntWalk.wrap64_in _ ⟨by omega, by omega⟩
       cases g : keeB q2 1 f c.k
       ·have HG := H_ g
        have HY := H_ (rg_no Eq3.out (by rw [hfx]; exact g))
        clear g hf
        go_wp2_with (first
         | (guard_target = gI 35; refine step_index (op := ⟨some 35, .index _ _ _, _, _, _, _⟩) rfl 27 26 _ _ rfl 2 _ rfl .i64 0 rfl (by decide) Tryz.underlying27 Tryz.underlying26 rfl size26 (.int .i8 f) rfl ?_)
         | (go_at_call 139; refine (keepK HG.out b _ HC.out Hq2.out.dr.bd (HT.out.at HB.out).db (by decide)).mono ?_; rintro e w3 ⟨rfl, hb⟩; have HC := H_ (HC.out.later hb); have HB := H_ (kept_on HB.out hb); clear hb)
         | (refine ch_cell rfl 26 _ _ rfl 81 rfl .i8 (-1) rfl HC.out (by decide) rfl size5 ?_; intro wn U R; have HC := H_ R; have HB := H_ (kept_upd HB.out U); clear U R))
        go_roundw
        case rel => exact ⟨Or.inr (Or.inl ⟨by go_num, by rw [HY.out]; exact HC.out⟩), HB.out⟩
        case measure => simp [intOf]
       ·have HG := H_ g
        have HY := H_ (rg_yes Eq3.out (by rw [hfx]; exact g))
        clear g hf
        go_wp2_with (first
         | (guard_target = gI 35; refine step_index (op := ⟨some 35, .index _ _ _, _, _, _, _⟩) rfl 27 26 _ _ rfl 2 _ rfl .i64 0 rfl (by decide) Tryz.underlying27 Tryz.underlying26 rfl size26 (.int .i8 f) rfl ?_)
         | (go_at_call 139; refine (keepK HG.out b _ HC.out Hq2.out.dr.bd (HT.out.at HB.out).db (by decide)).mono ?_; rintro e w3 ⟨rfl, hb⟩; have HC := H_ (HC.out.later hb); have HB := H_ (kept_on HB.out hb); clear hb))
        go_roundw
        case rel => exact ⟨Or.inr (Or.inl ⟨by go_num, by rw [HY.out]; exact HC.out⟩), HB.out⟩
        case measure => simp [intOf]
      ·have HC := H_ hc
       clear hc
       have hr := Hq2.out.i8 (i := 82) (by decide) (by decide)
       obtain ⟨f, hf⟩ : ∃ f, q2 82 = f := ⟨_, rfl⟩
       have hfx : q3 82 = f := by rw [← hf, ← Eq3.out]; exact rgA_out _ _ (by decide)
       rw [hf] at hr ⊢
       have hw : wrap64 f = f := IntWalk.wrap64_in _ ⟨by omega, by omega⟩
       cases g : keeB q3 1 f c.k
       ·have HG := H_ g
        have HY := H_ (rg_no Eq4.out (by rw [hfx]; exact g))
        clear g hf
        go_wp2_with (first
         | (guard_target = gI 35; refine step_index (op := ⟨some 35, .index _ _ _, _, _, _, _⟩) rfl 27 26 _ _ rfl 2 _ rfl .i64 1 rfl (by decide) Tryz.underlying27 Tryz.underlying26 rfl size26 (.int .i8 f) rfl ?_)
         | (go_at_call 139; refine (keepK HG.out b _ HC.out Hq3.out.dr.bd (HT.out.at HB.out).db (by decide)).mono ?_; rintro e w3 ⟨rfl, hb⟩; have HC := H_ (HC.out.later hb); have HB := H_ (kept_on HB.out hb); clear hb)
         | (refine ch_cell rfl 26 _ _ rfl 82 rfl .i8 (-1) rfl HC.out (by decide) rfl size5 ?_; intro wn U R; have HC := H_ R; have HB := H_ (kept_upd HB.out U); clear U R))
        go_roundw
        case rel => exact ⟨Or.inr (Or.inr ⟨by go_num, by rw [HY.out]; exact HC.out⟩), HB.out⟩
        case measure => simp [intOf]
       ·have HG := H_ g
        have HY := H_ (rg_yes Eq4.out (by rw [hfx]; exact g))
        clear g hf
        go_wp2_with (first
         | (guard_target = gI 35; refine step_index (op := ⟨some 35, .index _ _ _, _, _, _, _⟩) rfl 27 26 _ _ rfl 2 _ rfl .i64 1 rfl (by decide) Tryz.underlying27 Tryz.underlying26 rfl size26 (.int .i8 f) rfl ?_)
         | (go_at_call 139; refine (keepK HG.out b _ HC.out Hq3.out.dr.bd (HT.out.at HB.out).db (by decide)).mono ?_; rintro e w3 ⟨rfl, hb⟩; have HC := H_ (HC.out.later hb); have HB := H_ (kept_on HB.out hb); clear hb))
        go_roundw
        case rel => exact ⟨Or.inr (Or.inr ⟨by go_num, by rw [HY.out]; exact HC.out⟩), HB.out⟩
        case measure => simp [intOf]
      ·have HC := H_ hc
       clear hc
       go_wp2_with fail
       go_roundw
       case rel => exact ⟨Or.inr (Or.inr ⟨by go_num, HC.out⟩), HB.out⟩
       case measure => simp [intOf]
    ·have HC := H_ hc
     clear hc
     go_wp2_with fail
     refine bodyPost_end (results_none rfl _ _ _) rfl ?_
     exact ⟨⟨_, rfl⟩, HC.out, HB.out⟩
end Go.Proofs.YteblmnbagbdiiaaGreatDoor
/-
 Layer 16: is a move in a list (slices.Contains, slices.Index); the lists of a move's sort.
-/
namespace Go.Proofs.YteblmnbagbdiiaaGreatDoor
open Go.RowKit Go.Shelf
set_option linter.unusedVariables false
set_option linter.unusedSimpArgs false
attribute [local go_sem] Oper.semAt_some

theorem pms_mvs {B : Nat} {L : List Pm} {v : Value} {w : World} (h : PmsO B L v w) : MvsO B (L.map pmM) v w := by
 have e : pmL L = cmL (L.map pmM) := by
  unfold pmL cmL
  rw [List.flatMap_map]; rfl
 unfold MvsO
 rw [List.length_map, ← e]; exact h
theorem take_any {α : Type} {f : α → Bool} {L : List α} {k : Nat} {x : α} (h : L[k]? = some x) (h1 : ((L.take k).any f) = false) (h2 : f x = false) : ((L.take (k + 1)).any f) = false := by
 rw [List.take_add_one, h, List.any_append, h1]; simp [h2]
theorem hit_any {α : Type} {f : α → Bool} {L : List α} {k : Nat} {x : α} (h : L[k]? = some x) (h2 : f x = true) : L.any f = true := List.any_eq_true.2 ⟨x, List.mem_of_getElem? h, h2⟩
def IdxP (b : Bool) (w : World) (e : Ending) (w' : World) : Prop := ∃ r : Int, e = .returned (.int .i64 r) ∧ decide (0 ≤ r) = b ∧ Below w.heap.size w w'
theorem index_any (L : List Mv) (a : Option Addr) (c : Nat) (m : Mv) (w : World) (hn : L.length ≤ 1000000) (hv : ∀ (i : Nat) (m : Mv), L[i]? = some m → FitV m) (hm : FitV m) (h1 : Mvs L a w) :
  Calls Tryz.prog 61 #[.slice a L.length c, .agg (mvA m)] w (IdxP (L.any fun n => mvE m n) w) := by
 have HL := H_ h1
 have HV := H_ hv
 have HM := H_ hm
 have HN := H_ hn
 have HB := H_ (Below.refl w.heap.size w)
 clear h1 hv hm hn
 go_enter Tryz.func61, Tryz.ntmps61
 go_wp2_with (guard_target = gB 3; refine blk_box rfl 40 _ rfl (mvA m) rfl ?_; intro b3 w1 N R; have HL := H_ (HL.out.later N.below); have HB := H_ (below_on HB.out N.below); have HR3 := H_ R; clear N R)
 go_loopw [8] (fun i wr => ∃ k : Nat, k ≤ L.length ∧ i = .int .i64 (k : Int) ∧ ((L.take k).any fun n => mvE m n) = false ∧ Mvs L a wr ∧ Blk wr b3 40 (mvA m) ∧ Below w.heap.size w wr) (fun i _ => L.length - (intOf i).toNat)
 case atStart => exact ⟨0, by omega, rfl, by simp, HL.out, HR3.out, HB.out⟩
 case round =>
  clear HL HB HR3
  obtain ⟨k, hk, rfl, hany, hl, hr, hb⟩ := hrel
  have HL := H_ hl
  have HR3 := H_ hr
  have HB := H_ hb
  have HA := H_ hany
  clear hl hr hb hany
  by_cases hlt : k < L.length
  ·obtain ⟨x, hx⟩ : ∃ x, L[k]? = some x := ⟨_, List.getElem?_eq_getElem hlt⟩
   obtain ⟨g, rfl, _⟩ := HL.out.at hx
   have HX := H_ hx
   have HVx := H_ (HV.out k x hx)
   have hw1 : (k : Int) < 1000000 := by have := HN.out; omega
   clear hx
   obtain ⟨e, he⟩ : ∃ e, mvE m x = e := ⟨_, rfl⟩
   have HE := H_ he
   clear he
   cases e
   ·go_wp2_with fail
    refine late_begin 6 (by kernel_rfl) ?_
    refine lv 0 rfl ⟨.agg (mvA m), fun w' hl => (run_blk 40 _ rfl b3 rfl (mvA m) (HR3.out.later hl) _ Tryz.underlying40 rfl sizeMv), ?_⟩
    simp only [Act.put, pa, pb, pc]
    refine lw 1 rfl ?_
    simp only [Act.put, pa, pb, pc]
    refine lw 2 rfl ?_
    simp only [Act.put, pa, pb, pc]
    refine lv 3 rfl ⟨.pointer (some ⟨g, k * 5, none⟩), fun w' hl => ?_, ?_⟩
    ·(go_simp <;> (intro hbad; omega))
    simp only [Act.put, pa, pb, pc]
    refine lv 4 rfl ⟨.agg (mvA x), fun w' hl => (run_mvK _ rfl g k _ rfl (by first | omega | (simp; omega)) x ((HL.out.later hl).get HX.out)), ?_⟩
    simp only [Act.put, pa, pb, pc]
    refine lv 5 rfl ⟨.bool false, fun w' hl => (run_mvQ _ _ rfl m x rfl rfl HM.out HVx.out false HE.out), ?_⟩
    simp only [Act.put, pa, pb, pc]
    refine late_end (by kernel_rfl) (fun wn hl => ?_)
    have HL := H_ (HL.out.later hl); have HR3 := H_ (HR3.out.later hl); have HB := H_ (below_on HB.out hl); clear hl
    go_wp2_with fail
    go_roundw
    case rel => exact ⟨k + 1, by omega, by go_num, take_any HX.out HA.out HE.out, HL.out, HR3.out, HB.out⟩
    case measure => simp [intOf]; omega
   ·go_wp2_with fail
    refine late_begin 6 (by kernel_rfl) ?_
    refine lv 0 rfl ⟨.agg (mvA m), fun w' hl => (run_blk 40 _ rfl b3 rfl (mvA m) (HR3.out.later hl) _ Tryz.underlying40 rfl sizeMv), ?_⟩
    simp only [Act.put, pa, pb, pc]
    refine lw 1 rfl ?_
    simp only [Act.put, pa, pb, pc]
    refine lw 2 rfl ?_
    simp only [Act.put, pa, pb, pc]
    refine lv 3 rfl ⟨.pointer (some ⟨g, k * 5, none⟩), fun w' hl => ?_, ?_⟩
    ·(go_simp <;> (intro hbad; omega))
    simp only [Act.put, pa, pb, pc]
    refine lv 4 rfl ⟨.agg (mvA x), fun w' hl => (run_mvK _ rfl g k _ rfl (by first | omega | (simp; omega)) x ((HL.out.later hl).get HX.out)), ?_⟩
    simp only [Act.put, pa, pb, pc]
    refine lv 5 rfl ⟨.bool true, fun w' hl => (run_mvQ _ _ rfl m x rfl rfl HM.out HVx.out true HE.out), ?_⟩
    simp only [Act.put, pa, pb, pc]
    refine late_end (by kernel_rfl) (fun wn hl => ?_)
    have HL := H_ (HL.out.later hl); have HR3 := H_ (HR3.out.later hl); have HB := H_ (below_on HB.out hl); clear hl
    go_wp2_with fail
    go_ret
    exact ⟨(k : Int), rfl, by rw [hit_any HX.out HE.out]; exact decide_eq_true (by omega), HB.out⟩
  ·obtain rfl : k = L.length := by omega
   go_wp2_with fail
   go_ret
   exact ⟨-1, rfl, by have := HA.out; rw [List.take_length] at this; rw [this]; rfl, HB.out⟩
theorem contains_any (L : List Mv) (a : Option Addr) (c : Nat) (m : Mv) (w : World) (hn : L.length ≤ 1000000) (hv : ∀ (i : Nat) (m : Mv), L[i]? = some m → FitV m) (hm : FitV m) (h1 : Mvs L a w) :
  Calls Tryz.prog 26 #[.slice a L.length c, .agg (mvA m)] w (BoL (L.any fun n => mvE m n) w) := by
 have HL := H_ h1
 have HV := H_ hv
 have HM := H_ hm
 have HN := H_ hn
 clear h1 hv hm hn
 have HB := H_ (Below.refl w.heap.size w)
 go_enter Tryz.func26, Tryz.ntmps26
 go_wp2_with (first
   | (guard_target = gB 3; refine blk_box rfl 40 _ rfl (mvA m) rfl ?_; intro b3 w1 N R; have HG3 := H_ (nA HB.out N); have HL := H_ (HL.out.later N.below); have HB := H_ (below_on HB.out N.below); have HR3 := H_ R; clear N R)
   | (guard_target = gL 3; refine blk_load rfl 40 _ rfl b3 rfl (mvA m) HR3.out _ Tryz.underlying40 rfl sizeMv ?_)
   | (go_at_call 61; refine (index_any L a c m _ HN.out HV.out HM.out HL.out).mono ?_; rintro e w3 ⟨r, rfl, hr, hb⟩; have HI := H_ hr; have HB := H_ (below_on HB.out hb); clear hb hr))
 go_ret
 exact ⟨by rw [← HI.out]; rfl, HB.out⟩
def MvL (L : List Mv) (w : World) (e : Ending) (w' : World) : Prop := ∃ v, e = .returned v ∧ MvsO w.heap.size L v w' ∧ Below w.heap.size w w'
theorem mvsO_down {B C : Nat} {L : List Mv} {v : Value} {w : World} (h : MvsO B L v w) (hc : C ≤ B) : MvsO C L v w := by
 refine ⟨h.1, ?_⟩
 rcases h.2 with hn | ⟨g, cap, cur, hv, hB, rest⟩
 ·exact .inl hn
 ·exact .inr ⟨g, cap, cur, hv, Nat.le_trans hc hB, rest⟩
theorem csR_of {p : Nat → Int} (h : WfP p) : CsR p := ⟨AtR.of h, fun i hi => by
 have hw := h (79 + i) (by omega)
 have e : kAt (79 + i) = .i8 := by rcases (by omega : i = 0 ∨ i = 1 ∨ i = 2 ∨ i = 3) with rfl | rfl | rfl | rfl <;> rfl
 rw [e] at hw
 simp only [Lit.wf, Bool.and_eq_true, decide_eq_true_eq] at hw
 exact hw⟩
theorem CsT.ps {w : World} (h : CsT w) : PsT w := ⟨h.var, h.db, h.lead⟩
theorem CsT.dr {w : World} (h : CsT w) : DrT w := ⟨h.var, h.db⟩
theorem sort_any (p : Nat → Int) (m : Mv) (w : World) (hp : WfP p) (hm : FitV m) (hT : CsT w) : Calls Tryz.prog 27 #[.agg (posA p), .agg (mvA m)] w (MvL (sorL p m) w) := by
 have HP := H_ hp
 have HT := H_ hT
 clear hp hT
 have hd := hm.dr
 unfold sorL
 have HB := H_ (Below.refl w.heap.size w)
 cases g1 : m.ca
 ·cases g2 : (m.dr == 0)
  ·have gn : m.dr ≠ 0 := beq_eq_false_iff_ne.1 g2
   go_enter Tryz.func27, Tryz.ntmps27
   go_wp2_with (first
    | (guard_target = gB 2; refine step_box rfl _ rfl p rfl ?_; intro b2 w1 N R; have HG2 := H_ (nA HB.out N); have HB := H_ (below_on HB.out N.below); have HR2 := H_ R; clear N R)
    | (guard_target = gB 3; refine blk_box rfl 40 _ rfl (mvA m) rfl ?_; intro b3 w1 N R; have HG3 := H_ (nA HB.out N); have HR2 := H_ (HR2.out.later N.below); have HB := H_ (below_on HB.out N.below); have HR3 := H_ R; clear N R)
    | (guard_target = gL 2; refine step_load rfl _ rfl b2 rfl p HR2.out ?_)
    | (guard_target = gL 6; refine step_get rfl 4 _ rfl b3 4 rfl Tryz.underlying4 rfl (.bool m.ca) ?_ ?_; exact (HR3.out.cell 4).trans rfl)
    | (guard_target = gL 11; refine step_get rfl 5 _ rfl b3 3 rfl Tryz.underlying5 rfl (.int .u8 m.dr) ?_ ?_; exact (HR3.out.cell 3).trans rfl)
    | (go_at_call 38; refine (list_dr p _ (HP.out.dr) (HT.out.on HB.out).dr).mono ?_; rintro e w3 ⟨v, rfl, hv, hb⟩; have HV := H_ (mvsO_down hv HB.out.size); have HB := H_ (below_on HB.out hb); clear hb hv))
   go_ret
   exact ⟨_, rfl, HV.out, HB.out⟩
  ·have gn : m.dr = 0 := eq_of_beq g2
   go_enter Tryz.func27, Tryz.ntmps27
   go_wp2_with (first
    | (guard_target = gB 2; refine step_box rfl _ rfl p rfl ?_; intro b2 w1 N R; have HG2 := H_ (nA HB.out N); have HB := H_ (below_on HB.out N.below); have HR2 := H_ R; clear N R)
    | (guard_target = gB 3; refine blk_box rfl 40 _ rfl (mvA m) rfl ?_; intro b3 w1 N R; have HG3 := H_ (nA HB.out N); have HR2 := H_ (HR2.out.later N.below); have HB := H_ (below_on HB.out N.below); have HR3 := H_ R; clear N R)
    | (guard_target = gL 2; refine step_load rfl _ rfl b2 rfl p HR2.out ?_)
    | (guard_target = gL 6; refine step_get rfl 4 _ rfl b3 4 rfl Tryz.underlying4 rfl (.bool m.ca) ?_ ?_; exact (HR3.out.cell 4).trans rfl)
    | (guard_target = gL 11; refine step_get rfl 5 _ rfl b3 3 rfl Tryz.underlying5 rfl (.int .u8 m.dr) ?_ ?_; exact (HR3.out.cell 3).trans rfl)
    | (go_at_call 36; refine (list_ps p _ (PsR.of HP.out) (HT.out.on HB.out).ps).mono ?_; rintro e w3 ⟨v, rfl, hv, hb⟩; have hv := pms_mvs hv; have HV := H_ (mvsO_down hv HB.out.size); have HB := H_ (below_on HB.out hb); clear hb hv))
   go_ret
   exact ⟨_, rfl, HV.out, HB.out⟩
 ·go_enter Tryz.func27, Tryz.ntmps27
  go_wp2_with (first
   | (guard_target = gB 2; refine step_box rfl _ rfl p rfl ?_; intro b2 w1 N R; have HG2 := H_ (nA HB.out N); have HB := H_ (below_on HB.out N.below); have HR2 := H_ R; clear N R)
   | (guard_target = gB 3; refine blk_box rfl 40 _ rfl (mvA m) rfl ?_; intro b3 w1 N R; have HG3 := H_ (nA HB.out N); have HR2 := H_ (HR2.out.later N.below); have HB := H_ (below_on HB.out N.below); have HR3 := H_ R; clear N R)
   | (guard_target = gL 2; refine step_load rfl _ rfl b2 rfl p HR2.out ?_)
   | (guard_target = gL 6; refine step_get rfl 4 _ rfl b3 4 rfl Tryz.underlying4 rfl (.bool m.ca) ?_ ?_; exact (HR3.out.cell 4).trans rfl)
   | (guard_target = gL 11; refine step_get rfl 5 _ rfl b3 3 rfl Tryz.underlying5 rfl (.int .u8 m.dr) ?_ ?_; exact (HR3.out.cell 3).trans rfl)
   | (go_at_call 37; refine (list_cs p _ (csR_of HP.out) (HT.out.on HB.out)).mono ?_; rintro e w3 ⟨v, rfl, hv, hb⟩; have HV := H_ (mvsO_down hv HB.out.size); have HB := H_ (below_on HB.out hb); clear hb hv))
  go_ret
  exact ⟨_, rfl, HV.out, HB.out⟩
end Go.Proofs.YteblmnbagbdiiaaGreatDoor
/-
 Layer 16: contracts of the change's blast, after's begun, the change's steps.
-/
namespace Go.Proofs.YteblmnbagbdiiaaGreatDoor
open Go.RowKit Go.Shelf
set_option linter.unusedVariables false
set_option linter.unusedSimpArgs false
attribute [local go_sem] Oper.semAt_some

theorem hasN_near {p : Nat → Int} {s : Nat} (hs : s < 64) : (blwN p (s : Int)).testBit s = true := by
 unfold blwN
 rw [putN_testBit, sq_true.2 ⟨by omega, by omega⟩]
 simp
theorem blw_lt (p : Nat → Int) (s : Int) : blwN p s < W64 := putN_lt (nearN_lt p s) s
theorem ChR.clr {c : Ch} : ∀ (l : List Nat) (p : Nat → Int), ChR p c → ChR (clrL p l) c
 | [], _, h => h
 | s :: l, p, h => ChR.clr l _ (h.put _ _ ⟨by decide, by decide⟩)
theorem ChR.bla {p : Nat → Int} {c : Ch} (h : ChR p c) : ChR (blaA p c) c := by
 unfold blaA
 cases ((p 0 == 3) && !(c.k == -1))
 ·exact h
 ·exact ChR.clr _ _ h
theorem clr_take {p : Nat → Int} {L : List Nat} {j s : Nat} (h : L[j]? = some s) : clrL p (L.take (j + 1)) = putP (clrL p (L.take j)) (s : Int) 0 := by
 rw [List.take_add_one, h]; exact clrL_snoc _ _ _
theorem blownK {p : Nat → Int} {s : Int} {n : Nat} (e : blwN p s = n) (w : World) (hp : BdR p) (hL : TabLead w) : Calls Tryz.prog 137 #[.agg (posA p), .int .i64 s] w (U64L n w) := e ▸ af_blown p s w hp hL
theorem af_blast (b : Nat) (p : Nat → Int) (c : Ch) (w : World) (hC : CH w b p c) (hR : ChR p c) (hT : AfT b w) : Calls Tryz.prog 66 #[.pointer (some ⟨b, 0, none⟩)] w (AfL b (blaA p c) c w) := by
 have HC := H_ hC
 have HM := H_ hR.m
 have HR := H_ hR
 have HT := H_ hT
 have htt := hR.t
 clear hC hR hT
 have HB := H_ (Kept.refl (fun k => k = b) w)
 unfold blaA
 cases g1 : (p 0 == 3)
 ·have gn : p 0 ≠ 3 := beq_eq_false_iff_ne.1 g1
  go_enter Tryz.func66, Tryz.ntmps66
  go_wp2_with (first
   | (refine step_get rfl 5 _ rfl b 0 rfl Tryz.underlying5 rfl (.int .u8 (p 0)) (HC.out.cell 0 (by decide)) ?_))
  refine bodyPost_ret (results_none rfl _ _ _) rfl ?_
  exact ⟨⟨_, rfl⟩, HC.out, HB.out⟩
 ·have gn : p 0 = 3 := eq_of_beq g1
  cases g2 : (c.k == -1)
  ·have gn2 : c.k ≠ -1 := beq_eq_false_iff_ne.1 g2
   show Calls _ _ _ _ (AfL b (clrL p (listN (blwN p c.m.t))) c w)
   obtain ⟨n, hn⟩ : ∃ n, blwN p c.m.t = n := ⟨_, rfl⟩
   have HNb := H_ hn
   have hbl : n < W64 := hn ▸ blw_lt p c.m.t
   have hmem : 0 < (listN n).length := by
    obtain ⟨t, ht⟩ := Int.eq_ofNat_of_zero_le htt.1
    have h64 : t < 64 := by omega
    refine List.length_pos_of_mem (a := t) (List.mem_filter.2 ⟨List.mem_range.2 h64, ?_⟩)
    rw [← hn, ht]; exact hasN_near h64
   have h64 := listN_len n
   rw [hn]
   obtain ⟨L, hL⟩ : ∃ L, listN n = L := ⟨_, rfl⟩
   have HLe := H_ hL
   rw [hL] at hmem h64 ⊢
   have HLn := H_ hmem
   have HL64 := H_ h64
   have hll : (L.length : Int) ≤ 64 := by omega
   clear hn hL hmem
   go_enter Tryz.func66, Tryz.ntmps66
   go_wp2_with (first
    | (refine step_get rfl 5 _ rfl b 0 rfl Tryz.underlying5 rfl (.int .u8 (p 0)) (HC.out.cell 0 (by decide)) ?_)
    | (go_at_call 136; refine (af_takes b _ c _ HC.out).mono ?_; rintro e w3 ⟨rfl, rfl⟩))
   refine late_begin 10 (by kernel_rfl) ?_
   refine lw 0 rfl ?_
   simp only [Act.put, pa, pb, pc]
   refine lw 1 rfl ?_
   simp only [Act.put, pa, pb, pc]
   refine lw 2 rfl ?_
   simp only [Act.put, pa, pb, pc]
   refine lv 3 rfl ⟨.agg (posA (p)), fun w' hl => (run_chp _ rfl b rfl (p) c (HC.out.later hl)), ?_⟩
   simp only [Act.put, pa, pb, pc]
   refine lw 4 rfl ?_
   simp only [Act.put, pa, pb, pc]
   refine lw 9 rfl ?_
   simp only [Act.put, pa, pb, pc]
   refine l1 5 rfl fun wn hl K hK => ?_
   have HC := H_ (HC.out.later hl); have HB := H_ (kept_on HB.out hl); clear hl
   refine we ?_
   refine (af_to b p c _ HC.out HM.out).mono ?_; rintro e wm ⟨rfl, rfl⟩; refine ⟨_, rfl, ?_⟩
   refine hK.out _ _ (Later.refl _) ?_
   clear hK K
   simp only [Act.put, pa, pb, pc]
   refine l1 6 rfl fun wn hl K hK => ?_
   have HC := H_ (HC.out.later hl); have HB := H_ (kept_on HB.out hl); clear hl
   refine we ?_
   refine (blownK HNb.out _ HR.out.wf.dr.bd (HT.out.at HB.out).lead).mono ?_; rintro e wm ⟨rfl, hb⟩; refine ⟨_, rfl, ?_⟩
   refine hK.out _ _ hb ?_
   have HC := H_ (HC.out.later hb); have HB := H_ (kept_on HB.out hb); clear hb
   clear hK K
   simp only [Act.put, pa, pb, pc]
   refine l1 7 rfl fun wn hl K hK => ?_
   have HC := H_ (HC.out.later hl); have HB := H_ (kept_on HB.out hl); clear hl
   refine we ?_
   refine (list_any _ _ hbl (HT.out.at HB.out).db).mono ?_; rintro e wm ⟨v, rfl, hv, hb⟩; refine ⟨_, rfl, ?_⟩
   rw [HLe.out] at hv; obtain ⟨a7, c7, rfl⟩ := listed_slice hv
   have hbB := HC.out.lt
   have hq7 := hv
   obtain ⟨g7, cap7, cur7, hLi⟩ := listedK_open (K := .i64) (e := 3) hq7 HLn.out
   obtain ⟨rfl, rfl⟩ : a7 = some ⟨g7, 0, none⟩ ∧ c7 = cap7 := by have := hLi.val; injection this with h1 h2 h3; exact ⟨h1, h3⟩
   have hne : g7 ≠ b := by have := hLi.base; omega
   have HNe := H_ hne
   have HLi_ := H_ (show Lies .i64 3 b L (.slice (some ⟨g7, 0, none⟩) L.length c7) g7 c7 cur7 _ from { hLi with base := by have := hLi.base; omega })
   clear hLi hq7 hv hne hbB
   refine hK.out _ _ hb ?_
   have HC := H_ (HC.out.later hb); have HB := H_ (kept_on HB.out hb); clear hb
   have HLi := HLi_; clear HLi_
   clear hK K
   simp only [Act.put, pa, pb, pc]
   refine lw 8 rfl ?_
   simp only [Act.put, pa, pb, pc]
   refine late_end (by kernel_rfl) (fun wn hl => ?_)
   have HC := H_ (HC.out.later hl); have HLi := H_ (HLi.out.later hl); have HB := H_ (kept_on HB.out hl); clear hl
   go_wp2_with fail
   go_loopw [24] (fun i wr => ∃ j : Nat, j ≤ L.length ∧ i = .int .i64 (j : Int) ∧ CH wr b (clrL p (L.take j)) c ∧ Lies .i64 3 b L (.slice (some ⟨g7, 0, none⟩) L.length c7) g7 c7 cur7 wr ∧ Kept (fun k => k = b) w wr) (fun i _ => L.length - (intOf i).toNat)
   case atStart => exact ⟨0, by omega, rfl, by rw [List.take_zero]; exact HC.out, HLi.out, HB.out⟩
   case round =>
    clear HC HLi HB
    obtain ⟨j, hj, rfl, hc, hli, hb⟩ := hrel
    have HC := H_ hc
    have HLi := H_ hli
    have HB := H_ hb
    clear hc hli hb
    have hj64 : j ≤ 64 := Nat.le_trans hj HL64.out
    by_cases hlt : j < L.length
    ·obtain ⟨s, hs⟩ : ∃ s, L[j] = s := ⟨_, rfl⟩
     have HS := H_ hs
     have HJ := H_ hlt
     have HTk := H_ (clr_take (p := p) (List.getElem?_eq_some_iff.2 ⟨hlt, hs⟩))
     clear hs
     go_wp2_with (first
      | (guard_target = gL1 27; refine step_get rfl 3 _ rfl g7 j rfl Tryz.underlying3 rfl (.int .i64 ((s : Nat) : Int)) ((HLi.out.cell j HJ.out).trans (congrArg (fun n : Nat => some (Value.int .i64 (n : Int))) HS.out)) ?_)
      | (go_at_call 128; refine (af_put b _ c _ _ _ HC.out (by decide) (by decide)).mono ?_; rintro e w3 ⟨⟨v, rfl⟩, hc, hk⟩; have HLi := H_ (show Lies .i64 3 b L (.slice (some ⟨g7, 0, none⟩) L.length c7) g7 c7 cur7 w3 from { HLi.out with blk := hk.obj (show wr.heap[g7]? = _ from HLi.out.blk) HNe.out }); have HC := H_ hc; have HB := H_ (HB.out.trans hk); clear hc hk))
     go_roundw
     case rel => exact ⟨j + 1, by have := HJ.out; omega, by go_num, by rw [HTk.out]; exact HC.out, HLi.out, HB.out⟩
     case measure => simp [intOf]; have := HJ.out; omega
    ·obtain rfl : j = L.length := by omega
     go_wp2_with fail
     refine bodyPost_end (results_none rfl _ _ _) rfl ?_
     exact ⟨⟨_, rfl⟩, by have := HC.out; rw [List.take_length] at this; exact this, HB.out⟩
  ·have gn2 : c.k = -1 := eq_of_beq g2
   go_enter Tryz.func66, Tryz.ntmps66
   go_wp2_with (first
    | (refine step_get rfl 5 _ rfl b 0 rfl Tryz.underlying5 rfl (.int .u8 (p 0)) (HC.out.cell 0 (by decide)) ?_)
    | (go_at_call 136; refine (af_takes b _ c _ HC.out).mono ?_; rintro e w3 ⟨rfl, rfl⟩))
   refine bodyPost_ret (results_none rfl _ _ _) rfl ?_
   exact ⟨⟨_, rfl⟩, HC.out, HB.out⟩
theorem built_ch (p : Nat → Int) (m : Mv) (x k : Int) : Tryz.prog.built 58 [(0, .agg (posA p)), (1, .agg (mvA m)), (2, .int .u8 x), (4, .int .i64 k)] = some (chA p ⟨m, x, 0, k⟩) := by kernel_rfl
theorem run_bldCh {op : Oper} {a : Act} {w : World} (x y z u : Operand) (ho : op.op = .build 58 #[(0, x), (1, y), (2, z), (4, u)]) (p : Nat → Int) (m : Mv) (n k : Int) (hx : a.eval x = .agg (posA p)) (hy : a.eval y = .agg (mvA m)) (hz : a.eval z = .int .u8 n) (hu : a.eval u = .int .i64 k) :
  (execOp a.eval op).run Tryz.prog w = .ok (.value (.agg (chA p ⟨m, n, 0, k⟩))) w := by
 have e : (#[(0, x), (1, y), (2, z), (4, u)].map fun (i, x) => (i, a.eval x)).toList = [(0, .agg (posA p)), (1, .agg (mvA m)), (2, .int .u8 n), (4, .int .i64 k)] := by simp [hx, hy, hz, hu]
 unfold execOp
 simp only [ho, Sem.run_bind, run_build w 58 _ (chA p ⟨m, n, 0, k⟩) (by rw [e]; exact built_ch p m n k), Result.andThen_ok]
 rfl
theorem late_boxC {o : Oper} {a : Act} {w : World} {K : Act → World → Prop} {Q : Exit → Act → World → Prop} (x : Operand) (ho : o.op = .box 58 x) (p : Nat → Int) (c : Ch) (hx : a.eval x = .agg (chA p c)) (h : ∀ b w', New b w w' → CH w' b p c → K (a.put o.dst (.pointer (some ⟨b, 0, none⟩))) w') : Wp Tryz.prog o a w K Q := ⟨by
 have hk := h _ _ (New.alloc w _) (heap_alloc_new w (.cells (chA p c) 58))
 unfold Oper.wp execOp
 simp only [ho, hx, Instr.box, Sem.run_bind, Sem.run_pure]
 exact hk⟩
theorem late_chy {o : Oper} {a : Act} {w : World} {K : Act → World → Prop} {Q : Exit → Act → World → Prop} (x y : Operand) (ho : o.op = .store 5 x y) (b : Nat) (hx : a.eval x = .pointer (some ⟨b, 94, none⟩)) (v : Int) (hy : a.eval y = .int .u8 v)
  (p : Nat → Int) (c : Ch) (hr : CH w b p c) (h : ∀ w', Upd b w w' → CH w' b p ⟨c.m, c.x, v, c.k⟩ → K (a.put o.dst undef) w') : Wp Tryz.prog o a w K Q :=
 late_chc 5 x y ho b 94 hx .u8 v hy p c hr (by decide) size5 fun U => h _ U (hr.sety v)
section laws
variable {ops : Array Oper} {rest : List Oper} {op : Oper} {a : Act} {w : World} {Q : Exit → Act → World → Prop} {b : Nat} {p : Nat → Int} {c : Ch}
theorem ch_setx (hw : Region.wanted op (yielded ops a.tmps) = true) (x y : Operand) (ho : op.op = .store 5 x y) (hx : a.eval x = .pointer (some ⟨b, 93, none⟩)) (v : Int) (hy : a.eval y = .int .u8 v) (hr : CH w b p c)
  (h : ∀ w', Upd b w w' → CH w' b p ⟨c.m, v, c.y, c.k⟩ → wpList Tryz.prog ops Q rest (a.put op.dst undef) w') : wpList Tryz.prog ops Q (op :: rest) a w :=
 wpList_want hw fun K hK => by
  have hk := hK _ _ (h _ (Upd.setCell w b 93 (.int .u8 v)) (hr.setx v))
  have hrun : (storeVar 5 ⟨b, 93, none⟩ (.int .u8 v)).run Tryz.prog w = .ok () (w.setCell ⟨b, 93, none⟩ (.int .u8 v)) :=
   run_storeVar_mid w b 93 5 #[.int .u8 v] (hr.there 93 1 (by omega)) size5 (by simp [Value.oneCell'])
  unfold Oper.wp execOp
  simp only [ho, hx, hy, Instr.storeAt, Instr.sureAddr, Sem.run_bind, Sem.run_pure, Result.andThen_ok, hrun]
  exact hk
end laws
theorem atK {p : Nat → Int} {s n : Int} (e : atZ p s = n) (w : World) (hp : BdR p) : Calls Tryz.prog 62 #[.agg (posA p), .int .i64 s] w (U8L n w) := e ▸ at_any p s w hp
theorem takenK {p : Nat → Int} {m : Mv} {k : Int} (e : takZ p m = k) (w : World) (hp : PsR p) (hm : FitV m) (hT : PsT w) : Calls Tryz.prog 40 #[.agg (posA p), .agg (mvA m)] w (IntL k w) := e ▸ taken_ps p m w hp hm hT
def BegL (p : Nat → Int) (c : Ch) (w : World) (e : Ending) (w' : World) : Prop := ∃ b, e = .returned (.pointer (some ⟨b, 0, none⟩)) ∧ w.heap.size ≤ b ∧ CH w' b p c ∧ Below w.heap.size w w'
theorem CsT.psA {w : World} (h : CsT w) : PsT w := ⟨h.var, h.db, h.lead⟩
theorem makeK {c k z : Int} (e : mkZ c k = z) (w : World) (hc : 0 ≤ c) (hk : 0 ≤ k) : Calls Tryz.prog 63 #[.int .u8 c, .int .u8 k] w (U8 z w) := e ▸ mk_any c k w hc hk
theorem af_begun (p : Nat → Int) (m : Mv) (w : World) (hp : WfP p) (hm : FitV m) (hT : CsT w) : Calls Tryz.prog 28 #[.agg (posA p), .agg (mvA m)] w (BegL p (begA p m) w) := by
 have HP := H_ hp
 have HT := H_ hT
 have HM := H_ hm
 have hf := hm.f
 have hwf : IntKind.i64.wrap m.f = m.f := by rw [IntKind.wrap_i64]; omega
 have hd := hm.dr.1
 have ht0 := hp.dr.turn.1
 clear hp hT hm
 unfold begA
 obtain ⟨x, hx⟩ : ∃ x, atZ p m.f = x := ⟨_, rfl⟩
 obtain ⟨k, hk⟩ : ∃ k, takZ p m = k := ⟨_, rfl⟩
 obtain ⟨y, hy⟩ : ∃ y, atZ p k = y := ⟨_, rfl⟩
 obtain ⟨z, hz⟩ : ∃ z, mkZ (p 78) m.dr = z := ⟨_, rfl⟩
 have HX := H_ hx
 have HKe := H_ hk
 have HY := H_ hy
 have HZ := H_ hz
 rw [hk, hx, hy, hz]
 clear hx hk hy hz
 have HB := H_ (Below.refl w.heap.size w)
 cases g : (m.dr == 0)
 ·have gn : m.dr ≠ 0 := beq_eq_false_iff_ne.1 g
  go_enter Tryz.func28, Tryz.ntmps28
  go_wp2_with (first
   | (guard_target = gB 2; refine step_box rfl _ rfl p rfl ?_; intro b2 w1 N R; have HG2 := H_ (nA HB.out N); have HB := H_ (below_on HB.out N.below); have HR2 := H_ R; clear N R)
   | (guard_target = gB 3; refine blk_box rfl 40 _ rfl (mvA m) rfl ?_; intro b3 w1 N R; have HG3 := H_ (nA HB.out N); have HR2 := H_ (HR2.out.later N.below); have HB := H_ (below_on HB.out N.below); have HR3 := H_ R; clear N R))
  refine late_begin 13 (by kernel_rfl) ?_
  refine lv 0 rfl ⟨_, fun w' hl => (run_load _ rfl _ rfl (p) (HR2.out.later hl)), ?_⟩
  simp only [Act.put, pa, pb, pc]
  refine lv 1 rfl ⟨.agg (mvA m), fun w' hl => (run_blk 40 _ rfl b3 rfl (mvA m) (HR3.out.later hl) _ Tryz.underlying40 rfl sizeMv), ?_⟩
  simp only [Act.put, pa, pb, pc]
  refine lv 2 rfl ⟨_, fun w' hl => (run_load _ rfl _ rfl (p) (HR2.out.later hl)), ?_⟩
  simp only [Act.put, pa, pb, pc]
  refine lw 3 rfl ?_
  simp only [Act.put, pa, pb, pc]
  refine lv 4 rfl ⟨.int .i8 m.f, fun w' hl => (run_get 26 _ rfl b3 0 rfl Tryz.underlying26 rfl (.int .i8 m.f) ((Blk.cell (HR3.out.later hl) 0).trans rfl)), ?_⟩
  simp only [Act.put, pa, pb, pc]
  refine lv 5 rfl ⟨.int .i64 m.f, fun w' hl => ?_, ?_⟩
  ·(go_simp; try exact hwf)
  simp only [Act.put, pa, pb, pc]
  refine lv 7 rfl ⟨_, fun w' hl => (run_load _ rfl _ rfl (p) (HR2.out.later hl)), ?_⟩
  simp only [Act.put, pa, pb, pc]
  refine lv 8 rfl ⟨.agg (mvA m), fun w' hl => (run_blk 40 _ rfl b3 rfl (mvA m) (HR3.out.later hl) _ Tryz.underlying40 rfl sizeMv), ?_⟩
  simp only [Act.put, pa, pb, pc]
  refine l1 6 rfl fun wn hl K hK => ?_
  have HR2 := H_ (HR2.out.later hl); have HR3 := H_ (HR3.out.later hl); have HB := H_ (below_on HB.out hl); clear hl
  refine we ?_
  refine (atK HX.out _ HP.out.dr.bd).mono ?_; rintro e wm ⟨rfl, hb⟩; refine ⟨_, rfl, ?_⟩
  refine hK.out _ _ hb ?_
  have HR2 := H_ (HR2.out.later hb); have HR3 := H_ (HR3.out.later hb); have HB := H_ (below_on HB.out hb); clear hb
  clear hK K
  simp only [Act.put, pa, pb, pc]
  refine l1 9 rfl fun wn hl K hK => ?_
  have HR2 := H_ (HR2.out.later hl); have HR3 := H_ (HR3.out.later hl); have HB := H_ (below_on HB.out hl); clear hl
  refine we ?_
  refine (takenK HKe.out _ (PsR.of HP.out) HM.out (HT.out.on HB.out).psA).mono ?_; rintro e wm ⟨rfl, hb⟩; refine ⟨_, rfl, ?_⟩
  refine hK.out _ _ hb ?_
  have HR2 := H_ (HR2.out.later hb); have HR3 := H_ (HR3.out.later hb); have HB := H_ (below_on HB.out hb); clear hb
  clear hK K
  simp only [Act.put, pa, pb, pc]
  refine lv 10 rfl ⟨.agg (chA p ⟨m, x, 0, k⟩), fun w' hl => (run_bldCh _ _ _ _ rfl p m x k rfl rfl rfl rfl), ?_⟩
  simp only [Act.put, pa, pb, pc]
  refine l1 11 rfl fun wn hl K hK => ?_
  have HR2 := H_ (HR2.out.later hl); have HR3 := H_ (HR3.out.later hl); have HB := H_ (below_on HB.out hl); clear hl
  refine late_boxC _ rfl p ⟨m, x, 0, k⟩ rfl ?_; intro b wm N R; have HG2_ := H_ (show b2 < b by have := HR2.out.lt; have := N.at_; omega); have HG3_ := H_ (show b3 < b by have := Blk.lt HR3.out; have := N.at_; omega)
  have HG := H_ (show w.heap.size ≤ b by have := HB.out.size; have := N.at_; omega)
  have hb := N.below
  have HRn := H_ R
  clear N R
  refine hK.out _ _ hb ?_
  have HR2 := H_ (HR2.out.later hb); have HR3 := H_ (HR3.out.later hb); have HB := H_ (below_on HB.out hb); clear hb
  have HC := HRn; clear HRn; have HD2 := H_ (show b2 ≠ b by have := HG2_.out; omega); have HD3 := H_ (show b3 ≠ b by have := HG3_.out; omega); clear HG2_ HG3_
  clear hK K
  simp only [Act.put, pa, pb, pc]
  refine lw 12 rfl ?_
  simp only [Act.put, pa, pb, pc]
  refine late_end (by kernel_rfl) (fun wn hl => ?_)
  have HR2 := H_ (HR2.out.later hl); have HR3 := H_ (HR3.out.later hl); have HC := H_ (HC.out.later hl); have HB := H_ (below_on HB.out hl); clear hl
  go_wp2_with (first
   | (guard_target = gL 18; refine step_get rfl 5 _ rfl b3 3 rfl Tryz.underlying5 rfl (.int .u8 m.dr) ?_ ?_; exact (HR3.out.cell 3).trans rfl)
   | (guard_target = gL 24; refine step_get rfl 5 _ rfl b3 3 rfl Tryz.underlying5 rfl (.int .u8 m.dr) ?_ ?_; exact (HR3.out.cell 3).trans rfl)
   | (guard_target = gL 22; refine gU rfl 5 _ rfl Tryz.underlying5 HR2.out 78 (by decide) rfl rfl ?_)
   | (go_at_call 63; refine (makeK HZ.out _ ht0 hd).mono ?_; rintro e w3 ⟨rfl, rfl⟩)
   | (refine ch_setx rfl _ _ rfl rfl z rfl HC.out ?_; intro wn U R; have HR2 := H_ (HR2.out.apart U HD2.out); have HR3 := H_ (HR3.out.apart U HD3.out); have HC := H_ R; have HB := H_ (HB.out.trans (U.below HG.out)); clear U R))
  refine late_begin 9 (by kernel_rfl) ?_
  refine lw 0 rfl ?_
  simp only [Act.put, pa, pb, pc]
  refine lv 1 rfl ⟨_, fun w' hl => (run_load _ rfl _ rfl (p) (HR2.out.later hl)), ?_⟩
  simp only [Act.put, pa, pb, pc]
  refine lw 2 rfl ?_
  simp only [Act.put, pa, pb, pc]
  refine lw 3 rfl ?_
  simp only [Act.put, pa, pb, pc]
  refine lw 4 rfl ?_
  simp only [Act.put, pa, pb, pc]
  refine lv 5 rfl ⟨.int .i64 k, fun w' hl => (run_get 3 _ rfl b 95 rfl Tryz.underlying3 rfl (.int .i64 k) ((HC.out.later hl).k)), ?_⟩
  simp only [Act.put, pa, pb, pc]
  refine l1 6 rfl fun wn hl K hK => ?_
  have HR2 := H_ (HR2.out.later hl); have HR3 := H_ (HR3.out.later hl); have HC := H_ (HC.out.later hl); have HB := H_ (below_on HB.out hl); clear hl
  refine we ?_
  refine (atK HY.out _ HP.out.dr.bd).mono ?_; rintro e wm ⟨rfl, hb⟩; refine ⟨_, rfl, ?_⟩
  refine hK.out _ _ hb ?_
  have HR2 := H_ (HR2.out.later hb); have HR3 := H_ (HR3.out.later hb); have HC := H_ (HC.out.later hb); have HB := H_ (below_on HB.out hb); clear hb
  clear hK K
  simp only [Act.put, pa, pb, pc]
  refine late_takeD 7 [8, 9] (by kernel_rfl) (by kernel_rfl) (by kernel_rfl) (by kernel_rfl) (by kernel_rfl) (fun _ _ d _ _ h => by cases d <;> exact h) (fun o ho => ?_)
  simp only [qa, qb, qc, qd] at ho; subst ho
  apply Exists.intro
  refine ⟨Or.inl ⟨by kernel_rfl, fun w' hl => Or.inl ?_⟩, ?_⟩
  ·(go_simp; try with_reducible rfl)
  simp only [Act.put, pa, pb, pc]
  refine lw 8 rfl ?_
  simp only [Act.put, pa, pb, pc]
  refine late_last 9 (by kernel_rfl) (by kernel_rfl) (by kernel_rfl) (fun o ho => ?_)
  simp only [qa, qb, qc, qd] at ho; subst ho
  refine ⟨by kernel_rfl, fun wn hl K hK => ?_⟩
  have HR2 := H_ (HR2.out.later hl); have HR3 := H_ (HR3.out.later hl); have HC := H_ (HC.out.later hl); have HB := H_ (below_on HB.out hl); clear hl
  refine late_chy _ _ rfl b rfl y rfl p ⟨m, z, 0, k⟩ HC.out ?_; intro wm U R; have HC := H_ R; have HB := H_ (HB.out.trans (U.below HG.out)); clear U R
  refine hK.out _ _ ?_
  clear hK K
  simp only [Act.put, pa, pb, pc]
  go_wp2_with fail
  go_ret
  exact ⟨b, rfl, HG.out, HC.out, HB.out⟩
 ·have gn : m.dr = 0 := eq_of_beq g
  go_enter Tryz.func28, Tryz.ntmps28
  go_wp2_with (first
   | (guard_target = gB 2; refine step_box rfl _ rfl p rfl ?_; intro b2 w1 N R; have HG2 := H_ (nA HB.out N); have HB := H_ (below_on HB.out N.below); have HR2 := H_ R; clear N R)
   | (guard_target = gB 3; refine blk_box rfl 40 _ rfl (mvA m) rfl ?_; intro b3 w1 N R; have HG3 := H_ (nA HB.out N); have HR2 := H_ (HR2.out.later N.below); have HB := H_ (below_on HB.out N.below); have HR3 := H_ R; clear N R))
  refine late_begin 13 (by kernel_rfl) ?_
  refine lv 0 rfl ⟨_, fun w' hl => (run_load _ rfl _ rfl (p) (HR2.out.later hl)), ?_⟩
  simp only [Act.put, pa, pb, pc]
  refine lv 1 rfl ⟨.agg (mvA m), fun w' hl => (run_blk 40 _ rfl b3 rfl (mvA m) (HR3.out.later hl) _ Tryz.underlying40 rfl sizeMv), ?_⟩
  simp only [Act.put, pa, pb, pc]
  refine lv 2 rfl ⟨_, fun w' hl => (run_load _ rfl _ rfl (p) (HR2.out.later hl)), ?_⟩
  simp only [Act.put, pa, pb, pc]
  refine lw 3 rfl ?_
  simp only [Act.put, pa, pb, pc]
  refine lv 4 rfl ⟨.int .i8 m.f, fun w' hl => (run_get 26 _ rfl b3 0 rfl Tryz.underlying26 rfl (.int .i8 m.f) ((Blk.cell (HR3.out.later hl) 0).trans rfl)), ?_⟩
  simp only [Act.put, pa, pb, pc]
  refine lv 5 rfl ⟨.int .i64 m.f, fun w' hl => ?_, ?_⟩
  ·(go_simp; try exact hwf)
  simp only [Act.put, pa, pb, pc]
  refine lv 7 rfl ⟨_, fun w' hl => (run_load _ rfl _ rfl (p) (HR2.out.later hl)), ?_⟩
  simp only [Act.put, pa, pb, pc]
  refine lv 8 rfl ⟨.agg (mvA m), fun w' hl => (run_blk 40 _ rfl b3 rfl (mvA m) (HR3.out.later hl) _ Tryz.underlying40 rfl sizeMv), ?_⟩
  simp only [Act.put, pa, pb, pc]
  refine l1 6 rfl fun wn hl K hK => ?_
  have HR2 := H_ (HR2.out.later hl); have HR3 := H_ (HR3.out.later hl); have HB := H_ (below_on HB.out hl); clear hl
  refine we ?_
  refine (atK HX.out _ HP.out.dr.bd).mono ?_; rintro e wm ⟨rfl, hb⟩; refine ⟨_, rfl, ?_⟩
  refine hK.out _ _ hb ?_
  have HR2 := H_ (HR2.out.later hb); have HR3 := H_ (HR3.out.later hb); have HB := H_ (below_on HB.out hb); clear hb
  clear hK K
  simp only [Act.put, pa, pb, pc]
  refine l1 9 rfl fun wn hl K hK => ?_
  have HR2 := H_ (HR2.out.later hl); have HR3 := H_ (HR3.out.later hl); have HB := H_ (below_on HB.out hl); clear hl
  refine we ?_
  refine (takenK HKe.out _ (PsR.of HP.out) HM.out (HT.out.on HB.out).psA).mono ?_; rintro e wm ⟨rfl, hb⟩; refine ⟨_, rfl, ?_⟩
  refine hK.out _ _ hb ?_
  have HR2 := H_ (HR2.out.later hb); have HR3 := H_ (HR3.out.later hb); have HB := H_ (below_on HB.out hb); clear hb
  clear hK K
  simp only [Act.put, pa, pb, pc]
  refine lv 10 rfl ⟨.agg (chA p ⟨m, x, 0, k⟩), fun w' hl => (run_bldCh _ _ _ _ rfl p m x k rfl rfl rfl rfl), ?_⟩
  simp only [Act.put, pa, pb, pc]
  refine l1 11 rfl fun wn hl K hK => ?_
  have HR2 := H_ (HR2.out.later hl); have HR3 := H_ (HR3.out.later hl); have HB := H_ (below_on HB.out hl); clear hl
  refine late_boxC _ rfl p ⟨m, x, 0, k⟩ rfl ?_; intro b wm N R; have HG2_ := H_ (show b2 < b by have := HR2.out.lt; have := N.at_; omega); have HG3_ := H_ (show b3 < b by have := Blk.lt HR3.out; have := N.at_; omega)
  have HG := H_ (show w.heap.size ≤ b by have := HB.out.size; have := N.at_; omega)
  have hb := N.below
  have HRn := H_ R
  clear N R
  refine hK.out _ _ hb ?_
  have HR2 := H_ (HR2.out.later hb); have HR3 := H_ (HR3.out.later hb); have HB := H_ (below_on HB.out hb); clear hb
  have HC := HRn; clear HRn; have HD2 := H_ (show b2 ≠ b by have := HG2_.out; omega); have HD3 := H_ (show b3 ≠ b by have := HG3_.out; omega); clear HG2_ HG3_
  clear hK K
  simp only [Act.put, pa, pb, pc]
  refine lw 12 rfl ?_
  simp only [Act.put, pa, pb, pc]
  refine late_end (by kernel_rfl) (fun wn hl => ?_)
  have HR2 := H_ (HR2.out.later hl); have HR3 := H_ (HR3.out.later hl); have HC := H_ (HC.out.later hl); have HB := H_ (below_on HB.out hl); clear hl
  go_wp2_with (first
   | (guard_target = gL 18; refine step_get rfl 5 _ rfl b3 3 rfl Tryz.underlying5 rfl (.int .u8 m.dr) ?_ ?_; exact (HR3.out.cell 3).trans rfl))
  refine late_begin 9 (by kernel_rfl) ?_
  refine lw 0 rfl ?_
  simp only [Act.put, pa, pb, pc]
  refine lv 1 rfl ⟨_, fun w' hl => (run_load _ rfl _ rfl (p) (HR2.out.later hl)), ?_⟩
  simp only [Act.put, pa, pb, pc]
  refine lw 2 rfl ?_
  simp only [Act.put, pa, pb, pc]
  refine lw 3 rfl ?_
  simp only [Act.put, pa, pb, pc]
  refine lw 4 rfl ?_
  simp only [Act.put, pa, pb, pc]
  refine lv 5 rfl ⟨.int .i64 k, fun w' hl => (run_get 3 _ rfl b 95 rfl Tryz.underlying3 rfl (.int .i64 k) ((HC.out.later hl).k)), ?_⟩
  simp only [Act.put, pa, pb, pc]
  refine l1 6 rfl fun wn hl K hK => ?_
  have HR2 := H_ (HR2.out.later hl); have HR3 := H_ (HR3.out.later hl); have HC := H_ (HC.out.later hl); have HB := H_ (below_on HB.out hl); clear hl
  refine we ?_
  refine (atK HY.out _ HP.out.dr.bd).mono ?_; rintro e wm ⟨rfl, hb⟩; refine ⟨_, rfl, ?_⟩
  refine hK.out _ _ hb ?_
  have HR2 := H_ (HR2.out.later hb); have HR3 := H_ (HR3.out.later hb); have HC := H_ (HC.out.later hb); have HB := H_ (below_on HB.out hb); clear hb
  clear hK K
  simp only [Act.put, pa, pb, pc]
  refine late_takeD 7 [8, 9] (by kernel_rfl) (by kernel_rfl) (by kernel_rfl) (by kernel_rfl) (by kernel_rfl) (fun _ _ d _ _ h => by cases d <;> exact h) (fun o ho => ?_)
  simp only [qa, qb, qc, qd] at ho; subst ho
  apply Exists.intro
  refine ⟨Or.inl ⟨by kernel_rfl, fun w' hl => Or.inl ?_⟩, ?_⟩
  ·(go_simp; try with_reducible rfl)
  simp only [Act.put, pa, pb, pc]
  refine lw 8 rfl ?_
  simp only [Act.put, pa, pb, pc]
  refine late_last 9 (by kernel_rfl) (by kernel_rfl) (by kernel_rfl) (fun o ho => ?_)
  simp only [qa, qb, qc, qd] at ho; subst ho
  refine ⟨by kernel_rfl, fun wn hl K hK => ?_⟩
  have HR2 := H_ (HR2.out.later hl); have HR3 := H_ (HR3.out.later hl); have HC := H_ (HC.out.later hl); have HB := H_ (below_on HB.out hl); clear hl
  refine late_chy _ _ rfl b rfl y rfl p ⟨m, x, 0, k⟩ HC.out ?_; intro wm U R; have HC := H_ R; have HB := H_ (HB.out.trans (U.below HG.out)); clear U R
  refine hK.out _ _ ?_
  clear hK K
  simp only [Act.put, pa, pb, pc]
  go_wp2_with fail
  go_ret
  exact ⟨b, rfl, HG.out, HC.out, HB.out⟩
end Go.Proofs.YteblmnbagbdiiaaGreatDoor
/-
 Layer 16: what the moves of a position are like: their squares, whose turn it is; what they take.
-/
namespace Go.Proofs.YteblmnbagbdiiaaGreatDoor
open Go.RowKit
set_option linter.unusedVariables false
set_option linter.unusedSimpArgs false

theorem sor_len (p : Nat → Int) (m : Mv) : (sorL p m).length ≤ 1000000 := by
 unfold sorL
 cases m.ca
 ·cases m.dr == 0
  ·have := drL_len p; simp only [cond_false]; omega
  ·have := all_len p; simp only [cond_false, cond_true, List.length_map]; omega
 ·have : (camL p).length ≤ 2 := by
   unfold camL
   cases thC p
   ·exact Nat.zero_le _
   ·rw [cond_true, List.length_append]
    have h : ∀ n, (oneC p n).length ≤ 1 := fun n => by unfold oneC; cases inC p n <;> simp
    have := h 0; have := h 1; omega
  simp only [cond_true]; omega
theorem col_ofA {p : Nat → Int} {c k : Int} {a : Nat} (ha : a < 64) (h : (ofN p c k).testBit a = true) : c = 0 ∨ c = 1 := by
 rw [ofN_testBit _ _ _ _ ha] at h
 unfold ofB at h
 rw [Bool.and_eq_true, Bool.and_eq_true] at h
 have h1 := pcB_true.1 h.1
 have h2 := eq_of_beq h.2.1
 rw [colZ_yes h.1] at h2
 omega
theorem all_is {p : Nat → Int} {m : Mv} (h : m ∈ (allL p).map pmM) : ∃ a b k : Nat, a < 64 ∧ b < 64 ∧ (ownN p).testBit a = true ∧ (golN p (ownN p) (theN p) (a : Int)).testBit b = true ∧ k ∈ becL p (a : Int) b ∧ m = ⟨(a : Int), (b : Int), (k : Int), 0, false⟩ := by
 obtain ⟨x, hx, rfl⟩ := List.mem_map.1 h
 unfold allL at hx
 obtain ⟨a, ha, hx⟩ := List.mem_flatMap.1 hx
 unfold mvsL at hx
 obtain ⟨b, hb, hx⟩ := List.mem_flatMap.1 hx
 unfold mvO at hx
 obtain ⟨k, hk, rfl⟩ := List.mem_map.1 hx
 have ha' := List.mem_filter.1 ha
 have hb' := List.mem_filter.1 hb
 exact ⟨a, b, k, List.mem_range.1 ha'.1, List.mem_range.1 hb'.1, ha'.2, hb'.2, hk, rfl⟩
theorem own_turn {p : Nat → Int} {a : Nat} (ha : a < 64) (h : (ownN p).testBit a = true) : p 78 = 0 ∨ p 78 = 1 := by
 unfold ownN at h
 cases g : vrB p
 ·rw [g, cond_false, Nat.zero_testBit] at h; cases h
 ·rw [g, cond_true] at h; exact col_ofA ha h
theorem bec_rng {p : Nat → Int} {s : Int} {b k : Nat} (h : k ∈ becL p s b) : k ≤ 255 := by
 unfold becL at h
 cases g : ((knP p s == 1) && (((b / 8 : Nat) : Int) == homZ (oth (p 78))))
 ·rw [g, cond_false] at h
  have := List.mem_singleton.1 h; omega
 ·rw [g, cond_true] at h
  unfold prL upN at h
  obtain ⟨i, hi, rfl⟩ := List.mem_map.1 h
  have := List.mem_range.1 hi
  have := hi_cases (p 0).toNat
  omega
theorem cam_at {p : Nat → Int} (ht0 : 0 ≤ p 78) {m : Mv} (h : m ∈ camL p) : (p 78 = 0 ∨ p 78 = 1) ∧ m.pr = 0 ∧ m.dr = 0 ∧ m.ca = true ∧ (sdC (p 78) m = 0 ∨ sdC (p 78) m = 1) ∧ FitV m ∧ 0 ≤ m.f ∧ m.f < 64 ∧ 0 ≤ m.t ∧ m.t < 64 := by
 unfold camL at h
 cases g : thC p
 ·rw [g] at h; cases h
 ·rw [g, cond_true] at h
  unfold thC at g
  rw [Bool.and_eq_true, decide_eq_true_eq] at g
  have htn : p 78 = 0 ∨ p 78 = 1 := by omega
  have hone : ∀ n, n < 2 → m ∈ oneC p n → m = mvC p n ∧ namC p n = true := fun n hn h => by
   unfold oneC at h
   cases e : inC p n
   ·rw [e] at h; cases h
   ·rw [e, cond_true] at h
    unfold inC at e
    rw [Bool.and_eq_true] at e
    exact ⟨List.mem_singleton.1 h, e.1⟩
  obtain ⟨n, hn, hm⟩ : ∃ n, n < 2 ∧ m ∈ oneC p n := by
   rcases List.mem_append.1 h with h | h
   ·exact ⟨1, by decide, h⟩
   ·exact ⟨0, by decide, h⟩
  obtain ⟨rfl, hnm⟩ := hone n hn hm
  obtain ⟨c, hc⟩ : ∃ c : Nat, p 78 = (c : Int) := Int.eq_ofNat_of_zero_le ht0
  have hf := fit_mvC hc hnm
  have hs := hf.2
  have hat := sdC_at (c := p 78) (m := mvC p n) (by omega)
  have hr := hmC_rng (p 78)
  exact ⟨htn, rfl, rfl, rfl, by omega, hf.1, by omega, by omega, by omega, by omega⟩
theorem dr_turn {p : Nat → Int} (ht0 : 0 ≤ p 78) {m : Mv} (h : m ∈ drL p) : p 78 = 0 ∨ p 78 = 1 := by
 obtain ⟨k, s, _, _, _, h4, _⟩ := drL_mem h
 have h4 := beq_eq_false_iff_ne.1 h4
 rcases (by omega : p 78 ≤ 1 ∨ 1 < p 78) with g | g
 ·omega
 ·exact absurd (helC_no g) h4
theorem sor_fit {p : Nat → Int} (hp : WfP p) (m : Mv) : ∀ (i : Nat) (x : Mv), (sorL p m)[i]? = some x → FitV x := by
 intro i x hx
 have h := List.mem_of_getElem? hx
 unfold sorL at h
 cases g : m.ca
 ·rw [g, cond_false] at h
  cases g2 : m.dr == 0
  ·rw [g2, cond_false] at h; exact drL_fit h
  ·rw [g2, cond_true] at h
   obtain ⟨a, b, k, ha, hb, _, _, hk, rfl⟩ := all_is h
   have := bec_rng hk
   exact ⟨by simp only; omega, by simp only; omega, by simp only; omega, by simp only; omega⟩
 ·rw [g, cond_true] at h
  exact (cam_at hp.dr.turn.1 h).2.2.2.2.2.1
theorem tk_rng {p : Nat → Int} {t f b : Nat} (hf : f < 64) (hb : b < 64) : -1 ≤ tkZ p t f b ∧ tkZ p t f b < 64 := by
 unfold tkZ
 cases t.testBit b
 ·rw [cond_false]
  cases (knP p (f : Int) == 1) && (((b : Int) == p 83) && (((f % 8 : Nat) : Int) != ((b % 8 : Nat) : Int)))
  ·rw [cond_false]; omega
  ·rw [cond_true]; omega
 ·rw [cond_true]; omega
theorem tak_rng {p : Nat → Int} {m : Mv} (h0 : 0 ≤ m.f ∧ m.f < 64) (h1 : 0 ≤ m.t ∧ m.t < 64) : -1 ≤ takZ p m ∧ takZ p m < 64 := by
 unfold takZ
 cases (mvsL p (ownN p) (theN p) m.f).any fun x => mvE (pmM x) m
 ·simp
 ·exact tk_rng (by omega) (by omega)
theorem mov_mem {p : Nat → Int} {m : Mv} (h : movB p m = true) : m ∈ sorL p m := by
 unfold movB at h
 obtain ⟨x, hx, he⟩ := List.any_eq_true.1 h
 have e := mvE_true.1 he
 rw [← e] at hx; exact hx
theorem at_rngA {p : Nat → Int} (hp : WfP p) (s : Int) : 0 ≤ atZ p s ∧ atZ p s ≤ 255 := ps_atZ hp.dr.bd s
theorem chR_of {p : Nat → Int} (hp : WfP p) {m : Mv} (h : movB p m = true) : ChR p (begA p m) := by
 have hm := mov_mem h
 have hfit : FitV m := by
  obtain ⟨i, hi⟩ := List.getElem?_of_mem hm
  exact sor_fit hp m i m hi
 have hc : (p 78 = 0 ∨ p 78 = 1) ∧ (0 ≤ m.f ∧ m.f < 64) ∧ (0 ≤ m.t ∧ m.t < 64) ∧ (m.ca = true → sdC (p 78) m = 0 ∨ sdC (p 78) m = 1) := by
  unfold sorL at hm
  cases g : m.ca
  ·rw [g, cond_false] at hm
   cases g2 : m.dr == 0
   ·rw [g2, cond_false] at hm
    have ht := dr_turn hp.dr.turn.1 hm
    obtain ⟨k, s, _, hs, e, _⟩ := drL_mem hm
    exact ⟨ht, by rw [e]; show 0 ≤ (s : Int) ∧ (s : Int) < 64; omega, by rw [e]; show 0 ≤ (s : Int) ∧ (s : Int) < 64; omega, fun e => by cases e⟩
   ·rw [g2, cond_true] at hm
    obtain ⟨a, b, k, ha, hb, ho, _, _, e⟩ := all_is hm
    exact ⟨own_turn ha ho, by rw [e]; show 0 ≤ (a : Int) ∧ (a : Int) < 64; omega, by rw [e]; show 0 ≤ (b : Int) ∧ (b : Int) < 64; omega, fun e => by cases e⟩
  ·rw [g, cond_true] at hm
   have hq := cam_at hp.dr.turn.1 hm
   exact ⟨hq.1, ⟨hq.2.2.2.2.2.2.1, hq.2.2.2.2.2.2.2.1⟩, ⟨hq.2.2.2.2.2.2.2.2.1, hq.2.2.2.2.2.2.2.2.2⟩, fun _ => hq.2.2.2.2.1⟩
 refine ⟨hp, hc.1, hfit, hc.2.1, hc.2.2.1, ?_, at_rngA hp _, tak_rng hc.2.1 hc.2.2.1, hc.2.2.2⟩
 show 0 ≤ (bif m.dr == 0 then atZ p m.f else mkZ (p 78) m.dr) ∧ (bif m.dr == 0 then atZ p m.f else mkZ (p 78) m.dr) ≤ 255
 cases m.dr == 0
 ·exact mkZ_rng' _ (by omega)
 ·exact at_rngA hp _
end Go.Proofs.YteblmnbagbdiiaaGreatDoor
