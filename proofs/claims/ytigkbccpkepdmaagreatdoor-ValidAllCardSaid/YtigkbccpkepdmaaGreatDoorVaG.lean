/-
 Contracts of layer 12's Check and All.
-/
import Derived.Test.YtigkbccpkepdmaaGreatDoorVaF
namespace Go.Proofs.YtigkbccpkepdmaaGreatDoor
open Go.RowKit Go.Shelf
set_option linter.unusedVariables false
set_option linter.unusedSimpArgs false
attribute [local go_sem] Oper.semAt_some

theorem owns_low {W : World} {B B' : Nat} {e : TypeId} {size k : Nat} {v : Value} {xs : List Value} (h : B ≤ B') (o : W.ownsRow B' e size v k xs) : W.ownsRow B e size v k xs := by
 refine ⟨o.1, ?_⟩
 rcases o.2 with hn | ⟨g, cap, cur, hv, hb, rest⟩
 ·exact .inl hn
 ·exact .inr ⟨g, cap, cur, hv, Nat.le_trans h hb, rest⟩
theorem VaIn.next {p : Nat → Int} {pB n₀ : Nat} {w0 w w' : World} (h0 : VaIn p pB w0) (hn : w0.heap.size ≤ n₀) (h : VaIn p pB w) (k : Below n₀ w w') : VaIn p pB w' :=
 h.kept (Kept.of_below k) ⟨by have := h0.row.lt; omega, by have := h0.vr.lt; omega, by have := h0.db.lt; omega, by have := h0.lead.lt; omega, by have := h0.us.lt; omega⟩
/-- The first error; 0, if there is none. -/
def hdZ (l : List Int) : Int := match l with | [] => 0 | e :: _ => e
theorem hd_pre {x : Int} {l : List Int} (h : [x] <+: l) : hdZ l = x := by
 obtain ⟨t, rfl⟩ := h; rfl
theorem infoEr : (Tryz.prog.info? 34).map (fun i => (i.zero, i.size, i.bytes)) = some (some (.int .i64 0), 1, 8) := by kernel_rfl
/-- The call answers a list of its own that holds these. -/
def ErP (L : List Int) (w : World) (e : Ending) (w' : World) : Prop := ∃ v, e = .returned v ∧ w'.ownsRow w.heap.size 34 1 v L.length (L.map errV) ∧ Below w.heap.size w w'
theorem own_box {B r : Nat} {t : TypeId} {v : Value} {β : Type} : OwnFrom B (fun (_ : β) W => Boxed W r t v) := fun s W W' row h hg hr => h.kept hg (fun e => by
 obtain ⟨_, o, ho, hc⟩ := hr r e.symm
 rw [show W.heap[r]? = _ from h] at ho
 rw [← Option.some.inj ho] at hc
 cases hc)
set_option maxRecDepth 100000 in
set_option maxHeartbeats 1000000 in
theorem check_in (p : Nat → Int) (w : World) (hp : FitP p) (hT : TabVar w) (hD : TabDb w) (hL : TabLead w) (hU : TabUs w) : CallsIn Fence.wide 7 Tryz.prog 7 #[.agg (posA p)] w (IntL (hdZ (wrL p)) w) := by
 have HP := Lib.hid hp
 have HT := Lib.hid hT
 have HD := Lib.hid hD
 have HL := Lib.hid hL
 have HU := Lib.hid hU
 clear hp hT hD hL hU
 refine callsIn_of_wp_marks Tryz.func7 rfl trivial ?_ rfl
 simp only [Tryz.ntmps7, List.size_toArray, List.length_cons, List.length_nil, Nat.reduceAdd, Nat.reduceSub, Array.replicate_succ, Array.replicate_zero, List.push_toArray, List.append_toArray, List.nil_append, List.cons_append]
 have HR := Lib.hid (row_old (row_new w p) (.cells #[.int .i64 0] 34))
 gi_wp2_with (first
  | (refine stepIn2 rfl (run_boxP _ rfl p rfl) ?_)
  | (refine stepIn rfl (run_load _ rfl _ rfl p HR.out) ?_)
  | (refine ⟨trivial, ?_⟩; gi_at_call 12; refine (callsIn_wide.2 (wrong_box p _)).mono ?_; rintro e w2 ⟨b, hb0, rfl, hb, hrow⟩))
 obtain ⟨w1, hw1⟩ : ∃ w1, w1 = (w.alloc (.cells (posA p) 31)).alloc (.cells #[.int .i64 0] 34) := ⟨_, rfl⟩
 have hx1 : Boxed w1 (w.heap.size + 1) 34 (.int .i64 0) := by rw [hw1, ← size_new w (.cells (posA p) 31)]; exact Boxed.new _ _ _
 have hs1 : w1.heap.size = w.heap.size + 2 := by rw [hw1, size_new, size_new]
 have hb1 : Below w.heap.size w w1 := by rw [hw1]; exact below_on (box_below _ _) (box_below _ _)
 rw [← hw1] at hb hb0
 clear hw1
 have hb2 := below_on hb1 hb
 have hx2 : Boxed w2 (w.heap.size + 1) 34 (.int .i64 0) := boxed_on hx1 (Kept.of_call (fun _ => False) hb) id
 have hI : VaIn p b w2 := ⟨hrow, HT.out.on hb2, HD.out.next hb2, HL.out.next hb2, HU.out.on hb2⟩
 have HS := Lib.hid (show w.heap.size + 2 ≤ w2.heap.size by have := hb.size; omega)
 have HBp := Lib.hid (show w.heap.size + 2 ≤ b by omega)
 have HTl := Lib.hid (show 2 < w.heap.size ∧ 3 < w.heap.size ∧ 4 < w.heap.size ∧ 0 < w.heap.size from ⟨HT.out.lt, HD.out.lt, HL.out.lt, HU.out.lt⟩)
 have HI := Lib.hid hI
 clear HR hrow hb hb0 hx1 hs1 hb1 hI
 refine wpIn_rangeFunc_ownG rfl (by decide) (gf := 27) (lb := #[.pointer (some ⟨b, 0, none⟩)]) rfl trivial (enters_of Tryz.func27 (by kernel_rfl) rfl)
  (wrong_stops 6 b (by omega) p HP.out w2 HI.out) vaKp_t (fun W l o o' _ h hc _ => vaKp_b W l o o' h hc) (Below.refl _ _) (fun _ => rfl)
  (fun pre A => (pre = [] ∧ Boxed A (w.heap.size + 1) 34 (.int .i64 0)) ∧ Below w.heap.size w A)
  (fun c pre A => (c = .ret ∧ ∃ x, pre = [x] ∧ Boxed A (w.heap.size + 1) 34 (errV x)) ∧ Below w.heap.size w A)
  (OwnFrom.and (fun s W W' row h hg hr => ⟨h.1, own_box (β := Unit) () W W' row h.2 hg hr⟩) (ownFrom_below (Nat.le_refl _) (by have := HS.out; omega)))
  (fun c => OwnFrom.and (fun s W W' row h hg hr => ⟨h.1, by obtain ⟨x, hx, hb⟩ := h.2; exact ⟨x, hx, own_box (β := Unit) () W W' row hb hg hr⟩⟩) (ownFrom_below (Nat.le_refl _) (by have := HS.out; omega)))
  ⟨⟨rfl, hx2⟩, hb2⟩
  (fun x => { tmps := #[.agg (posA p), .pointer (some ⟨w.heap.size, 0, none⟩), .pointer (some ⟨w.heap.size + 1, 0, none⟩), errV x, .agg (posA p), .func (.func 27) #[] #[.pointer (some ⟨b, 0, none⟩)], errV x, undef], defers := [] }) ?assign ?body ?done ?stop
 case assign =>
  intro l x W K hK
  simp only [errV] at hK ⊢
  gi_wp2
  simpa using hK
 case body =>
  rintro l pre x A ⟨⟨rfl, hv⟩, hB⟩ hlt
  have hcv := hv.cell
  have hfv := hv.frozen
  have Hv := Lib.hid hv
  have HB := Lib.hid hB
  clear hx2 hb2 hv hB hlt
  simp only [errV]
  gi_wp2_with fail
  exact ⟨KeepsFrom.of_grownBy (grownBy_setCell' A (w.heap.size + 1) _) (fun j e => by cases e; have := HS.out; omega), ⟨rfl, x, rfl, Hv.out.set _⟩, HB.out.setCell (p := ⟨w.heap.size + 1, 0, none⟩) (by simp) _⟩
 case done =>
  rintro D ys W hD rfl ⟨⟨hnil, hv⟩, hB⟩ hK
  have hcv := hv.cell
  have hfv := hv.frozen
  have Hv := Lib.hid hv
  have HB := Lib.hid hB
  have HK := Lib.hid hK
  have HN := Lib.hid hnil
  have HDd := Lib.hid hD
  clear hx2 hb2 hv hB hK hnil hD
  gi_wp2_with fail
  have hK' := (Kept.setCell (w.heap.size + 1) 0 (.int .i64 0) W).obj HK.out (by have := HS.out; have := HDd.out; omega)
  refine marks_leave (lo := w2.heap.size) (hi := D + 1) ⟨D, rfl, HDd.out, by omega, hK', trivial⟩ (fun w' hk => ?_)
  have hx := boxed_on (Hv.out.set (.int .i64 0)) hk (by have := HS.out; omega)
  have hc5 := hx.cell
  refine ⟨.int .i64 0, ?_, by rw [show wrL p = [] from HN.out]; rfl, (HB.out.setCell (p := ⟨w.heap.size + 1, 0, none⟩) (by simp) _).trans (hk.below (fun i hi => by have := HS.out; omega) (by have := HB.out.size; simp [World.setCell]; omega))⟩
  simp [results, Tryz.f7, go_sem, hc5]
 case stop =>
  rintro D c pre W hD ⟨hne, hpre⟩ ⟨⟨rfl, x, rfl, hv⟩, hB⟩ hK
  have Hv := Lib.hid hv
  have HB := Lib.hid hB
  have HK := Lib.hid hK
  have HDd := Lib.hid hD
  have HN := Lib.hid (hd_pre hpre)
  clear hx2 hb2 hv hB hK hne hpre hD
  gi_wp2_with fail
  refine marks_leave (lo := w2.heap.size) (hi := D + 1) ⟨D, rfl, HDd.out, by omega, HK.out, trivial⟩ (fun w' hk => ?_)
  have hc5 := (boxed_on Hv.out hk (by have := HS.out; omega)).cell
  refine ⟨errV x, ?_, by rw [HN.out]; rfl, HB.out.trans (hk.below (fun i hi => by have := HS.out; omega) HB.out.size)⟩
  simp [results, Tryz.f7, go_sem, hc5]
theorem vcheck_any (p : Nat → Int) (w : World) (hp : FitP p) (hT : TabVar w) (hD : TabDb w) (hL : TabLead w) (hU : TabUs w) : Calls Tryz.prog 7 #[.agg (posA p)] w (IntL (hdZ (wrL p)) w) :=
 callsIn_wide.1 (check_in p w hp hT hD hL hU)
set_option maxRecDepth 100000 in
set_option maxHeartbeats 1000000 in
theorem apd_in (p : Nat → Int) (pB : Nat) (w : World) (hp : FitP p) (hI : VaIn p pB w) : CallsIn Fence.wide 7 Tryz.prog 26 #[.slice none 0 0, .func (.func 27) #[] #[.pointer (some ⟨pB, 0, none⟩)]] w (ErP (wrL p) w) := by
 have HP := Lib.hid hp
 have HI := Lib.hid hI
 clear hp hI
 obtain ⟨i0, hi, hz0, hz1, hz2⟩ := info_parts infoEr
 refine callsIn_of_wp_marks Tryz.func26 rfl trivial ?_ rfl
 simp only [Tryz.ntmps26, List.size_toArray, List.length_cons, List.length_nil, Nat.reduceAdd, Nat.reduceSub, Array.replicate_succ, Array.replicate_zero, List.push_toArray, List.append_toArray, List.nil_append, List.cons_append]
 gi_wp2_with fail
 have bO := Boxed.new w 32 (.slice none 0 0)
 have hB0 : Below w.heap.size w (w.alloc (.cells #[.slice none 0 0] 32)) := box_below _ _
 refine wpIn_rangeFunc_ownG rfl (by decide) (gf := 27) (lb := #[.pointer (some ⟨pB, 0, none⟩)]) rfl trivial (enters_of Tryz.func27 (by kernel_rfl) rfl)
  (wrong_stops 6 pB (by omega) p HP.out _ (HI.out.on hB0)) vaKp_t (fun W l o o' _ h hc _ => vaKp_b W l o o' h hc) (Below.refl _ _) (fun _ => rfl)
  (fun pre W => (∃ v, Boxed W w.heap.size 32 v ∧ W.ownsRow w.heap.size 34 1 v pre.length (pre.map errV) ∧ True) ∧ Below w.heap.size w W)
  (fun _ _ _ => False)
  (OwnFrom.and (Own.from (holdsRow_own w.heap.size w.heap.size 32 34 1 (fun pre : List Int => pre.length) (fun pre => pre.map errV) (fun _ _ => True)) _) (ownFrom_below (Nat.le_refl _) (by simp)))
  (fun _ _ _ _ _ hs _ _ => hs)
  ⟨⟨_, bO, World.ownsRow_nil _ _ _ _, trivial⟩, hB0⟩
  (fun x => { tmps := #[.slice none 0 0, .func (.func 27) #[] #[.pointer (some ⟨pB, 0, none⟩)], .pointer (some ⟨w.heap.size, 0, none⟩), undef, .slice none 0 0, errV x, .func (.func 27) #[] #[.pointer (some ⟨pB, 0, none⟩)], errV x, undef, undef, undef, undef, undef], defers := [] }) ?assign ?body ?done ?stop
 case assign =>
  intro l x W K hK
  simp only [errV] at hK ⊢
  gi_wp2
  exact hK
 case body =>
  rintro l pre x W ⟨⟨v, hv, hrow, _⟩, hB⟩ hlt
  have hc := hv.cell
  clear hB0 bO
  simp only [errV]
  gi_wp2_with (gi_at_builtin; refine wpListIn_append_own _ rfl _ _ 32 rfl w.heap.size 34 i0 (.int .i64 0) 1 8 Tryz.underlying32 hi hz0 hz1 hz2 rfl (by decide) _ _ _ rfl (hrow.alloc _) ⟨W.heap.size, 0, none⟩ 1 1 [.int .i64 x] rfl rfl (cell_one_new _ _ _) (by simp [Value.oneCell']) (by unfold maxLen; omega) (by omega) (by have := hB.size; simp; omega) ?_; intro v' w2 hown' hgrow _; obtain ⟨g', cap', rfl⟩ := ownsRow_succ hown'; obtain ⟨hv1, hv2, hr2, hk2, hb2⟩ := hv.appended (by decide) hrow hB.size (Nat.le_refl _) hown' hgrow; have hc1 := hv1.cell; have hf1 := hv1.frozen)
  exact ⟨hk2.from _, fun h => VaIn.next HI.out (Nat.le_refl _) h hb2, ⟨_, hv2, by rw [List.map_append]; simpa [errV] using hr2, trivial⟩, hB.trans hb2⟩
 case done =>
  rintro D ys W hD rfl ⟨⟨v, hv, hrow, _⟩, hB⟩ hK
  have hc := hv.cell
  gi_wp2
  refine ⟨by simp, .inl ⟨_, _, rfl, run_takeDeferred hK, ?_⟩⟩
  exact ⟨_, results_tmp rfl _ _ _, v, rfl, ownsRow_putObj hrow _ hK rfl, hB.trans (belowK_b (w := w) (Nat.le_refl _) W D _ _ (by simp at hD; omega) hK rfl rfl)⟩
 case stop =>
  rintro D c pre W _ _ h _
  exact h.elim
theorem col_any12 (p : Nat → Int) (pB : Nat) (w : World) (hp : FitP p) (hI : VaIn p pB w) : Calls Tryz.prog 11 #[.func (.func 27) #[] #[.pointer (some ⟨pB, 0, none⟩)]] w (ErP (wrL p) w) := by
 have HP := Lib.hid hp
 have HI := Lib.hid hI
 clear hp hI
 go_enter Tryz.func11, Tryz.ntmps11
 go_wp2_with (go_at_call 26; refine (callsIn_wide.1 (apd_in p pB _ HP.out HI.out)).mono ?_; rintro e w1 ⟨v, rfl, hv, hb⟩; have HV := Lib.hid hv; have HB := Lib.hid hb; clear hv hb)
 exact bodyPost_ret (results_tmp rfl _ _ _) rfl ⟨v, rfl, HV.out, HB.out⟩
theorem all_any12 (p : Nat → Int) (w : World) (hp : FitP p) (hT : TabVar w) (hD : TabDb w) (hL : TabLead w) (hU : TabUs w) : Calls Tryz.prog 5 #[.agg (posA p)] w (ErP (wrL p) w) := by
 have HP := Lib.hid hp
 have HT := Lib.hid hT
 have HD := Lib.hid hD
 have HL := Lib.hid hL
 have HU := Lib.hid hU
 clear hp hT hD hL hU
 have HB := Lib.hid (Below.refl w.heap.size w)
 go_enter Tryz.func5, Tryz.ntmps5
 go_wp2_with (first
  | (refine step_box rfl _ rfl p rfl ?_; intro b0 w1 N R; have HB := Lib.hid (HB.out.trans (N.below.mono HB.out.size)); have HR := Lib.hid R; clear N R)
  | (refine step_load rfl _ rfl b0 rfl p HR.out ?_)
  | (go_at_call 12; refine (wrong_box p _).mono ?_; rintro e w2 ⟨b, hb0, rfl, hb, hrow⟩; have HB := Lib.hid (below_on HB.out hb); have HRb := Lib.hid hrow; clear hb0 hb hrow)
  | (go_at_call 11; refine (col_any12 p b _ HP.out ⟨HRb.out, HT.out.on HB.out, HD.out.next HB.out, HL.out.next HB.out, HU.out.on HB.out⟩).mono ?_; rintro e w3 ⟨v, rfl, hv, hb⟩; have HV := Lib.hid (owns_low HB.out.size hv); have HB := Lib.hid (below_on HB.out hb); clear hv hb))
 exact bodyPost_ret (results_tmp rfl _ _ _) rfl ⟨v, rfl, HV.out, HB.out⟩
end Go.Proofs.YtigkbccpkepdmaaGreatDoor
