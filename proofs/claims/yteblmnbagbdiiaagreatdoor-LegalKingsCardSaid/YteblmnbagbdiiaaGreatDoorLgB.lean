/-
 Layer 17: legal's wanted, wouldBe: what picks moves.
-/
import Derived.Test.YteblmnbagbdiiaaGreatDoorLgGrB
import Derived.Test.YteblmnbagbdiiaaGreatDoorLgGrA
import Derived.Test.YteblmnbagbdiiaaGreatDoorAfGrG
import Derived.Laws.EntriesVeiled
import Derived.Shelf.Abstract
set_option maxRecDepth 100000
set_option maxHeartbeats 4000000
namespace Go.Proofs.YteblmnbagbdiiaaGreatDoor
open Go.RowKit Go.Shelf
set_option linter.unusedVariables false
set_option linter.unusedSimpArgs false
attribute [local go_sem] Oper.semAt_some

section laws
variable {ops : Array Oper} {rest : List Oper} {op : Oper} {a : Act} {w : World} {Q : Exit → Act → World → Prop}
theorem fn_alloc (hw : Region.wanted op (yielded ops a.tmps) = true) (T : TypeId) (ho : op.op = .alloc T) (hz : (Tryz.prog.info? T).map (fun i => i.zero) = some (some .nilFunc))
  (h : ∀ b w', New b w w' → Blk w' b T #[.nilFunc] → wpList Tryz.prog ops Q rest (a.put op.dst (.pointer (some ⟨b, 0, none⟩))) w') : wpList Tryz.prog ops Q (op :: rest) a w :=
 wpList_want hw fun K hK => by
  have hk := hK _ _ (h _ _ (New.alloc w _) (heap_alloc_new w (.cells #[.nilFunc] T)))
  have hzr : ∀ w, (zeroValue T).run Tryz.prog w = .ok .nilFunc w := fun w => by
   cases hq : Tryz.prog.info? T with
   | none => simp [hq] at hz
   | some i => simp [hq] at hz; simp [zeroValue, typeInfo, hq, hz]
  unfold Oper.wp execOp
  simp only [ho, Instr.alloc, Sem.run_bind, Sem.run_pure, Result.andThen_ok, hzr]
  exact hk
theorem fn_store (hw : Region.wanted op (yielded ops a.tmps) = true) (ty : TypeId) (x y : Operand) (ho : op.op = .store ty x y) (b : Nat) (hx : a.eval x = .pointer (some ⟨b, 0, none⟩)) (f : Fn) (fs cs : Array Value) (hy : a.eval y = .func f fs cs)
  (v : Value) (hr : Blk w b ty #[v]) (hs : (Tryz.prog.info? ty).map (·.size) = some 1)
  (h : ∀ w', Upd b w w' → Blk w' b ty #[.func f fs cs] → wpList Tryz.prog ops Q rest (a.put op.dst undef) w') : wpList Tryz.prog ops Q (op :: rest) a w :=
 wpList_want hw fun K' hK' => by
  have hk := hK' _ _ (h _ (Upd.setCell w b 0 (.func f fs cs)) (hr.set 0 _))
  have hrun : (storeVar ty ⟨b, 0, none⟩ (.func f fs cs)).run Tryz.prog w = .ok () (w.setCell ⟨b, 0, none⟩ (.func f fs cs)) :=
   run_storeVar_mid w b 0 ty #[.func f fs cs] (hr.there 0 1 (by show 0 + 1 ≤ 1; decide)) hs (by simp [Value.oneCell'])
  unfold Oper.wp execOp
  simp only [ho, hx, hy, Instr.storeAt, Instr.sureAddr, Sem.run_bind, Sem.run_pure, Result.andThen_ok, hrun]
  exact hk
end laws
theorem PredB.at {N : FuncId} {lb : Array Value} {f : Mv → Bool} {B : Nat} {w W : World} {m : Mv} (h : PredB N lb f B w) (hb : Below B w W) (hm : FitV m) : Calls Tryz.prog N (#[.agg (mvA m)] ++ lb) W (BoL (f m) W) := h W m hb hm
theorem afv_fit {p : Nat → Int} (hp : WfP p) : ∀ (i : Nat) (m : Mv), (afL p)[i]? = some m → FitV m := fun i m h => af_fit hp (List.mem_of_getElem? h)
theorem lg_w1 (p : Nat → Int) (m : Mv) (b : Nat) (w : World) (hp : WfP p) (hm : FitV m) (hT : CsT w) (hr : Row w b p) : Calls Tryz.prog 98 #[.agg (mvA m), .pointer (some ⟨b, 0, none⟩)] w (BoL (welL p m) w) := by
 have HP := H_ hp
 have HM := H_ hm
 have HT := H_ hT
 have HRb := H_ hr
 clear hp hm hT hr
 have HB := H_ (Below.refl w.heap.size w)
 go_enter Tryz.func98, Tryz.ntmps98
 go_wp2_with (first
   | (guard_target = gB 2; refine blk_box rfl 40 _ rfl (mvA m) rfl ?_; intro b2 w1 N R; have HG2 := H_ (nA HB.out N); have HRb := H_ (HRb.out.later N.below); have HB := H_ (below_on HB.out N.below); have HR2 := H_ R; clear N R)
   | (guard_target = gL 1; refine step_load rfl _ rfl b rfl p HRb.out ?_)
   | (guard_target = gL 2; refine blk_load rfl 40 _ rfl b2 rfl (mvA m) HR2.out _ Tryz.underlying40 rfl sizeMv ?_)
   | (go_at_call 19; refine (lg_well p m _ HP.out HM.out (HT.out.on HB.out)).mono ?_; rintro e w3 ⟨rfl, hb⟩; have HB := H_ (below_on HB.out hb); clear hb))
 go_ret
 exact ⟨rfl, HB.out⟩
theorem w1K {p : Nat → Int} {m : Mv} {x : Bool} (e : welL p m = x) (b : Nat) (w : World) (hp : WfP p) (hm : FitV m) (hT : CsT w) (hr : Row w b p) : Calls Tryz.prog 98 #[.agg (mvA m), .pointer (some ⟨b, 0, none⟩)] w (BoL x w) := e ▸ lg_w1 p m b w hp hm hT hr
theorem takesK {p : Nat → Int} {m : Mv} {x : Bool} (e : (takZ p m != -1) = x) (w : World) (hp : PsR p) (hm : FitV m) (hT : PsT w) : Calls Tryz.prog 18 #[.agg (posA p), .agg (mvA m)] w (BoL x w) := e ▸ takes_ps p m w hp hm hT
theorem lg_w2 (p : Nat → Int) (m : Mv) (b bf : Nat) (w : World) (hp : WfP p) (hm : FitV m) (hT : CsT w) (hr : Row w b p) (hf : Blk w bf 72 #[.func (.func 98) #[] #[.pointer (some ⟨b, 0, none⟩)]]) :
  Calls Tryz.prog 99 #[.agg (mvA m), .pointer (some ⟨b, 0, none⟩), .pointer (some ⟨bf, 0, none⟩)] w (BoL (tkwL p m) w) := by
 have HP := H_ hp
 have HM := H_ hm
 have HT := H_ hT
 have HRb := H_ hr
 have HF := H_ hf
 unfold tkwL
 obtain ⟨t, ht⟩ : ∃ t, (takZ p m != -1) = t := ⟨_, rfl⟩
 have HTk := H_ ht
 obtain ⟨x, hx⟩ : ∃ x, welL p m = x := ⟨_, rfl⟩
 have HW := H_ hx
 have HE := H_ (show (!(takZ p m == -1) && welL p m) = (t && x) by rw [← ht, ← hx]; rfl)
 rw [HE.out]
 clear hp hm hT hr hf ht hx
 have HB := H_ (Below.refl w.heap.size w)
 cases t
 ·skip
  go_enter Tryz.func99, Tryz.ntmps99
  go_wp2_with (first
   | (guard_target = gB 3; refine blk_box rfl 40 _ rfl (mvA m) rfl ?_; intro b3 w1 N R; have HG3 := H_ (nA HB.out N); have HRb := H_ (HRb.out.later N.below); have HF := H_ (HF.out.later N.below); have HB := H_ (below_on HB.out N.below); have HR3 := H_ R; clear N R)
   | (guard_target = gL 1; refine step_load rfl _ rfl b rfl p HRb.out ?_)
   | (guard_target = gL 3; refine blk_load rfl 40 _ rfl b3 rfl (mvA m) HR3.out _ Tryz.underlying40 rfl sizeMv ?_)
   | (go_at_call 18; refine (takesK HTk.out _ (PsR.of HP.out) HM.out (HT.out.on HB.out).ps).mono ?_; rintro e w3 ⟨rfl, hb⟩; have HRb := H_ (HRb.out.later hb); have HF := H_ (HF.out.later hb); have HR3 := H_ (HR3.out.later hb); have HB := H_ (below_on HB.out hb); clear hb)
   | (guard_target = gL 2; refine step_get rfl 72 _ rfl bf 0 rfl Tryz.underlying72 rfl (.func (.func 98) #[] #[.pointer (some ⟨b, 0, none⟩)]) ((Blk.cell HF.out 0).trans rfl) ?_)
   | (go_at_call 98; refine (w1K HW.out b _ HP.out HM.out (HT.out.on HB.out) HRb.out).mono ?_; rintro e w3 ⟨rfl, hb⟩; have HB := H_ (below_on HB.out hb); clear hb))
  go_ret
  exact ⟨rfl, HB.out⟩
 ·skip
  go_enter Tryz.func99, Tryz.ntmps99
  go_wp2_with (first
   | (guard_target = gB 3; refine blk_box rfl 40 _ rfl (mvA m) rfl ?_; intro b3 w1 N R; have HG3 := H_ (nA HB.out N); have HRb := H_ (HRb.out.later N.below); have HF := H_ (HF.out.later N.below); have HB := H_ (below_on HB.out N.below); have HR3 := H_ R; clear N R)
   | (guard_target = gL 1; refine step_load rfl _ rfl b rfl p HRb.out ?_)
   | (guard_target = gL 3; refine blk_load rfl 40 _ rfl b3 rfl (mvA m) HR3.out _ Tryz.underlying40 rfl sizeMv ?_)
   | (go_at_call 18; refine (takesK HTk.out _ (PsR.of HP.out) HM.out (HT.out.on HB.out).ps).mono ?_; rintro e w3 ⟨rfl, hb⟩; have HRb := H_ (HRb.out.later hb); have HF := H_ (HF.out.later hb); have HR3 := H_ (HR3.out.later hb); have HB := H_ (below_on HB.out hb); clear hb)
   | (guard_target = gL 2; refine step_get rfl 72 _ rfl bf 0 rfl Tryz.underlying72 rfl (.func (.func 98) #[] #[.pointer (some ⟨b, 0, none⟩)]) ((Blk.cell HF.out 0).trans rfl) ?_)
   | (go_at_call 98; refine (w1K HW.out b _ HP.out HM.out (HT.out.on HB.out) HRb.out).mono ?_; rintro e w3 ⟨rfl, hb⟩; have HB := H_ (below_on HB.out hb); clear hb))
  go_ret
  exact ⟨rfl, HB.out⟩
theorem fnZero : (Tryz.prog.info? 72).map (fun i => i.zero) = some (some .nilFunc) := by kernel_rfl
theorem fnSize : (Tryz.prog.info? 72).map (·.size) = some 1 := by kernel_rfl
def PickL (f : Mv → Bool) (w : World) (e : Ending) (w' : World) : Prop :=
 ∃ N lb, e = .returned (.func (.func N) #[] lb) ∧ (∀ args w, (callFunc N args).run Tryz.prog w = .ok (.enter N args) w) ∧ PredB N lb f w'.heap.size w' ∧ Below w.heap.size w w'
theorem ent_w1 : ∀ args w, (callFunc 98 args).run Tryz.prog w = .ok (.enter 98 args) w := enters_of Tryz.func98 (by kernel_rfl) rfl
theorem ent_w2 : ∀ args w, (callFunc 99 args).run Tryz.prog w = .ok (.enter 99 args) w := enters_of Tryz.func99 (by kernel_rfl) rfl
theorem pred_w1 {p : Nat → Int} {b1 : Nat} {w0 w : World} (hp : WfP p) (hT : CsT w0) (hB : Below w0.heap.size w0 w) (h1 : Row w b1 p) : PredB 98 #[.pointer (some ⟨b1, 0, none⟩)] (welL p) w.heap.size w := fun W m hb hm =>
 lg_w1 p m b1 W hp hm (hT.on (below_on hB hb)) (h1.later hb)
theorem pred_w2 {p : Nat → Int} {b1 b3 : Nat} {w0 w : World} (hp : WfP p) (hT : CsT w0) (hB : Below w0.heap.size w0 w) (h1 : Row w b1 p) (h3 : Blk w b3 72 #[.func (.func 98) #[] #[.pointer (some ⟨b1, 0, none⟩)]]) :
  PredB 99 #[.pointer (some ⟨b1, 0, none⟩), .pointer (some ⟨b3, 0, none⟩)] (tkwL p) w.heap.size w := fun W m hb hm =>
 lg_w2 p m b1 b3 W hp hm (hT.on (below_on hB hb)) (h1.later hb) (Blk.later h3 hb)
theorem lg_wanted (p : Nat → Int) (w : World) (hp : WfP p) (hT : CsT w) : Calls Tryz.prog 42 #[.agg (posA p)] w (PickL (wanL p) w) := by
 have HP := H_ hp
 have HT := H_ hT
 have HLn0 := af_len p
 have HFi0 := afv_fit hp
 cases g4 : p 0 == 4
 ·have HE0 := H_ (show wanL p = welL p by funext m; unfold wanL antL; rw [g4]; rfl)
  clear hp hT HLn0 HFi0
  have HB := H_ (Below.refl w.heap.size w)
  go_enter Tryz.func42, Tryz.ntmps42
  go_wp2_with (first
   | (guard_target = gB 1; refine step_box rfl _ rfl p rfl ?_; intro b1 w1 N R; have HG1 := H_ (nA HB.out N); have HB := H_ (below_on HB.out N.below); have HR1 := H_ R; clear N R)
   | (guard_target = gA 3; refine fn_alloc (op := ⟨some 3, _, _, _, _, _⟩) rfl 72 rfl fnZero ?_; intro b3 wn N R; have HG3 := H_ (nA HB.out N); have HD13 := H_ (show b1 ≠ b3 by have := HR1.out.lt; have := N.at_; omega); have HR1 := H_ (HR1.out.later N.below); have HR3 := H_ R; have HB := H_ (below_on HB.out N.below); clear N R)
   | (guard_target = gS 3; refine fn_store (op := ⟨none, .store _ (.tmp 3) _, _, _, _, _⟩) rfl 72 _ _ rfl b3 rfl (.func 98) #[] #[.pointer (some ⟨b1, 0, none⟩)] rfl .nilFunc HR3.out fnSize ?_; intro wn U R; have HR1 := H_ (HR1.out.apart U HD13.out); have HR3 := H_ R; have HB := H_ (HB.out.trans (U.below HG3.out)); clear U R)
   | (guard_target = gL 7; refine gU rfl 5 _ rfl Tryz.underlying5 HR1.out 0 (by decide) rfl rfl ?_)
   | (guard_target = gL 1; refine step_load rfl _ rfl b1 rfl p HR1.out ?_)
   | (go_at_call 16; refine (all_after p _ HP.out (HT.out.on HB.out)).mono ?_; rintro e w3 ⟨v, rfl, hv, hb⟩; rw [HL.out] at hv; obtain ⟨a3, c3, rfl, hE⟩ := mvs_of hv; have HE := H_ hE; have HR1 := H_ (HR1.out.later hb); have HR3 := H_ (Blk.later HR3.out hb); have HB := H_ (below_on HB.out hb); clear hb hv hE)
   | (go_at_call 100; refine (containsF (f := tkwL p) ent_w2 _ L a3 c3 _ (Nat.le_refl _) HLn.out HFi.out HE.out (pred_w2 HP.out HT.out HB.out HR1.out HR3.out)).mono ?_; rintro e w3 ⟨rfl, hb⟩; rw [HAny.out]; have HR1 := H_ (HR1.out.later hb); have HR3 := H_ (Blk.later HR3.out hb); have HB := H_ (below_on HB.out hb); clear hb)
   | (guard_target = gL 3; refine step_get rfl 72 _ rfl b3 0 rfl Tryz.underlying72 rfl (.func (.func 98) #[] #[.pointer (some ⟨b1, 0, none⟩)]) ((Blk.cell HR3.out 0).trans rfl) ?_))
  go_ret
  exact ⟨_, _, rfl, ent_w1, by rw [HE0.out]; exact pred_w1 HP.out HT.out HB.out HR1.out, HB.out⟩
 ·obtain ⟨x, hx⟩ : ∃ x, (afL p).any (tkwL p) = x := ⟨_, rfl⟩
  have hE : wanL p = bif x then tkwL p else welL p := by funext m; unfold wanL antL; rw [g4, hx]; cases x <;> rfl
  have HE0 := H_ hE
  obtain ⟨L, hL⟩ : ∃ L, afL p = L := ⟨_, rfl⟩
  rw [hL] at HLn0 HFi0 hx
  have HL := H_ hL
  have HLn := H_ HLn0
  have HFi := H_ HFi0
  have HAny := H_ hx
  clear hp hT HLn0 HFi0 hx hL hE
  have HB := H_ (Below.refl w.heap.size w)
  cases x
  ·skip
   go_enter Tryz.func42, Tryz.ntmps42
   go_wp2_with (first
    | (guard_target = gB 1; refine step_box rfl _ rfl p rfl ?_; intro b1 w1 N R; have HG1 := H_ (nA HB.out N); have HB := H_ (below_on HB.out N.below); have HR1 := H_ R; clear N R)
    | (guard_target = gA 3; refine fn_alloc (op := ⟨some 3, _, _, _, _, _⟩) rfl 72 rfl fnZero ?_; intro b3 wn N R; have HG3 := H_ (nA HB.out N); have HD13 := H_ (show b1 ≠ b3 by have := HR1.out.lt; have := N.at_; omega); have HR1 := H_ (HR1.out.later N.below); have HR3 := H_ R; have HB := H_ (below_on HB.out N.below); clear N R)
    | (guard_target = gS 3; refine fn_store (op := ⟨none, .store _ (.tmp 3) _, _, _, _, _⟩) rfl 72 _ _ rfl b3 rfl (.func 98) #[] #[.pointer (some ⟨b1, 0, none⟩)] rfl .nilFunc HR3.out fnSize ?_; intro wn U R; have HR1 := H_ (HR1.out.apart U HD13.out); have HR3 := H_ R; have HB := H_ (HB.out.trans (U.below HG3.out)); clear U R)
    | (guard_target = gL 7; refine gU rfl 5 _ rfl Tryz.underlying5 HR1.out 0 (by decide) rfl rfl ?_)
    | (guard_target = gL 1; refine step_load rfl _ rfl b1 rfl p HR1.out ?_)
    | (go_at_call 16; refine (all_after p _ HP.out (HT.out.on HB.out)).mono ?_; rintro e w3 ⟨v, rfl, hv, hb⟩; rw [HL.out] at hv; obtain ⟨a3, c3, rfl, hE⟩ := mvs_of hv; have HE := H_ hE; have HR1 := H_ (HR1.out.later hb); have HR3 := H_ (Blk.later HR3.out hb); have HB := H_ (below_on HB.out hb); clear hb hv hE)
    | (go_at_call 100; refine (containsF (f := tkwL p) ent_w2 _ L a3 c3 _ (Nat.le_refl _) HLn.out HFi.out HE.out (pred_w2 HP.out HT.out HB.out HR1.out HR3.out)).mono ?_; rintro e w3 ⟨rfl, hb⟩; rw [HAny.out]; have HR1 := H_ (HR1.out.later hb); have HR3 := H_ (Blk.later HR3.out hb); have HB := H_ (below_on HB.out hb); clear hb)
    | (guard_target = gL 3; refine step_get rfl 72 _ rfl b3 0 rfl Tryz.underlying72 rfl (.func (.func 98) #[] #[.pointer (some ⟨b1, 0, none⟩)]) ((Blk.cell HR3.out 0).trans rfl) ?_))
   go_ret
   exact ⟨_, _, rfl, ent_w1, by rw [HE0.out]; exact pred_w1 HP.out HT.out HB.out HR1.out, HB.out⟩
  ·skip
   go_enter Tryz.func42, Tryz.ntmps42
   go_wp2_with (first
    | (guard_target = gB 1; refine step_box rfl _ rfl p rfl ?_; intro b1 w1 N R; have HG1 := H_ (nA HB.out N); have HB := H_ (below_on HB.out N.below); have HR1 := H_ R; clear N R)
    | (guard_target = gA 3; refine fn_alloc (op := ⟨some 3, _, _, _, _, _⟩) rfl 72 rfl fnZero ?_; intro b3 wn N R; have HG3 := H_ (nA HB.out N); have HD13 := H_ (show b1 ≠ b3 by have := HR1.out.lt; have := N.at_; omega); have HR1 := H_ (HR1.out.later N.below); have HR3 := H_ R; have HB := H_ (below_on HB.out N.below); clear N R)
    | (guard_target = gS 3; refine fn_store (op := ⟨none, .store _ (.tmp 3) _, _, _, _, _⟩) rfl 72 _ _ rfl b3 rfl (.func 98) #[] #[.pointer (some ⟨b1, 0, none⟩)] rfl .nilFunc HR3.out fnSize ?_; intro wn U R; have HR1 := H_ (HR1.out.apart U HD13.out); have HR3 := H_ R; have HB := H_ (HB.out.trans (U.below HG3.out)); clear U R)
    | (guard_target = gL 7; refine gU rfl 5 _ rfl Tryz.underlying5 HR1.out 0 (by decide) rfl rfl ?_)
    | (guard_target = gL 1; refine step_load rfl _ rfl b1 rfl p HR1.out ?_)
    | (go_at_call 16; refine (all_after p _ HP.out (HT.out.on HB.out)).mono ?_; rintro e w3 ⟨v, rfl, hv, hb⟩; rw [HL.out] at hv; obtain ⟨a3, c3, rfl, hE⟩ := mvs_of hv; have HE := H_ hE; have HR1 := H_ (HR1.out.later hb); have HR3 := H_ (Blk.later HR3.out hb); have HB := H_ (below_on HB.out hb); clear hb hv hE)
    | (go_at_call 100; refine (containsF (f := tkwL p) ent_w2 _ L a3 c3 _ (Nat.le_refl _) HLn.out HFi.out HE.out (pred_w2 HP.out HT.out HB.out HR1.out HR3.out)).mono ?_; rintro e w3 ⟨rfl, hb⟩; rw [HAny.out]; have HR1 := H_ (HR1.out.later hb); have HR3 := H_ (Blk.later HR3.out hb); have HB := H_ (below_on HB.out hb); clear hb)
    | (guard_target = gL 3; refine step_get rfl 72 _ rfl b3 0 rfl Tryz.underlying72 rfl (.func (.func 98) #[] #[.pointer (some ⟨b1, 0, none⟩)]) ((Blk.cell HR3.out 0).trans rfl) ?_))
   go_ret
   exact ⟨_, _, rfl, ent_w2, by rw [HE0.out]; exact pred_w2 HP.out HT.out HB.out HR1.out HR3.out, HB.out⟩
theorem lg_wb1 {N : FuncId} {lb : Array Value} {f : Mv → Bool} (eN : ∀ args w, (callFunc N args).run Tryz.prog w = .ok (.enter N args) w) (m : Mv) (b3 B : Nat) (w : World) (hB : B ≤ w.heap.size) (hm : FitV m) (hf : Blk w b3 72 #[.func (.func N) #[] lb]) (hp : PredB N lb f B w) :
  Calls Tryz.prog 44 #[.agg (mvA m), .pointer (some ⟨b3, 0, none⟩)] w (BoL (!f m) w) := by
 have HM := H_ hm
 have HF := H_ hf
 have HP := H_ hp
 have HBz := H_ hB
 clear hm hf hp hB
 have HB := H_ (Below.refl w.heap.size w)
 go_enter Tryz.func44, Tryz.ntmps44
 go_wp2_with (first
   | (guard_target = gB 2; refine blk_box rfl 40 _ rfl (mvA m) rfl ?_; intro b2 w1 N R; have HG2 := H_ (nA HB.out N); have HF := H_ (HF.out.later N.below); have HB := H_ (below_on HB.out N.below); have HR2 := H_ R; clear N R)
   | (guard_target = gL 1; refine step_get rfl 72 _ rfl b3 0 rfl Tryz.underlying72 rfl (.func (.func N) #[] lb) ((Blk.cell HF.out 0).trans rfl) ?_)
   | (guard_target = gL 2; refine blk_load rfl 40 _ rfl b2 rfl (mvA m) HR2.out _ Tryz.underlying40 rfl sizeMv ?_)
   | (go_at_fn N; refine (HP.out _ m (below_down HB.out HBz.out) HM.out).mono ?_; rintro e w3 ⟨rfl, hb⟩; have HB := H_ (below_on HB.out hb); clear hb))
 go_ret
 exact ⟨rfl, HB.out⟩
theorem ent_wb1 : ∀ args w, (callFunc 44 args).run Tryz.prog w = .ok (.enter 44 args) w := enters_of Tryz.func44 (by kernel_rfl) rfl
theorem pred_wb1 {N : FuncId} {lb : Array Value} {f : Mv → Bool} (eN : ∀ args w, (callFunc N args).run Tryz.prog w = .ok (.enter N args) w) {b3 B : Nat} {w w2 : World} (hB : B ≤ w.heap.size) (hb3 : b3 < B) (hb : Below B w w2) (hf : Blk w b3 72 #[.func (.func N) #[] lb]) (hp : PredB N lb f B w) :
  PredB 44 #[.pointer (some ⟨b3, 0, none⟩)] (fun m => !f m) B w2 := fun W m k hm =>
 lg_wb1 eN m b3 B W (Nat.le_trans hB (Nat.le_trans hb.size k.size)) hm (Blk.next hf (hb.trans k) hb3) (hp.on (hb.trans k))
theorem lg_would (p : Nat → Int) (w : World) (hp : WfP p) (hT : CsT w) : Calls Tryz.prog 22 #[.agg (posA p)] w (MvL (wouL p) w) := by
 have HP := H_ hp
 have HT := H_ hT
 have HLn0 := af_len p
 have HFi0 := afv_fit hp
 unfold wouL
 obtain ⟨L, hL⟩ : ∃ L, afL p = L := ⟨_, rfl⟩
 rw [hL] at HLn0 HFi0 ⊢
 have HL := H_ hL
 have HLn := H_ HLn0
 have HFi := H_ HFi0
 clear hp hT HLn0 HFi0 hL
 have HB := H_ (Below.refl w.heap.size w)
 go_enter Tryz.func22, Tryz.ntmps22
 go_wp2_with (first
   | (guard_target = gB 1; refine step_box rfl _ rfl p rfl ?_; intro b1 w1 N R; have HG1 := H_ (nA HB.out N); have HB := H_ (below_on HB.out N.below); have HR1 := H_ R; clear N R)
   | (guard_target = gL 1; refine step_load rfl _ rfl b1 rfl p HR1.out ?_)
   | (go_at_call 42; refine (lg_wanted p _ HP.out (HT.out.on HB.out)).mono ?_; rintro e w3 ⟨N0, lb0, rfl, eN, hpr, hb⟩; have HPr := H_ hpr; have HR1 := H_ (HR1.out.later hb); have HB := H_ (below_on HB.out hb); clear hpr hb)
   | (guard_target = gA 3; refine fn_alloc (op := ⟨some 3, _, _, _, _, _⟩) rfl 72 rfl fnZero ?_; intro b3 wn N R; have HG3 := H_ (nA HB.out N); have HD13 := H_ (show b1 ≠ b3 by have := HR1.out.lt; have := N.at_; omega); have HR1 := H_ (HR1.out.later N.below); have HPr := H_ (HPr.out.on N.below); have HSz := H_ (show w3.heap.size ≤ b3 by have := N.at_; omega); have HS3 := H_ N.below.size; have HR3 := H_ R; have HB := H_ (below_on HB.out N.below); clear N R)
   | (guard_target = gS 3; refine fn_store (op := ⟨none, .store _ (.tmp 3) _, _, _, _, _⟩) rfl 72 _ _ rfl b3 rfl (.func N0) #[] lb0 rfl .nilFunc HR3.out fnSize ?_; intro wn U R; have HR1 := H_ (HR1.out.apart U HD13.out); have HPr := H_ (HPr.out.on (U.below HSz.out)); have HS3 := H_ (Nat.le_trans HS3.out (U.below (Nat.zero_le _)).size); have HR3 := H_ R; have HB := H_ (HB.out.trans (U.below HG3.out)); clear U R)
   | (go_at_call 16; refine (all_after p _ HP.out (HT.out.on HB.out)).mono ?_; rintro e w4 ⟨v, rfl, hv, hb⟩; rw [HL.out] at hv; have HO := H_ hv; have HB2 := H_ hb; have HBz := H_ HB.out; have HB := H_ (below_on HB.out hb); clear hb hv)
   | (go_at_call 43; refine (deleteF (f := fun m => !wanL p m) ent_wb1 _ L v _ HB2.out.size HLn.out HFi.out HO.out (pred_wb1 eN (Nat.le_refl _) (Blk.lt HR3.out) HB2.out HR3.out (HPr.out.up HS3.out))).mono ?_; rintro e w5 ⟨v5, rfl, hv, hb⟩))
 go_ret
 refine ⟨_, rfl, ?_, ?_⟩
 ·have h9 := mvsO_down hv (C := w.heap.size) HBz.out.size
  rw [show (fun m => !(fun m => !wanL p m) m) = wanL p by funext m; exact Bool.not_not _] at h9
  exact h9
 ·exact HBz.out.trans ((HB2.out.mono HBz.out.size).trans (hb.mono HBz.out.size))
end Go.Proofs.YteblmnbagbdiiaaGreatDoor
