/-
  Contracts of layer 11's functions: castlingText, dropText, readEnds, castlingOf.
-/
import Derived.Test.YtnogmogmlilpiaaDoorMvB
import Derived.Test.YtnogmogmlilpiaaDoorMvEq
import Derived.Test.YtnogmogmlilpiaaDoorRuShuf
namespace Go.Proofs.YtnogmogmlilpiaaDoor
open Go.RowKit
set_option linter.unusedVariables false
set_option linter.unusedSimpArgs false

theorem late_blkc {o : Oper} {a : Act} {w : World} {K : Act → World → Prop} {Q : Exit → Act → World → Prop} (ty : TypeId) (x y : Operand) (ho : o.op = .store ty x y) (b i : Nat) (hx : a.eval x = .pointer (some ⟨b, i, none⟩)) (k : IntKind) (v : Int) (hy : a.eval y = .int k v)
    (T : TypeId) (cs : Array Value) (hr : Blk w b T cs) (hi : i < cs.size) (hs : (Tryd.prog.info? ty).map (·.size) = some 1)
    (h : ∀ w', Upd b w w' → Blk w' b T (cs.setIfInBounds i (.int k v)) → K (a.put o.dst undef) w') : Wp Tryd.prog o a w K Q := ⟨by
  have hk := h _ (Upd.setCell w b i (.int k v)) (hr.set i _)
  have hrun : (storeVar ty ⟨b, i, none⟩ (.int k v)).run Tryd.prog w = .ok () (w.setCell ⟨b, i, none⟩ (.int k v)) :=
    run_storeVar_mid w b i ty #[.int k v] (hr.there i 1 (by omega)) hs (by simp [Value.oneCell'])
  unfold Oper.wp execOp
  simp only [ho, hx, hy, Instr.storeAt, Instr.sureAddr, Sem.run_bind, Sem.run_pure, Result.andThen_ok, hrun]
  exact hk⟩
section laws
variable {ops : Array Oper} {rest : List Oper} {op : Oper} {a : Act} {w : World} {Q : Exit → Act → World → Prop}
theorem blk_yes (hw : Region.wanted op (yielded ops a.tmps) = true) (ty : TypeId) (x y : Operand) (ho : op.op = .store ty x y) (b i : Nat) (hx : a.eval x = .pointer (some ⟨b, i, none⟩)) (v : Bool) (hy : a.eval y = .bool v)
    (T : TypeId) (cs : Array Value) (hr : Blk w b T cs) (hi : i < cs.size) (hs : (Tryd.prog.info? ty).map (·.size) = some 1)
    (h : ∀ w', Upd b w w' → Blk w' b T (cs.setIfInBounds i (.bool v)) → wpList Tryd.prog ops Q rest (a.put op.dst undef) w') : wpList Tryd.prog ops Q (op :: rest) a w :=
  wpList_want hw fun K' hK' => by
    have hk := hK' _ _ (h _ (Upd.setCell w b i (.bool v)) (hr.set i _))
    have hrun : (storeVar ty ⟨b, i, none⟩ (.bool v)).run Tryd.prog w = .ok () (w.setCell ⟨b, i, none⟩ (.bool v)) :=
      run_storeVar_mid w b i ty #[.bool v] (hr.there i 1 (by omega)) hs (by simp [Value.oneCell'])
    unfold Oper.wp execOp
    simp only [ho, hx, hy, Instr.storeAt, Instr.sureAddr, Sem.run_bind, Sem.run_pure, Result.andThen_ok, hrun]
    exact hk
end laws
theorem results_mv2 {fn : Func} {i j : Tmp} (h : fn.results = #[.cell i 33, .tmp j]) (tmps : Array Value) (w : World) (b : Nat) (m : Mv) (x : Value) (hp : tmps.getD i undef = .pointer (some ⟨b, 0, none⟩)) (hx : tmps.getD j undef = x) (hr : Blk w b 33 (mvA m)) :
    (results fn tmps).run Tryd.prog w = .ok (.tuple #[.agg (mvA m), x]) w := by
  have hl := run_loadVar_row w b 33 33 (mvA m) (0, 0) _ hr Tryd.underlying33 rfl sizeMv
  have hp' : tmps[i]?.getD undef = .pointer (some ⟨b, 0, none⟩) := by simpa using hp
  have hx' : tmps[j]?.getD undef = x := by simpa using hx
  simp [results, h, hp', hx', asAddr, hl]
theorem results_mv1 {fn : Func} {i : Tmp} (h : fn.results = #[.cell i 33]) (tmps : Array Value) (w : World) (b : Nat) (m : Mv) (hp : tmps.getD i undef = .pointer (some ⟨b, 0, none⟩)) (hr : Blk w b 33 (mvA m)) :
    (results fn tmps).run Tryd.prog w = .ok (.agg (mvA m)) w :=
  results_blk h tmps w b _ hp hr Tryd.underlying33 rfl sizeMv rfl
/-- The files that a castling's text names. -/
def goL : List Value := [.int .i64 6, .int .i64 2]
def TabGo (w : World) : Prop := w.rangeAt 0 0 goL
theorem TabGo.on {w w' : World} (h : TabGo w) (hb : Below w.heap.size w w') : TabGo w' := range_on h hb
theorem TabGo.cell {w : World} (h : TabGo w) {d : Nat} (hd : d < 2) : w.cell? ⟨0, d, none⟩ = some (.int .i64 (goZ d)) := by
  have := h d (.int .i64 (goZ d)) (by
    have : d = 0 ∨ d = 1 := by omega
    rcases this with rfl | rfl <;> rfl)
  rwa [Nat.zero_add] at this
def MvS (m : Mv) (t : ByteArray) (w : World) (e : Ending) (w' : World) : Prop := e = .returned (.tuple #[.agg (mvA m), .string t]) ∧ Below w.heap.size w w'
def MvO (m : Mv) (b : Bool) (w : World) (e : Ending) (w' : World) : Prop := e = .returned (.tuple #[.agg (mvA m), .bool b]) ∧ Below w.heap.size w w'
def MvL (m : Mv) (w : World) (e : Ending) (w' : World) : Prop := e = .returned (.agg (mvA m)) ∧ Below w.heap.size w w'
theorem mv_str' {a b : ByteArray} (h : a = b) : Ending.returned (.string a) = .returned (.string b) := by rw [h]
theorem parseZ_rng (t : ByteArray) : 0 ≤ parseZ t ∧ parseZ t ≤ 63 := by
  cases h : parseOk t
  · rw [parse_none h]; decide
  · have := (text_parse h).2
    rw [sqB_true] at this; omega
theorem extract_bz (l : List UInt8) (i j : Nat) : (bz l).extract i j = bz ((l.take j).drop i) := by
  rw [← bz_of ((bz l).extract _ _)]
  congr 1
  rw [ByteArray.data_extract, Array.toList_extract, show (bz l).data.toList = l by simp [bz]]
  simp [List.extract, List.drop_take]
set_option maxRecDepth 100000 in
set_option maxHeartbeats 1000000 in
theorem csT_w0 (p : Nat → Int) (m : Mv) (w : World) (hp : FitM p) (hm : FitV m) (hs : smB p = true) (hG : TabGo w) (h0 : (m.pr == 0) = false) : Calls Tryd.prog 27 #[.agg (posA p), .agg (mvA m)] w (StL (bz (csT p m)) w) := by
  have HFp := Lib.hid hp
  have HFm := Lib.hid hm
  have HSm := Lib.hid hs
  have HTn := Lib.hid (smB_turn hs hp.turn.1)
  have HG := Lib.hid hG
  have HB := Lib.hid (Below.refl w.heap.size w)
  have HS := Lib.hid (show csT p m = [] by unfold csT; rw [h0]; rfl)
  have g0 : (m.pr != 0) = true := by rw [bne, h0]; rfl
  clear h0 hp hm hs hG
  go_enter Tryd.func27, Tryd.ntmps27
  go_wp2_with (first
      | (refine step_box rfl _ rfl p rfl ?_; intro b0 w1 N R; have HB := Lib.hid (HB.out.trans (N.below.mono HB.out.size)); have HR := Lib.hid R; clear N R)
      | (refine blk_box rfl 33 _ rfl (mvA m) rfl ?_; intro b1 w2 N R; have HR := Lib.hid (HR.out.later N.below); have HB := Lib.hid (HB.out.trans (N.below.mono HB.out.size)); have HM := Lib.hid R; clear N R)
      | (refine step_get rfl 5 _ rfl b1 2 rfl Tryd.underlying5 rfl (.int .u8 m.pr) ?_ ?_; exact HM.out.cell 2))
  go_ret
  exact ⟨by rw [HS.out]; rfl, HB.out⟩
set_option maxRecDepth 100000 in
set_option maxHeartbeats 1000000 in
theorem csT_w1 (p : Nat → Int) (m : Mv) (w : World) (hp : FitM p) (hm : FitV m) (hs : smB p = true) (hG : TabGo w) (h0 : m.pr = 0) (h1 : csB p m.f m.t = false) : Calls Tryd.prog 27 #[.agg (posA p), .agg (mvA m)] w (StL (bz (csT p m)) w) := by
  have HFp := Lib.hid hp
  have HFm := Lib.hid hm
  have HSm := Lib.hid hs
  have HTn := Lib.hid (smB_turn hs hp.turn.1)
  have HG := Lib.hid hG
  have HB := Lib.hid (Below.refl w.heap.size w)
  have HP := Lib.hid h0
  have H2 := Lib.hid h1
  have HS := Lib.hid (show csT p m = [] by unfold csT; rw [h1, Bool.and_false]; rfl)
  clear h0 h1 hp hm hs hG
  go_enter Tryd.func27, Tryd.ntmps27
  go_wp2_with (first
      | (refine step_box rfl _ rfl p rfl ?_; intro b0 w1 N R; have HB := Lib.hid (HB.out.trans (N.below.mono HB.out.size)); have HR := Lib.hid R; clear N R)
      | (refine blk_box rfl 33 _ rfl (mvA m) rfl ?_; intro b1 w2 N R; have HR := Lib.hid (HR.out.later N.below); have HB := Lib.hid (HB.out.trans (N.below.mono HB.out.size)); have HM := Lib.hid R; clear N R)
      | (refine step_get rfl 5 _ rfl b1 2 rfl Tryd.underlying5 rfl (.int .u8 0) ?_ ?_; exact (HM.out.cell 2).trans (by show some (Value.int IntKind.u8 m.pr) = _; rw [HP.out]))
      | (refine step_load rfl _ rfl b0 rfl p HR.out ?_)
      | (refine blk_load rfl 33 _ rfl b1 rfl (mvA m) HM.out _ Tryd.underlying33 rfl sizeMv ?_)
      | (go_at_call 40; refine (castles_any p m _ HFp.out HFm.out HSm.out).mono ?_; rintro e w3 ⟨rfl, hb⟩; rw [H2.out]; have HR := Lib.hid (HR.out.later hb); have HM := Lib.hid (HM.out.later hb); have HB := Lib.hid (below_on HB.out hb); clear hb))
  go_ret
  exact ⟨by rw [HS.out]; rfl, HB.out⟩
set_option maxRecDepth 100000 in
set_option maxHeartbeats 1000000 in
theorem csT_w2 (p : Nat → Int) (m : Mv) (w : World) (hp : FitM p) (hm : FitV m) (hs : smB p = true) (hG : TabGo w) (h0 : m.pr = 0) (h1 : csB p m.f m.t = true) (h2 : (p 0 == 1) = true) : Calls Tryd.prog 27 #[.agg (posA p), .agg (mvA m)] w (StL (bz (csT p m)) w) := by
  have HFp := Lib.hid hp
  have HFm := Lib.hid hm
  have HSm := Lib.hid hs
  have HTn := Lib.hid (smB_turn hs hp.turn.1)
  have HG := Lib.hid hG
  have HB := Lib.hid (Below.refl w.heap.size w)
  have HP := Lib.hid h0
  have H2 := Lib.hid h1
  have HS := Lib.hid (show csT p m = enL m.f m.t by unfold csT csG; rw [h1, h2, h0]; rfl)
  clear h0 h1 hp hm hs hG
  go_enter Tryd.func27, Tryd.ntmps27
  go_wp2_with (first
      | (refine step_box rfl _ rfl p rfl ?_; intro b0 w1 N R; have HB := Lib.hid (HB.out.trans (N.below.mono HB.out.size)); have HR := Lib.hid R; clear N R)
      | (refine blk_box rfl 33 _ rfl (mvA m) rfl ?_; intro b1 w2 N R; have HR := Lib.hid (HR.out.later N.below); have HB := Lib.hid (HB.out.trans (N.below.mono HB.out.size)); have HM := Lib.hid R; clear N R)
      | (refine step_get rfl 5 _ rfl b1 2 rfl Tryd.underlying5 rfl (.int .u8 0) ?_ ?_; exact (HM.out.cell 2).trans (by show some (Value.int IntKind.u8 m.pr) = _; rw [HP.out]))
      | (refine step_load rfl _ rfl b0 rfl p HR.out ?_)
      | (refine blk_load rfl 33 _ rfl b1 rfl (mvA m) HM.out _ Tryd.underlying33 rfl sizeMv ?_)
      | (go_at_call 40; refine (castles_any p m _ HFp.out HFm.out HSm.out).mono ?_; rintro e w3 ⟨rfl, hb⟩; rw [H2.out]; have HR := Lib.hid (HR.out.later hb); have HM := Lib.hid (HM.out.later hb); have HB := Lib.hid (below_on HB.out hb); clear hb)
      | (refine step_get rfl 5 _ rfl b0 0 rfl Tryd.underlying5 rfl (.int .u8 (p 0)) ?_ ?_; exact HR.out.cell 0 (by decide))
      | (refine step_get rfl 26 _ rfl b1 0 rfl Tryd.underlying26 rfl (.int .i8 m.f) ?_ ?_; exact HM.out.cell 0)
      | (refine step_get rfl 26 _ rfl b1 1 rfl Tryd.underlying26 rfl (.int .i8 m.t) ?_ ?_; exact HM.out.cell 1)
      | (go_at_call 41; refine (ends_any m.f m.t _ HFm.out.f HFm.out.t).mono ?_; rintro e w4 ⟨rfl, hb⟩; have HR := Lib.hid (HR.out.later hb); have HM := Lib.hid (HM.out.later hb); have HB := Lib.hid (below_on HB.out hb); clear hb))
  go_ret
  exact ⟨by rw [HS.out]; rfl, HB.out⟩
set_option maxRecDepth 100000 in
set_option maxHeartbeats 1000000 in
theorem csT_w3 (p : Nat → Int) (m : Mv) (w : World) (hp : FitM p) (hm : FitV m) (hs : smB p = true) (hG : TabGo w) (h0 : m.pr = 0) (h1 : csB p m.f m.t = true) (h2 : (p 0 == 1) = false) : Calls Tryd.prog 27 #[.agg (posA p), .agg (mvA m)] w (StL (bz (csT p m)) w) := by
  have HFp := Lib.hid hp
  have HFm := Lib.hid hm
  have HSm := Lib.hid hs
  have HTn := Lib.hid (smB_turn hs hp.turn.1)
  have HG := Lib.hid hG
  have HB := Lib.hid (Below.refl w.heap.size w)
  have HP := Lib.hid h0
  have H2 := Lib.hid h1
  obtain ⟨d, hd⟩ : ∃ d, sdN m.f m.t = d := ⟨_, rfl⟩
  have HSd := Lib.hid hd
  have hd2 : d < 2 := by rw [← hd]; unfold sdN; cases decide (m.f < m.t) <;> decide
  have hd3 : (d : Int) < 2 := by omega
  obtain ⟨y, hy⟩ : ∃ y, hmZ p (goZ d) = y := ⟨_, rfl⟩
  have H5 := Lib.hid hy
  have HY := Lib.hid (show -128 ≤ y ∧ y ≤ 127 by
    rw [← hy]
    have ht := smB_turn hs hp.turn.1
    unfold hmZ
    cases e : lnB (goZ d)
    · show -128 ≤ (-1 : Int) ∧ (-1 : Int) ≤ 127; decide
    · rw [lnB_true] at e; show -128 ≤ 56 * p 78 + goZ d ∧ 56 * p 78 + goZ d ≤ 127; omega)
  have HS := Lib.hid (show csT p m = enL m.f y by unfold csT csG; rw [h1, h2, h0, hd, hy]; rfl)
  clear h0 h1 hp hm hs hG hd hy
  go_enter Tryd.func27, Tryd.ntmps27
  go_wp2_with (first
      | (refine step_box rfl _ rfl p rfl ?_; intro b0 w1 N R; have HB := Lib.hid (HB.out.trans (N.below.mono HB.out.size)); have HR := Lib.hid R; clear N R)
      | (refine blk_box rfl 33 _ rfl (mvA m) rfl ?_; intro b1 w2 N R; have HR := Lib.hid (HR.out.later N.below); have HB := Lib.hid (HB.out.trans (N.below.mono HB.out.size)); have HM := Lib.hid R; clear N R)
      | (refine step_get rfl 5 _ rfl b1 2 rfl Tryd.underlying5 rfl (.int .u8 0) ?_ ?_; exact (HM.out.cell 2).trans (by show some (Value.int IntKind.u8 m.pr) = _; rw [HP.out]))
      | (refine step_load rfl _ rfl b0 rfl p HR.out ?_)
      | (refine blk_load rfl 33 _ rfl b1 rfl (mvA m) HM.out _ Tryd.underlying33 rfl sizeMv ?_)
      | (go_at_call 40; refine (castles_any p m _ HFp.out HFm.out HSm.out).mono ?_; rintro e w3 ⟨rfl, hb⟩; rw [H2.out]; have HR := Lib.hid (HR.out.later hb); have HM := Lib.hid (HM.out.later hb); have HB := Lib.hid (below_on HB.out hb); clear hb)
      | (refine step_get rfl 5 _ rfl b0 0 rfl Tryd.underlying5 rfl (.int .u8 (p 0)) ?_ ?_; exact HR.out.cell 0 (by decide)))
  refine late_begin 10 (by kernel_rfl) ?_
  refine late_take 0 (by kernel_rfl) (by kernel_rfl) (by kernel_rfl) (by kernel_rfl) (by kernel_rfl) (fun _ _ d _ _ h => by cases d <;> exact h) (fun o ho => ?_)
  simp only [List.getElem?_toArray, List.getElem?_cons_zero, List.getElem?_cons_succ, Option.some.injEq] at ho; subst ho
  apply Exists.intro
  refine ⟨Or.inl ⟨by kernel_rfl, fun w' hl => Or.inl ?_⟩, ?_⟩
  · (go_simp; try with_reducible rfl)
  simp only [Act.put, List.setIfInBounds_toArray, List.set_cons_zero, List.set_cons_succ]
  refine late_take 1 (by kernel_rfl) (by kernel_rfl) (by kernel_rfl) (by kernel_rfl) (by kernel_rfl) (fun _ _ d _ _ h => by cases d <;> exact h) (fun o ho => ?_)
  simp only [List.getElem?_toArray, List.getElem?_cons_zero, List.getElem?_cons_succ, Option.some.injEq] at ho; subst ho
  refine ⟨_, Or.inl ⟨by kernel_rfl, fun w' hl => Or.inl (run_get 26 _ rfl b1 (0) rfl Tryd.underlying26 rfl (.int .i8 m.f) ((HM.out.later hl).cell 0))⟩, ?_⟩
  simp only [Act.put, List.setIfInBounds_toArray, List.set_cons_zero, List.set_cons_succ]
  refine late_take 2 (by kernel_rfl) (by kernel_rfl) (by kernel_rfl) (by kernel_rfl) (by kernel_rfl) (fun _ _ d _ _ h => by cases d <;> exact h) (fun o ho => ?_)
  simp only [List.getElem?_toArray, List.getElem?_cons_zero, List.getElem?_cons_succ, Option.some.injEq] at ho; subst ho
  refine ⟨_, Or.inl ⟨by kernel_rfl, fun w' hl => Or.inl (run_load _ rfl _ rfl (p) (HR.out.later hl))⟩, ?_⟩
  simp only [Act.put, List.setIfInBounds_toArray, List.set_cons_zero, List.set_cons_succ]
  refine late_take 3 (by kernel_rfl) (by kernel_rfl) (by kernel_rfl) (by kernel_rfl) (by kernel_rfl) (fun _ _ d _ _ h => by cases d <;> exact h) (fun o ho => ?_)
  simp only [List.getElem?_toArray, List.getElem?_cons_zero, List.getElem?_cons_succ, Option.some.injEq] at ho; subst ho
  refine ⟨_, Or.inl ⟨by kernel_rfl, fun w' hl => Or.inl (run_blk 33 _ rfl b1 rfl (mvA m) (HM.out.later hl) _ Tryd.underlying33 rfl sizeMv)⟩, ?_⟩
  simp only [Act.put, List.setIfInBounds_toArray, List.set_cons_zero, List.set_cons_succ]
  refine late_one 4 (by kernel_rfl) (by kernel_rfl) (fun o ho => ?_)
  simp only [List.getElem?_toArray, List.getElem?_cons_zero, List.getElem?_cons_succ, Option.some.injEq] at ho; subst ho
  refine ⟨by kernel_rfl, fun wn hl K hK => ?_⟩
  have HR := Lib.hid (HR.out.later hl); have HM := Lib.hid (HM.out.later hl); have HB := Lib.hid (below_on HB.out hl); clear hl
  refine wp_enter _ _ (by go_simp; exact ⟨rfl, rfl⟩) ?_
  refine (side_any m _).mono ?_; rintro e wm ⟨rfl, hb⟩; refine ⟨_, rfl, ?_⟩
  rw [HSd.out]
  refine hK.out _ _ hb ?_
  have HR := Lib.hid (HR.out.later hb); have HM := Lib.hid (HM.out.later hb); have HB := Lib.hid (below_on HB.out hb); clear hb
  clear hK K
  simp only [Act.put, List.setIfInBounds_toArray, List.set_cons_zero, List.set_cons_succ]
  refine late_take 5 (by kernel_rfl) (by kernel_rfl) (by kernel_rfl) (by kernel_rfl) (by kernel_rfl) (fun _ _ d _ _ h => by cases d <;> exact h) (fun o ho => ?_)
  simp only [List.getElem?_toArray, List.getElem?_cons_zero, List.getElem?_cons_succ, Option.some.injEq] at ho; subst ho
  apply Exists.intro
  refine ⟨Or.inl ⟨by kernel_rfl, fun w' hl => Or.inl ?_⟩, ?_⟩
  · (go_simp; try with_reducible rfl)
  simp only [Act.put, List.setIfInBounds_toArray, List.set_cons_zero, List.set_cons_succ]
  refine late_take 6 (by kernel_rfl) (by kernel_rfl) (by kernel_rfl) (by kernel_rfl) (by kernel_rfl) (fun _ _ d _ _ h => by cases d <;> exact h) (fun o ho => ?_)
  simp only [List.getElem?_toArray, List.getElem?_cons_zero, List.getElem?_cons_succ, Option.some.injEq] at ho; subst ho
  refine ⟨.int .i64 (goZ d), Or.inl ⟨by kernel_rfl, fun w' hl => Or.inl (run_get 3 _ rfl 0 d rfl Tryd.underlying3 rfl (.int .i64 (goZ d)) ((HG.out.on (below_on HB.out hl)).cell hd2))⟩, ?_⟩
  simp only [Act.put, List.setIfInBounds_toArray, List.set_cons_zero, List.set_cons_succ]
  refine late_one 7 (by kernel_rfl) (by kernel_rfl) (fun o ho => ?_)
  simp only [List.getElem?_toArray, List.getElem?_cons_zero, List.getElem?_cons_succ, Option.some.injEq] at ho; subst ho
  refine ⟨by kernel_rfl, fun wn hl K hK => ?_⟩
  have HR := Lib.hid (HR.out.later hl); have HM := Lib.hid (HM.out.later hl); have HB := Lib.hid (below_on HB.out hl); clear hl
  refine wp_enter _ _ (by go_simp; exact ⟨rfl, rfl⟩) ?_
  refine (home_any p (goZ d) _ HTn.out).mono ?_; rintro e wm ⟨rfl, hb⟩; refine ⟨_, rfl, ?_⟩
  rw [H5.out]
  refine hK.out _ _ hb ?_
  have HR := Lib.hid (HR.out.later hb); have HM := Lib.hid (HM.out.later hb); have HB := Lib.hid (below_on HB.out hb); clear hb
  clear hK K
  simp only [Act.put, List.setIfInBounds_toArray, List.set_cons_zero, List.set_cons_succ]
  refine late_one 8 (by kernel_rfl) (by kernel_rfl) (fun o ho => ?_)
  simp only [List.getElem?_toArray, List.getElem?_cons_zero, List.getElem?_cons_succ, Option.some.injEq] at ho; subst ho
  refine ⟨by kernel_rfl, fun wn hl K hK => ?_⟩
  have HR := Lib.hid (HR.out.later hl); have HM := Lib.hid (HM.out.later hl); have HB := Lib.hid (below_on HB.out hl); clear hl
  refine wp_enter _ _ (by go_simp; exact ⟨rfl, rfl⟩) ?_
  refine (ends_any m.f y _ HFm.out.f HY.out).mono ?_; rintro e wm ⟨rfl, hb⟩; refine ⟨_, rfl, ?_⟩
  refine hK.out _ _ hb ?_
  have HR := Lib.hid (HR.out.later hb); have HM := Lib.hid (HM.out.later hb); have HB := Lib.hid (below_on HB.out hb); clear hb
  clear hK K
  simp only [Act.put, List.setIfInBounds_toArray, List.set_cons_zero, List.set_cons_succ]
  refine late_take 9 (by kernel_rfl) (by kernel_rfl) (by kernel_rfl) (by kernel_rfl) (by kernel_rfl) (fun _ _ d _ _ h => by cases d <;> exact h) (fun o ho => ?_)
  simp only [List.getElem?_toArray, List.getElem?_cons_zero, List.getElem?_cons_succ, Option.some.injEq] at ho; subst ho
  apply Exists.intro
  refine ⟨Or.inl ⟨by kernel_rfl, fun w' hl => Or.inl ?_⟩, ?_⟩
  · (go_simp; try with_reducible rfl)
  simp only [Act.put, List.setIfInBounds_toArray, List.set_cons_zero, List.set_cons_succ]
  refine late_end (by kernel_rfl) (fun wn hl => ?_)
  have HR := Lib.hid (HR.out.later hl); have HM := Lib.hid (HM.out.later hl); have HB := Lib.hid (below_on HB.out hl); clear hl
  go_wp2_with fail
  go_ret
  exact ⟨by rw [HS.out]; rfl, HB.out⟩
theorem csT_any (p : Nat → Int) (m : Mv) (w : World) (hp : FitM p) (hm : FitV m) (hs : smB p = true) (hG : TabGo w) : Calls Tryd.prog 27 #[.agg (posA p), .agg (mvA m)] w (StL (bz (csT p m)) w) := by
  cases h0 : (m.pr == 0)
  · exact csT_w0 p m w hp hm hs hG h0
  · have h0 : m.pr = 0 := by simpa using h0
    cases h1 : csB p m.f m.t
    · exact csT_w1 p m w hp hm hs hG h0 h1
    · cases h2 : (p 0 == 1)
      · exact csT_w3 p m w hp hm hs hG h0 h1 h2
      · exact csT_w2 p m w hp hm hs hG h0 h1 h2
theorem leF_empty (x : Int) : (letZ x).toList.isEmpty = !pcB x := by
  rw [Lib.toList_data]
  show (leF x).isEmpty = _
  cases h : pcB x
  · unfold leF; rw [letZ_no h]; rfl
  · have : x = 1 ∨ x = 2 ∨ x = 3 ∨ x = 4 ∨ x = 5 ∨ x = 6 ∨ x = 9 ∨ x = 10 ∨ x = 11 ∨ x = 12 ∨ x = 13 ∨ x = 14 := by rw [pcB_true] at h; omega
    rcases this with rfl | rfl | rfl | rfl | rfl | rfl | rfl | rfl | rfl | rfl | rfl | rfl <;> decide +kernel
theorem mk_pcB {c k : Int} (hc : c = 0 ∨ c = 1) (h0 : 0 ≤ k) : pcB (mkZ c k) = mkB c k := by
  cases h : mkB c k
  · unfold mkZ; rw [h]; rfl
  · have h' := h
    rw [mkB_true] at h'
    obtain ⟨_, h1, h2⟩ := h'
    have : k = 1 ∨ k = 2 ∨ k = 3 ∨ k = 4 ∨ k = 5 ∨ k = 6 := by omega
    rcases hc with rfl | rfl <;> rcases this with rfl | rfl | rfl | rfl | rfl | rfl <;> decide +kernel
set_option maxRecDepth 100000 in
set_option maxHeartbeats 1000000 in
theorem drop_w0 (m : Mv) (w : World) (hm : FitV m) (hd : drB m = false) (h0 : mvE m ⟨m.f, m.f, 0, m.dr, false⟩ = false) : Calls Tryd.prog 26 #[.agg (mvA m)] w (StL (bz (drT m)) w) := by
  have HFm := Lib.hid hm
  have HB := Lib.hid (Below.refl w.heap.size w)
  obtain ⟨k, hk⟩ : ∃ k, mkZ 0 m.dr = k := ⟨_, rfl⟩
  have HK := Lib.hid hk
  have HKr := Lib.hid (show 0 ≤ k ∧ k ≤ 255 by have := mk_rng 0 m.dr (by decide); omega)
  obtain ⟨l, hl⟩ : ∃ l, letZ k = l := ⟨_, rfl⟩
  have HL := Lib.hid hl
  obtain ⟨q, hq⟩ : ∃ q, textZ m.f = q := ⟨_, rfl⟩
  have HQ := Lib.hid hq
  have wf : IntKind.i64.wrap m.f = m.f := IntWalk.i64_in m.f (by have := hm.f; omega)
  have HFn := Lib.hid (show FitV ⟨m.f, m.f, 0, m.dr, false⟩ from ⟨hm.f, hm.f, (by show (0 : Int) ≤ 0 ∧ (0 : Int) ≤ 255; decide), hm.dr⟩)
  have le : l.toList.isEmpty = !mkB 0 m.dr := by rw [← hl, ← hk, leF_empty, mk_pcB (.inl rfl) hm.dr.1]
  have qe : q.toList.isEmpty = !sqB m.f := by rw [← hq, sqM_empty]
  have HE := Lib.hid h0
  have HS := Lib.hid (show drT m = [] by unfold drT; rw [hd]; rfl)
  clear hd h0 le qe
  clear hm hk hl hq
  go_enter Tryd.func26, Tryd.ntmps26
  go_wp2_with (first
      | (refine blk_box rfl 33 _ rfl (mvA m) rfl ?_; intro b1 w2 N R; have HB := Lib.hid (HB.out.trans (N.below.mono HB.out.size)); have HM := Lib.hid R; clear N R))
  refine late_begin 10 (by kernel_rfl) ?_
  refine late_take 0 (by kernel_rfl) (by kernel_rfl) (by kernel_rfl) (by kernel_rfl) (by kernel_rfl) (fun _ _ d _ _ h => by cases d <;> exact h) (fun o ho => ?_)
  simp only [List.getElem?_toArray, List.getElem?_cons_zero, List.getElem?_cons_succ, Option.some.injEq] at ho; subst ho
  apply Exists.intro
  refine ⟨Or.inl ⟨by kernel_rfl, fun w' hl => Or.inl ?_⟩, ?_⟩
  · (go_simp; try with_reducible rfl)
  simp only [Act.put, List.setIfInBounds_toArray, List.set_cons_zero, List.set_cons_succ]
  refine late_take 1 (by kernel_rfl) (by kernel_rfl) (by kernel_rfl) (by kernel_rfl) (by kernel_rfl) (fun _ _ d _ _ h => by cases d <;> exact h) (fun o ho => ?_)
  simp only [List.getElem?_toArray, List.getElem?_cons_zero, List.getElem?_cons_succ, Option.some.injEq] at ho; subst ho
  refine ⟨_, Or.inl ⟨by kernel_rfl, fun w' hl => Or.inl (run_get 5 _ rfl b1 (3) rfl Tryd.underlying5 rfl (.int .u8 m.dr) ((HM.out.later hl).cell 3))⟩, ?_⟩
  simp only [Act.put, List.setIfInBounds_toArray, List.set_cons_zero, List.set_cons_succ]
  refine late_take 4 (by kernel_rfl) (by kernel_rfl) (by kernel_rfl) (by kernel_rfl) (by kernel_rfl) (fun _ _ d _ _ h => by cases d <;> exact h) (fun o ho => ?_)
  simp only [List.getElem?_toArray, List.getElem?_cons_zero, List.getElem?_cons_succ, Option.some.injEq] at ho; subst ho
  apply Exists.intro
  refine ⟨Or.inl ⟨by kernel_rfl, fun w' hl => Or.inl ?_⟩, ?_⟩
  · (go_simp; try with_reducible rfl)
  simp only [Act.put, List.setIfInBounds_toArray, List.set_cons_zero, List.set_cons_succ]
  refine late_take 5 (by kernel_rfl) (by kernel_rfl) (by kernel_rfl) (by kernel_rfl) (by kernel_rfl) (fun _ _ d _ _ h => by cases d <;> exact h) (fun o ho => ?_)
  simp only [List.getElem?_toArray, List.getElem?_cons_zero, List.getElem?_cons_succ, Option.some.injEq] at ho; subst ho
  refine ⟨_, Or.inl ⟨by kernel_rfl, fun w' hl => Or.inl (run_get 26 _ rfl b1 (0) rfl Tryd.underlying26 rfl (.int .i8 m.f) ((HM.out.later hl).cell 0))⟩, ?_⟩
  simp only [Act.put, List.setIfInBounds_toArray, List.set_cons_zero, List.set_cons_succ]
  refine late_take 6 (by kernel_rfl) (by kernel_rfl) (by kernel_rfl) (by kernel_rfl) (by kernel_rfl) (fun _ _ d _ _ h => by cases d <;> exact h) (fun o ho => ?_)
  simp only [List.getElem?_toArray, List.getElem?_cons_zero, List.getElem?_cons_succ, Option.some.injEq] at ho; subst ho
  refine ⟨.int .i64 m.f, Or.inl ⟨by kernel_rfl, fun w' hl => Or.inl ?_⟩, ?_⟩
  · (go_simp; try simp [wf])
  simp only [Act.put, List.setIfInBounds_toArray, List.set_cons_zero, List.set_cons_succ]
  refine late_one 2 (by kernel_rfl) (by kernel_rfl) (fun o ho => ?_)
  simp only [List.getElem?_toArray, List.getElem?_cons_zero, List.getElem?_cons_succ, Option.some.injEq] at ho; subst ho
  refine ⟨by kernel_rfl, fun wn hl K hK => ?_⟩
  have HM := Lib.hid (HM.out.later hl); have HB := Lib.hid (below_on HB.out hl); clear hl
  refine wp_enter _ _ (by go_simp; exact ⟨rfl, rfl⟩) ?_
  refine (mk_any 0 m.dr _ (by decide) HFm.out.dr.1).mono ?_; rintro e wm ⟨rfl, rfl⟩; refine ⟨_, rfl, ?_⟩
  rw [HK.out]
  refine hK.out _ _ (Later.refl _) ?_
  clear hK K
  simp only [Act.put, List.setIfInBounds_toArray, List.set_cons_zero, List.set_cons_succ]
  refine late_one 3 (by kernel_rfl) (by kernel_rfl) (fun o ho => ?_)
  simp only [List.getElem?_toArray, List.getElem?_cons_zero, List.getElem?_cons_succ, Option.some.injEq] at ho; subst ho
  refine ⟨by kernel_rfl, fun wn hl K hK => ?_⟩
  have HM := Lib.hid (HM.out.later hl); have HB := Lib.hid (below_on HB.out hl); clear hl
  refine wp_enter _ _ (by go_simp; exact ⟨rfl, rfl⟩) ?_
  refine (let_any k _ HKr.out.1 HKr.out.2).mono ?_; rintro e wm ⟨rfl, rfl⟩; refine ⟨_, rfl, ?_⟩
  rw [HL.out]
  refine hK.out _ _ (Later.refl _) ?_
  clear hK K
  simp only [Act.put, List.setIfInBounds_toArray, List.set_cons_zero, List.set_cons_succ]
  refine late_one 7 (by kernel_rfl) (by kernel_rfl) (fun o ho => ?_)
  simp only [List.getElem?_toArray, List.getElem?_cons_zero, List.getElem?_cons_succ, Option.some.injEq] at ho; subst ho
  refine ⟨by kernel_rfl, fun wn hl K hK => ?_⟩
  have HM := Lib.hid (HM.out.later hl); have HB := Lib.hid (below_on HB.out hl); clear hl
  refine wp_enter _ _ (by go_simp; exact ⟨rfl, rfl⟩) ?_
  refine (text_any m.f _).mono ?_; rintro e wm ⟨rfl, hb⟩; refine ⟨_, rfl, ?_⟩
  rw [HQ.out]
  refine hK.out _ _ hb ?_
  have HM := Lib.hid (HM.out.later hb); have HB := Lib.hid (below_on HB.out hb); clear hb
  clear hK K
  simp only [Act.put, List.setIfInBounds_toArray, List.set_cons_zero, List.set_cons_succ]
  refine late_take 8 (by kernel_rfl) (by kernel_rfl) (by kernel_rfl) (by kernel_rfl) (by kernel_rfl) (fun _ _ d _ _ h => by cases d <;> exact h) (fun o ho => ?_)
  simp only [List.getElem?_toArray, List.getElem?_cons_zero, List.getElem?_cons_succ, Option.some.injEq] at ho; subst ho
  apply Exists.intro
  refine ⟨Or.inl ⟨by kernel_rfl, fun w' hl => Or.inl ?_⟩, ?_⟩
  · (go_simp; try with_reducible rfl)
  simp only [Act.put, List.setIfInBounds_toArray, List.set_cons_zero, List.set_cons_succ]
  refine late_take 9 (by kernel_rfl) (by kernel_rfl) (by kernel_rfl) (by kernel_rfl) (by kernel_rfl) (fun _ _ d _ _ h => by cases d <;> exact h) (fun o ho => ?_)
  simp only [List.getElem?_toArray, List.getElem?_cons_zero, List.getElem?_cons_succ, Option.some.injEq] at ho; subst ho
  apply Exists.intro
  refine ⟨Or.inl ⟨by kernel_rfl, fun w' hl => Or.inl ?_⟩, ?_⟩
  · (go_simp; try with_reducible rfl)
  simp only [Act.put, List.setIfInBounds_toArray, List.set_cons_zero, List.set_cons_succ]
  refine late_end (by kernel_rfl) (fun wn hl => ?_)
  have HM := Lib.hid (HM.out.later hl); have HB := Lib.hid (below_on HB.out hl); clear hl
  go_wp2_with (first
      | (refine blk_load rfl 33 _ rfl b1 rfl (mvA m) HM.out _ Tryd.underlying33 rfl sizeMv ?_)
      | (refine step_get rfl 26 _ rfl b1 0 rfl Tryd.underlying26 rfl (.int .i8 m.f) ?_ ?_; exact HM.out.cell 0)
      | (refine step_get rfl 5 _ rfl b1 3 rfl Tryd.underlying5 rfl (.int .u8 m.dr) ?_ ?_; exact HM.out.cell 3)
      | (refine step_mv rfl _ _ rfl m ⟨m.f, m.f, 0, m.dr, false⟩ rfl rfl HFm.out HFn.out _ HE.out ?_))
  go_ret
  exact ⟨by rw [HS.out]; rfl, HB.out⟩
set_option maxRecDepth 100000 in
set_option maxHeartbeats 1000000 in
theorem drop_w1 (m : Mv) (w : World) (hm : FitV m) (hd : drB m = false) (h0 : mvE m ⟨m.f, m.f, 0, m.dr, false⟩ = true) (h1 : (m.dr == 6) = true) : Calls Tryd.prog 26 #[.agg (mvA m)] w (StL (bz (drT m)) w) := by
  have HFm := Lib.hid hm
  have HB := Lib.hid (Below.refl w.heap.size w)
  obtain ⟨k, hk⟩ : ∃ k, mkZ 0 m.dr = k := ⟨_, rfl⟩
  have HK := Lib.hid hk
  have HKr := Lib.hid (show 0 ≤ k ∧ k ≤ 255 by have := mk_rng 0 m.dr (by decide); omega)
  obtain ⟨l, hl⟩ : ∃ l, letZ k = l := ⟨_, rfl⟩
  have HL := Lib.hid hl
  obtain ⟨q, hq⟩ : ∃ q, textZ m.f = q := ⟨_, rfl⟩
  have HQ := Lib.hid hq
  have wf : IntKind.i64.wrap m.f = m.f := IntWalk.i64_in m.f (by have := hm.f; omega)
  have HFn := Lib.hid (show FitV ⟨m.f, m.f, 0, m.dr, false⟩ from ⟨hm.f, hm.f, (by show (0 : Int) ≤ 0 ∧ (0 : Int) ≤ 255; decide), hm.dr⟩)
  have le : l.toList.isEmpty = !mkB 0 m.dr := by rw [← hl, ← hk, leF_empty, mk_pcB (.inl rfl) hm.dr.1]
  have qe : q.toList.isEmpty = !sqB m.f := by rw [← hq, sqM_empty]
  have HE := Lib.hid h0
  have HS := Lib.hid (show drT m = [] by unfold drT; rw [hd]; rfl)
  clear hd h0 le qe
  clear hm hk hl hq
  go_enter Tryd.func26, Tryd.ntmps26
  go_wp2_with (first
      | (refine blk_box rfl 33 _ rfl (mvA m) rfl ?_; intro b1 w2 N R; have HB := Lib.hid (HB.out.trans (N.below.mono HB.out.size)); have HM := Lib.hid R; clear N R))
  refine late_begin 10 (by kernel_rfl) ?_
  refine late_take 0 (by kernel_rfl) (by kernel_rfl) (by kernel_rfl) (by kernel_rfl) (by kernel_rfl) (fun _ _ d _ _ h => by cases d <;> exact h) (fun o ho => ?_)
  simp only [List.getElem?_toArray, List.getElem?_cons_zero, List.getElem?_cons_succ, Option.some.injEq] at ho; subst ho
  apply Exists.intro
  refine ⟨Or.inl ⟨by kernel_rfl, fun w' hl => Or.inl ?_⟩, ?_⟩
  · (go_simp; try with_reducible rfl)
  simp only [Act.put, List.setIfInBounds_toArray, List.set_cons_zero, List.set_cons_succ]
  refine late_take 1 (by kernel_rfl) (by kernel_rfl) (by kernel_rfl) (by kernel_rfl) (by kernel_rfl) (fun _ _ d _ _ h => by cases d <;> exact h) (fun o ho => ?_)
  simp only [List.getElem?_toArray, List.getElem?_cons_zero, List.getElem?_cons_succ, Option.some.injEq] at ho; subst ho
  refine ⟨_, Or.inl ⟨by kernel_rfl, fun w' hl => Or.inl (run_get 5 _ rfl b1 (3) rfl Tryd.underlying5 rfl (.int .u8 m.dr) ((HM.out.later hl).cell 3))⟩, ?_⟩
  simp only [Act.put, List.setIfInBounds_toArray, List.set_cons_zero, List.set_cons_succ]
  refine late_take 4 (by kernel_rfl) (by kernel_rfl) (by kernel_rfl) (by kernel_rfl) (by kernel_rfl) (fun _ _ d _ _ h => by cases d <;> exact h) (fun o ho => ?_)
  simp only [List.getElem?_toArray, List.getElem?_cons_zero, List.getElem?_cons_succ, Option.some.injEq] at ho; subst ho
  apply Exists.intro
  refine ⟨Or.inl ⟨by kernel_rfl, fun w' hl => Or.inl ?_⟩, ?_⟩
  · (go_simp; try with_reducible rfl)
  simp only [Act.put, List.setIfInBounds_toArray, List.set_cons_zero, List.set_cons_succ]
  refine late_take 5 (by kernel_rfl) (by kernel_rfl) (by kernel_rfl) (by kernel_rfl) (by kernel_rfl) (fun _ _ d _ _ h => by cases d <;> exact h) (fun o ho => ?_)
  simp only [List.getElem?_toArray, List.getElem?_cons_zero, List.getElem?_cons_succ, Option.some.injEq] at ho; subst ho
  refine ⟨_, Or.inl ⟨by kernel_rfl, fun w' hl => Or.inl (run_get 26 _ rfl b1 (0) rfl Tryd.underlying26 rfl (.int .i8 m.f) ((HM.out.later hl).cell 0))⟩, ?_⟩
  simp only [Act.put, List.setIfInBounds_toArray, List.set_cons_zero, List.set_cons_succ]
  refine late_take 6 (by kernel_rfl) (by kernel_rfl) (by kernel_rfl) (by kernel_rfl) (by kernel_rfl) (fun _ _ d _ _ h => by cases d <;> exact h) (fun o ho => ?_)
  simp only [List.getElem?_toArray, List.getElem?_cons_zero, List.getElem?_cons_succ, Option.some.injEq] at ho; subst ho
  refine ⟨.int .i64 m.f, Or.inl ⟨by kernel_rfl, fun w' hl => Or.inl ?_⟩, ?_⟩
  · (go_simp; try simp [wf])
  simp only [Act.put, List.setIfInBounds_toArray, List.set_cons_zero, List.set_cons_succ]
  refine late_one 2 (by kernel_rfl) (by kernel_rfl) (fun o ho => ?_)
  simp only [List.getElem?_toArray, List.getElem?_cons_zero, List.getElem?_cons_succ, Option.some.injEq] at ho; subst ho
  refine ⟨by kernel_rfl, fun wn hl K hK => ?_⟩
  have HM := Lib.hid (HM.out.later hl); have HB := Lib.hid (below_on HB.out hl); clear hl
  refine wp_enter _ _ (by go_simp; exact ⟨rfl, rfl⟩) ?_
  refine (mk_any 0 m.dr _ (by decide) HFm.out.dr.1).mono ?_; rintro e wm ⟨rfl, rfl⟩; refine ⟨_, rfl, ?_⟩
  rw [HK.out]
  refine hK.out _ _ (Later.refl _) ?_
  clear hK K
  simp only [Act.put, List.setIfInBounds_toArray, List.set_cons_zero, List.set_cons_succ]
  refine late_one 3 (by kernel_rfl) (by kernel_rfl) (fun o ho => ?_)
  simp only [List.getElem?_toArray, List.getElem?_cons_zero, List.getElem?_cons_succ, Option.some.injEq] at ho; subst ho
  refine ⟨by kernel_rfl, fun wn hl K hK => ?_⟩
  have HM := Lib.hid (HM.out.later hl); have HB := Lib.hid (below_on HB.out hl); clear hl
  refine wp_enter _ _ (by go_simp; exact ⟨rfl, rfl⟩) ?_
  refine (let_any k _ HKr.out.1 HKr.out.2).mono ?_; rintro e wm ⟨rfl, rfl⟩; refine ⟨_, rfl, ?_⟩
  rw [HL.out]
  refine hK.out _ _ (Later.refl _) ?_
  clear hK K
  simp only [Act.put, List.setIfInBounds_toArray, List.set_cons_zero, List.set_cons_succ]
  refine late_one 7 (by kernel_rfl) (by kernel_rfl) (fun o ho => ?_)
  simp only [List.getElem?_toArray, List.getElem?_cons_zero, List.getElem?_cons_succ, Option.some.injEq] at ho; subst ho
  refine ⟨by kernel_rfl, fun wn hl K hK => ?_⟩
  have HM := Lib.hid (HM.out.later hl); have HB := Lib.hid (below_on HB.out hl); clear hl
  refine wp_enter _ _ (by go_simp; exact ⟨rfl, rfl⟩) ?_
  refine (text_any m.f _).mono ?_; rintro e wm ⟨rfl, hb⟩; refine ⟨_, rfl, ?_⟩
  rw [HQ.out]
  refine hK.out _ _ hb ?_
  have HM := Lib.hid (HM.out.later hb); have HB := Lib.hid (below_on HB.out hb); clear hb
  clear hK K
  simp only [Act.put, List.setIfInBounds_toArray, List.set_cons_zero, List.set_cons_succ]
  refine late_take 8 (by kernel_rfl) (by kernel_rfl) (by kernel_rfl) (by kernel_rfl) (by kernel_rfl) (fun _ _ d _ _ h => by cases d <;> exact h) (fun o ho => ?_)
  simp only [List.getElem?_toArray, List.getElem?_cons_zero, List.getElem?_cons_succ, Option.some.injEq] at ho; subst ho
  apply Exists.intro
  refine ⟨Or.inl ⟨by kernel_rfl, fun w' hl => Or.inl ?_⟩, ?_⟩
  · (go_simp; try with_reducible rfl)
  simp only [Act.put, List.setIfInBounds_toArray, List.set_cons_zero, List.set_cons_succ]
  refine late_take 9 (by kernel_rfl) (by kernel_rfl) (by kernel_rfl) (by kernel_rfl) (by kernel_rfl) (fun _ _ d _ _ h => by cases d <;> exact h) (fun o ho => ?_)
  simp only [List.getElem?_toArray, List.getElem?_cons_zero, List.getElem?_cons_succ, Option.some.injEq] at ho; subst ho
  apply Exists.intro
  refine ⟨Or.inl ⟨by kernel_rfl, fun w' hl => Or.inl ?_⟩, ?_⟩
  · (go_simp; try with_reducible rfl)
  simp only [Act.put, List.setIfInBounds_toArray, List.set_cons_zero, List.set_cons_succ]
  refine late_end (by kernel_rfl) (fun wn hl => ?_)
  have HM := Lib.hid (HM.out.later hl); have HB := Lib.hid (below_on HB.out hl); clear hl
  go_wp2_with (first
      | (refine blk_load rfl 33 _ rfl b1 rfl (mvA m) HM.out _ Tryd.underlying33 rfl sizeMv ?_)
      | (refine step_get rfl 26 _ rfl b1 0 rfl Tryd.underlying26 rfl (.int .i8 m.f) ?_ ?_; exact HM.out.cell 0)
      | (refine step_get rfl 5 _ rfl b1 3 rfl Tryd.underlying5 rfl (.int .u8 m.dr) ?_ ?_; exact HM.out.cell 3)
      | (refine step_mv rfl _ _ rfl m ⟨m.f, m.f, 0, m.dr, false⟩ rfl rfl HFm.out HFn.out _ HE.out ?_))
  go_ret
  exact ⟨by rw [HS.out]; rfl, HB.out⟩
set_option maxRecDepth 100000 in
set_option maxHeartbeats 1000000 in
theorem drop_w2 (m : Mv) (w : World) (hm : FitV m) (hd : drB m = false) (h0 : mvE m ⟨m.f, m.f, 0, m.dr, false⟩ = true) (h1 : (m.dr == 6) = false) (h2 : mkB 0 m.dr = false) : Calls Tryd.prog 26 #[.agg (mvA m)] w (StL (bz (drT m)) w) := by
  have HFm := Lib.hid hm
  have HB := Lib.hid (Below.refl w.heap.size w)
  obtain ⟨k, hk⟩ : ∃ k, mkZ 0 m.dr = k := ⟨_, rfl⟩
  have HK := Lib.hid hk
  have HKr := Lib.hid (show 0 ≤ k ∧ k ≤ 255 by have := mk_rng 0 m.dr (by decide); omega)
  obtain ⟨l, hl⟩ : ∃ l, letZ k = l := ⟨_, rfl⟩
  have HL := Lib.hid hl
  obtain ⟨q, hq⟩ : ∃ q, textZ m.f = q := ⟨_, rfl⟩
  have HQ := Lib.hid hq
  have wf : IntKind.i64.wrap m.f = m.f := IntWalk.i64_in m.f (by have := hm.f; omega)
  have HFn := Lib.hid (show FitV ⟨m.f, m.f, 0, m.dr, false⟩ from ⟨hm.f, hm.f, (by show (0 : Int) ≤ 0 ∧ (0 : Int) ≤ 255; decide), hm.dr⟩)
  have le : l.toList.isEmpty = !mkB 0 m.dr := by rw [← hl, ← hk, leF_empty, mk_pcB (.inl rfl) hm.dr.1]
  have qe : q.toList.isEmpty = !sqB m.f := by rw [← hq, sqM_empty]
  have HE := Lib.hid h0
  rw [h2] at le
  replace le : l.toList.isEmpty = true := le
  have HS := Lib.hid (show drT m = [] by unfold drT; rw [hd]; rfl)
  clear hd h0 h2 qe
  clear hm hk hl hq
  go_enter Tryd.func26, Tryd.ntmps26
  go_wp2_with (first
      | (refine blk_box rfl 33 _ rfl (mvA m) rfl ?_; intro b1 w2 N R; have HB := Lib.hid (HB.out.trans (N.below.mono HB.out.size)); have HM := Lib.hid R; clear N R))
  refine late_begin 10 (by kernel_rfl) ?_
  refine late_take 0 (by kernel_rfl) (by kernel_rfl) (by kernel_rfl) (by kernel_rfl) (by kernel_rfl) (fun _ _ d _ _ h => by cases d <;> exact h) (fun o ho => ?_)
  simp only [List.getElem?_toArray, List.getElem?_cons_zero, List.getElem?_cons_succ, Option.some.injEq] at ho; subst ho
  apply Exists.intro
  refine ⟨Or.inl ⟨by kernel_rfl, fun w' hl => Or.inl ?_⟩, ?_⟩
  · (go_simp; try with_reducible rfl)
  simp only [Act.put, List.setIfInBounds_toArray, List.set_cons_zero, List.set_cons_succ]
  refine late_take 1 (by kernel_rfl) (by kernel_rfl) (by kernel_rfl) (by kernel_rfl) (by kernel_rfl) (fun _ _ d _ _ h => by cases d <;> exact h) (fun o ho => ?_)
  simp only [List.getElem?_toArray, List.getElem?_cons_zero, List.getElem?_cons_succ, Option.some.injEq] at ho; subst ho
  refine ⟨_, Or.inl ⟨by kernel_rfl, fun w' hl => Or.inl (run_get 5 _ rfl b1 (3) rfl Tryd.underlying5 rfl (.int .u8 m.dr) ((HM.out.later hl).cell 3))⟩, ?_⟩
  simp only [Act.put, List.setIfInBounds_toArray, List.set_cons_zero, List.set_cons_succ]
  refine late_take 4 (by kernel_rfl) (by kernel_rfl) (by kernel_rfl) (by kernel_rfl) (by kernel_rfl) (fun _ _ d _ _ h => by cases d <;> exact h) (fun o ho => ?_)
  simp only [List.getElem?_toArray, List.getElem?_cons_zero, List.getElem?_cons_succ, Option.some.injEq] at ho; subst ho
  apply Exists.intro
  refine ⟨Or.inl ⟨by kernel_rfl, fun w' hl => Or.inl ?_⟩, ?_⟩
  · (go_simp; try with_reducible rfl)
  simp only [Act.put, List.setIfInBounds_toArray, List.set_cons_zero, List.set_cons_succ]
  refine late_take 5 (by kernel_rfl) (by kernel_rfl) (by kernel_rfl) (by kernel_rfl) (by kernel_rfl) (fun _ _ d _ _ h => by cases d <;> exact h) (fun o ho => ?_)
  simp only [List.getElem?_toArray, List.getElem?_cons_zero, List.getElem?_cons_succ, Option.some.injEq] at ho; subst ho
  refine ⟨_, Or.inl ⟨by kernel_rfl, fun w' hl => Or.inl (run_get 26 _ rfl b1 (0) rfl Tryd.underlying26 rfl (.int .i8 m.f) ((HM.out.later hl).cell 0))⟩, ?_⟩
  simp only [Act.put, List.setIfInBounds_toArray, List.set_cons_zero, List.set_cons_succ]
  refine late_take 6 (by kernel_rfl) (by kernel_rfl) (by kernel_rfl) (by kernel_rfl) (by kernel_rfl) (fun _ _ d _ _ h => by cases d <;> exact h) (fun o ho => ?_)
  simp only [List.getElem?_toArray, List.getElem?_cons_zero, List.getElem?_cons_succ, Option.some.injEq] at ho; subst ho
  refine ⟨.int .i64 m.f, Or.inl ⟨by kernel_rfl, fun w' hl => Or.inl ?_⟩, ?_⟩
  · (go_simp; try simp [wf])
  simp only [Act.put, List.setIfInBounds_toArray, List.set_cons_zero, List.set_cons_succ]
  refine late_one 2 (by kernel_rfl) (by kernel_rfl) (fun o ho => ?_)
  simp only [List.getElem?_toArray, List.getElem?_cons_zero, List.getElem?_cons_succ, Option.some.injEq] at ho; subst ho
  refine ⟨by kernel_rfl, fun wn hl K hK => ?_⟩
  have HM := Lib.hid (HM.out.later hl); have HB := Lib.hid (below_on HB.out hl); clear hl
  refine wp_enter _ _ (by go_simp; exact ⟨rfl, rfl⟩) ?_
  refine (mk_any 0 m.dr _ (by decide) HFm.out.dr.1).mono ?_; rintro e wm ⟨rfl, rfl⟩; refine ⟨_, rfl, ?_⟩
  rw [HK.out]
  refine hK.out _ _ (Later.refl _) ?_
  clear hK K
  simp only [Act.put, List.setIfInBounds_toArray, List.set_cons_zero, List.set_cons_succ]
  refine late_one 3 (by kernel_rfl) (by kernel_rfl) (fun o ho => ?_)
  simp only [List.getElem?_toArray, List.getElem?_cons_zero, List.getElem?_cons_succ, Option.some.injEq] at ho; subst ho
  refine ⟨by kernel_rfl, fun wn hl K hK => ?_⟩
  have HM := Lib.hid (HM.out.later hl); have HB := Lib.hid (below_on HB.out hl); clear hl
  refine wp_enter _ _ (by go_simp; exact ⟨rfl, rfl⟩) ?_
  refine (let_any k _ HKr.out.1 HKr.out.2).mono ?_; rintro e wm ⟨rfl, rfl⟩; refine ⟨_, rfl, ?_⟩
  rw [HL.out]
  refine hK.out _ _ (Later.refl _) ?_
  clear hK K
  simp only [Act.put, List.setIfInBounds_toArray, List.set_cons_zero, List.set_cons_succ]
  refine late_one 7 (by kernel_rfl) (by kernel_rfl) (fun o ho => ?_)
  simp only [List.getElem?_toArray, List.getElem?_cons_zero, List.getElem?_cons_succ, Option.some.injEq] at ho; subst ho
  refine ⟨by kernel_rfl, fun wn hl K hK => ?_⟩
  have HM := Lib.hid (HM.out.later hl); have HB := Lib.hid (below_on HB.out hl); clear hl
  refine wp_enter _ _ (by go_simp; exact ⟨rfl, rfl⟩) ?_
  refine (text_any m.f _).mono ?_; rintro e wm ⟨rfl, hb⟩; refine ⟨_, rfl, ?_⟩
  rw [HQ.out]
  refine hK.out _ _ hb ?_
  have HM := Lib.hid (HM.out.later hb); have HB := Lib.hid (below_on HB.out hb); clear hb
  clear hK K
  simp only [Act.put, List.setIfInBounds_toArray, List.set_cons_zero, List.set_cons_succ]
  refine late_take 8 (by kernel_rfl) (by kernel_rfl) (by kernel_rfl) (by kernel_rfl) (by kernel_rfl) (fun _ _ d _ _ h => by cases d <;> exact h) (fun o ho => ?_)
  simp only [List.getElem?_toArray, List.getElem?_cons_zero, List.getElem?_cons_succ, Option.some.injEq] at ho; subst ho
  apply Exists.intro
  refine ⟨Or.inl ⟨by kernel_rfl, fun w' hl => Or.inl ?_⟩, ?_⟩
  · (go_simp; try with_reducible rfl)
  simp only [Act.put, List.setIfInBounds_toArray, List.set_cons_zero, List.set_cons_succ]
  refine late_take 9 (by kernel_rfl) (by kernel_rfl) (by kernel_rfl) (by kernel_rfl) (by kernel_rfl) (fun _ _ d _ _ h => by cases d <;> exact h) (fun o ho => ?_)
  simp only [List.getElem?_toArray, List.getElem?_cons_zero, List.getElem?_cons_succ, Option.some.injEq] at ho; subst ho
  apply Exists.intro
  refine ⟨Or.inl ⟨by kernel_rfl, fun w' hl => Or.inl ?_⟩, ?_⟩
  · (go_simp; try with_reducible rfl)
  simp only [Act.put, List.setIfInBounds_toArray, List.set_cons_zero, List.set_cons_succ]
  refine late_end (by kernel_rfl) (fun wn hl => ?_)
  have HM := Lib.hid (HM.out.later hl); have HB := Lib.hid (below_on HB.out hl); clear hl
  go_wp2_with (first
      | (refine blk_load rfl 33 _ rfl b1 rfl (mvA m) HM.out _ Tryd.underlying33 rfl sizeMv ?_)
      | (refine step_get rfl 26 _ rfl b1 0 rfl Tryd.underlying26 rfl (.int .i8 m.f) ?_ ?_; exact HM.out.cell 0)
      | (refine step_get rfl 5 _ rfl b1 3 rfl Tryd.underlying5 rfl (.int .u8 m.dr) ?_ ?_; exact HM.out.cell 3)
      | (refine step_mv rfl _ _ rfl m ⟨m.f, m.f, 0, m.dr, false⟩ rfl rfl HFm.out HFn.out _ HE.out ?_))
  go_ret
  exact ⟨by rw [HS.out]; rfl, HB.out⟩
set_option maxRecDepth 100000 in
set_option maxHeartbeats 1000000 in
theorem drop_w3 (m : Mv) (w : World) (hm : FitV m) (hd : drB m = false) (h0 : mvE m ⟨m.f, m.f, 0, m.dr, false⟩ = true) (h1 : (m.dr == 6) = false) (h2 : mkB 0 m.dr = true) (h3 : sqB m.f = false) : Calls Tryd.prog 26 #[.agg (mvA m)] w (StL (bz (drT m)) w) := by
  have HFm := Lib.hid hm
  have HB := Lib.hid (Below.refl w.heap.size w)
  obtain ⟨k, hk⟩ : ∃ k, mkZ 0 m.dr = k := ⟨_, rfl⟩
  have HK := Lib.hid hk
  have HKr := Lib.hid (show 0 ≤ k ∧ k ≤ 255 by have := mk_rng 0 m.dr (by decide); omega)
  obtain ⟨l, hl⟩ : ∃ l, letZ k = l := ⟨_, rfl⟩
  have HL := Lib.hid hl
  obtain ⟨q, hq⟩ : ∃ q, textZ m.f = q := ⟨_, rfl⟩
  have HQ := Lib.hid hq
  have wf : IntKind.i64.wrap m.f = m.f := IntWalk.i64_in m.f (by have := hm.f; omega)
  have HFn := Lib.hid (show FitV ⟨m.f, m.f, 0, m.dr, false⟩ from ⟨hm.f, hm.f, (by show (0 : Int) ≤ 0 ∧ (0 : Int) ≤ 255; decide), hm.dr⟩)
  have le : l.toList.isEmpty = !mkB 0 m.dr := by rw [← hl, ← hk, leF_empty, mk_pcB (.inl rfl) hm.dr.1]
  have qe : q.toList.isEmpty = !sqB m.f := by rw [← hq, sqM_empty]
  have HE := Lib.hid h0
  rw [h2] at le
  replace le : l.toList.isEmpty = false := le
  rw [h3] at qe
  replace qe : q.toList.isEmpty = true := qe
  have HS := Lib.hid (show drT m = [] by unfold drT; rw [hd]; rfl)
  clear hd h0 h2 h3
  clear hm hk hl hq
  go_enter Tryd.func26, Tryd.ntmps26
  go_wp2_with (first
      | (refine blk_box rfl 33 _ rfl (mvA m) rfl ?_; intro b1 w2 N R; have HB := Lib.hid (HB.out.trans (N.below.mono HB.out.size)); have HM := Lib.hid R; clear N R))
  refine late_begin 10 (by kernel_rfl) ?_
  refine late_take 0 (by kernel_rfl) (by kernel_rfl) (by kernel_rfl) (by kernel_rfl) (by kernel_rfl) (fun _ _ d _ _ h => by cases d <;> exact h) (fun o ho => ?_)
  simp only [List.getElem?_toArray, List.getElem?_cons_zero, List.getElem?_cons_succ, Option.some.injEq] at ho; subst ho
  apply Exists.intro
  refine ⟨Or.inl ⟨by kernel_rfl, fun w' hl => Or.inl ?_⟩, ?_⟩
  · (go_simp; try with_reducible rfl)
  simp only [Act.put, List.setIfInBounds_toArray, List.set_cons_zero, List.set_cons_succ]
  refine late_take 1 (by kernel_rfl) (by kernel_rfl) (by kernel_rfl) (by kernel_rfl) (by kernel_rfl) (fun _ _ d _ _ h => by cases d <;> exact h) (fun o ho => ?_)
  simp only [List.getElem?_toArray, List.getElem?_cons_zero, List.getElem?_cons_succ, Option.some.injEq] at ho; subst ho
  refine ⟨_, Or.inl ⟨by kernel_rfl, fun w' hl => Or.inl (run_get 5 _ rfl b1 (3) rfl Tryd.underlying5 rfl (.int .u8 m.dr) ((HM.out.later hl).cell 3))⟩, ?_⟩
  simp only [Act.put, List.setIfInBounds_toArray, List.set_cons_zero, List.set_cons_succ]
  refine late_take 4 (by kernel_rfl) (by kernel_rfl) (by kernel_rfl) (by kernel_rfl) (by kernel_rfl) (fun _ _ d _ _ h => by cases d <;> exact h) (fun o ho => ?_)
  simp only [List.getElem?_toArray, List.getElem?_cons_zero, List.getElem?_cons_succ, Option.some.injEq] at ho; subst ho
  apply Exists.intro
  refine ⟨Or.inl ⟨by kernel_rfl, fun w' hl => Or.inl ?_⟩, ?_⟩
  · (go_simp; try with_reducible rfl)
  simp only [Act.put, List.setIfInBounds_toArray, List.set_cons_zero, List.set_cons_succ]
  refine late_take 5 (by kernel_rfl) (by kernel_rfl) (by kernel_rfl) (by kernel_rfl) (by kernel_rfl) (fun _ _ d _ _ h => by cases d <;> exact h) (fun o ho => ?_)
  simp only [List.getElem?_toArray, List.getElem?_cons_zero, List.getElem?_cons_succ, Option.some.injEq] at ho; subst ho
  refine ⟨_, Or.inl ⟨by kernel_rfl, fun w' hl => Or.inl (run_get 26 _ rfl b1 (0) rfl Tryd.underlying26 rfl (.int .i8 m.f) ((HM.out.later hl).cell 0))⟩, ?_⟩
  simp only [Act.put, List.setIfInBounds_toArray, List.set_cons_zero, List.set_cons_succ]
  refine late_take 6 (by kernel_rfl) (by kernel_rfl) (by kernel_rfl) (by kernel_rfl) (by kernel_rfl) (fun _ _ d _ _ h => by cases d <;> exact h) (fun o ho => ?_)
  simp only [List.getElem?_toArray, List.getElem?_cons_zero, List.getElem?_cons_succ, Option.some.injEq] at ho; subst ho
  refine ⟨.int .i64 m.f, Or.inl ⟨by kernel_rfl, fun w' hl => Or.inl ?_⟩, ?_⟩
  · (go_simp; try simp [wf])
  simp only [Act.put, List.setIfInBounds_toArray, List.set_cons_zero, List.set_cons_succ]
  refine late_one 2 (by kernel_rfl) (by kernel_rfl) (fun o ho => ?_)
  simp only [List.getElem?_toArray, List.getElem?_cons_zero, List.getElem?_cons_succ, Option.some.injEq] at ho; subst ho
  refine ⟨by kernel_rfl, fun wn hl K hK => ?_⟩
  have HM := Lib.hid (HM.out.later hl); have HB := Lib.hid (below_on HB.out hl); clear hl
  refine wp_enter _ _ (by go_simp; exact ⟨rfl, rfl⟩) ?_
  refine (mk_any 0 m.dr _ (by decide) HFm.out.dr.1).mono ?_; rintro e wm ⟨rfl, rfl⟩; refine ⟨_, rfl, ?_⟩
  rw [HK.out]
  refine hK.out _ _ (Later.refl _) ?_
  clear hK K
  simp only [Act.put, List.setIfInBounds_toArray, List.set_cons_zero, List.set_cons_succ]
  refine late_one 3 (by kernel_rfl) (by kernel_rfl) (fun o ho => ?_)
  simp only [List.getElem?_toArray, List.getElem?_cons_zero, List.getElem?_cons_succ, Option.some.injEq] at ho; subst ho
  refine ⟨by kernel_rfl, fun wn hl K hK => ?_⟩
  have HM := Lib.hid (HM.out.later hl); have HB := Lib.hid (below_on HB.out hl); clear hl
  refine wp_enter _ _ (by go_simp; exact ⟨rfl, rfl⟩) ?_
  refine (let_any k _ HKr.out.1 HKr.out.2).mono ?_; rintro e wm ⟨rfl, rfl⟩; refine ⟨_, rfl, ?_⟩
  rw [HL.out]
  refine hK.out _ _ (Later.refl _) ?_
  clear hK K
  simp only [Act.put, List.setIfInBounds_toArray, List.set_cons_zero, List.set_cons_succ]
  refine late_one 7 (by kernel_rfl) (by kernel_rfl) (fun o ho => ?_)
  simp only [List.getElem?_toArray, List.getElem?_cons_zero, List.getElem?_cons_succ, Option.some.injEq] at ho; subst ho
  refine ⟨by kernel_rfl, fun wn hl K hK => ?_⟩
  have HM := Lib.hid (HM.out.later hl); have HB := Lib.hid (below_on HB.out hl); clear hl
  refine wp_enter _ _ (by go_simp; exact ⟨rfl, rfl⟩) ?_
  refine (text_any m.f _).mono ?_; rintro e wm ⟨rfl, hb⟩; refine ⟨_, rfl, ?_⟩
  rw [HQ.out]
  refine hK.out _ _ hb ?_
  have HM := Lib.hid (HM.out.later hb); have HB := Lib.hid (below_on HB.out hb); clear hb
  clear hK K
  simp only [Act.put, List.setIfInBounds_toArray, List.set_cons_zero, List.set_cons_succ]
  refine late_take 8 (by kernel_rfl) (by kernel_rfl) (by kernel_rfl) (by kernel_rfl) (by kernel_rfl) (fun _ _ d _ _ h => by cases d <;> exact h) (fun o ho => ?_)
  simp only [List.getElem?_toArray, List.getElem?_cons_zero, List.getElem?_cons_succ, Option.some.injEq] at ho; subst ho
  apply Exists.intro
  refine ⟨Or.inl ⟨by kernel_rfl, fun w' hl => Or.inl ?_⟩, ?_⟩
  · (go_simp; try with_reducible rfl)
  simp only [Act.put, List.setIfInBounds_toArray, List.set_cons_zero, List.set_cons_succ]
  refine late_take 9 (by kernel_rfl) (by kernel_rfl) (by kernel_rfl) (by kernel_rfl) (by kernel_rfl) (fun _ _ d _ _ h => by cases d <;> exact h) (fun o ho => ?_)
  simp only [List.getElem?_toArray, List.getElem?_cons_zero, List.getElem?_cons_succ, Option.some.injEq] at ho; subst ho
  apply Exists.intro
  refine ⟨Or.inl ⟨by kernel_rfl, fun w' hl => Or.inl ?_⟩, ?_⟩
  · (go_simp; try with_reducible rfl)
  simp only [Act.put, List.setIfInBounds_toArray, List.set_cons_zero, List.set_cons_succ]
  refine late_end (by kernel_rfl) (fun wn hl => ?_)
  have HM := Lib.hid (HM.out.later hl); have HB := Lib.hid (below_on HB.out hl); clear hl
  go_wp2_with (first
      | (refine blk_load rfl 33 _ rfl b1 rfl (mvA m) HM.out _ Tryd.underlying33 rfl sizeMv ?_)
      | (refine step_get rfl 26 _ rfl b1 0 rfl Tryd.underlying26 rfl (.int .i8 m.f) ?_ ?_; exact HM.out.cell 0)
      | (refine step_get rfl 5 _ rfl b1 3 rfl Tryd.underlying5 rfl (.int .u8 m.dr) ?_ ?_; exact HM.out.cell 3)
      | (refine step_mv rfl _ _ rfl m ⟨m.f, m.f, 0, m.dr, false⟩ rfl rfl HFm.out HFn.out _ HE.out ?_))
  go_ret
  exact ⟨by rw [HS.out]; rfl, HB.out⟩
set_option maxRecDepth 100000 in
set_option maxHeartbeats 1000000 in
theorem drop_w4 (m : Mv) (w : World) (hm : FitV m) (hd : drB m = true) (h0 : mvE m ⟨m.f, m.f, 0, m.dr, false⟩ = true) (h1 : (m.dr == 6) = false) (h2 : mkB 0 m.dr = true) (h3 : sqB m.f = true) : Calls Tryd.prog 26 #[.agg (mvA m)] w (StL (bz (drT m)) w) := by
  have HFm := Lib.hid hm
  have HB := Lib.hid (Below.refl w.heap.size w)
  obtain ⟨k, hk⟩ : ∃ k, mkZ 0 m.dr = k := ⟨_, rfl⟩
  have HK := Lib.hid hk
  have HKr := Lib.hid (show 0 ≤ k ∧ k ≤ 255 by have := mk_rng 0 m.dr (by decide); omega)
  obtain ⟨l, hl⟩ : ∃ l, letZ k = l := ⟨_, rfl⟩
  have HL := Lib.hid hl
  obtain ⟨q, hq⟩ : ∃ q, textZ m.f = q := ⟨_, rfl⟩
  have HQ := Lib.hid hq
  have wf : IntKind.i64.wrap m.f = m.f := IntWalk.i64_in m.f (by have := hm.f; omega)
  have HFn := Lib.hid (show FitV ⟨m.f, m.f, 0, m.dr, false⟩ from ⟨hm.f, hm.f, (by show (0 : Int) ≤ 0 ∧ (0 : Int) ≤ 255; decide), hm.dr⟩)
  have le : l.toList.isEmpty = !mkB 0 m.dr := by rw [← hl, ← hk, leF_empty, mk_pcB (.inl rfl) hm.dr.1]
  have qe : q.toList.isEmpty = !sqB m.f := by rw [← hq, sqM_empty]
  have HE := Lib.hid h0
  rw [h2] at le
  replace le : l.toList.isEmpty = false := le
  rw [h3] at qe
  replace qe : q.toList.isEmpty = false := qe
  have ls : l.size ≤ 1 := by rw [← hl, leF_bz, bz_size]; exact leF_len k
  have qs : q.size ≤ 2 := by rw [← hq]; exact sqM_size m.f
  have k1 : ¬ (9223372036854775807 < l.size + 1) := by omega
  have k2 : ¬ (9223372036854775807 < (l ++ ⟨#[64]⟩).size + q.size) := by rw [ByteArray.size_append]; show ¬ (9223372036854775807 < l.size + 1 + q.size); omega
  have HS := Lib.hid (show bz (drT m) = l ++ ⟨#[64]⟩ ++ q by
    unfold drT; rw [hd, ← hl, ← hq, ← hk, leF_bz, sqM_bz, show (⟨#[64]⟩ : ByteArray) = bz [64] from rfl, bz_app, bz_app]
    congr 1
    show leF (mkZ 0 m.dr) ++ 64 :: sqM m.f = _
    simp)
  clear hd h0 h2 h3 ls qs
  clear hm hk hl hq
  go_enter Tryd.func26, Tryd.ntmps26
  go_wp2_with (first
      | (refine blk_box rfl 33 _ rfl (mvA m) rfl ?_; intro b1 w2 N R; have HB := Lib.hid (HB.out.trans (N.below.mono HB.out.size)); have HM := Lib.hid R; clear N R))
  refine late_begin 10 (by kernel_rfl) ?_
  refine late_take 0 (by kernel_rfl) (by kernel_rfl) (by kernel_rfl) (by kernel_rfl) (by kernel_rfl) (fun _ _ d _ _ h => by cases d <;> exact h) (fun o ho => ?_)
  simp only [List.getElem?_toArray, List.getElem?_cons_zero, List.getElem?_cons_succ, Option.some.injEq] at ho; subst ho
  apply Exists.intro
  refine ⟨Or.inl ⟨by kernel_rfl, fun w' hl => Or.inl ?_⟩, ?_⟩
  · (go_simp; try with_reducible rfl)
  simp only [Act.put, List.setIfInBounds_toArray, List.set_cons_zero, List.set_cons_succ]
  refine late_take 1 (by kernel_rfl) (by kernel_rfl) (by kernel_rfl) (by kernel_rfl) (by kernel_rfl) (fun _ _ d _ _ h => by cases d <;> exact h) (fun o ho => ?_)
  simp only [List.getElem?_toArray, List.getElem?_cons_zero, List.getElem?_cons_succ, Option.some.injEq] at ho; subst ho
  refine ⟨_, Or.inl ⟨by kernel_rfl, fun w' hl => Or.inl (run_get 5 _ rfl b1 (3) rfl Tryd.underlying5 rfl (.int .u8 m.dr) ((HM.out.later hl).cell 3))⟩, ?_⟩
  simp only [Act.put, List.setIfInBounds_toArray, List.set_cons_zero, List.set_cons_succ]
  refine late_take 4 (by kernel_rfl) (by kernel_rfl) (by kernel_rfl) (by kernel_rfl) (by kernel_rfl) (fun _ _ d _ _ h => by cases d <;> exact h) (fun o ho => ?_)
  simp only [List.getElem?_toArray, List.getElem?_cons_zero, List.getElem?_cons_succ, Option.some.injEq] at ho; subst ho
  apply Exists.intro
  refine ⟨Or.inl ⟨by kernel_rfl, fun w' hl => Or.inl ?_⟩, ?_⟩
  · (go_simp; try with_reducible rfl)
  simp only [Act.put, List.setIfInBounds_toArray, List.set_cons_zero, List.set_cons_succ]
  refine late_take 5 (by kernel_rfl) (by kernel_rfl) (by kernel_rfl) (by kernel_rfl) (by kernel_rfl) (fun _ _ d _ _ h => by cases d <;> exact h) (fun o ho => ?_)
  simp only [List.getElem?_toArray, List.getElem?_cons_zero, List.getElem?_cons_succ, Option.some.injEq] at ho; subst ho
  refine ⟨_, Or.inl ⟨by kernel_rfl, fun w' hl => Or.inl (run_get 26 _ rfl b1 (0) rfl Tryd.underlying26 rfl (.int .i8 m.f) ((HM.out.later hl).cell 0))⟩, ?_⟩
  simp only [Act.put, List.setIfInBounds_toArray, List.set_cons_zero, List.set_cons_succ]
  refine late_take 6 (by kernel_rfl) (by kernel_rfl) (by kernel_rfl) (by kernel_rfl) (by kernel_rfl) (fun _ _ d _ _ h => by cases d <;> exact h) (fun o ho => ?_)
  simp only [List.getElem?_toArray, List.getElem?_cons_zero, List.getElem?_cons_succ, Option.some.injEq] at ho; subst ho
  refine ⟨.int .i64 m.f, Or.inl ⟨by kernel_rfl, fun w' hl => Or.inl ?_⟩, ?_⟩
  · (go_simp; try simp [wf])
  simp only [Act.put, List.setIfInBounds_toArray, List.set_cons_zero, List.set_cons_succ]
  refine late_one 2 (by kernel_rfl) (by kernel_rfl) (fun o ho => ?_)
  simp only [List.getElem?_toArray, List.getElem?_cons_zero, List.getElem?_cons_succ, Option.some.injEq] at ho; subst ho
  refine ⟨by kernel_rfl, fun wn hl K hK => ?_⟩
  have HM := Lib.hid (HM.out.later hl); have HB := Lib.hid (below_on HB.out hl); clear hl
  refine wp_enter _ _ (by go_simp; exact ⟨rfl, rfl⟩) ?_
  refine (mk_any 0 m.dr _ (by decide) HFm.out.dr.1).mono ?_; rintro e wm ⟨rfl, rfl⟩; refine ⟨_, rfl, ?_⟩
  rw [HK.out]
  refine hK.out _ _ (Later.refl _) ?_
  clear hK K
  simp only [Act.put, List.setIfInBounds_toArray, List.set_cons_zero, List.set_cons_succ]
  refine late_one 3 (by kernel_rfl) (by kernel_rfl) (fun o ho => ?_)
  simp only [List.getElem?_toArray, List.getElem?_cons_zero, List.getElem?_cons_succ, Option.some.injEq] at ho; subst ho
  refine ⟨by kernel_rfl, fun wn hl K hK => ?_⟩
  have HM := Lib.hid (HM.out.later hl); have HB := Lib.hid (below_on HB.out hl); clear hl
  refine wp_enter _ _ (by go_simp; exact ⟨rfl, rfl⟩) ?_
  refine (let_any k _ HKr.out.1 HKr.out.2).mono ?_; rintro e wm ⟨rfl, rfl⟩; refine ⟨_, rfl, ?_⟩
  rw [HL.out]
  refine hK.out _ _ (Later.refl _) ?_
  clear hK K
  simp only [Act.put, List.setIfInBounds_toArray, List.set_cons_zero, List.set_cons_succ]
  refine late_one 7 (by kernel_rfl) (by kernel_rfl) (fun o ho => ?_)
  simp only [List.getElem?_toArray, List.getElem?_cons_zero, List.getElem?_cons_succ, Option.some.injEq] at ho; subst ho
  refine ⟨by kernel_rfl, fun wn hl K hK => ?_⟩
  have HM := Lib.hid (HM.out.later hl); have HB := Lib.hid (below_on HB.out hl); clear hl
  refine wp_enter _ _ (by go_simp; exact ⟨rfl, rfl⟩) ?_
  refine (text_any m.f _).mono ?_; rintro e wm ⟨rfl, hb⟩; refine ⟨_, rfl, ?_⟩
  rw [HQ.out]
  refine hK.out _ _ hb ?_
  have HM := Lib.hid (HM.out.later hb); have HB := Lib.hid (below_on HB.out hb); clear hb
  clear hK K
  simp only [Act.put, List.setIfInBounds_toArray, List.set_cons_zero, List.set_cons_succ]
  refine late_take 8 (by kernel_rfl) (by kernel_rfl) (by kernel_rfl) (by kernel_rfl) (by kernel_rfl) (fun _ _ d _ _ h => by cases d <;> exact h) (fun o ho => ?_)
  simp only [List.getElem?_toArray, List.getElem?_cons_zero, List.getElem?_cons_succ, Option.some.injEq] at ho; subst ho
  apply Exists.intro
  refine ⟨Or.inl ⟨by kernel_rfl, fun w' hl => Or.inl ?_⟩, ?_⟩
  · (go_simp; try with_reducible rfl)
  simp only [Act.put, List.setIfInBounds_toArray, List.set_cons_zero, List.set_cons_succ]
  refine late_take 9 (by kernel_rfl) (by kernel_rfl) (by kernel_rfl) (by kernel_rfl) (by kernel_rfl) (fun _ _ d _ _ h => by cases d <;> exact h) (fun o ho => ?_)
  simp only [List.getElem?_toArray, List.getElem?_cons_zero, List.getElem?_cons_succ, Option.some.injEq] at ho; subst ho
  apply Exists.intro
  refine ⟨Or.inl ⟨by kernel_rfl, fun w' hl => Or.inl ?_⟩, ?_⟩
  · (go_simp; try with_reducible rfl)
  simp only [Act.put, List.setIfInBounds_toArray, List.set_cons_zero, List.set_cons_succ]
  refine late_end (by kernel_rfl) (fun wn hl => ?_)
  have HM := Lib.hid (HM.out.later hl); have HB := Lib.hid (below_on HB.out hl); clear hl
  go_wp2_with (first
      | (refine blk_load rfl 33 _ rfl b1 rfl (mvA m) HM.out _ Tryd.underlying33 rfl sizeMv ?_)
      | (refine step_get rfl 26 _ rfl b1 0 rfl Tryd.underlying26 rfl (.int .i8 m.f) ?_ ?_; exact HM.out.cell 0)
      | (refine step_get rfl 5 _ rfl b1 3 rfl Tryd.underlying5 rfl (.int .u8 m.dr) ?_ ?_; exact HM.out.cell 3)
      | (refine step_mv rfl _ _ rfl m ⟨m.f, m.f, 0, m.dr, false⟩ rfl rfl HFm.out HFn.out _ HE.out ?_))
  go_ret
  exact ⟨by rw [HS.out]; rfl, HB.out⟩
theorem drop_any (m : Mv) (w : World) (hm : FitV m) : Calls Tryd.prog 26 #[.agg (mvA m)] w (StL (bz (drT m)) w) := by
  have key : drB m = (mvE m ⟨m.f, m.f, 0, m.dr, false⟩ && !(m.dr == 6) && mkB 0 m.dr && sqB m.f) := by
    unfold drB mvE
    rw [Bool.eq_iff_iff]
    simp
    constructor
    · rintro ⟨⟨⟨⟨⟨a, b⟩, c⟩, d⟩, e⟩, f⟩; exact ⟨⟨⟨⟨⟨b, c⟩, d⟩, f⟩, e⟩, a⟩
    · rintro ⟨⟨⟨⟨⟨b, c⟩, d⟩, f⟩, e⟩, a⟩; exact ⟨⟨⟨⟨⟨a, b⟩, c⟩, d⟩, e⟩, f⟩
  cases h0 : mvE m ⟨m.f, m.f, 0, m.dr, false⟩
  · exact drop_w0 m w hm (by rw [key, h0]; rfl) h0
  · cases h1 : (m.dr == 6)
    · cases h2 : mkB 0 m.dr
      · exact drop_w2 m w hm (by rw [key, h0, h1, h2]; rfl) h0 h1 h2
      · cases h3 : sqB m.f
        · exact drop_w3 m w hm (by rw [key, h0, h1, h2, h3]; rfl) h0 h1 h2 h3
        · exact drop_w4 m w hm (by rw [key, h0, h1, h2, h3]; rfl) h0 h1 h2 h3
    · exact drop_w1 m w hm (by rw [key, h0, h1]; rfl) h0 h1
end Go.Proofs.YtnogmogmlilpiaaDoor
