/-
 Layer 13: the moves of a position, told one by one.
-/
import Derived.Test.YteblmnbagbdiiaaGreatDoorPsD
import Derived.Test.YteblmnbagbdiiaaGreatDoorAfBaseK
set_option maxRecDepth 100000
set_option maxHeartbeats 4000000
namespace Go.Proofs.YteblmnbagbdiiaaGreatDoor
open Go.RowKit Go.Shelf
set_option linter.unusedVariables false
set_option linter.unusedSimpArgs false
attribute [local go_sem] Oper.semAt_some

theorem gi_storeGr {k : Nat} {ops : Array Oper} {Q : Exit → Act → World → Prop} {rest : List Oper} {o : Oper} {a : Act} {w : World} (hg : o.guard = none) (x y : Operand) (ho : o.op = .store 110 x y) (b : Nat) (hx : a.eval x = .pointer (some ⟨b, 0, none⟩)) (p q : Nat → Int) (m n m' n' : Nat) (hy : a.eval y = .agg (grA q m' n')) (hr : GR w b p m n)
  (h : ∀ w', Upd b w w' → GR w' b q m' n' → wpListIn Fence.wide k Tryz.prog ops Q rest (a.put o.dst undef) w') : wpListIn Fence.wide k Tryz.prog ops Q (o :: rest) a w :=
 wpListIn_plain hg fun K hK => ⟨fun _ _ => trivial, by
  show o.uponIn Fence.wide k Tryz.prog a K Q ((execOp a.eval o).run Tryz.prog w)
  have hk := hK _ _ (h _ (Upd.setCells _ _ _ _) (Blk.whole (ds := grA q m' n') hr (by rw [grA_size, grA_size])))
  have hrun : (storeVar 110 ⟨b, 0, none⟩ (.agg (grA q m' n'))).run Tryz.prog w = .ok () (w.setCells b 0 (grA q m' n').toList) :=
   run_storeVar_mid w b 0 110 (grA q m' n') (Blk.there hr 0 _ (by rw [grA_size, grA_size]; omega)) (by rw [grA_size]; exact sizeGr) (grA_one q m' n')
  unfold execOp
  simp only [ho, hx, hy, Instr.storeAt, Instr.sureAddr, Sem.run_bind, Sem.run_pure, Result.andThen_ok, hrun]
  exact hk⟩
theorem run_allocGr {o : Oper} {a : Act} {w : World} (ho : o.op = .alloc 110) : (execOp a.eval o).run Tryz.prog w = .ok (.value (.pointer (some ⟨w.heap.size, 0, none⟩))) (w.alloc (.cells (grA zeroP 0 0) 110)) := by
 have hzr : ∀ w, (zeroValue 110).run Tryz.prog w = .ok (.agg (grA zeroP 0 0)) w := fun w => by
  have hz := zeroGr
  cases hq : Tryz.prog.info? 110 with
  | none => simp [hq] at hz
  | some i => simp [hq] at hz; simp [zeroValue, typeInfo, hq, hz.1]
 unfold execOp
 simp only [ho, Instr.alloc, Sem.run_bind, Sem.run_pure, Result.andThen_ok, hzr]
 rfl
theorem run_posP {o : Oper} {a : Act} {w : World} (x : Operand) (ho : o.op = .load 31 x) (b : Nat) (hx : a.eval x = .pointer (some ⟨b, 0, none⟩)) (p : Nat → Int) (hr : Row w b p) : (execOp a.eval o).run Tryz.prog w = .ok (.value (.agg (posA p))) w := run_load x ho b hx p hr
theorem PsT.low {B : Nat} {w w' : World} (h : PsT w) (hb : Below B w w') (h1 : 0 < B) (h2 : 2 < B) (h3 : 4 < B) : PsT w' :=
 h.kept (Kept.of_below hb) ⟨by omega, by omega, by omega⟩
theorem loop_ps {F : Fence} {n : Nat} {P : Program} {c : Code} {Q : Exit → Act → World → Prop} {a : Act} {w : World} (I : Act → World → Prop) (μ : Act → World → Nat) (h₀ : I a w)
  (round : ∀ a w, I a w → ∀ K : Act → World → Prop, Shut (∀ a' w', I a' w' → μ a' w' < μ a w → K a' w') → c.wpIn F n P (Exit.then K Q) a w) : (Code.loop c).wpIn F n P Q a w :=
 wpIn_loop I μ h₀ fun a w h => round a w h _ fun a' w' hi hm => ⟨hi, hm⟩
theorem stepRd {r n : Nat} {P : Program} {ops : Array Oper} {Q : Exit → Act → World → Prop} {rest : List Oper} {o : Oper} {a : Act} {w w' : World} {v : Value} (hg : o.guard = none) (hd : ∀ c, o.op ≠ .defer c) (hr : (execOp a.eval o).run P w = .ok (.value v) w')
  (h : wpListIn (Fence.wide.inRound r) n P ops Q rest (a.put o.dst v) w') : wpListIn (Fence.wide.inRound r) n P ops Q (o :: rest) a w :=
 wpListIn_plain hg fun K hK => opIn_of hd (by rw [hr]; exact hK _ _ h)
theorem sizePm : (Tryz.prog.info? 40).map (·.size) = some 5 := by kernel_rfl
theorem run_pm {o : Oper} {a : Act} {w : World} (x : Operand) (ho : o.op = .load 40 x) (b : Nat) (hx : a.eval x = .pointer (some ⟨b, 0, none⟩)) (m : Pm) (hr : Blk w b 40 (pmA m)) : (execOp a.eval o).run Tryz.prog w = .ok (.value (pmV m)) w :=
 run_blk 40 x ho b hx (pmA m) hr _ Tryz.underlying40 rfl sizePm
def MarkC (C : Nat → Prop) (lo : Nat) : Nat → List Deferred → World → Prop
 | _, [], _ => True
 | hi, d :: ds, w => ∃ D, d = { target := .collected D, args := #[] } ∧ lo ≤ D ∧ D < hi ∧ ¬ C D ∧ w.heap[D]? = some (.deferred (some [])) ∧ MarkC C lo D ds w
theorem MarkC.kept {C C' X : Nat → Prop} {lo : Nat} : ∀ {hi : Nat} {ds : List Deferred} {w w' : World}, MarkC C lo hi ds w → Kept X w w' → (∀ k, lo ≤ k → k < hi → ¬ C k → ¬ X k ∧ ¬ C' k) → MarkC C' lo hi ds w'
 | _, [], _, _, _, _, _ => trivial
 | _, _ :: _, _, _, ⟨D, e, h1, h2, hc, h3, h4⟩, k, hx => ⟨D, e, h1, h2, (hx D h1 h2 hc).2, k.obj h3 (hx D h1 h2 hc).1, h4.kept k fun i a b => hx i a (by omega)⟩
theorem MarkC.mono {C : Nat → Prop} {lo hi hi' : Nat} {ds : List Deferred} {w : World} (h : MarkC C lo hi ds w) (hh : hi ≤ hi') : MarkC C lo hi' ds w := by
 cases ds with
 | nil => trivial
 | cons d ds => obtain ⟨D, e, h1, h2, h3, h4⟩ := h; exact ⟨D, e, h1, by omega, h3, h4⟩
theorem markC_leave {n lo : Nat} {C : Nat → Prop} {fn : Func} {tmps : Array Value} {R : Ending → World → Prop} : ∀ {hi : Nat} {ds : List Deferred} {w : World}, MarkC C lo hi ds w →
  (∀ w', Kept (fun k => lo ≤ k ∧ ¬ C k) w w' → LeavesInM Fence.wide n Tryz.prog fn tmps R [] .returning w') → LeavesInM Fence.wide n Tryz.prog fn tmps R ds .returning w
 | _, [], w, _, h => h w (Kept.refl _ _)
 | _, _ :: _, w, ⟨D, e, h1, h2, hc, h3, h4⟩, h => by
  refine ⟨by simp, .inl ⟨D, _, by rw [e], run_takeDeferred h3, ?_⟩⟩
  have k : Kept (· = D) w (w.putObj D (.deferred none)) := Kept.putObj _ _ _
  exact markC_leave (h4.kept k fun i _ b hi => ⟨by omega, hi⟩) fun w' k' => h w' ((k.mono fun i e => by subst e; exact ⟨h1, hc⟩).trans k')
def PsAllPost (p : Nat → Int) (w : World) (e : Ending) (w' : World) : Prop :=
 ∃ b, w.heap.size ≤ b ∧ e = .returned (.func (.func 154) #[] #[.pointer (some ⟨b, 0, none⟩)]) ∧ Below w.heap.size w w' ∧ Row w' b p
theorem ps_all (p : Nat → Int) (w : World) : Calls Tryz.prog 77 #[.agg (posA p)] w (PsAllPost p w) := by
 go_enter Tryz.func77, Tryz.ntmps77
 go_wp2_with (refine step_box rfl _ rfl p rfl ?_; intro b1 w1 N R; have HN := H_ N; have HR := H_ R; clear N R)
 go_ret
 exact ⟨b1, by rw [HN.out.at_]; exact Nat.le_refl _, rfl, HN.out.below, HR.out⟩
theorem all_seq (n pB : Nat) (hn : 8 ≤ n) (p : Nat → Int) (hp : PsR p) (Y : Nat → Prop) (w : World) (hR : Row w pB p) (hT : PsT w) (hYp : ¬ Y pB) (hYt : PsOff Y) (hYw : ∀ k, Y k → k < w.heap.size) :
  SeqC pmV n 154 #[.pointer (some ⟨pB, 0, none⟩)] Y (allL p) w := by
 intro l J Jx W hW hJ hJx hyd h0
 have HXB := H_ (show ∀ i, W.heap.size ≤ i → ¬ Xs Y w W i by rintro i hi (g | g); { have := hYw _ g; have := hW.size; omega }; { omega })
 have HO := H_ (show PsOff (Xs Y w W) from hT.off hYt)
 have HR := H_ (hR.later hW)
 have HT := H_ (hT.on hW)
 have HY := H_ hyd
 have HP := H_ hp
 have HJ := H_ hJ
 have HJx := H_ hJx
 have H0 := H_ h0
 have HYw := H_ hYw
 have HS := H_ hW.size
 obtain ⟨L, HLl⟩ : ∃ L, Hid (listN (ownN p) = L) := ⟨_, H_ rfl⟩
 have HL64 := H_ (show L.length ≤ 64 by rw [← HLl.out]; exact listN_len _)
 have HLb := H_ (show ∀ (k x : Nat), L[k]? = some x → x < 64 by intro k x hk; rw [← HLl.out] at hk; exact (mem_listN.1 (List.mem_of_getElem? hk)).1)
 have HM := H_ (show allL p = L.flatMap fun a : Nat => mvsL p (ownN p) (theN p) (a : Int) by unfold allL; rw [HLl.out])
 clear hyd hp h0 hW hJ hJx hR hT hYp hYt hYw
 have h1 : 1 ≤ n := by omega
 have HN8 := H_ hn
 show CallsIn Fence.wide n Tryz.prog _ #[.func (.yield l) #[] #[], .pointer (some ⟨pB, 0, none⟩)] W _
 refine callsIn_of_wp_marks Tryz.func154 rfl trivial ?_ rfl
 simp only [Tryz.ntmps154, List.size_toArray, List.length_cons, List.length_nil, Nat.reduceAdd, Nat.reduceSub, Array.replicate_succ, Array.replicate_zero, List.push_toArray, List.append_toArray, List.nil_append, List.cons_append]
 have HyB := H_ (show PsC (W.alloc (.cells #[.func (.yield l) #[] #[]] 72)) W.heap.size (.func (.yield l) #[] #[]) by show World.cell? _ _ = _; rw [World.cell?_alloc_new]; rfl)
 have HR1 := H_ (HR.out.later (box_below W (.cells #[.func (.yield l) #[] #[]] 72)))
 have HT1 := H_ (HT.out.on (box_below W (.cells #[.func (.yield l) #[] #[]] 72)))
 have HB := H_ (box_below W (.cells #[.func (.yield l) #[] #[]] 72))
 gi_wp2_with (first
  | (refine stepPs rfl (run_posP _ rfl pB rfl p HR1.out) ?_)
  | (refine ⟨trivial, ?_⟩; gi_at_call 93; refine (callsIn_wide.2 (ps_seen p _ HP.out)).mono ?_; rintro e W1 ⟨rfl, hb1⟩; have HyB := H_ (HyB.out.later hb1); have HT := H_ (HT1.out.on hb1); have HB := H_ (below_on HB.out hb1); clear hb1)
  | (refine stepPs rfl (run_allocGr rfl) ?_; have HyN := H_ (show W.heap.size < W1.heap.size from cell_block HyB.out); have HTl := H_ (And.intro (ps_varlt HT.out.var) (And.intro HT.out.db.lt HT.out.lead.lt)); have HyB := H_ (HyB.out.later (box_below _ (.cells (grA zeroP 0 0) 110))); have HT := H_ (HT.out.on (box_below _ (.cells (grA zeroP 0 0) 110))); have HGs := H_ HB.out.size; have HB := H_ (below_on HB.out (box_below _ (.cells (grA zeroP 0 0) 110))))
  | (refine gi_storeGr rfl _ _ rfl W1.heap.size rfl zeroP p 0 0 _ _ rfl (heap_alloc_new W1 _) ?_; intro W2 U2 R2; have HG := H_ R2; have HyB := H_ (HyB.out.apart U2 (Nat.ne_of_lt HyN.out)); have HT := H_ (HT.out.low (U2.below (Nat.le_refl _)) HTl.out.1 HTl.out.2.1 HTl.out.2.2); have HB := H_ (HB.out.trans (U2.below HGs.out)); clear U2 R2)
  | (refine stepPs rfl (run_get 23 _ rfl W1.heap.size 88 rfl Tryz.underlying23 rfl (.int .u64 (ownN p : Int)) HG.out.own) ?_)
  | (refine ⟨trivial, ?_⟩; gi_at_call 84; refine (callsIn_wide.2 (list_any _ _ (ownN_lt p) HT.out.db)).mono ?_; rintro e W3 ⟨v3, rfl, hl3, hb3⟩; rw [HLl.out] at hl3; obtain ⟨q3, cap3, rfl, hc3⟩ := listed_open hl3; have HS3 := H_ (HB.out.size); have HG := H_ (HG.out.later hb3); have HyB := H_ (HyB.out.later hb3); have HT := H_ (HT.out.on hb3); have HB := H_ (below_on HB.out hb3); have HC3 := H_ hc3; clear hl3 hc3 hb3))
 have HJ3 := H_ (HJ.out _ _ _ _ H0.out ((Kept.of_below HB.out).mono fun k hk => ⟨hk, id⟩))
 have HR3 := H_ (HR.out.later HB.out)
 obtain ⟨gB, hgB⟩ : ∃ x, x = W1.heap.size := ⟨_, rfl⟩
 rw [← hgB] at HG HGs HyN ⊢
 have HXg := H_ (HXB.out gB HGs.out)
 have HXy := H_ (HXB.out W.heap.size (Nat.le_refl _))
 clear hgB
 refine loop_ps (fun a wr => ∃ (k : Nat) (C : Nat → Prop) (ds : List Deferred) (u5 u6 u14 u15 u16 u17 u18 u19 u20 u21 u22 u23 u24 u25 : Value), k ≤ L.length ∧ a = { tmps := #[.func (.yield l) #[] #[], .pointer (some ⟨pB, 0, none⟩), .pointer (some ⟨W.heap.size, 0, none⟩), .pointer (some ⟨gB, 0, none⟩), undef, u5, u6, .agg (posA p), .agg (grA p (ownN p) (theN p)), .pointer (some ⟨gB, 88, none⟩), .int .u64 ((ownN p : Nat) : Int), .slice q3 L.length cap3, .int .i64 (L.length : Int), .int .i64 (k : Int), u14, u15, u16, u17, u18, u19, u20, u21, u22, u23, u24, u25], defers := ds } ∧ J ((L.take k).flatMap (fun a : Nat => mvsL p (ownN p) (theN p) (a : Int))) C wr ∧ Kept (Xs Y w W) W3 wr ∧ (∀ i, C i → W3.heap.size ≤ i ∧ i < wr.heap.size) ∧ MarkC C W3.heap.size wr.heap.size ds wr) (fun a _ => L.length - (intOf (a.tmps.getD 13 undef)).toNat) ?_ ?_
 ·exact ⟨0, fun _ => False, [], _, _, _, _, _, _, _, _, _, _, _, _, _, _, Nat.zero_le _, rfl, by simpa using HJ3.out, Kept.refl _ _, fun _ h => h.elim, trivial⟩
 ·rintro a wr ⟨k, Cs, ds, u5, u6, u14, u15, u16, u17, u18, u19, u20, u21, u22, u23, u24, u25, hk, rfl, hj, hkk, hcs, hm⟩ K HK
  have HCs := H_ hcs
  clear hcs
  have Hj := H_ hj
  have Hk := H_ hkk
  have Hm := H_ hm
  clear hj hkk hm
  by_cases hlt : k < L.length
  ·obtain ⟨x, hx⟩ : ∃ x, L[k]? = some x := ⟨_, List.getElem?_eq_getElem hlt⟩
   have HX := H_ hx
   have Hlt := H_ hlt
   have hk1 : wrap64 ((k : Int) + 1) = ((k + 1 : Nat) : Int) := by have := HL64.out; rw [IntWalk.wrap64_in _ ⟨by omega, by omega⟩]; omega
   have Hk1 := H_ hk1
   obtain ⟨g3, rfl, hg3, _, hc⟩ := HC3.out (by omega)
   have hcell := Hk.out.cell (hc k x hx).1 (HXB.out g3 (Nat.le_trans HS3.out hg3))
   have Hx64 := H_ (HLb.out k x hx)
   have HGr := H_ (show GR wr gB p (ownN p) (theN p) from (Hk.out.same gB HG.out.lt HXg.out).trans HG.out)
   have HyBr := H_ (HyB.out.kept Hk.out HXy.out)
   have HTr := H_ (HT.out.kept Hk.out HO.out)
   clear hx hc hk hlt hk1
   gi_wp2_with (first
    | (refine stepPs rfl (run_gr _ rfl gB rfl p _ _ HGr.out) ?_)
    | (refine ⟨trivial, ?_⟩; gi_at_call 94; refine (callsIn_wide.2 (ps_moves p (ownN p) (theN p) (x : Int) _)).mono ?_; rintro e wn ⟨b, f, hb0, hf0, rfl, hb, hgr, hfr⟩))
   have Hb := H_ hb
   have HKn := H_ (Kept.of_call (Xs Y w W) hb)
   have HJn := H_ (HJ.out _ _ _ _ Hj.out (Kept.of_call _ hb))
   have HTn := H_ (HTr.out.on hb)
   have HyBn := H_ (HyBr.out.later hb)
   have HSn := H_ (Nat.le_trans HB.out.size (Nat.le_trans Hk.out.size hb.size))
   have HSk := H_ hb.size
   have Hb0 := H_ (show ¬ (Xs Y w W b ∨ Cs b) from fun g => g.elim (HXB.out b (Nat.le_trans (Nat.le_trans HB.out.size Hk.out.size) hb0)) (fun g => by have := (HCs.out b g).2; omega))
   have Hf0 := H_ (show ¬ (Xs Y w W f ∨ Cs f) from fun g => g.elim (HXB.out f (Nat.le_trans (Nat.le_trans HB.out.size Hk.out.size) hf0)) (fun g => by have := (HCs.out f g).2; omega))
   have HOc := H_ (show PsOff (fun i => Xs Y w W i ∨ Cs i) from ⟨fun g => g.elim HO.out.1 (fun g => by have := (HCs.out _ g).1; have := ps_varlt HT.out.var; omega), fun g => g.elim HO.out.2.1 (fun g => by have := (HCs.out _ g).1; have := HT.out.db.lt; omega), fun g => g.elim HO.out.2.2 (fun g => by have := (HCs.out _ g).1; have := HT.out.lead.lt; omega)⟩)
   have Hin := H_ (show MvIn p (ownN p) (theN p) (x : Int) b f wn from ⟨hgr, hfr, HTn.out⟩)
   have HYn := H_ (show ∀ i, (Xs Y w W i ∨ Cs i) → i < wn.heap.size by rintro i ((g | g) | g); { have := HYw.out _ g; have := HS.out; have := HSn.out; omega }; { have := HSn.out; omega }; { have := (HCs.out _ g).2; have := HSk.out; omega })
   clear hb0 hf0 hb hgr hfr
   refine range_boxC (n := n) (val := pmV) (gf := 176) (lb := #[.pointer (some ⟨b, 0, none⟩), .pointer (some ⟨f, 0, none⟩)]) rfl (enters_of Tryz.func176 (by kernel_rfl) rfl) (fun i => Xs Y w W i ∨ Cs i) HYn.out (mvsL p (ownN p) (theN p) (x : Int))
    (mvs_seq (n - 1) b f (by have := HN8.out; omega) p HP.out (ownN p) (theN p) (ownN_lt p) (theN_lt p) (x : Int) (by have := Hx64.out; omega) (fun i => Xs Y w W i ∨ Cs i) wn Hin.out ⟨Hb0.out, Hf0.out, HOc.out⟩ HYn.out)
    (fun pre C A => (∃ Co, J ((L.take k).flatMap (fun a : Nat => mvsL p (ownN p) (theN p) (a : Int)) ++ pre) Co A ∧ (∀ i, Co i → (Cs i ∨ C i) ∧ i < A.heap.size)) ∧ Kept (fun i => Xs Y w W i ∨ Cs i) wn A) (fun pre C A => (∃ q Co, q ≠ [] ∧ q <+: allL p ∧ Jx q Co A ∧ (∀ i, Co i → (Cs i ∨ C i) ∧ i < A.heap.size)) ∧ Kept (fun i => Xs Y w W i ∨ Cs i) wn A) ?hI ?hIx ?h0 40 pmA
    (fun m b2 => { tmps := #[.func (.yield l) #[] #[], .pointer (some ⟨pB, 0, none⟩), .pointer (some ⟨W.heap.size, 0, none⟩), .pointer (some ⟨gB, 0, none⟩), undef, .int .i64 (x : Int), .pointer (some ⟨b2, 0, none⟩), .agg (posA p), .agg (grA p (ownN p) (theN p)), .pointer (some ⟨gB, 88, none⟩), .int .u64 ((ownN p : Nat) : Int), .slice (some ⟨g3, 0, none⟩) L.length cap3, .int .i64 (L.length : Int), .int .i64 (k : Int), .bool true, .pointer (some ⟨g3, k, none⟩), .int .i64 (x : Int), .agg (grA p (ownN p) (theN p)), .int .i64 (x : Int), .func (.func 176) #[] #[.pointer (some ⟨b, 0, none⟩), .pointer (some ⟨f, 0, none⟩)], pmV m, u21, u22, u23, u24, u25], defers := [] }) ?assign ?body ?done ?stop
   case hI =>
    rintro q C A A' ⟨⟨Co, hj, hco⟩, hk⟩ k
    exact ⟨⟨Co, HJ.out _ _ _ _ hj (k.mono fun i hi => ⟨Nat.le_trans HSn.out hi.1, fun g => (hco i g).1.elim (fun g => by have := (HCs.out i g).2; have := HSk.out; omega) hi.2⟩), fun i hi => ⟨(hco i hi).1, Nat.lt_of_lt_of_le (hco i hi).2 k.size⟩⟩, hk.since (k.mono fun i hi => hi.1) (Nat.le_refl _)⟩
   case hIx =>
    rintro _ C A A' ⟨⟨q, Co, h1, h2, hj, hco⟩, hk⟩ k
    exact ⟨⟨q, Co, h1, h2, HJx.out _ _ _ _ hj (k.mono fun i hi => ⟨Nat.le_trans HSn.out hi.1, fun g => (hco i g).1.elim (fun g => by have := (HCs.out i g).2; have := HSk.out; omega) hi.2⟩), fun i hi => ⟨(hco i hi).1, Nat.lt_of_lt_of_le (hco i hi).2 k.size⟩⟩, hk.since (k.mono fun i hi => hi.1) (Nat.le_refl _)⟩
   case h0 => exact ⟨⟨Cs, by rw [List.append_nil]; exact HJn.out, fun i hi => ⟨.inl hi, Nat.lt_of_lt_of_le (HCs.out i hi).2 HSk.out⟩⟩, Kept.refl _ _⟩
   case assign =>
    intro l2 m A K' hK'
    simp only [pmV, pmA] at hK' ⊢
    gi_wp2
    exact hK'
   case body =>
    rintro l2 b2 pre m C A ⟨⟨Co, hj, hco⟩, hk⟩ hcb hb2 hblk hpre
    have Hj2 := H_ hj
    have Hk2 := H_ hk
    have HCo := H_ hco
    have HCb := H_ hcb
    have HKw := H_ (show Kept (Xs Y w W) W3 A from ((Hk.out.trans HKn.out).thenC hk fun i hi => (HCs.out i hi).1))
    have HCk := H_ (show ∀ i, Co i → W3.heap.size ≤ i ∧ i < A.heap.size from fun i hi => ⟨(hco i hi).1.elim (fun g => (HCs.out i g).1) (fun g => Nat.le_trans (Nat.le_trans Hk.out.size HSk.out) (hcb i g).1), (hco i hi).2⟩)
    have Hp2 := H_ (show ((L.take k).flatMap (fun a : Nat => mvsL p (ownN p) (theN p) (a : Int)) ++ pre) ++ [m] <+: allL p by rw [HM.out, List.append_assoc]; exact fm_pre HX.out hpre)
    have Hbl := H_ hblk
    have Hy0 := H_ (HyB.out.kept HKw.out HXy.out)
    obtain ⟨fn, tmps, assign, body, hy, hR⟩ := HY.out _ m Co A hj (fun i hi => ⟨Nat.le_trans HB.out.size (HCk.out i hi).1, (HCk.out i hi).2⟩) Hp2.out
    have HRr := H_ hR
    clear hj hk hco hcb hpre hR hblk hcell
    gi_wp2_with (first
     | (refine stepRd rfl (fun _ h => by cases h) (run_get 72 _ rfl W.heap.size 0 rfl Tryz.underlying72 rfl (.func (.yield l) #[] #[]) Hy0.out) ?_)
     | (refine stepRd rfl (fun _ h => by cases h) (run_pm _ rfl b2 rfl m Hbl.out) ?_))
    refine ⟨fun h => (by cases h), ?_⟩
    have h2 : RoundIn (Fence.wide.inRound l2) (n - 1 - 1) Tryz.prog l fn tmps assign body A _ := round_any (F := Fence.wide) rfl HRr.out
    refine h2.mono ?_
    rintro e w5 ⟨bb, C5, rfl, hk5, hc5, hj5⟩
    have HK5 := H_ (hk5.mono (Y := fun i => (Xs Y w W i ∨ Cs i) ∨ C i) fun i hi => hi.elim (fun g => .inl (.inl g)) (fun g => (HCo.out i g).1.elim (fun g => .inl (.inr g)) .inr))
    have HK6 := H_ (Hk2.out.thenC HK5.out fun i hi => (HCb.out i hi).1)
    have HC5 := H_ (show ∀ i, (C5 i ∧ ¬ Cs i) → (C i ∨ A.heap.size ≤ i) ∧ i < w5.heap.size from fun i hi => ⟨(hc5 i hi.1).1.elim (fun g => (HCo.out i g).1.elim (fun g => absurd g hi.2) .inl) .inr, (hc5 i hi.1).2⟩)
    have HC6 := H_ (show ∀ i, C5 i → (Cs i ∨ (C5 i ∧ ¬ Cs i)) ∧ i < w5.heap.size from fun i hi => ⟨(Classical.em (Cs i)).imp id fun g => ⟨hi, g⟩, (hc5 i hi).2⟩)
    clear hc5
    cases bb
    ·rw [if_neg (by simp)] at hj5
     have Hj5 := H_ hj5
     clear hj5 hk5 h2 hy
     gi_wp2_with fail
     exact ⟨_, HK5.out, HC5.out, ⟨_, C5, by simp, Hp2.out, Hj5.out, HC6.out⟩, HK6.out⟩
    ·rw [if_pos rfl] at hj5
     have Hj5 := H_ hj5
     clear hj5 hk5 h2 hy
     gi_wp2_with fail
     exact ⟨_, HK5.out, HC5.out, ⟨C5, by rw [← List.append_assoc]; exact Hj5.out, HC6.out⟩, HK6.out⟩
   case done =>
    rintro C A ⟨⟨Co, hj, hco⟩, hk⟩ hcb hd
    dsimp only
    have Hj2 := H_ hj
    have HKw := H_ (show Kept (Xs Y w W) W3 A from ((Hk.out.trans HKn.out).thenC hk fun i hi => (HCs.out i hi).1))
    have HKa := H_ (HKn.out.mono (Y := fun i => Xs Y w W i ∨ Cs i) (fun i hi => .inl hi) |>.trans hk)
    have HCk := H_ (show ∀ i, Co i → W3.heap.size ≤ i ∧ i < A.heap.size from fun i hi => ⟨(hco i hi).1.elim (fun g => (HCs.out i g).1) (fun g => Nat.le_trans (Nat.le_trans Hk.out.size HSk.out) (hcb i g).1), (hco i hi).2⟩)
    have HCo := H_ (show ∀ i, i ≤ wn.heap.size → Co i → Cs i from fun i hi g => (hco i g).1.elim id fun g => by have := hcb i g; omega)
    have Hd := H_ hd
    clear hj hk hco hcb hd hcell
    gi_wp2_with fail
    rw [Hk1.out]
    refine HK.out _ _ ⟨k + 1, Co, _, _, _, _, _, _, _, _, _, _, _, _, _, _, _, Nat.succ_le_of_lt Hlt.out, rfl, by rw [fm_take HX.out]; exact Hj2.out, HKw.out, HCk.out,
     ⟨_, rfl, Nat.le_trans Hk.out.size HSk.out, (Array.getElem?_eq_some_iff.1 Hd.out).1, fun g => by have h1 := HCo.out _ (Nat.le_refl _) g; have := (HCs.out _ h1).2; have := HSk.out; omega, Hd.out, ?_⟩⟩ ?_
    ·exact (Hm.out.mono HSk.out).kept HKa.out fun i h1 h2 h3 => ⟨fun g => g.elim (HXB.out i (Nat.le_trans HB.out.size h1)) h3, fun g => h3 (HCo.out i (Nat.le_of_lt h2) g)⟩
    ·have := ps_meas Hlt.out Hk1.out
     rw [Hk1.out] at this
     exact this
   case stop =>
    rintro pre C A _ _ ⟨⟨q, Co, h1, h2, hj, hco⟩, hk⟩ hcb hd
    dsimp only
    have HKa := H_ (HKn.out.mono (Y := fun i => Xs Y w W i ∨ Cs i) (fun i hi => .inl hi) |>.trans hk)
    have HCo := H_ (show ∀ i, i ≤ wn.heap.size → Co i → Cs i from fun i hi g => (hco i g).1.elim id fun g => by have := hcb i g; omega)
    have Hd := H_ hd
    have Hq := H_ (And.intro h1 (And.intro h2 hj))
    have HMk := H_ (show MarkC Co W3.heap.size A.heap.size ({ target := .collected wn.heap.size, args := #[] } :: ds) A from
     ⟨_, rfl, Nat.le_trans Hk.out.size HSk.out, (Array.getElem?_eq_some_iff.1 hd).1, fun g => by have h1 := HCo.out _ (Nat.le_refl _) g; have := (HCs.out _ h1).2; have := HSk.out; omega, hd,
      (Hm.out.mono HSk.out).kept HKa.out fun i h1 h2 h3 => ⟨fun g => g.elim (HXB.out i (Nat.le_trans HB.out.size h1)) h3, fun g => h3 (HCo.out i (Nat.le_of_lt h2) g)⟩⟩)
    clear hd hk h1 h2 hj hco hcb hcell
    gi_wp2_with fail
    refine markC_leave HMk.out (fun w' hk => ⟨_, results_none rfl _ _ _, ⟨_, rfl⟩, .inr ⟨q, Co, Hq.out.1, Hq.out.2.1, HJx.out _ _ _ _ Hq.out.2.2 (hk.mono fun i hi => ⟨Nat.le_trans HB.out.size hi.1, hi.2⟩)⟩⟩)
  ·have hkl : k = L.length := by omega
   subst hkl
   gi_wp2_with fail
   refine markC_leave Hm.out (fun w' hk => ?_)
   exact ⟨_, results_none rfl _ _ _, ⟨_, rfl⟩, .inl ⟨Cs, by have := Hj.out; rw [List.take_length, ← HM.out] at this; exact HJ.out _ _ _ _ this (hk.mono fun i hi => ⟨Nat.le_trans HB.out.size hi.1, hi.2⟩)⟩⟩
end Go.Proofs.YteblmnbagbdiiaaGreatDoor
