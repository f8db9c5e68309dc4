/-
  Contracts of the program's parts (an iterator that ranges over others) and Key.
-/
import Derived.Test.YtboopdmgphhemaaDoorHaOf
import Derived.Deep.RegionHeld3
namespace Go.Proofs.YtboopdmgphhemaaDoor
open Go.RowKit Go.Shelf
set_option linter.unusedVariables false
set_option linter.unusedSimpArgs false
attribute [local go_sem] Oper.semAt_some

theorem wrap_i64 {x : Int} (h0 : -9223372036854775808 ≤ x) (h1 : x ≤ 9223372036854775807) : IntKind.i64.wrap x = x := by rw [IntKind.wrap_i64]; omega
theorem run_bld {o : Oper} {a : Act} {w : World} (T : TypeId) (parts : Array (Nat × Operand)) (ho : o.op = .build T parts) (cs : Array Value) (hb : Tryd.prog.built T (parts.map fun (i, x) => (i, a.eval x)).toList = some cs) :
    (execOp a.eval o).run Tryd.prog w = .ok (.value (.agg cs)) w := by
  unfold execOp
  simp only [ho, Sem.run_bind, run_build w T _ cs hb, Result.andThen_ok]
  rfl
theorem loop_v {F : Fence} {n : Nat} {P : Program} {c : Code} {Q : Exit → Act → World → Prop} {a : Act} {w : World} (I : Act → World → Prop) (μ : Act → World → Nat) (h₀ : I a w)
    (round : ∀ a w, I a w → ∀ K : Act → World → Prop, Shut (∀ a' w', I a' w' → μ a' w' < μ a w → K a' w') → c.wpIn F n P (Exit.then K Q) a w) : (Code.loop c).wpIn F n P Q a w :=
  wpIn_loop I μ h₀ fun a w h => round a w h _ fun a' w' hi hm => ⟨hi, hm⟩
/-- What the iterator reads: its position, its own yield, the table. -/
structure PaIn (p : Nat → Int) (pB yB l : Nat) (w : World) : Prop where
  row : Row w pB p
  yl : CellAt w yB 0 (.func (.yield l) #[] #[])
  tab : TabMix w
def PaOff (pB yB : Nat) (X : Nat → Prop) : Prop := ¬ X pB ∧ ¬ X yB ∧ ¬ X 0
theorem PaIn.kept {p : Nat → Int} {pB yB l : Nat} {w w' : World} {X : Nat → Prop} (h : PaIn p pB yB l w) (k : Kept X w w') (ho : PaOff pB yB X) : PaIn p pB yB l w' :=
  ⟨(k.same pB h.row.lt ho.1).trans h.row, h.yl.kept k ho.2.1, h.tab.kept k ho.2.2⟩
theorem PaIn.on {p : Nat → Int} {pB yB l : Nat} {w w' : World} (h : PaIn p pB yB l w) (k : Below w.heap.size w w') : PaIn p pB yB l w' := ⟨h.row.later k, h.yl.on k, h.tab.on k⟩
theorem PaIn.later {p : Nat → Int} {pB yB l : Nat} {w w' : World} (h : PaIn p pB yB l w) (k : Below w.heap.size w w') : PaIn p pB yB l w' := h.on k
theorem boL_in (p : Nat → Int) {k : Nat} (h : k < 64) : boL p k ++ [pieceN (p (1 + k)) (k : Int)] <+: paL p := by
  have e : boL p (k + 1) <+: boL p 64 := boL_pre p (by omega)
  unfold paL; rw [List.append_assoc]; exact e.trans (List.prefix_append _ _)
theorem coTo_in (p : Nat → Int) {c : Nat} (h : c < 2) {pre : List Nat} (hp : pre <+: coL p c) : boL p 64 ++ coTo p c ++ pre <+: paL p := by
  have e : coTo p (c + 1) <+: coTo p 2 := coTo_pre p (by omega)
  obtain ⟨t, ht⟩ := hp
  have e2 : coTo p c ++ pre <+: coTo p (c + 1) := ⟨t, by show _ = coTo p c ++ coL p c; rw [← ht, List.append_assoc]⟩
  unfold paL
  rw [List.append_assoc, List.append_assoc]
  exact (List.prefix_append_right_inj _).2 ((e2.trans e).trans (List.prefix_append _ _))
theorem laL_in (p : Nat → Int) {k : Nat} (h : k < 4) : boL p 64 ++ coTo p 2 ++ laL p k ++ [lastV p k] <+: paL p := by
  have e : laL p (k + 1) <+: laL p 4 := laL_pre p (by omega)
  unfold paL; rw [List.append_assoc (boL p 64 ++ coTo p 2)]; exact (List.prefix_append_right_inj _).2 e
theorem sizeU64a : (Tryd.prog.info? 22).map (·.size) = some 1 := by kernel_rfl
def PartsPost (p : Nat → Int) (w : World) (e : Ending) (w' : World) : Prop :=
  ∃ b, w.heap.size ≤ b ∧ e = .returned (.func (.func 40) #[] #[.pointer (some ⟨b, 0, none⟩)]) ∧ Below w.heap.size w w' ∧ Row w' b p
theorem parts_box (p : Nat → Int) (w : World) : Calls Tryd.prog 35 #[.agg (posA p)] w (PartsPost p w) := by
  go_enter Tryd.func35, Tryd.ntmps35
  go_wp2_with (refine step_box rfl _ rfl p rfl ?_; intro b1 w1 N R; have HN := Lib.hid N; have HR := Lib.hid R; clear N R)
  go_ret
  exact ⟨b1, by rw [HN.out.at_]; exact Nat.le_refl _, rfl, HN.out.below, HR.out⟩

set_option maxRecDepth 100000 in
set_option maxHeartbeats 4000000 in
theorem parts_seq (n pB : Nat) (hn : 2 ≤ n) (p : Nat → Int) (hp : FitP p) (Y : Nat → Prop) (w : World) (hR : Row w pB p) (hT : TabMix w) (hYp : ¬ Y pB) (hYg : ¬ Y 0) (hYw : ∀ k, Y k → k < w.heap.size) :
    SeqV u64V n 40 #[.pointer (some ⟨pB, 0, none⟩)] Y (paL p) w := by
  intro l J Jx W hW hJ hJx hyd h0
  have HO := Lib.hid (show PaOff pB W.heap.size (Xs Y w W) from ⟨xs_off hYp hR.lt, by rintro (g | g); { have := hYw _ g; have := hW.size; omega }; { omega }, xs_off hYg hT.lt⟩)
  have HI1 := Lib.hid (show PaIn p pB W.heap.size l (W.alloc (.cells #[.func (.yield l) #[] #[]] 66)) from ⟨row_pushed (hR.later hW) _, cell_pushed _ _ _, (hT.on hW).on (boxed_below _ _)⟩)
  have HJ1 := Lib.hid (hJ _ _ _ h0 (Kept.of_below (boxed_below W (.cells #[.func (.yield l) #[] #[]] 66))))
  have HS1 := Lib.hid (size_pushed W (.cells #[.func (.yield l) #[] #[]] 66))
  have HY := Lib.hid hyd
  have HP := Lib.hid hp
  have HJ := Lib.hid hJ
  have HJx := Lib.hid hJx
  have HYw := Lib.hid hYw
  have HS := Lib.hid hW.size
  have HF := Lib.hid (by kernel_rfl : Tryd.prog.follows .mixedOrders = true)
  clear hyd hp h0 hW hJ hJx hR hT hYp hYg hYw
  show CallsIn Fence.wide n Tryd.prog _ #[.func (.yield l) #[] #[], .pointer (some ⟨pB, 0, none⟩)] W _
  refine callsIn_of_wp_marks Tryd.func40 rfl trivial ?_ rfl
  simp only [Tryd.ntmps40, List.size_toArray, List.length_cons, List.length_nil, Nat.reduceAdd, Nat.reduceSub, Array.replicate_succ, Array.replicate_zero, List.push_toArray, List.append_toArray, List.nil_append, List.cons_append]
  gi_wp2_with (refine stepI rfl (run_part 33 _ rfl pB 1 64 rfl .u8 p HI1.out.row (by omega) (fun j hj => k_u8 (by omega)) _ Tryd.underlying33 rfl sizeU8x64) ?_)
  obtain ⟨W1, HW1⟩ : ∃ W1, Hid (W.alloc (.cells #[.func (.yield l) #[] #[]] 66) = W1) := ⟨_, Lib.hid rfl⟩
  rw [HW1.out] at HI1 HJ1 HS1 ⊢
  clear HW1
  gi_loopw [11] (fun i wr => ∃ k : Nat, k ≤ 64 ∧ i = .int .i64 (k : Int) ∧ W.heap.size < wr.heap.size ∧ PaIn p pB W.heap.size l wr ∧ J (boL p k) wr) (fun i _ => 64 - (intOf i).toNat)
  case atStart => exact ⟨0, by omega, rfl, by have := HS1.out; omega, HI1.out, HJ1.out⟩
  case round =>
    obtain ⟨k, hk, rfl, hs, hi, hj⟩ := hrel
    have Hs := Lib.hid hs
    have Hi := Lib.hid hi
    have Hj := Lib.hid hj
    clear hs hi hj HI1 HJ1 HS1
    by_cases h64 : k < 64
    · have hlk : (k : Int) < 64 := by omega
      gi_wp2_with (refine stepI rfl (run_pick 33 5 _ _ rfl 64 .u8 (fun j => p (1 + j)) rfl k rfl h64 Tryd.underlying33 Tryd.underlying5 sizeU8a) ?_)
      refine Code.wpIn_mono NoPanic.imp ?_
      refine Wid.mid_begin (X := Xs Y w W) HF.out ?_
      have HQ := Lib.hid (Kept.refl (Xs Y w W) wr)
      have HB := Lib.hid (Below.refl wr.heap.size wr)
      refine Wid.mid_take 0 (by kernel_rfl) (by kernel_rfl) (by kernel_rfl) (by kernel_rfl) (by kernel_rfl) (fun _ _ d _ _ h => by cases d <;> exact h) (fun o ho => ?_)
      simp only [List.getElem?_toArray, List.getElem?_cons_zero, List.getElem?_cons_succ, Option.some.injEq] at ho; subst ho
      refine ⟨_, Or.inl ⟨by kernel_rfl, fun w' hl => run_get 66 _ rfl W.heap.size 0 rfl Tryd.underlying66 rfl (.func (.yield l) #[] #[]) (Hi.out.kept hl HO.out).yl⟩, ?_⟩
      simp only [Act.put, List.setIfInBounds_toArray, List.set_cons_zero, List.set_cons_succ]
      refine Wid.mid_take 1 (by kernel_rfl) (by kernel_rfl) (by kernel_rfl) (by kernel_rfl) (by kernel_rfl) (fun _ _ d _ _ h => by cases d <;> exact h) (fun o ho => ?_)
      simp only [List.getElem?_toArray, List.getElem?_cons_zero, List.getElem?_cons_succ, Option.some.injEq] at ho; subst ho
      apply Exists.intro
      refine ⟨Or.inl ⟨by kernel_rfl, fun w' hl => ?_⟩, ?_⟩
      · (go_simp; try with_reducible rfl)
      simp only [Act.put, List.setIfInBounds_toArray, List.set_cons_zero, List.set_cons_succ]
      refine Wid.mid_take 2 (by kernel_rfl) (by kernel_rfl) (by kernel_rfl) (by kernel_rfl) (by kernel_rfl) (fun _ _ d _ _ h => by cases d <;> exact h) (fun o ho => ?_)
      simp only [List.getElem?_toArray, List.getElem?_cons_zero, List.getElem?_cons_succ, Option.some.injEq] at ho; subst ho
      apply Exists.intro
      refine ⟨Or.inl ⟨by kernel_rfl, fun w' hl => ?_⟩, ?_⟩
      · (go_simp; try with_reducible rfl)
      simp only [Act.put, List.setIfInBounds_toArray, List.set_cons_zero, List.set_cons_succ]
      refine Wid.mid_one 3 (by kernel_rfl) (by kernel_rfl) (by kernel_rfl) (fun o ho => ?_)
      simp only [List.getElem?_toArray, List.getElem?_cons_zero, List.getElem?_cons_succ, Option.some.injEq] at ho; subst ho
      refine ⟨by kernel_rfl, fun wq hl K2 hK2 => ?_⟩
      have HQ := Lib.hid (HQ.out.trans (Kept.of_call _ hl)); have HB := Lib.hid (below_on HB.out hl); clear hl
      refine Wid.mid_call _ _ (by go_simp; exact ⟨rfl, rfl⟩) ?_
      refine (piece_any (p (1 + k)) (k : Int) _ (HP.out.bd k h64).1 (HP.out.bd k h64).2 (Hi.out.kept HQ.out HO.out).tab).mono ?_; rintro e wm ⟨rfl, hb⟩; refine ⟨_, rfl, ?_⟩
      refine hK2.out _ _ (Kept.of_call _ hb) ?_
      have HQ := Lib.hid (HQ.out.trans (Kept.of_call _ hb)); have HB := Lib.hid (below_on HB.out hb); clear hb
      clear hK2 K2
      simp only [Act.put, List.setIfInBounds_toArray, List.set_cons_zero, List.set_cons_succ]
      refine Wid.mid_one 4 (by kernel_rfl) (by kernel_rfl) (by kernel_rfl) (fun o ho => ?_)
      simp only [List.getElem?_toArray, List.getElem?_cons_zero, List.getElem?_cons_succ, Option.some.injEq] at ho; subst ho
      refine ⟨by kernel_rfl, fun wq hl K2 hK2 => ?_⟩
      have HQ := Lib.hid (HQ.out.trans (Kept.of_call _ hl)); have HB := Lib.hid (below_on HB.out hl); clear hl
      refine Wid.mid_yield n l #[u64V (pieceN (p (1 + k)) (k : Int))] (fun w' => by go_simp; rfl) (HY.out (boL p k) (pieceN (p (1 + k)) (k : Int)) _ (HJ.out _ _ _ Hj.out ((Kept.of_below HB.out).mono (fun i hi => by have := Hs.out; omega))) (boL_in p h64)) ?_
      rintro e w5 ⟨bb, rfl, hk5, hj5⟩; refine ⟨_, rfl, ?_⟩
      refine hK2.out _ _ hk5 ?_
      have HQ := Lib.hid (HQ.out.trans hk5); have HJ5 := Lib.hid hj5; have HS5 := Lib.hid (Nat.le_trans HB.out.size hk5.size); clear hk5 hj5
      clear hK2 K2
      simp only [Act.put, List.setIfInBounds_toArray, List.set_cons_zero, List.set_cons_succ]
      refine Wid.mid_take 5 (by kernel_rfl) (by kernel_rfl) (by kernel_rfl) (by kernel_rfl) (by kernel_rfl) (fun _ _ d _ _ h => by cases d <;> exact h) (fun o ho => ?_)
      simp only [List.getElem?_toArray, List.getElem?_cons_zero, List.getElem?_cons_succ, Option.some.injEq] at ho; subst ho
      apply Exists.intro
      refine ⟨Or.inl ⟨by kernel_rfl, fun w' hl => ?_⟩, ?_⟩
      · (go_simp; try with_reducible rfl)
      simp only [Act.put, List.setIfInBounds_toArray, List.set_cons_zero, List.set_cons_succ]
      refine Wid.mid_end (by kernel_rfl) (fun wz hz => ?_)
      have hz2 : Kept (W.heap.size ≤ ·) w5 wz := (Kept.of_below hz).mono (fun i hi => by have := Hs.out; have := HS5.out; omega)
      have HQ := Lib.hid (HQ.out.trans (Kept.of_call _ hz))
      have HZ := Lib.hid hz2
      clear hz hz2
      refine NoPanic.normal ?_
      cases bb
      · have h5 := HJ5.out
        rw [if_neg (by simp)] at h5
        have Hj5 := Lib.hid h5
        clear h5 HJ5
        gi_wp2_with fail
        exact marks_leave (lo := wz.heap.size) (hi := wz.heap.size) (ds := []) trivial (fun w' hk => ⟨_, results_none rfl _ _ _, ⟨_, rfl⟩, .inr ⟨boL p k ++ [pieceN (p (1 + k)) (k : Int)], by simp, boL_in p h64, HJx.out _ _ _ Hj5.out (HZ.out.trans (hk.mono fun i hi => by have := Hs.out; have := HQ.out.size; omega))⟩⟩)
      · have h5 := HJ5.out
        rw [if_pos rfl] at h5
        have Hj5 := Lib.hid (HJ.out _ _ _ h5 HZ.out)
        have Hi5 := Lib.hid (Hi.out.kept HQ.out HO.out)
        have Hs5 := Lib.hid (show W.heap.size < wz.heap.size by have := Hs.out; have := HQ.out.size; omega)
        clear h5 HJ5
        gi_wp2_with fail
        go_roundw
        case rel => exact ⟨k + 1, by omega, by go_num, Hs5.out, Hi5.out, Hj5.out⟩
        case measure => simp [intOf]; omega
    · obtain rfl : k = 64 := by omega
      gi_wp2_with fail
      have Hs0 := Hs
      refine loop_v (fun a wr => ∃ (c : Nat) (ds : List Deferred) (v6 v22 v23 v24 v25 v26 v27 v28 v29 v30 v31 v32 v33 : Value), c ≤ 2 ∧ a = { tmps := #[Value.func (Fn.yield l) #[] #[], .pointer (some ⟨pB, 0, none⟩), .pointer (some ⟨W.heap.size, 0, none⟩), u3, u4, .int .u8 (c : Int), v6, undef, undef, .pointer (some ⟨pB, 1, none⟩), .agg (arrA 64 .u8 fun j => p (1 + j)), .int .i64 ((64 : Nat) : Int), .bool false, u13, u14, u15, u16, u17, u18, u19, u20, u21, v22, v23, v24, v25, v26, v27, v28, v29, v30, v31, v32, v33, undef, undef, undef, undef, undef, undef, undef, undef, undef, undef, undef, undef, undef, undef, undef, undef, undef, undef, undef, undef, undef, undef, undef], defers := ds } ∧ W.heap.size < wr.heap.size ∧ PaIn p pB W.heap.size l wr ∧ J (boL p 64 ++ coTo p c) wr ∧ Marks W.heap.size wr.heap.size ds wr) (fun a _ => 2 - (intOf (a.tmps.getD 5 undef)).toNat) ?_ ?_
      · exact ⟨0, [], _, _, _, _, _, _, _, _, _, _, _, _, _, Nat.zero_le _, rfl, Hs.out, Hi.out, by rw [show coTo p 0 = [] from rfl, List.append_nil]; exact Hj.out, trivial⟩
      · clear Hs Hi Hj
        rintro a wr ⟨c, ds, v6, v22, v23, v24, v25, v26, v27, v28, v29, v30, v31, v32, v33, hc2, rfl, hs, hi, hj, hm⟩ K HK
        have Hs := Lib.hid hs
        have Hi := Lib.hid hi
        have Hj := Lib.hid hj
        have Hm := Lib.hid hm
        clear hs hi hj hm
        by_cases h2 : c < 2
        · have hle : decide ((c : Int) ≤ 1) = true := decide_eq_true (by omega)
          have H2 := Lib.hid h2
          have hn1 : 1 ≤ n := by omega
          clear hc2
          gi_wp2_with (first
            | (refine stepI rfl (run_load _ rfl _ rfl p ?_) ?_; exact Hi.out.row)
            | (refine ⟨trivial, ?_⟩; gi_at_call 41; refine (callsIn_wide.2 (partsOf_box p c _)).mono ?_; rintro e wn ⟨b, hb0, rfl, hb, hrow, hcol, hsz⟩))
          have HKn := Lib.hid (Kept.of_call (Xs Y w W) hb)
          have HBn := Lib.hid hb
          have Hin := Lib.hid (Hi.out.on hb)
          have HSn := Lib.hid (show W.heap.size < wn.heap.size by have := Hs.out; have := hb.size; omega)
          have HBb := Lib.hid (show W.heap.size < b by have := Hs.out; omega)
          have Hof := Lib.hid (show OfIn p c b (b + 1) wn from ⟨hrow, hcol, Hin.out.tab⟩)
          have Hoff := Lib.hid (show OfOff b (b + 1) (Xs Y w W) from ⟨by rintro (g | g); { have := HYw.out _ g; have := HBb.out; have := HS.out; omega }; { have := HBb.out; omega }, by rintro (g | g); { have := HYw.out _ g; have := HBb.out; have := HS.out; omega }; { have := HBb.out; omega }, HO.out.2.2⟩)
          have Hjn := Lib.hid (HJ.out _ _ _ Hj.out ((Kept.of_below hb).mono fun i hi => by have := Hs.out; omega))
          clear hb0 hb hrow hcol hsz
          refine range_seq (n := n) (val := u64V) (gf := 43) (lb := #[.pointer (some ⟨b, 0, none⟩), .pointer (some ⟨b + 1, 0, none⟩)]) rfl (enters_of Tryd.func43 (by kernel_rfl) rfl) (Xs Y w W) ?hY (coL p c)
            (partsOf_seq (n - 1) b (b + 1) c (by omega) H2.out p HP.out (Xs Y w W) wn Hof.out Hoff.out)
            (fun pre A => J (boL p 64 ++ coTo p c ++ pre) A ∧ Kept (Xs Y w W) wn A) (fun pre A => (∃ q, q ≠ [] ∧ q <+: paL p ∧ Jx q A) ∧ Kept (Xs Y w W) wn A) ?hI ?hIx ?h0
            (fun x => { tmps := #[Value.func (Fn.yield l) #[] #[], .pointer (some ⟨pB, 0, none⟩), .pointer (some ⟨W.heap.size, 0, none⟩), u3, u4, .int .u8 (c : Int), u64V x, undef, undef, .pointer (some ⟨pB, 1, none⟩), .agg (arrA 64 .u8 fun j => p (1 + j)), .int .i64 ((64 : Nat) : Int), .bool false, u13, u14, u15, u16, u17, u18, u19, u20, u21, .int .u8 (c : Int), .bool true, v24, v25, .agg (posA p), .int .u8 (c : Int), .func (.func 43) #[] #[.pointer (some ⟨b, 0, none⟩), .pointer (some ⟨b + 1, 0, none⟩)], u64V x, v30, v31, v32, v33, undef, undef, undef, undef, undef, undef, undef, undef, undef, undef, undef, undef, undef, undef, undef, undef, undef, undef, undef, undef, undef, undef, undef], defers := [] }) ?assign ?body ?done ?stop
          case hY => rintro i (g | g); { have := HYw.out _ g; have := HS.out; have := HSn.out; omega }; { have := HSn.out; omega }
          case hI => exact fun q A A' h k => ⟨HJ.out _ _ _ h.1 (k.mono fun i hi => by have := HSn.out; omega), h.2.since k (Nat.le_refl _)⟩
          case hIx => rintro _ A A' ⟨⟨q, h1, h2, h3⟩, h4⟩ k; exact ⟨⟨q, h1, h2, HJx.out _ _ _ h3 (k.mono fun i hi => by have := HSn.out; omega)⟩, h4.since k (Nat.le_refl _)⟩
          case h0 => exact ⟨by rw [List.append_nil]; exact Hjn.out, Kept.refl _ _⟩
          case assign =>
            intro l2 x A K' hK'
            gi_wp2
            exact hK'
          case body =>
            rintro l2 pre x A ⟨hj, hk⟩ hpre
            dsimp only
            have Hj2 := Lib.hid hj
            have Hk2 := Lib.hid hk
            have Hp2 := Lib.hid hpre
            have hy0 : A.cell? ⟨W.heap.size, 0, none⟩ = some (.func (.yield l) #[] #[]) := (Hin.out.kept hk HO.out).yl
            obtain ⟨fn, tmps, assign, body, hy, hR⟩ := HY.out (boL p 64 ++ coTo p c ++ pre) x A hj (by rw [List.append_assoc]; exact coTo_in p H2.out hpre)
            simp only [u64V] at hy
            have HRr := Lib.hid hR
            clear hj hk hpre hR
            simp only [u64V]
            gi_wp2_with fail
            refine ⟨fun h => (by cases h), ?_⟩
            have h2 : RoundIn (Fence.wide.inRound l2) (n - 1 - 1) Tryd.prog l fn tmps assign body A _ := round_any (F := Fence.wide) rfl HRr.out
            refine h2.mono ?_
            rintro e w5 ⟨bb, rfl, hk5, hj5⟩
            have HK5 := Lib.hid hk5
            cases bb
            · rw [if_neg (by simp)] at hj5
              have Hj5 := Lib.hid hj5
              clear hj5 hk5 h2
              gi_wp2_with fail
              exact ⟨HK5.out, ⟨boL p 64 ++ coTo p c ++ pre ++ [x], by simp, by rw [List.append_assoc]; exact coTo_in p H2.out Hp2.out, Hj5.out⟩, Hk2.out.trans HK5.out⟩
            · rw [if_pos rfl] at hj5
              have Hj5 := Lib.hid hj5
              clear hj5 hk5 h2
              gi_wp2_with fail
              exact ⟨HK5.out, by rw [← List.append_assoc]; exact Hj5.out, Hk2.out.trans HK5.out⟩
          case done =>
            rintro A ⟨hj, hk⟩ hd
            dsimp only
            have Hj2 := Lib.hid hj
            have Hk2 := Lib.hid hk
            have Hd := Lib.hid hd
            clear hj hk hd
            have c0 : (0 : Int) ≤ (c : Int) := by omega
            have c1 : (c : Int) ≤ 1 := by have := H2.out; omega
            gi_wp2_with fail
            refine HK.out _ _ ⟨c + 1, _, _, _, _, _, _, _, _, _, _, _, _, _, _, by have := H2.out; omega, rfl, Nat.lt_of_lt_of_le HSn.out Hk2.out.size, Hin.out.kept Hk2.out HO.out, by rw [show coTo p (c + 1) = coTo p c ++ coL p c from rfl, ← List.append_assoc]; exact Hj2.out,
              ⟨_, rfl, by have := HSn.out; omega, (Array.getElem?_eq_some_iff.1 Hd.out).1, Hd.out, ?_⟩⟩ ?_
            · refine (Hm.out.mono HBn.out.size).kept (HKn.out.trans Hk2.out) ?_
              rintro i h1 _ (g | g)
              · exact absurd (HYw.out _ g) (by have := HS.out; omega)
              · omega
            · simp [intOf]; have := H2.out; omega
          case stop =>
            rintro pre A _ _ ⟨⟨q, h1, h2, h3⟩, hk⟩ hd
            dsimp only
            have Hk2 := Lib.hid hk
            have Hd := Lib.hid hd
            have Hq := Lib.hid (And.intro h1 (And.intro h2 h3))
            clear hd hk h1 h2 h3
            gi_wp2_with fail
            refine marks_leave (lo := W.heap.size) (hi := A.heap.size) ⟨wn.heap.size, rfl, by have := HSn.out; omega, (Array.getElem?_eq_some_iff.1 Hd.out).1, Hd.out, ?_⟩ (fun w' hk => ⟨_, results_none rfl _ _ _, ⟨_, rfl⟩, .inr ⟨q, Hq.out.1, Hq.out.2.1, HJx.out _ _ _ Hq.out.2.2 hk⟩⟩)
            refine (Hm.out.mono HBn.out.size).kept (HKn.out.trans Hk2.out) ?_
            rintro i h1 _ (g | g)
            · exact absurd (HYw.out _ g) (by have := HS.out; omega)
            · omega
        · obtain rfl : c = 2 := by omega
          clear Hs0
          have hle : decide (((2 : Nat) : Int) ≤ 1) = false := rfl
          gi_wp2_with fail
          refine wpIn_wide.2 (wp_region_noPanic ?_)
          obtain ⟨m, hm⟩ : ∃ m, (p 65).toNat = m := ⟨_, rfl⟩
          have HN65 := Lib.hid (show p 65 = (m : Int) by have := HP.out.prom.1; omega)
          have HMl := Lib.hid (show m < W64 by rw [← hm]; exact HP.out.prom.2)
          obtain ⟨n0, hn0⟩ : ∃ n0, turnN (p 78) = n0 := ⟨_, rfl⟩
          obtain ⟨n1, hn1'⟩ : ∃ n1, psgN (p 83) = n1 := ⟨_, rfl⟩
          obtain ⟨n2, hn2⟩ : ∃ n2, promN m = n2 := ⟨_, rfl⟩
          obtain ⟨n3, hn3⟩ : ∃ n3, ptN 8 (p 0) = n3 := ⟨_, rfl⟩
          have HV := Lib.hid (show ∀ k, lastV p k = vec4 n0 n1 n2 n3 k from fun k => by unfold lastV; rw [hm, hn0, hn1', hn2, hn3])
          have HN0 := Lib.hid hn0
          have HN1 := Lib.hid hn1'
          have HN2 := Lib.hid hn2
          have HN3 := Lib.hid hn3
          clear hn0 hn1' hn2 hn3
          clear hm
          have HW83 := Lib.hid (wrap_i64 (x := p 83) (by have := HP.out.pass; omega) (by have := HP.out.pass; omega))
          have HW0 := Lib.hid (wrap_i64 (x := p 0) (by have := HP.out.var; omega) (by have := HP.out.var; omega))
          have HI := Hi
          have HB := Lib.hid (Below.refl wr.heap.size wr)
          refine late_begin 16 (by kernel_rfl) ?_
          refine late_take 0 (by kernel_rfl) (by kernel_rfl) (by kernel_rfl) (by kernel_rfl) (by kernel_rfl) (fun _ _ d _ _ h => by cases d <;> exact h) (fun o ho => ?_)
          simp only [List.getElem?_toArray, List.getElem?_cons_zero, List.getElem?_cons_succ, Option.some.injEq] at ho; subst ho
          apply Exists.intro
          refine ⟨Or.inl ⟨by kernel_rfl, fun w' hl => Or.inl ?_⟩, ?_⟩
          · (go_simp; try with_reducible rfl)
          simp only [Act.put, List.setIfInBounds_toArray, List.set_cons_zero, List.set_cons_succ]
          refine late_take 1 (by kernel_rfl) (by kernel_rfl) (by kernel_rfl) (by kernel_rfl) (by kernel_rfl) (fun _ _ d _ _ h => by cases d <;> exact h) (fun o ho => ?_)
          simp only [List.getElem?_toArray, List.getElem?_cons_zero, List.getElem?_cons_succ, Option.some.injEq] at ho; subst ho
          refine ⟨.int .u8 (p 78), Or.inl ⟨by kernel_rfl, fun w' hl => Or.inl (run_get 5 _ rfl pB 78 rfl Tryd.underlying5 rfl (.int .u8 (p 78)) (by rw [(HI.out.later hl).row.cell 78 (by omega), k_u8 (by omega)]))⟩, ?_⟩
          simp only [Act.put, List.setIfInBounds_toArray, List.set_cons_zero, List.set_cons_succ]
          refine late_take 3 (by kernel_rfl) (by kernel_rfl) (by kernel_rfl) (by kernel_rfl) (by kernel_rfl) (fun _ _ d _ _ h => by cases d <;> exact h) (fun o ho => ?_)
          simp only [List.getElem?_toArray, List.getElem?_cons_zero, List.getElem?_cons_succ, Option.some.injEq] at ho; subst ho
          apply Exists.intro
          refine ⟨Or.inl ⟨by kernel_rfl, fun w' hl => Or.inl ?_⟩, ?_⟩
          · (go_simp; try with_reducible rfl)
          simp only [Act.put, List.setIfInBounds_toArray, List.set_cons_zero, List.set_cons_succ]
          refine late_take 4 (by kernel_rfl) (by kernel_rfl) (by kernel_rfl) (by kernel_rfl) (by kernel_rfl) (fun _ _ d _ _ h => by cases d <;> exact h) (fun o ho => ?_)
          simp only [List.getElem?_toArray, List.getElem?_cons_zero, List.getElem?_cons_succ, Option.some.injEq] at ho; subst ho
          refine ⟨.int .i8 (p 83), Or.inl ⟨by kernel_rfl, fun w' hl => Or.inl (run_get 36 _ rfl pB 83 rfl Tryd.underlying36 rfl (.int .i8 (p 83)) (by rw [(HI.out.later hl).row.cell 83 (by omega), k_i8 (by omega) (by omega)]))⟩, ?_⟩
          simp only [Act.put, List.setIfInBounds_toArray, List.set_cons_zero, List.set_cons_succ]
          refine late_take 5 (by kernel_rfl) (by kernel_rfl) (by kernel_rfl) (by kernel_rfl) (by kernel_rfl) (fun _ _ d _ _ h => by cases d <;> exact h) (fun o ho => ?_)
          simp only [List.getElem?_toArray, List.getElem?_cons_zero, List.getElem?_cons_succ, Option.some.injEq] at ho; subst ho
          refine ⟨.int .i64 (p 83), Or.inl ⟨by kernel_rfl, fun w' hl => Or.inl ?_⟩, ?_⟩
          · (go_simp; rw [HW83.out])
          simp only [Act.put, List.setIfInBounds_toArray, List.set_cons_zero, List.set_cons_succ]
          refine late_take 7 (by kernel_rfl) (by kernel_rfl) (by kernel_rfl) (by kernel_rfl) (by kernel_rfl) (fun _ _ d _ _ h => by cases d <;> exact h) (fun o ho => ?_)
          simp only [List.getElem?_toArray, List.getElem?_cons_zero, List.getElem?_cons_succ, Option.some.injEq] at ho; subst ho
          apply Exists.intro
          refine ⟨Or.inl ⟨by kernel_rfl, fun w' hl => Or.inl ?_⟩, ?_⟩
          · (go_simp; try with_reducible rfl)
          simp only [Act.put, List.setIfInBounds_toArray, List.set_cons_zero, List.set_cons_succ]
          refine late_take 8 (by kernel_rfl) (by kernel_rfl) (by kernel_rfl) (by kernel_rfl) (by kernel_rfl) (fun _ _ d _ _ h => by cases d <;> exact h) (fun o ho => ?_)
          simp only [List.getElem?_toArray, List.getElem?_cons_zero, List.getElem?_cons_succ, Option.some.injEq] at ho; subst ho
          refine ⟨.int .u64 (m : Int), Or.inl ⟨by kernel_rfl, fun w' hl => Or.inl (run_get 22 _ rfl pB 65 rfl Tryd.underlying22 rfl (.int .u64 (m : Int)) (by rw [(HI.out.later hl).row.cell 65 (by omega), show kAt 65 = .u64 from rfl, HN65.out]))⟩, ?_⟩
          simp only [Act.put, List.setIfInBounds_toArray, List.set_cons_zero, List.set_cons_succ]
          refine late_take 10 (by kernel_rfl) (by kernel_rfl) (by kernel_rfl) (by kernel_rfl) (by kernel_rfl) (fun _ _ d _ _ h => by cases d <;> exact h) (fun o ho => ?_)
          simp only [List.getElem?_toArray, List.getElem?_cons_zero, List.getElem?_cons_succ, Option.some.injEq] at ho; subst ho
          apply Exists.intro
          refine ⟨Or.inl ⟨by kernel_rfl, fun w' hl => Or.inl ?_⟩, ?_⟩
          · (go_simp; try with_reducible rfl)
          simp only [Act.put, List.setIfInBounds_toArray, List.set_cons_zero, List.set_cons_succ]
          refine late_take 11 (by kernel_rfl) (by kernel_rfl) (by kernel_rfl) (by kernel_rfl) (by kernel_rfl) (fun _ _ d _ _ h => by cases d <;> exact h) (fun o ho => ?_)
          simp only [List.getElem?_toArray, List.getElem?_cons_zero, List.getElem?_cons_succ, Option.some.injEq] at ho; subst ho
          refine ⟨.int .u8 (p 0), Or.inl ⟨by kernel_rfl, fun w' hl => Or.inl (run_get 5 _ rfl pB 0 rfl Tryd.underlying5 rfl (.int .u8 (p 0)) (by rw [(HI.out.later hl).row.cell 0 (by omega), k_u8 (by omega)]))⟩, ?_⟩
          simp only [Act.put, List.setIfInBounds_toArray, List.set_cons_zero, List.set_cons_succ]
          refine late_take 12 (by kernel_rfl) (by kernel_rfl) (by kernel_rfl) (by kernel_rfl) (by kernel_rfl) (fun _ _ d _ _ h => by cases d <;> exact h) (fun o ho => ?_)
          simp only [List.getElem?_toArray, List.getElem?_cons_zero, List.getElem?_cons_succ, Option.some.injEq] at ho; subst ho
          refine ⟨.int .i64 (p 0), Or.inl ⟨by kernel_rfl, fun w' hl => Or.inl ?_⟩, ?_⟩
          · (go_simp; rw [HW0.out])
          simp only [Act.put, List.setIfInBounds_toArray, List.set_cons_zero, List.set_cons_succ]
          refine late_take 15 (by kernel_rfl) (by kernel_rfl) (by kernel_rfl) (by kernel_rfl) (by kernel_rfl) (fun _ _ d _ _ h => by cases d <;> exact h) (fun o ho => ?_)
          simp only [List.getElem?_toArray, List.getElem?_cons_zero, List.getElem?_cons_succ, Option.some.injEq] at ho; subst ho
          apply Exists.intro
          refine ⟨Or.inl ⟨by kernel_rfl, fun w' hl => Or.inl ?_⟩, ?_⟩
          · (go_simp; try with_reducible rfl)
          simp only [Act.put, List.setIfInBounds_toArray, List.set_cons_zero, List.set_cons_succ]
          refine late_one 2 (by kernel_rfl) (by kernel_rfl) (fun o ho => ?_)
          simp only [List.getElem?_toArray, List.getElem?_cons_zero, List.getElem?_cons_succ, Option.some.injEq] at ho; subst ho
          refine ⟨by kernel_rfl, fun wn hl K hK => ?_⟩
          have HI := Lib.hid (HI.out.later hl); have HB := Lib.hid (below_on HB.out hl); clear hl
          refine wp_enter _ _ (by go_simp; exact ⟨rfl, rfl⟩) ?_
          refine (turn_any (p 78) _ HI.out.tab).mono ?_; rintro e wm ⟨rfl, hb⟩; refine ⟨_, rfl, ?_⟩; rw [HN0.out]
          refine hK.out _ _ hb ?_
          have HI := Lib.hid (HI.out.later hb); have HB := Lib.hid (below_on HB.out hb); clear hb
          clear hK K
          simp only [Act.put, List.setIfInBounds_toArray, List.set_cons_zero, List.set_cons_succ]
          refine late_one 6 (by kernel_rfl) (by kernel_rfl) (fun o ho => ?_)
          simp only [List.getElem?_toArray, List.getElem?_cons_zero, List.getElem?_cons_succ, Option.some.injEq] at ho; subst ho
          refine ⟨by kernel_rfl, fun wn hl K hK => ?_⟩
          have HI := Lib.hid (HI.out.later hl); have HB := Lib.hid (below_on HB.out hl); clear hl
          refine wp_enter _ _ (by go_simp; exact ⟨rfl, rfl⟩) ?_
          refine (passing_any (p 83) _ HI.out.tab).mono ?_; rintro e wm ⟨rfl, hb⟩; refine ⟨_, rfl, ?_⟩; rw [HN1.out]
          refine hK.out _ _ hb ?_
          have HI := Lib.hid (HI.out.later hb); have HB := Lib.hid (below_on HB.out hb); clear hb
          clear hK K
          simp only [Act.put, List.setIfInBounds_toArray, List.set_cons_zero, List.set_cons_succ]
          refine late_one 9 (by kernel_rfl) (by kernel_rfl) (fun o ho => ?_)
          simp only [List.getElem?_toArray, List.getElem?_cons_zero, List.getElem?_cons_succ, Option.some.injEq] at ho; subst ho
          refine ⟨by kernel_rfl, fun wn hl K hK => ?_⟩
          have HI := Lib.hid (HI.out.later hl); have HB := Lib.hid (below_on HB.out hl); clear hl
          refine wp_enter _ _ (by go_simp; exact ⟨rfl, rfl⟩) ?_
          refine (promoted_any m _ HMl.out HI.out.tab).mono ?_; rintro e wm ⟨rfl, hb⟩; refine ⟨_, rfl, ?_⟩; rw [HN2.out]
          refine hK.out _ _ hb ?_
          have HI := Lib.hid (HI.out.later hb); have HB := Lib.hid (below_on HB.out hb); clear hb
          clear hK K
          simp only [Act.put, List.setIfInBounds_toArray, List.set_cons_zero, List.set_cons_succ]
          refine late_one 13 (by kernel_rfl) (by kernel_rfl) (fun o ho => ?_)
          simp only [List.getElem?_toArray, List.getElem?_cons_zero, List.getElem?_cons_succ, Option.some.injEq] at ho; subst ho
          refine ⟨by kernel_rfl, fun wn hl K hK => ?_⟩
          have HI := Lib.hid (HI.out.later hl); have HB := Lib.hid (below_on HB.out hl); clear hl
          refine wp_enter _ _ (by go_simp; exact ⟨rfl, rfl⟩) ?_
          refine (part_any 8 (p 0) _ HI.out.tab).mono ?_; rintro e wm ⟨rfl, hb⟩; refine ⟨_, rfl, ?_⟩; rw [HN3.out]
          refine hK.out _ _ hb ?_
          have HI := Lib.hid (HI.out.later hb); have HB := Lib.hid (below_on HB.out hb); clear hb
          clear hK K
          simp only [Act.put, List.setIfInBounds_toArray, List.set_cons_zero, List.set_cons_succ]
          refine late_take 14 (by kernel_rfl) (by kernel_rfl) (by kernel_rfl) (by kernel_rfl) (by kernel_rfl) (fun _ _ d _ _ h => by cases d <;> exact h) (fun o ho => ?_)
          simp only [List.getElem?_toArray, List.getElem?_cons_zero, List.getElem?_cons_succ, Option.some.injEq] at ho; subst ho
          refine ⟨.agg (arrA 4 .u64 fun k => ((vec4 n0 n1 n2 n3 k : Nat) : Int)), Or.inl ⟨by kernel_rfl, fun w' hl => Or.inl (run_bld 69 _ rfl _ (by kernel_rfl))⟩, ?_⟩
          simp only [Act.put, List.setIfInBounds_toArray, List.set_cons_zero, List.set_cons_succ]
          refine late_end (by kernel_rfl) (fun wn hl => ?_)
          have HI := Lib.hid (HI.out.later hl); have HB := Lib.hid (below_on HB.out hl); clear hl
          refine NoPanic.normal ?_
          have Hj2 := Lib.hid (HJ.out _ _ _ Hj.out ((Kept.of_below HB.out).mono fun i hi => by have := Hs.out; omega))
          have Hs2 := Lib.hid (show W.heap.size < wn.heap.size by have := Hs.out; have := HB.out.size; omega)
          have Hm2 := Lib.hid ((Hm.out.kept (Kept.of_call (fun _ => False) HB.out) (fun _ _ _ => id)).mono HB.out.size)
          clear HN0 HN1 HN2 HN3 HN65 HMl HW83 HW0 Hj Hs Hm HB Hi
          gi_wp2_with fail
          gi_loopw [49] (fun i wq => ∃ k : Nat, k ≤ 4 ∧ i = .int .i64 (k : Int) ∧ W.heap.size < wq.heap.size ∧ PaIn p pB W.heap.size l wq ∧ J (boL p 64 ++ coTo p 2 ++ laL p k) wq ∧ Marks W.heap.size wq.heap.size ds wq) (fun i _ => 4 - (intOf i).toNat)
          case atStart => exact ⟨0, by omega, rfl, Hs2.out, HI.out, by rw [show laL p 0 = [] from rfl, List.append_nil]; exact Hj2.out, Hm2.out⟩
          case round =>
            clear HI Hj2 Hs2 Hm2
            obtain ⟨k, hk, rfl, hs, hi, hj, hm⟩ := hrel
            have Hs := Lib.hid hs
            have Hi := Lib.hid hi
            have Hj := Lib.hid hj
            have Hm := Lib.hid hm
            clear hs hi hj hm
            by_cases h4 : k < 4
            · have hlk : (k : Int) < 4 := by omega
              have hy0 : wr.cell? ⟨W.heap.size, 0, none⟩ = some (.func (.yield l) #[] #[]) := Hi.out.yl
              obtain ⟨fn, tmps, assign, body, hy, hR⟩ := HY.out (boL p 64 ++ coTo p 2 ++ laL p k) (lastV p k) wr Hj.out (laL_in p h4)
              simp only [u64V] at hy
              have hv := HV.out k
              rw [hv] at hy
              have hv' := Lib.hid hv
              have HRr := Lib.hid (show RoundIn Fence.wide (n - 1) Tryd.prog l fn tmps assign body wr _ from ⟨trivial, fun c cs _ => hR.2 c cs (room_wide _)⟩)
              clear hR hv
              gi_wp2_with (refine stepI rfl (run_pick 69 22 _ _ rfl 4 .u64 (fun k => ((vec4 n0 n1 n2 n3 k : Nat) : Int)) rfl k rfl h4 Tryd.underlying69 Tryd.underlying22 sizeU64a) ?_)
              refine ⟨fun h => (by cases h), ?_⟩
              refine HRr.out.mono ?_
              rintro e W3 ⟨bb, rfl, hk3, hJ3⟩
              have HK3 := Lib.hid hk3
              cases bb
              · rw [if_neg (by simp)] at hJ3
                have Hj3 := Lib.hid hJ3
                clear hJ3 hk3 Hj
                gi_wp2_with fail
                refine marks_leave (lo := W.heap.size) (hi := wr.heap.size) ?_ (fun w' hk => ⟨_, results_none rfl _ _ _, ⟨_, rfl⟩, .inr ⟨boL p 64 ++ coTo p 2 ++ laL p k ++ [lastV p k], by simp, laL_in p h4, HJx.out _ _ _ Hj3.out hk⟩⟩)
                refine Hm.out.kept HK3.out ?_
                rintro i h1 _ (g | g)
                · exact absurd (HYw.out _ g) (by have := HS.out; omega)
                · omega
              · rw [if_pos rfl] at hJ3
                have Hj3 := Lib.hid hJ3
                have Hi3 := Lib.hid (Hi.out.kept HK3.out HO.out)
                have Hs3 := Lib.hid (Nat.lt_of_lt_of_le Hs.out HK3.out.size)
                have Hm3 := Lib.hid (show Marks W.heap.size W3.heap.size ds W3 from (Hm.out.kept HK3.out (by
                  rintro i h1 _ (g | g)
                  · exact absurd (HYw.out _ g) (by have := HS.out; omega)
                  · omega)).mono HK3.out.size)
                clear hJ3 hk3 Hj
                gi_wp2_with fail
                go_roundw
                case rel => exact ⟨k + 1, by omega, by go_num, Hs3.out, Hi3.out, by rw [show laL p (k + 1) = laL p k ++ [lastV p k] from rfl, ← List.append_assoc]; exact Hj3.out, Hm3.out⟩
                case measure => simp [intOf]; omega
            · obtain rfl : k = 4 := by omega
              gi_wp2_with fail
              exact marks_leave Hm.out (fun w' hk => ⟨_, results_none rfl _ _ _, ⟨_, rfl⟩, .inl (HJ.out _ _ _ Hj.out hk)⟩)
theorem key_any (p : Nat → Int) (w : World) (hp : FitP p) (hT : TabMix w) : Calls Tryd.prog 26 #[.agg (posA p)] w (U64L (keyN p) w) := by
  have HP := Lib.hid hp
  have HT := Lib.hid hT
  clear hp hT
  go_enter Tryd.func26, Tryd.ntmps26
  go_wp2_with (first
    | (refine step_box rfl _ rfl p rfl ?_; intro b1 w1 N R; have HB := Lib.hid N.below; have HR := Lib.hid R; clear N R)
    | (refine step_load rfl _ rfl b1 rfl p ?_ ?_; exact HR.out))
  refine (parts_box p _).mono ?_; rintro e w2 ⟨b2, hb0, rfl, hb, hrow⟩
  have hs2 := hb.size
  have HB2 := Lib.hid (below_on HB.out hb)
  have HR2 := Lib.hid hrow
  have HT2 := Lib.hid (HT.out.on HB2.out)
  have HL := Lib.hid hrow.lt
  clear hb hrow hb0 hs2
  go_wp2_with fail
  refine (xored_any _ _ (paL p) w2 (enters_of Tryd.func40 (by kernel_rfl) rfl) (paL_lt p) (fun w3 h3 hl => parts_seq 6 b2 (by omega) p HP.out _ w3 (HR2.out.later h3) (HT2.out.on h3) (fun e => by have := HL.out; omega) (fun e => by have := HT2.out.lt; omega) (fun k e => by omega))).mono ?_
  rintro e w4 ⟨rfl, hb4⟩
  have HB4 := Lib.hid (below_on HB2.out hb4)
  clear hb4
  go_wp2_with fail
  go_ret
  exact ⟨rfl, HB4.out⟩
end Go.Proofs.YtboopdmgphhemaaDoor
