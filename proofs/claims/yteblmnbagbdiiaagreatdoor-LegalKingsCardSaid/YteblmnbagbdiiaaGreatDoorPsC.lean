/-
 Layer 13: the moves of one piece, told one by one.
-/
import Derived.Test.YteblmnbagbdiiaaGreatDoorPsB
import Derived.Test.YteblmnbagbdiiaaGreatDoorAfBaseK
import Derived.Test.YteblmnbagbdiiaaGreatDoorEach
import Derived.Test.YteblmnbagbdiiaaGreatDoorAtBase
set_option maxRecDepth 100000
set_option maxHeartbeats 4000000
namespace Go.Proofs.YteblmnbagbdiiaaGreatDoor
open Go.RowKit Go.Shelf
set_option linter.unusedVariables false
set_option linter.unusedSimpArgs false
attribute [local go_sem] Oper.semAt_some

theorem stepPs {n : Nat} {P : Program} {ops : Array Oper} {Q : Exit → Act → World → Prop} {rest : List Oper} {o : Oper} {a : Act} {w w' : World} {v : Value} (hg : o.guard = none) (hr : (execOp a.eval o).run P w = .ok (.value v) w')
  (h : wpListIn Fence.wide n P ops Q rest (a.put o.dst v) w') : wpListIn Fence.wide n P ops Q (o :: rest) a w :=
 wpListIn_plain hg fun K hK => ⟨fun _ _ => trivial, by
  show o.uponIn Fence.wide n P a K Q ((execOp a.eval o).run P w)
  rw [hr]; exact hK _ _ h⟩
theorem ps_off {Y : Nat → Prop} {w W : World} {b : Nat} (hY : ¬ Y b) (hb : b < w.heap.size) : ¬ Xs Y w W b := by rintro (h | h); { exact hY h }; { omega }
theorem ps_range {w w' : World} {X : Nat → Prop} {b o : Nat} {cs : List Value} (h : w.rangeAt b o cs) (k : Kept X w w') (hx : ¬ X b) : w'.rangeAt b o cs := fun j v hv => k.cell (h j v hv) hx
theorem ps_varlt {w : World} (h : TabVar w) : 0 < w.heap.size := cell_block (h 0 (by decide) 1 _ rfl)
structure PsT (w : World) : Prop where
 var : TabVar w
 db : TabDb w
 lead : TabLead w
def PsOff (X : Nat → Prop) : Prop := ¬ X 0 ∧ ¬ X 2 ∧ ¬ X 4
theorem PsT.kept {w w' : World} {X : Nat → Prop} (h : PsT w) (k : Kept X w w') (ho : PsOff X) : PsT w' :=
 ⟨fun v hv => ps_range (h.var v hv) k ho.1, fun j hj => k.cell (h.db j hj) ho.2.1, fun j hj => k.cell (h.lead j hj) ho.2.2⟩
theorem PsT.on {w w' : World} (h : PsT w) (k : Below w.heap.size w w') : PsT w' := h.kept (Kept.of_call (fun _ => False) k) ⟨id, id, id⟩
theorem PsT.later {w w' : World} (h : PsT w) (k : Below w.heap.size w w') : PsT w' := h.on k
theorem PsT.off {w W : World} {Y : Nat → Prop} (h : PsT w) (ho : PsOff Y) : PsOff (Xs Y w W) := ⟨ps_off ho.1 (ps_varlt h.var), ps_off ho.2.1 h.db.lt, ps_off ho.2.2 h.lead.lt⟩
structure MvIn (p : Nat → Int) (o t : Nat) (s : Int) (gB fB : Nat) (w : World) : Prop where
 row : GR w gB p o t
 frm : PsC w fB (.int .i64 s)
 tab : PsT w
def MvOff (gB fB : Nat) (X : Nat → Prop) : Prop := ¬ X gB ∧ ¬ X fB ∧ PsOff X
section
variable {p : Nat → Int} {o t : Nat} {s : Int} {gB fB : Nat} {w w' W : World} {X Y : Nat → Prop}
theorem MvIn.kept (h : MvIn p o t s gB fB w) (k : Kept X w w') (ho : MvOff gB fB X) : MvIn p o t s gB fB w' :=
 ⟨(k.same gB h.row.lt ho.1).trans h.row, h.frm.kept k ho.2.1, h.tab.kept k ho.2.2⟩
theorem MvIn.on (h : MvIn p o t s gB fB w) (k : Below w.heap.size w w') : MvIn p o t s gB fB w' := h.kept (Kept.of_call (fun _ => False) k) ⟨id, id, id, id, id⟩
theorem MvIn.off (h : MvIn p o t s gB fB w) (ho : MvOff gB fB Y) : MvOff gB fB (Xs Y w W) := ⟨ps_off ho.1 h.row.lt, ps_off ho.2.1 (cell_block h.frm), h.tab.off ho.2.2⟩
end
def MvPost (p : Nat → Int) (o t : Nat) (s : Int) (w : World) (e : Ending) (w' : World) : Prop :=
 ∃ b f, w.heap.size ≤ b ∧ w.heap.size ≤ f ∧ e = .returned (.func (.func 176) #[] #[.pointer (some ⟨b, 0, none⟩), .pointer (some ⟨f, 0, none⟩)]) ∧ Below w.heap.size w w' ∧ GR w' b p o t ∧ PsC w' f (.int .i64 s)
theorem ps_moves (p : Nat → Int) (o t : Nat) (s : Int) (w : World) : Calls Tryz.prog 94 #[.agg (grA p o t), .int .i64 s] w (MvPost p o t s w) := by
 go_enter Tryz.func94, Tryz.ntmps94
 go_wp2_with (refine gr_box rfl _ rfl p o t rfl ?_; intro b1 w1 N R; have HN := H_ N; have HR := H_ R; clear N R)
 go_ret
 have h2 := HN.out.below.size
 exact ⟨b1, w1.heap.size, by rw [HN.out.at_]; exact Nat.le_refl _, by omega, rfl, below_on HN.out.below (box_below _ _), HR.out.later (box_below _ _), by show World.cell? _ _ = _; rw [World.cell?_alloc_new]; rfl⟩
theorem i8_sq {b : Nat} (h : b < 64) : IntKind.i8.wrap (b : Int) = (b : Int) := by
 have key : ∀ b : Nat, b < 64 → IntKind.i8.wrap (b : Int) = (b : Int) := by decide +kernel
 exact key b h
theorem i8_in {s : Int} (h : -128 ≤ s ∧ s ≤ 127) : IntKind.i8.wrap s = s := by
 have key : ∀ n : Nat, n < 256 → IntKind.i8.wrap ((n : Int) - 128) = (n : Int) - 128 := by decide +kernel
 obtain ⟨n, hn⟩ : ∃ n : Nat, s = (n : Int) - 128 := ⟨(s + 128).toNat, by omega⟩
 rw [hn]; exact key n (by omega)
theorem bec_len (p : Nat → Int) (s : Int) (b : Nat) : (becL p s b).length ≤ 64 := by
 unfold becL prL upN
 cases (knP p s == 1 && (((b / 8 : Nat) : Int) == homZ (oth (p 78))))
 ·simp
 ·have := hi_cases (p 0).toNat
  simp; omega
theorem ps_meas {n j : Nat} (h : j < n) (hw : wrap64 ((j : Int) + 1) = ((j + 1 : Nat) : Int)) : n - (intOf (.int .i64 (wrap64 ((j : Int) + 1)))).toNat < n - (intOf (.int .i64 (j : Int))).toNat := by
 rw [hw]; simp [intOf]; omega
theorem mvs_seq (n gB fB : Nat) (hn : 4 ≤ n) (p : Nat → Int) (hp : PsR p) (o t : Nat) (ho : o < W64) (ht : t < W64) (s : Int) (hs : -128 ≤ s ∧ s ≤ 127) (Y : Nat → Prop) (w : World) (hI : MvIn p o t s gB fB w) (hO : MvOff gB fB Y) (hYw : ∀ k, Y k → k < w.heap.size) :
  SeqC pmV n 176 #[.pointer (some ⟨gB, 0, none⟩), .pointer (some ⟨fB, 0, none⟩)] Y (mvsL p o t s) w := by
 intro l J Jx W hW hJ hJx hyd h0
 have HO := H_ (hI.off (W := W) hO)
 have HI := H_ (hI.on hW)
 have HXB := H_ (show ∀ i, W.heap.size ≤ i → ¬ Xs Y w W i by rintro i hi (g | g); { have := hYw _ g; have := hW.size; omega }; { omega })
 have HY := H_ hyd
 have HP := H_ hp
 have Ho := H_ ho
 have Ht := H_ ht
 have HJ := H_ hJ
 have HJx := H_ hJx
 have H0 := H_ h0
 have Hws := H_ (i8_in hs)
 obtain ⟨L, HLl⟩ : ∃ L, Hid (listN (golN p o t s) = L) := ⟨_, H_ rfl⟩
 have HL64 := H_ (show L.length ≤ 64 by rw [← HLl.out]; exact listN_len _)
 have HLb := H_ (show ∀ (k x : Nat), L[k]? = some x → x < 64 by intro k x hk; rw [← HLl.out] at hk; exact (mem_listN.1 (List.mem_of_getElem? hk)).1)
 have HM := H_ (show mvsL p o t s = L.flatMap (mvO p s) by unfold mvsL; rw [HLl.out])
 clear hI hO hYw hyd hp h0 hW hJ hJx ho ht hs
 show CallsIn Fence.wide n Tryz.prog _ #[.func (.yield l) #[] #[], .pointer (some ⟨gB, 0, none⟩), .pointer (some ⟨fB, 0, none⟩)] W _
 refine callsIn_of_wp Tryz.func176 rfl trivial ?_ rfl
 simp only [Tryz.ntmps176, List.size_toArray, List.length_cons, List.length_nil, Nat.reduceAdd, Nat.reduceSub, Array.replicate_succ, Array.replicate_zero, List.push_toArray, List.append_toArray, List.nil_append, List.cons_append]
 have h1 : 1 ≤ n := by omega
 have HB := H_ (Below.refl W.heap.size W)
 gi_wp2_with (first
  | (refine stepPs rfl (run_gr _ rfl gB rfl p o t HI.out.row) ?_)
  | (refine stepPs rfl (run_get 3 _ rfl fB 0 rfl Tryz.underlying3 rfl (.int .i64 s) HI.out.frm) ?_)
  | (refine ⟨trivial, ?_⟩; gi_at_call 177; refine (callsIn_wide.2 (ps_bec p o t s _ HP.out HI.out.tab.var)).mono ?_; rintro e W1 ⟨bv, rfl, hbec, hb1⟩; have HBe := H_ hbec; have HI := H_ (HI.out.on hb1); have HB := H_ (below_on HB.out hb1); clear hb1 hbec)
  | (refine ⟨trivial, ?_⟩; gi_at_call 178; refine (callsIn_wide.2 (ps_gol p o t s _ HP.out Ho.out Ht.out HI.out.tab.db HI.out.tab.lead)).mono ?_; rintro e W2 ⟨rfl, hb2⟩; have HBe := H_ (HBe.out.kept (Kept.of_call (fun _ => False) hb2) (fun _ _ => id)); have HI := H_ (HI.out.on hb2); have HB := H_ (below_on HB.out hb2); clear hb2)
  | (refine ⟨trivial, ?_⟩; gi_at_call 84; refine (callsIn_wide.2 (list_any _ _ (golN_lt _ _ _ _) HI.out.tab.db)).mono ?_; rintro e W3 ⟨v3, rfl, hl3, hb3⟩; rw [HLl.out] at hl3; obtain ⟨q3, cap3, rfl, hc3⟩ := listed_open hl3; have HS3 := H_ (HB.out.size); have HBe := H_ (HBe.out.kept (Kept.of_call (fun _ => False) hb3) (fun _ _ => id)); have HI := H_ (HI.out.on hb3); have HB := H_ (below_on HB.out hb3); have HC3 := H_ hc3; clear hl3 hc3 hb3))
 have HJ3 := H_ (HJ.out _ _ _ _ H0.out ((Kept.of_below HB.out).mono fun k hk => ⟨hk, id⟩))
 gi_loopw [17] (fun i wr => ∃ (k : Nat) (C : Nat → Prop), k ≤ L.length ∧ i = .int .i64 (k : Int) ∧ Kept (Xs Y w W) W3 wr ∧ (∀ i, C i → W3.heap.size ≤ i ∧ i < wr.heap.size) ∧ J ((L.take k).flatMap (mvO p s)) C wr) (fun i _ => L.length - (intOf i).toNat)
 case atStart => exact ⟨0, fun _ => False, by omega, rfl, Kept.refl _ _, fun _ h => h.elim, by simpa using HJ3.out⟩
 case round =>
  obtain ⟨k, C, hk, rfl, hkk, hcb, hj⟩ := hrel
  have Hk := H_ hkk
  have Hj := H_ hj
  have HCb := H_ hcb
  clear hkk hj hcb
  by_cases hlt : k < L.length
  ·obtain ⟨x, hx⟩ : ∃ x, L[k]? = some x := ⟨_, List.getElem?_eq_getElem hlt⟩
   have HX := H_ hx
   have Hlt := H_ hlt
   have hk1 : wrap64 ((k : Int) + 1) = ((k + 1 : Nat) : Int) := by have := HL64.out; rw [IntWalk.wrap64_in _ ⟨by omega, by omega⟩]; omega
   obtain ⟨g3, rfl, hg3, _, hc⟩ := HC3.out (by omega)
   have hcell := Hk.out.cell (hc k x hx).1 (HXB.out g3 (Nat.le_trans HS3.out hg3))
   have Hx64 := H_ (HLb.out k x hx)
   obtain ⟨F, lb, rfl, he, hcall⟩ := HBe.out
   obtain ⟨v5, hl5, hc5⟩ := hcall x Hx64.out
   have Hcl := H_ (hc5 (Xs Y w W) wr Hk.out HXB.out)
   obtain ⟨a5, cap5, rfl, hk5⟩ := hl5
   clear hc5
   clear hx hc hcall
   gi_wp2_with fail
   refine ⟨trivial, (callsIn_wide.2 Hcl.out).mono ?_⟩
   rintro e w4 ⟨rfl, rfl⟩
   have HK5 := H_ hk5
   have HE64 := H_ (bec_len p s x)
   have hwx := i8_sq Hx64.out
   have hws := Hws.out
   obtain ⟨E, HE⟩ : ∃ E, Hid (becL p s x = E) := ⟨_, H_ rfl⟩
   rw [HE.out] at HK5 HE64 ⊢
   clear hk5 hcell Hcl
   gi_wp2_with fail
   gi_loopw [25] (fun i wq => ∃ (j : Nat) (C : Nat → Prop), j ≤ E.length ∧ i = .int .i64 (j : Int) ∧ Kept (Xs Y w W) W3 wq ∧ (∀ i, C i → W3.heap.size ≤ i ∧ i < wq.heap.size) ∧ J ((L.take k).flatMap (mvO p s) ++ (mvO p s x).take j) C wq) (fun i _ => E.length - (intOf i).toNat)
   case atStart => exact ⟨0, _, by omega, rfl, Hk.out, HCb.out, by rw [List.take_zero, List.append_nil]; exact Hj.out⟩
   case round =>
    obtain ⟨j, C, hjl, rfl, hkq, hcq, hjq⟩ := hrel
    have Hkq := H_ hkq
    have HCq := H_ hcq
    have Hjq := H_ hjq
    clear hkq hcq hjq
    by_cases hje : j < E.length
    ·obtain ⟨kd, hkd⟩ : ∃ kd, E[j]? = some kd := ⟨_, List.getElem?_eq_getElem hje⟩
     have HKd := H_ hkd
     have Hje := H_ hje
     have hj1 : wrap64 ((j : Int) + 1) = ((j + 1 : Nat) : Int) := by have := HE64.out; rw [IntWalk.wrap64_in _ ⟨by omega, by omega⟩]; omega
     obtain ⟨g5, hg5, rfl, hc5⟩ := HK5.out j kd hkd
     have hcell := Hkq.out.cell hc5 (HXB.out g5 hg5)
     have HIq := H_ (HI.out.kept Hkq.out HO.out)
     have HTk := H_ (mvO_take p s x (by rw [HE.out]; exact hkd))
     have HPre := H_ (show ((L.take k).flatMap (mvO p s) ++ (mvO p s x).take j) ++ [(⟨s, x, kd⟩ : Pm)] <+: mvsL p o t s by
      rw [HM.out, List.append_assoc, ← HTk.out]; exact fm_pre HX.out (List.take_prefix _ _))
     obtain ⟨fn, tmps, assign, body, hy, hR⟩ := HY.out _ ⟨s, x, kd⟩ _ _ Hjq.out (fun k hk => ⟨Nat.le_trans HB.out.size (HCq.out k hk).1, (HCq.out k hk).2⟩) HPre.out
     simp only [pmV, pmA] at hy
     have HRr := H_ (show RoundIn Fence.wide (n - 1) Tryz.prog l fn tmps assign body wr _ from ⟨trivial, fun c cs _ => hR.2 c cs (room_wide _)⟩)
     clear hR hkd hc5
     gi_wp2_with (refine stepPs rfl (run_get 3 _ rfl fB 0 rfl Tryz.underlying3 rfl (.int .i64 s) HIq.out.frm) ?_)
     refine HRr.out.mono ?_
     rintro e W5 ⟨bb, C5, rfl, hk5, hc5, hJ5⟩
     have HK6 := H_ (Hkq.out.thenC hk5 fun i hi => (HCq.out i hi).1)
     have HC5 := H_ (show ∀ i, C5 i → W3.heap.size ≤ i ∧ i < W5.heap.size from fun i hi => ⟨(hc5 i hi).1.elim (fun h => (HCq.out i h).1) (fun h => Nat.le_trans Hkq.out.size h), (hc5 i hi).2⟩)
     clear hc5
     cases bb
     ·rw [if_neg (by simp)] at hJ5
      have Hj5 := H_ hJ5
      clear hJ5 hk5
      gi_wp2_with fail
      refine bodyPost_ret (results_none rfl _ _ _) rfl ?_
      exact ⟨⟨_, rfl⟩, .inr ⟨_, _, by simp, HPre.out, Hj5.out⟩⟩
     ·rw [if_pos rfl] at hJ5
      have Hj5 := H_ hJ5
      clear hJ5 hk5
      gi_wp2_with fail
      refine ⟨⟨j + 1, C5, ?_, ?_, ?_, ?_, ?_⟩, ?_⟩
      ·exact Nat.succ_le_of_lt Hje.out
      ·first | with_reducible exact congrArg (Value.int .i64) hj1 | simp
      ·exact HK6.out
      ·exact HC5.out
      ·rw [HTk.out, ← List.append_assoc]; exact Hj5.out
      ·exact ps_meas Hje.out hj1
    ·have hjE : j = E.length := by omega
     subst hjE
     have HFu := H_ (show (mvO p s x).take E.length = mvO p s x by rw [← HE.out]; unfold mvO; rw [List.take_of_length_le (by rw [List.length_map]; exact Nat.le_refl _)])
     gi_wp2_with fail
     refine ⟨⟨k + 1, C, ?_, ?_, ?_, ?_, ?_⟩, ?_⟩
     ·exact Nat.succ_le_of_lt Hlt.out
     ·first | with_reducible exact congrArg (Value.int .i64) hk1 | simp
     ·exact Hkq.out
     ·exact HCq.out
     ·rw [fm_take HX.out]; have := Hjq.out; rw [HFu.out] at this; exact this
     ·exact ps_meas Hlt.out hk1
  ·obtain rfl : k = L.length := by omega
   gi_wp2_with fail
   refine bodyPost_end (results_none rfl _ _ _) rfl ?_
   exact ⟨⟨_, rfl⟩, .inl ⟨_, by have := Hj.out; rw [List.take_length, ← HM.out] at this; exact this⟩⟩
end Go.Proofs.YteblmnbagbdiiaaGreatDoor
