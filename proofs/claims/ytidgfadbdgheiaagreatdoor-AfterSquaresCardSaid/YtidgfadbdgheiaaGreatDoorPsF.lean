/-
 Layer 13: the list of all moves.
-/
import Derived.Test.YtidgfadbdgheiaaGreatDoorPsE
import Derived.Maps.OwnIn
namespace Go.Proofs.YtidgfadbdgheiaaGreatDoor
open Go.RowKit Go.Shelf
set_option linter.unusedVariables false
set_option linter.unusedSimpArgs false
attribute [local go_sem] Oper.semAt_some

def pmL (l : List Pm) : List Value := l.flatMap fun m => (pmA m).toList
theorem pmL_snoc (l : List Pm) (m : Pm) : pmL (l ++ [m]) = pmL l ++ (pmA m).toList := by unfold pmL; simp
/-- The value is a list of these moves, made at or beyond block B. -/
def PmsO (B : Nat) (L : List Pm) (v : Value) (w : World) : Prop := w.ownsRow B 40 5 v L.length (pmL L)
theorem PmsO.keep {B : Nat} {L : List Pm} {v : Value} {w w' : World} (h : PmsO B L v w) (hb : ∀ g, v.ownBlock = some g → w'.heap[g]? = w.heap[g]?) : PmsO B L v w' := by
 refine ⟨h.1, ?_⟩
 rcases h.2 with hn | ⟨g, cap, cur, hv, hB, hg, rest⟩
 ·exact .inl hn
 ·exact .inr ⟨g, cap, cur, hv, hB, (hb g (by rw [hv]; rfl)).trans hg, rest⟩
theorem infoPm : (Tryz.prog.info? 40).map (fun i => (i.zero, i.size, i.bytes)) = some (some (.agg (pmA ⟨0, 0, 0⟩)), 5, 5) := by kernel_rfl
theorem fm_len {α β : Type} {f : α → List β} {n : Nat} : ∀ {l : List α}, (∀ x ∈ l, (f x).length ≤ n) → (l.flatMap f).length ≤ l.length * n
 | [], _ => by simp
 | a :: l, h => by
  have h1 := h a (by simp)
  have h2 := fm_len (l := l) fun x hx => h x (by simp [hx])
  rw [List.flatMap_cons, List.length_append, List.length_cons, Nat.add_mul]; omega
theorem mvs_len (p : Nat → Int) (o t : Nat) (s : Int) : (mvsL p o t s).length ≤ 4096 := by
 have h1 := fm_len (f := mvO p s) (n := 64) (l := listN (golN p o t s)) fun x _ => by unfold mvO; rw [List.length_map]; exact bec_len p s x
 have h2 := listN_len (golN p o t s)
 unfold mvsL; omega
theorem all_len (p : Nat → Int) : (allL p).length ≤ 262144 := by
 have h1 := fm_len (f := fun a : Nat => mvsL p (ownN p) (theN p) (a : Int)) (n := 4096) (l := listN (ownN p)) fun x _ => mvs_len p _ _ _
 have h2 := listN_len (ownN p)
 unfold allL; omega
theorem pcells_new (W : World) (cs : Array Value) (t : TypeId) (j : Nat) (u : Value) (h : cs.toList[j]? = some u) : (W.alloc (.cells cs t)).cell? ((⟨W.heap.size, 0, none⟩ : Addr).add j) = some u := by
 have e : ((⟨W.heap.size, 0, none⟩ : Addr).add j) = ⟨W.heap.size, j, none⟩ := by simp [Addr.add]; try exact fun h => h.symm
 rw [e, cell_of_row _ _ _ _ _ _ (heap_alloc_new W (.cells cs t))]
 simpa using h
theorem kept_grown {w w' : World} {row : Option Nat} (h : w.grownBy w' row) : Kept (fun k => row = some k) w w' := ⟨⟨h.os, h.tape, h.output, h.size, fun k hk => by omega⟩, fun k hk hx => h.block k hk fun e => hx e.symm⟩
/-- Where a list of moves lies while it grows. -/
def Grow (B : Nat) (w : World) (pre : List Pm) (C : Nat → Prop) (A : World) : Prop :=
 ∃ v, Boxed A B 33 v ∧ PmsO B pre v A ∧ (∀ g, v.ownBlock = some g → C g) ∧ Below B w A
theorem grow_lasts {B : Nat} {w w1 : World} (hB : B < w1.heap.size) : LastsC w1.heap.size (Grow B w) := by
 rintro pre C A A' ⟨v, hv, hr, hc, hb⟩ k
 refine ⟨v, (k.same B hv.lt (fun h => by have := h.1; omega)).trans hv, hr.keep fun g hg => k.same g (World.ownsRow.lt hr g hg).2 (fun h => h.2 (hc g hg)), hc, hb.trans (k.below (fun i hi => by have := hi.1; omega) (Nat.le_of_lt hv.lt))⟩
/-- The call answers a list of its own that holds these moves. -/
def PmP (L : List Pm) (w : World) (e : Ending) (w' : World) : Prop := ∃ v, e = .returned v ∧ PmsO w.heap.size L v w' ∧ Below w.heap.size w w'
set_option maxRecDepth 100000 in
set_option maxHeartbeats 2000000 in
theorem apdPs (p : Nat → Int) (pB : Nat) (w : World) (hp : PsR p) (hR : Row w pB p) (hT : PsT w) : CallsIn Fence.wide 20 Tryz.prog 83 #[.slice none 0 0, .func (.func 84) #[] #[.pointer (some ⟨pB, 0, none⟩)]] w (PmP (allL p) w) := by
 have HP := Lib.hid hp
 have HB0 := Lib.hid (box_below w (.cells #[.slice none 0 0] 33))
 have HR := Lib.hid (hR.later HB0.out)
 have HT := Lib.hid (hT.on HB0.out)
 have HpB := Lib.hid hR.lt
 have HTl := Lib.hid (And.intro (ps_varlt hT.var) (And.intro hT.db.lt hT.lead.lt))
 clear hp hR hT
 obtain ⟨i0, hi, hz0, hz1, hz2⟩ := info_parts infoPm
 refine callsIn_of_wp_marks Tryz.func83 rfl trivial ?_ rfl
 simp only [Tryz.ntmps83, List.size_toArray, List.length_cons, List.length_nil, Nat.reduceAdd, Nat.reduceSub, Array.replicate_succ, Array.replicate_zero, List.push_toArray, List.append_toArray, List.nil_append, List.cons_append]
 gi_wp2_with fail
 have bO := Boxed.new w 33 (.slice none 0 0)
 obtain ⟨w1, hw1⟩ : ∃ w1, w1 = w.alloc (.cells #[.slice none 0 0] 33) := ⟨_, rfl⟩
 have hs1 : w1.heap.size = w.heap.size + 1 := by rw [hw1]; simp
 rw [← hw1] at HB0 HR HT bO ⊢
 clear hw1
 refine range_boxC (n := 20) (val := pmV) (gf := 84) (lb := #[.pointer (some ⟨pB, 0, none⟩)]) rfl (enters_of Tryz.func84 (by kernel_rfl) rfl) (· = w.heap.size) (fun k e => by subst e; omega) (allL p)
  (all_seq 19 pB (by decide) p HP.out (· = w.heap.size) w1 HR.out HT.out (Nat.ne_of_lt HpB.out) ⟨Nat.ne_of_lt HTl.out.1, Nat.ne_of_lt HTl.out.2.1, Nat.ne_of_lt HTl.out.2.2⟩ (fun k e => by subst e; omega))
  (Grow w.heap.size w) (fun _ _ _ => False) (grow_lasts (by omega)) (fun _ _ _ _ h _ => h) ⟨_, bO, World.ownsRow_nil _ _ _ _, fun g hg => by (simp [Value.ownBlock] at hg), HB0.out⟩ 40 pmA
  (fun m b2 => { tmps := #[.slice none 0 0, .func (.func 84) #[] #[.pointer (some ⟨pB, 0, none⟩)], .pointer (some ⟨w.heap.size, 0, none⟩), undef, .slice none 0 0, .pointer (some ⟨b2, 0, none⟩), .func (.func 84) #[] #[.pointer (some ⟨pB, 0, none⟩)], pmV m, undef, undef, undef, undef, undef], defers := [] }) ?assign ?body ?done ?stop
 case assign =>
  intro l2 m A K' hK'
  simp only [pmV, pmA] at hK' ⊢
  gi_wp2
  exact hK'
 case body =>
  rintro l2 b2 pre m C A ⟨v, hv, hrow, hc, hB⟩ hcb hb2 hblk hpre
  have hcv := hv.cell
  have HBl := Lib.hid hblk
  clear bO
  have hlen : pre.length + 1 ≤ 262144 := by
   have h1 := hpre.length_le
   have h2 := all_len p
   simp at h1; omega
  gi_wp2_with (first
   | (refine stepRd rfl (fun _ h => by cases h) (run_pm _ rfl b2 rfl m HBl.out) ?_; show wpListIn _ _ _ _ _ _ (Act.put _ _ (Value.agg #[.int .i8 m.f, .int .i8 (m.t : Int), .int .u8 (m.k : Int), .int .u8 0, .bool false])) _)
   | (gi_at_builtin; refine wpListIn_append_own_at _ rfl _ _ 33 rfl w.heap.size 40 i0 (.agg (pmA ⟨0, 0, 0⟩)) 5 5 Tryz.underlying33 hi hz0 hz1 hz2 rfl (by decide) _ _ _ rfl (World.ownsRow.alloc hrow _) ⟨A.heap.size, 0, none⟩ 1 1 (pmA m).toList rfl rfl (pcells_new A (pmA m) _) (by simp [pmA, Value.oneCell']) (by unfold maxLen; omega) (by omega) (by have := hB.size; simp; omega) ?_; intro v' w2 hown' hgrow _ hat; obtain ⟨g', cap', rfl⟩ := ownsRow_succ hown'; obtain ⟨hv1, hv2, hr2, hk2, hbw⟩ := hv.appended (by decide) hrow hB.size (Nat.le_refl _) hown' hgrow; have hc1 := hv1.cell; have hf1 := hv1.frozen))
  refine ⟨(· = g'), ((Kept.of_call _ (box_below A _)).trans ((kept_grown hgrow).mono fun k hk => .inr (hc k hk))).trans ((Kept.setCell _ _ _ _).mono fun k e => .inl e), ?_, ⟨_, hv2, by unfold PmsO; rw [pmL_snoc, List.length_append]; exact hr2, fun g hg => (Option.some.inj hg).symm, hB.trans hbw⟩⟩
  rintro k rfl
  refine ⟨?_, (World.ownsRow.lt hr2 k rfl).2⟩
  rcases hat with h | h
  ·exact .inl (hc k h.symm)
  ·refine .inr ?_
   have := Option.some.inj h
   simp at this; omega
 case done =>
  rintro C A ⟨v, hv, hrow, hc, hB⟩ hcb hd
  have hcv := hv.cell
  gi_wp2
  refine ⟨by simp, .inl ⟨_, _, rfl, run_takeDeferred hd, ?_⟩⟩
  have hk : Kept (· = w1.heap.size) A (A.putObj w1.heap.size (.deferred none)) := Kept.putObj _ _ _
  exact ⟨_, results_tmp rfl _ _ _, v, rfl, hrow.keep fun g hg => hk.same g (World.ownsRow.lt hrow g hg).2 (fun e => (hcb g (hc g hg)).2.2 e), hB.trans (hk.below (fun k e => by omega) hB.size)⟩
 case stop =>
  rintro pre C A _ _ h
  exact h.elim
theorem colPs (p : Nat → Int) (pB : Nat) (w : World) (hp : PsR p) (hR : Row w pB p) (hT : PsT w) : Calls Tryz.prog 40 #[.func (.func 84) #[] #[.pointer (some ⟨pB, 0, none⟩)]] w (PmP (allL p) w) := by
 have HP := Lib.hid hp
 have HR := Lib.hid hR
 have HT := Lib.hid hT
 clear hp hR hT
 go_enter Tryz.func40, Tryz.ntmps40
 go_wp2_with (go_at_call 83; refine (callsIn_wide.1 (apdPs p pB _ HP.out HR.out HT.out)).mono ?_; rintro e w1 ⟨v, rfl, hv, hb⟩; have HV := Lib.hid hv; have HB := Lib.hid hb; clear hv hb)
 exact bodyPost_ret (results_tmp rfl _ _ _) rfl ⟨v, rfl, HV.out, HB.out⟩
theorem list_ps (p : Nat → Int) (w : World) (hp : PsR p) (hT : PsT w) : Calls Tryz.prog 17 #[.agg (posA p)] w (PmP (allL p) w) := by
 have HP := Lib.hid hp
 have HT := Lib.hid hT
 clear hp hT
 have HB := Lib.hid (Below.refl w.heap.size w)
 go_enter Tryz.func17, Tryz.ntmps17
 go_wp2_with (first
  | (refine step_box rfl _ rfl p rfl ?_; intro b0 w1 N R; have HB := Lib.hid (HB.out.trans (N.below.mono HB.out.size)); have HR := Lib.hid R; clear N R)
  | (refine step_load rfl _ rfl b0 rfl p HR.out ?_)
  | (go_at_call 41; refine (ps_all p _).mono ?_; rintro e w2 ⟨b, hb0, rfl, hb, hrow⟩; have HB := Lib.hid (below_on HB.out hb); have HRb := Lib.hid hrow; clear hb0 hb hrow)
  | (go_at_call 40; refine (colPs p b _ HP.out HRb.out (HT.out.on HB.out)).mono ?_; rintro e w3 ⟨v, rfl, hv, hb⟩; have HV := Lib.hid (World.ownsRow.mono hv HB.out.size); have HB := Lib.hid (below_on HB.out hb); clear hv hb))
 exact bodyPost_ret (results_tmp rfl _ _ _) rfl ⟨v, rfl, HV.out, HB.out⟩
/-- Where a list of moves lies. -/
def Pms (L : List Pm) (a : Option Addr) (w : World) : Prop := ∀ (i : Nat) (m : Pm), L[i]? = some m → ∃ g cur, a = some ⟨g, 0, none⟩ ∧ Blk w g 40 cur ∧ ∀ j, j < 5 → cur[5 * i + j]? = (pmA m)[j]?
theorem Pms.later {L : List Pm} {a : Option Addr} {w w' : World} (h : Pms L a w) (hl : Below w.heap.size w w') : Pms L a w' := fun i m hm => by
 obtain ⟨g, cur, e, hb, hc⟩ := h i m hm
 exact ⟨g, cur, e, hb.later hl, hc⟩
theorem Pms.at {L : List Pm} {a : Option Addr} {w : World} (h : Pms L a w) {i : Nat} {m : Pm} (hm : L[i]? = some m) : ∃ g, a = some ⟨g, 0, none⟩ ∧ w.rangeAt g (5 * i) (pmA m).toList := by
 obtain ⟨g, cur, e, hb, hc⟩ := h i m hm
 refine ⟨g, e, fun j v hv => ?_⟩
 have hj : j < 5 := (List.getElem?_eq_some_iff.1 hv).1
 rw [hb.cell, hc j hj, ← hv]; simp
end Go.Proofs.YtidgfadbdgheiaaGreatDoor
