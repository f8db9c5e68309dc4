/-
 Several texts in one: PsF, PsG.
-/
import Derived.Test.YteblmnbagbdiiaaGreatDoorPsE
import Derived.Maps.OwnIn
import Derived.Test.YteblmnbagbdiiaaGreatDoorAfBaseK
/-
 Layer 13: the list of all moves.
-/
set_option maxRecDepth 100000
set_option maxHeartbeats 4000000
namespace Go.Proofs.YteblmnbagbdiiaaGreatDoor
open Go.RowKit Go.Shelf
set_option linter.unusedVariables false
set_option linter.unusedSimpArgs false
attribute [local go_sem] Oper.semAt_some

def pmL (l : List Pm) : List Value := l.flatMap fun m => (pmA m).toList
theorem pmL_snoc (l : List Pm) (m : Pm) : pmL (l ++ [m]) = pmL l ++ (pmA m).toList := by unfold pmL; simp
def PmsO (B : Nat) (L : List Pm) (v : Value) (w : World) : Prop := w.ownsRow B 40 5 v L.length (pmL L)
theorem PmsO.keep {B : Nat} {L : List Pm} {v : Value} {w w' : World} (h : PmsO B L v w) (hb : ∀ g, v.ownBlock = some g → w'.heap[g]? = w.heap[g]?) : PmsO B L v w' := by
 refine ⟨h.1, ?_⟩
 rcases h.2 with hn | ⟨g, cap, cur, hv, hB, hg, rest⟩
 ·exact .inl hn
 ·exact .inr ⟨g, cap, cur, hv, hB, (hb g (by rw [hv]; rfl)).trans hg, rest⟩
theorem infoPm : (Tryz.prog.info? 40).map (fun i => (i.zero, i.size, i.bytes)) = some (some (.agg (pmA ⟨0, 0, 0⟩)), 5, 5) := by kernel_rfl
theorem fm_len {α β : Type} {f : α → List β} {n : Nat} : ∀ {l : List α}, (∀ x ∈ l, (f x).length ≤ n) → (l.flatMap f).length ≤ l.length * n
 | [], _ => by simp
 | a :: l, h => by
  have h1 := h a (by simp)
  have h2 := fm_len (l := l) fun x hx => h x (by simp [hx])
  rw [List.flatMap_cons, List.length_append, List.length_cons, Nat.add_mul]; omega
theorem mvs_len (p : Nat → Int) (o t : Nat) (s : Int) : (mvsL p o t s).length ≤ 4096 := by
 have h1 := fm_len (f := mvO p s) (n := 64) (l := listN (golN p o t s)) fun x _ => by unfold mvO; rw [List.length_map]; exact bec_len p s x
 have h2 := listN_len (golN p o t s)
 unfold mvsL; omega
theorem all_len (p : Nat → Int) : (allL p).length ≤ 262144 := by
 have h1 := fm_len (f := fun a : Nat => mvsL p (ownN p) (theN p) (a : Int)) (n := 4096) (l := listN (ownN p)) fun x _ => mvs_len p _ _ _
 have h2 := listN_len (ownN p)
 unfold allL; omega
theorem pcells_new (W : World) (cs : Array Value) (t : TypeId) (j : Nat) (u : Value) (h : cs.toList[j]? = some u) : (W.alloc (.cells cs t)).cell? ((⟨W.heap.size, 0, none⟩ : Addr).add j) = some u := by
 have e : ((⟨W.heap.size, 0, none⟩ : Addr).add j) = ⟨W.heap.size, j, none⟩ := by simp [Addr.add]; try exact fun h => h.symm
 rw [e, cell_of_row _ _ _ _ _ _ (heap_alloc_new W (.cells cs t))]
 simpa using h
theorem kept_grown {w w' : World} {row : Option Nat} (h : w.grownBy w' row) : Kept (fun k => row = some k) w w' := ⟨⟨h.os, h.tape, h.output, h.size, fun k hk => by omega⟩, fun k hk hx => h.block k hk fun e => hx e.symm⟩
def Grow (B : Nat) (w : World) (pre : List Pm) (C : Nat → Prop) (A : World) : Prop :=
 ∃ v, Boxed A B 33 v ∧ PmsO B pre v A ∧ (∀ g, v.ownBlock = some g → C g) ∧ Below B w A
theorem grow_lasts {B : Nat} {w w1 : World} (hB : B < w1.heap.size) : LastsC w1.heap.size (Grow B w) := by
 rintro pre C A A' ⟨v, hv, hr, hc, hb⟩ k
 refine ⟨v, (k.same B hv.lt (fun h => by have := h.1; omega)).trans hv, hr.keep fun g hg => k.same g (World.ownsRow.lt hr g hg).2 (fun h => h.2 (hc g hg)), hc, hb.trans (k.below (fun i hi => by have := hi.1; omega) (Nat.le_of_lt hv.lt))⟩
def PmP (L : List Pm) (w : World) (e : Ending) (w' : World) : Prop := ∃ v, e = .returned v ∧ PmsO w.heap.size L v w' ∧ Below w.heap.size w w'
theorem apdPs (p : Nat → Int) (pB : Nat) (w : World) (hp : PsR p) (hR : Row w pB p) (hT : PsT w) : CallsIn Fence.wide 20 Tryz.prog 153 #[.slice none 0 0, .func (.func 154) #[] #[.pointer (some ⟨pB, 0, none⟩)]] w (PmP (allL p) w) := by
 have HP := H_ hp
 have HB0 := H_ (box_below w (.cells #[.slice none 0 0] 33))
 have HR := H_ (hR.later HB0.out)
 have HT := H_ (hT.on HB0.out)
 have HpB := H_ hR.lt
 have HTl := H_ (And.intro (ps_varlt hT.var) (And.intro hT.db.lt hT.lead.lt))
 clear hp hR hT
 obtain ⟨i0, hi, hz0, hz1, hz2⟩ := info_parts infoPm
 refine callsIn_of_wp_marks Tryz.func153 rfl trivial ?_ rfl
 simp only [Tryz.ntmps153, List.size_toArray, List.length_cons, List.length_nil, Nat.reduceAdd, Nat.reduceSub, Array.replicate_succ, Array.replicate_zero, List.push_toArray, List.append_toArray, List.nil_append, List.cons_append]
 gi_wp2_with fail
 have bO := Boxed.new w 33 (.slice none 0 0)
 obtain ⟨w1, hw1⟩ : ∃ w1, w1 = w.alloc (.cells #[.slice none 0 0] 33) := ⟨_, rfl⟩
 have hs1 : w1.heap.size = w.heap.size + 1 := by rw [hw1]; simp
 rw [← hw1] at HB0 HR HT bO ⊢
 clear hw1
 refine range_boxC (n := 20) (val := pmV) (gf := 154) (lb := #[.pointer (some ⟨pB, 0, none⟩)]) rfl (enters_of Tryz.func154 (by kernel_rfl) rfl) (· = w.heap.size) (fun k e => by subst e; omega) (allL p)
  (all_seq 19 pB (by decide) p HP.out (· = w.heap.size) w1 HR.out HT.out (Nat.ne_of_lt HpB.out) ⟨Nat.ne_of_lt HTl.out.1, Nat.ne_of_lt HTl.out.2.1, Nat.ne_of_lt HTl.out.2.2⟩ (fun k e => by subst e; omega))
  (Grow w.heap.size w) (fun _ _ _ => False) (grow_lasts (by omega)) (fun _ _ _ _ h _ => h) ⟨_, bO, World.ownsRow_nil _ _ _ _, fun g hg => by (simp [Value.ownBlock] at hg), HB0.out⟩ 40 pmA
  (fun m b2 => { tmps := #[.slice none 0 0, .func (.func 154) #[] #[.pointer (some ⟨pB, 0, none⟩)], .pointer (some ⟨w.heap.size, 0, none⟩), undef, .slice none 0 0, .pointer (some ⟨b2, 0, none⟩), .func (.func 154) #[] #[.pointer (some ⟨pB, 0, none⟩)], pmV m, undef, undef, undef, undef, undef], defers := [] }) ?assign ?body ?done ?stop
 case assign =>
  intro l2 m A K' hK'
  simp only [pmV, pmA] at hK' ⊢
  gi_wp2
  exact hK'
 case body =>
  rintro l2 b2 pre m C A ⟨v, hv, hrow, hc, hB⟩ hcb hb2 hblk hpre
  have hcv := hv.cell
  have HBl := H_ hblk
  clear bO
  have hlen : pre.length + 1 ≤ 262144 := by
   have h1 := hpre.length_le
   have h2 := all_len p
   simp at h1; omega
  gi_wp2_with (first
   | (refine stepRd rfl (fun _ h => by cases h) (run_pm _ rfl b2 rfl m HBl.out) ?_; show wpListIn _ _ _ _ _ _ (Act.put _ _ (Value.agg #[.int .i8 m.f, .int .i8 (m.t : Int), .int .u8 (m.k : Int), .int .u8 0, .bool false])) _)
   | (gi_at_builtin; refine wpListIn_append_own_at _ rfl _ _ 33 rfl w.heap.size 40 i0 (.agg (pmA ⟨0, 0, 0⟩)) 5 5 Tryz.underlying33 hi hz0 hz1 hz2 rfl (by decide) _ _ _ rfl (World.ownsRow.alloc hrow _) ⟨A.heap.size, 0, none⟩ 1 1 (pmA m).toList rfl rfl (pcells_new A (pmA m) _) (by simp [pmA, Value.oneCell']) (by unfold maxLen; omega) (by omega) (by have := hB.size; simp; omega) ?_; intro v' w2 hown' hgrow _ hat; obtain ⟨g', cap', rfl⟩ := ownsRow_succ hown'; obtain ⟨hv1, hv2, hr2, hk2, hbw⟩ := hv.appended (by decide) hrow hB.size (Nat.le_refl _) hown' hgrow; have hc1 := hv1.cell; have hf1 := hv1.frozen))
  refine ⟨(· = g'), ((Kept.of_call _ (box_below A _)).trans ((kept_grown hgrow).mono fun k hk => .inr (hc k hk))).trans ((Kept.setCell _ _ _ _).mono fun k e => .inl e), ?_, ⟨_, hv2, by unfold PmsO; rw [pmL_snoc, List.length_append]; exact hr2, fun g hg => (Option.some.inj hg).symm, hB.trans hbw⟩⟩
  rintro k rfl
  refine ⟨?_, (World.ownsRow.lt hr2 k rfl).2⟩
  rcases hat with h | h
  ·exact .inl (hc k h.symm)
  ·refine .inr ?_
   have := Option.some.inj h
   simp at this; omega
 case done =>
  rintro C A ⟨v, hv, hrow, hc, hB⟩ hcb hd
  have hcv := hv.cell
  gi_wp2
  refine ⟨by simp, .inl ⟨_, _, rfl, run_takeDeferred hd, ?_⟩⟩
  have hk : Kept (· = w1.heap.size) A (A.putObj w1.heap.size (.deferred none)) := Kept.putObj _ _ _
  exact ⟨_, results_tmp rfl _ _ _, v, rfl, hrow.keep fun g hg => hk.same g (World.ownsRow.lt hrow g hg).2 (fun e => (hcb g (hc g hg)).2.2 e), hB.trans (hk.below (fun k e => by omega) hB.size)⟩
 case stop =>
  rintro pre C A _ _ h
  exact h.elim
theorem colPs (p : Nat → Int) (pB : Nat) (w : World) (hp : PsR p) (hR : Row w pB p) (hT : PsT w) : Calls Tryz.prog 76 #[.func (.func 154) #[] #[.pointer (some ⟨pB, 0, none⟩)]] w (PmP (allL p) w) := by
 have HP := H_ hp
 have HR := H_ hR
 have HT := H_ hT
 clear hp hR hT
 go_enter Tryz.func76, Tryz.ntmps76
 go_wp2_with (go_at_call 153; refine (callsIn_wide.1 (apdPs p pB _ HP.out HR.out HT.out)).mono ?_; rintro e w1 ⟨v, rfl, hv, hb⟩; have HV := H_ hv; have HB := H_ hb; clear hv hb)
 exact bodyPost_ret (results_tmp rfl _ _ _) rfl ⟨v, rfl, HV.out, HB.out⟩
theorem list_ps (p : Nat → Int) (w : World) (hp : PsR p) (hT : PsT w) : Calls Tryz.prog 36 #[.agg (posA p)] w (PmP (allL p) w) := by
 have HP := H_ hp
 have HT := H_ hT
 clear hp hT
 have HB := H_ (Below.refl w.heap.size w)
 go_enter Tryz.func36, Tryz.ntmps36
 go_wp2_with (first
  | (refine step_box rfl _ rfl p rfl ?_; intro b0 w1 N R; have HB := H_ (HB.out.trans (N.below.mono HB.out.size)); have HR := H_ R; clear N R)
  | (refine step_load rfl _ rfl b0 rfl p HR.out ?_)
  | (go_at_call 77; refine (ps_all p _).mono ?_; rintro e w2 ⟨b, hb0, rfl, hb, hrow⟩; have HB := H_ (below_on HB.out hb); have HRb := H_ hrow; clear hb0 hb hrow)
  | (go_at_call 76; refine (colPs p b _ HP.out HRb.out (HT.out.on HB.out)).mono ?_; rintro e w3 ⟨v, rfl, hv, hb⟩; have HV := H_ (World.ownsRow.mono hv HB.out.size); have HB := H_ (below_on HB.out hb); clear hv hb))
 exact bodyPost_ret (results_tmp rfl _ _ _) rfl ⟨v, rfl, HV.out, HB.out⟩
def Pms (L : List Pm) (a : Option Addr) (w : World) : Prop := ∀ (i : Nat) (m : Pm), L[i]? = some m → ∃ g cur, a = some ⟨g, 0, none⟩ ∧ Blk w g 40 cur ∧ ∀ j, j < 5 → cur[5 * i + j]? = (pmA m)[j]?
theorem Pms.later {L : List Pm} {a : Option Addr} {w w' : World} (h : Pms L a w) (hl : Below w.heap.size w w') : Pms L a w' := fun i m hm => by
 obtain ⟨g, cur, e, hb, hc⟩ := h i m hm
 exact ⟨g, cur, e, hb.later hl, hc⟩
theorem Pms.at {L : List Pm} {a : Option Addr} {w : World} (h : Pms L a w) {i : Nat} {m : Pm} (hm : L[i]? = some m) : ∃ g, a = some ⟨g, 0, none⟩ ∧ w.rangeAt g (5 * i) (pmA m).toList := by
 obtain ⟨g, cur, e, hb, hc⟩ := h i m hm
 refine ⟨g, e, fun j v hv => ?_⟩
 have hj : j < 5 := (List.getElem?_eq_some_iff.1 hv).1
 rw [hb.cell, hc j hj, ← hv]; simp
end Go.Proofs.YteblmnbagbdiiaaGreatDoor
/-
 Layer 13: what a move takes.
-/
namespace Go.Proofs.YteblmnbagbdiiaaGreatDoor
open Go.RowKit Go.Shelf
set_option linter.unusedVariables false
set_option linter.unusedSimpArgs false
attribute [local go_sem] Oper.semAt_some

def pmM (x : Pm) : Mv := ⟨x.f, x.t, x.k, 0, false⟩
def tkZ (p : Nat → Int) (t f b : Nat) : Int := bif t.testBit b then (b : Int) else bif (knP p (f : Int) == 1) && (((b : Int) == p 83) && (((f % 8 : Nat) : Int) != ((b % 8 : Nat) : Int))) then ((f - f % 8 + b % 8 : Nat) : Int) else -1
theorem ps_rem : ∀ n : Nat, n < 64 → wrap64 ((n : Int) % 8) = ((n % 8 : Nat) : Int) := by decide +kernel
theorem ps_taken (p : Nat → Int) (o t f b : Nat) (hf : f < 64) (hb64 : b < 64) (w : World) (hp : PsR p) (ht : t < W64) :
  Calls Tryz.prog 95 #[.agg (grA p o t), .int .i64 (f : Int), .int .i64 (b : Int)] w (IntL (tkZ p t f b) w) := by
 have HP := H_ hp
 have hw83 : IntKind.i64.wrap (p 83) = p 83 := by have := hp.pass; rw [IntKind.wrap_i64]; omega
 have HB := H_ (Below.refl w.heap.size w)
 obtain ⟨h, HH⟩ : ∃ h, Hid (t.testBit b = h) := ⟨_, H_ rfl⟩
 have HHc := H_ (show ∀ w1, Calls Tryz.prog 179 #[.int .u64 (t : Int), .int .i64 (b : Int)] w1 (fun e w' => e = .returned (.bool h) ∧ w1 = w') from fun w1 => HH.out ▸ hasN_nat t b hb64 ▸ has_any t (b : Int) w1 ht)
 obtain ⟨g, HG⟩ : ∃ g, Hid ((knP p (f : Int) == 1) = g) := ⟨_, H_ rfl⟩
 have HPw := H_ (show ∀ w1, Calls Tryz.prog 180 #[.agg (grA p o t), .int .i64 (f : Int)] w1 (BoL g w1) from fun w1 => HG.out ▸ ps_pawn p o t (f : Int) w1 HP.out.bd)
 have hr1 := ps_rem f hf
 have hr2 := ps_rem b hb64
 have Hf := H_ hf
 have Hb := H_ hb64
 clear hp ht hf hb64
 cases h
 ·cases g
  ·have HS := H_ (show tkZ p t f b = -1 by unfold tkZ; rw [HH.out, HG.out]; rfl)
   go_enter Tryz.func95, Tryz.ntmps95
   go_wp2_with (first
    | (refine gr_box rfl _ rfl p o t rfl ?_; intro b1 w1 N R; have HB := H_ (HB.out.trans (N.below.mono HB.out.size)); have HR := H_ R; clear N R)
    | (refine gr_load rfl _ rfl b1 rfl p o t HR.out ?_)
    | (refine step_get rfl 23 _ rfl b1 89 rfl Tryz.underlying23 rfl (.int .u64 (t : Int)) ?_ ?_; exact HR.out.the)
    | (go_at_call 179; refine (HHc.out _).mono ?_; rintro e w3 ⟨rfl, rfl⟩)
    | (go_at_call 180; refine (HPw.out _).mono ?_; rintro e w3 ⟨rfl, hb⟩; have HR := H_ (HR.out.later hb); have HB := H_ (below_on HB.out hb); clear hb))
   go_ret
   exact ⟨by rw [HS.out]; rfl, HB.out⟩
  ·cases g1 : ((b : Int) == p 83)
   ·have HS := H_ (show tkZ p t f b = -1 by unfold tkZ; rw [HH.out, HG.out, g1]; rfl)
    go_enter Tryz.func95, Tryz.ntmps95
    go_wp2_with (first
     | (refine gr_box rfl _ rfl p o t rfl ?_; intro b1 w1 N R; have HB := H_ (HB.out.trans (N.below.mono HB.out.size)); have HR := H_ R; clear N R)
     | (refine gr_load rfl _ rfl b1 rfl p o t HR.out ?_)
     | (refine step_get rfl 23 _ rfl b1 89 rfl Tryz.underlying23 rfl (.int .u64 (t : Int)) ?_ ?_; exact HR.out.the)
     | (refine step_get rfl 26 _ rfl b1 83 rfl Tryz.underlying26 rfl (.int .i8 (p 83)) ?_ ?_; exact HR.out.cell 83 (by decide))
     | (go_at_call 179; refine (HHc.out _).mono ?_; rintro e w3 ⟨rfl, rfl⟩)
     | (go_at_call 180; refine (HPw.out _).mono ?_; rintro e w3 ⟨rfl, hb⟩; have HR := H_ (HR.out.later hb); have HB := H_ (below_on HB.out hb); clear hb))
    go_ret
    exact ⟨by rw [HS.out]; rfl, HB.out⟩
   ·cases g2 : (((f % 8 : Nat) : Int) != ((b % 8 : Nat) : Int))
    ·have HS := H_ (show tkZ p t f b = -1 by unfold tkZ; rw [HH.out, HG.out, g1, g2]; rfl)
     go_enter Tryz.func95, Tryz.ntmps95
     go_wp2_with (first
      | (refine gr_box rfl _ rfl p o t rfl ?_; intro b1 w1 N R; have HB := H_ (HB.out.trans (N.below.mono HB.out.size)); have HR := H_ R; clear N R)
      | (refine gr_load rfl _ rfl b1 rfl p o t HR.out ?_)
      | (refine step_get rfl 23 _ rfl b1 89 rfl Tryz.underlying23 rfl (.int .u64 (t : Int)) ?_ ?_; exact HR.out.the)
      | (refine step_get rfl 26 _ rfl b1 83 rfl Tryz.underlying26 rfl (.int .i8 (p 83)) ?_ ?_; exact HR.out.cell 83 (by decide))
      | (go_at_call 179; refine (HHc.out _).mono ?_; rintro e w3 ⟨rfl, rfl⟩)
      | (go_at_call 180; refine (HPw.out _).mono ?_; rintro e w3 ⟨rfl, hb⟩; have HR := H_ (HR.out.later hb); have HB := H_ (below_on HB.out hb); clear hb))
     go_ret
     exact ⟨by rw [HS.out]; rfl, HB.out⟩
    ·have HE := H_ (show wrap64 (wrap64 ((f : Int) - (f : Int) % 8) + (b : Int) % 8) = ((f - f % 8 + b % 8 : Nat) : Int) by have := Hf.out; rw [IntWalk.wrap64_in ((f : Int) - (f : Int) % 8) ⟨by omega, by omega⟩, IntWalk.wrap64_in _ ⟨by omega, by omega⟩]; omega)
     have HS := H_ (show tkZ p t f b = ((f - f % 8 + b % 8 : Nat) : Int) by unfold tkZ; rw [HH.out, HG.out, g1, g2]; rfl)
     go_enter Tryz.func95, Tryz.ntmps95
     go_wp2_with (first
      | (refine gr_box rfl _ rfl p o t rfl ?_; intro b1 w1 N R; have HB := H_ (HB.out.trans (N.below.mono HB.out.size)); have HR := H_ R; clear N R)
      | (refine gr_load rfl _ rfl b1 rfl p o t HR.out ?_)
      | (refine step_get rfl 23 _ rfl b1 89 rfl Tryz.underlying23 rfl (.int .u64 (t : Int)) ?_ ?_; exact HR.out.the)
      | (refine step_get rfl 26 _ rfl b1 83 rfl Tryz.underlying26 rfl (.int .i8 (p 83)) ?_ ?_; exact HR.out.cell 83 (by decide))
      | (go_at_call 179; refine (HHc.out _).mono ?_; rintro e w3 ⟨rfl, rfl⟩)
      | (go_at_call 180; refine (HPw.out _).mono ?_; rintro e w3 ⟨rfl, hb⟩; have HR := H_ (HR.out.later hb); have HB := H_ (below_on HB.out hb); clear hb))
     go_ret
     exact ⟨by rw [HS.out]; exact congrArg (fun x => Ending.returned (Value.int .i64 x)) HE.out, HB.out⟩
 ·have HS := H_ (show tkZ p t f b = (b : Int) by unfold tkZ; rw [HH.out]; rfl)
  go_enter Tryz.func95, Tryz.ntmps95
  go_wp2_with (first
   | (refine gr_box rfl _ rfl p o t rfl ?_; intro b1 w1 N R; have HB := H_ (HB.out.trans (N.below.mono HB.out.size)); have HR := H_ R; clear N R)
   | (refine step_get rfl 23 _ rfl b1 89 rfl Tryz.underlying23 rfl (.int .u64 (t : Int)) ?_ ?_; exact HR.out.the)
   | (go_at_call 179; refine (HHc.out _).mono ?_; rintro e w3 ⟨rfl, rfl⟩))
  go_ret
  exact ⟨by rw [HS.out]; rfl, HB.out⟩
def takZ (p : Nat → Int) (m : Mv) : Int := bif (mvsL p (ownN p) (theN p) m.f).any (fun x => mvE (pmM x) m) then tkZ p (theN p) m.f.toNat m.t.toNat else -1
theorem mvs_in {p : Nat → Int} {o t : Nat} {s : Int} {x : Pm} (h : x ∈ mvsL p o t s) : x.f = s ∧ x.t < 64 ∧ sq s = true := by
 unfold mvsL mvO at h
 rw [List.mem_flatMap] at h
 obtain ⟨b, hb, hx⟩ := h
 rw [List.mem_map] at hx
 obtain ⟨k, _, rfl⟩ := hx
 refine ⟨rfl, (mem_listN.1 hb).1, ?_⟩
 cases hs : sq s
 ·have : golN p o t s = 0 := by unfold golN; rw [hasN_no hs]; rfl
  rw [this] at hb
  have := (mem_listN.1 hb).2
  rw [Nat.zero_testBit] at this; cases this
 ·rfl
theorem bec_le {p : Nat → Int} {s : Int} {b k : Nat} (h : k ∈ becL p s b) : k ≤ 255 := by
 unfold becL at h
 generalize (knP p s == 1 && (((b / 8 : Nat) : Int) == homZ (oth (p 78)))) = z at h
 cases z
 ·simp at h; omega
 ·have := hi_cases (p 0).toNat
  simp [prL, upN] at h
  obtain ⟨a, ha, rfl⟩ := h
  omega
theorem fit_pm {p : Nat → Int} {o t : Nat} {s : Int} {x : Pm} (h : x ∈ mvsL p o t s) : FitV (pmM x) := by
 obtain ⟨h1, h2, h3⟩ := mvs_in h
 obtain ⟨n, hn, hs⟩ := nat_of_sq h3
 have hk : x.k ≤ 255 := by
  unfold mvsL mvO at h
  rw [List.mem_flatMap] at h
  obtain ⟨b, _, hx⟩ := h
  rw [List.mem_map] at hx
  obtain ⟨k, hk, rfl⟩ := hx
  exact bec_le hk
 exact ⟨by show -128 ≤ x.f ∧ x.f ≤ 127; omega, by show -128 ≤ (x.t : Int) ∧ (x.t : Int) ≤ 127; omega, by show 0 ≤ (x.k : Int) ∧ (x.k : Int) ≤ 255; omega, ⟨Int.le_refl _, by show (0 : Int) ≤ 255; decide⟩⟩
theorem run_boxPs {o : Oper} {a : Act} {w : World} (x : Operand) (ho : o.op = .box 31 x) (p : Nat → Int) (hx : a.eval x = .agg (posA p)) :
  (execOp a.eval o).run Tryz.prog w = .ok (.value (.pointer (some ⟨w.heap.size, 0, none⟩))) (w.alloc (.cells (posA p) 31)) := by
 unfold execOp
 simp only [ho, hx, Instr.box, Sem.run_bind, Sem.run_pure]
 rfl
theorem run_boxMv {o : Oper} {a : Act} {w : World} (x : Operand) (ho : o.op = .box 40 x) (m : Mv) (hx : a.eval x = .agg (mvA m)) :
  (execOp a.eval o).run Tryz.prog w = .ok (.value (.pointer (some ⟨w.heap.size, 0, none⟩))) (w.alloc (.cells (mvA m) 40)) := by
 unfold execOp
 simp only [ho, hx, Instr.box, Sem.run_bind, Sem.run_pure]
 rfl
theorem run_mvE {o : Oper} {a : Act} {w : World} (x y : Operand) (ho : o.op = .binOp .eql 40 x y 40) (m n : Mv) (hx : a.eval x = .agg (mvA m)) (hy : a.eval y = .agg (mvA n)) (hm : FitV m) (hn : FitV n) (b : Bool) (hb : mvE m n = b) :
  (execOp a.eval o).run Tryz.prog w = .ok (.value (.bool b)) w := by
 have hr : (binOp .eql 40 (.agg (mvA m)) (.agg (mvA n))).run Tryz.prog w = .ok (.bool b) w := by
  rw [run_eql_struct, run_mveq hm hn, hb]; rfl
 unfold execOp
 simp only [ho, hx, hy, Sem.run_bind, run_eqGuard_agg w _ _ _ _ _ _ guardMv, Result.andThen_ok, hr]
 rfl
theorem run_mvL {o : Oper} {a : Act} {w : World} (x : Operand) (ho : o.op = .load 40 x) (b : Nat) (hx : a.eval x = .pointer (some ⟨b, 0, none⟩)) (m : Mv) (hr : Blk w b 40 (mvA m)) : (execOp a.eval o).run Tryz.prog w = .ok (.value (.agg (mvA m))) w :=
 run_blk 40 x ho b hx (mvA m) hr _ Tryz.underlying40 rfl sizePm
theorem tak_yes {p : Nat → Int} {m : Mv} {pre : List Pm} (hp : pre <+: mvsL p (ownN p) (theN p) m.f) (h : ∃ x ∈ pre, mvE (pmM x) m = true) : takZ p m = tkZ p (theN p) m.f.toNat m.t.toNat := by
 obtain ⟨x, hx, e⟩ := h
 unfold takZ
 rw [List.any_eq_true.2 ⟨x, hp.subset hx, e⟩]; rfl
theorem tak_no {p : Nat → Int} {m : Mv} (h : ∀ x ∈ mvsL p (ownN p) (theN p) m.f, mvE (pmM x) m = false) : takZ p m = -1 := by
 unfold takZ
 rw [List.any_eq_false.2 fun x hx => by rw [h x hx]; simp]; rfl
theorem tk_world (w : World) (p : Nat → Int) (m : Mv) : ∃ W0, W0 = ((w.alloc (.cells (posA p) 31)).alloc (.cells (mvA m) 40)).alloc (.cells #[.int .i64 0] 3) ∧
  W0.heap.size = w.heap.size + 3 ∧ Below w.heap.size w W0 ∧ Row W0 w.heap.size p ∧ Blk W0 (w.heap.size + 1) 40 (mvA m) ∧ Blk W0 (w.heap.size + 1 + 1) 3 #[.int .i64 0] := by
 have b1 : Row (w.alloc (.cells (posA p) 31)) w.heap.size p := heap_alloc_new w (.cells (posA p) 31)
 have b2 := heap_alloc_new (w.alloc (.cells (posA p) 31)) (.cells (mvA m) 40)
 have b3 := heap_alloc_new ((w.alloc (.cells (posA p) 31)).alloc (.cells (mvA m) 40)) (.cells #[.int .i64 0] 3)
 have s1 : (w.alloc (.cells (posA p) 31)).heap.size = w.heap.size + 1 := by simp
 have s2 : ((w.alloc (.cells (posA p) 31)).alloc (.cells (mvA m) 40)).heap.size = w.heap.size + 2 := by simp
 rw [s1] at b2
 rw [s2] at b3
 exact ⟨_, rfl, by simp, below_on (below_on (box_below _ _) (box_below _ _)) (box_below _ _), (b1.later (box_below _ _)).later (box_below _ _), Blk.later b2 (box_below _ _), b3⟩
theorem taken_in (p : Nat → Int) (m : Mv) (w : World) (hp : PsR p) (hm : FitV m) (hT : PsT w) : CallsIn Fence.wide 20 Tryz.prog 40 #[.agg (posA p), .agg (mvA m)] w (IntL (takZ p m) w) := by
 have HP := H_ hp
 have HM := H_ hm
 have HT0 := H_ hT
 have hwf : IntKind.i64.wrap m.f = m.f := by have := hm.f; rw [IntKind.wrap_i64]; omega
 have hwt : IntKind.i64.wrap m.t = m.t := by have := hm.t; rw [IntKind.wrap_i64]; omega
 clear hp hm hT
 refine callsIn_of_wp_marks Tryz.func40 rfl trivial ?_ rfl
 simp only [Tryz.ntmps40, List.size_toArray, List.length_cons, List.length_nil, Nat.reduceAdd, Nat.reduceSub, Array.replicate_succ, Array.replicate_zero, List.push_toArray, List.append_toArray, List.nil_append, List.cons_append]
 obtain ⟨W0, hW0, hs0, hb0, hr0, hm0, hi0⟩ := tk_world w p m
 have HR := H_ hr0
 have HMb := H_ hm0
 have HI := H_ hi0
 have HB := H_ hb0
 have HT := H_ (HT0.out.on hb0)
 have HS0 := H_ hs0
 clear hs0 hb0 hr0 hm0 hi0
 gi_wp2_with (first
  | (refine stepPs rfl (run_boxPs _ rfl p rfl) ?_)
  | (refine stepPs rfl (run_boxMv _ rfl m rfl) ?_)
  | (rw [← hW0]; clear hW0; refine stepPs rfl (run_posP _ rfl w.heap.size rfl p HR.out) ?_)
  | (refine ⟨trivial, ?_⟩; gi_at_call 93; refine (callsIn_wide.2 (ps_seen p _ HP.out)).mono ?_; rintro e W1 ⟨rfl, hb1⟩; have HMb := H_ (Blk.later HMb.out hb1); have HI := H_ (Blk.later HI.out hb1); have HT := H_ (HT.out.on hb1); have HB := H_ (below_on HB.out hb1); have HS1 := H_ (show w.heap.size + 3 ≤ W1.heap.size by have := HS0.out; have := hb1.size; omega); clear hb1)
  | (refine stepPs rfl (run_allocGr rfl) ?_; have HTl := H_ (And.intro (ps_varlt HT.out.var) (And.intro HT.out.db.lt HT.out.lead.lt)); have HMb := H_ (Blk.later HMb.out (box_below _ (.cells (grA zeroP 0 0) 110))); have HI := H_ (Blk.later HI.out (box_below _ (.cells (grA zeroP 0 0) 110))); have HT := H_ (HT.out.on (box_below _ (.cells (grA zeroP 0 0) 110))); have HGs := H_ HB.out.size; have HB := H_ (below_on HB.out (box_below _ (.cells (grA zeroP 0 0) 110))))
  | (refine gi_storeGr rfl _ _ rfl W1.heap.size rfl zeroP p 0 0 _ _ rfl (heap_alloc_new W1 _) ?_; intro W2 U2 R2; have HG := H_ R2; have HMb := H_ (Blk.apart HMb.out U2 (by have := HS1.out; omega)); have HI := H_ (Blk.apart HI.out U2 (by have := HS1.out; omega)); have HT := H_ (HT.out.low (U2.below (Nat.le_refl _)) HTl.out.1 HTl.out.2.1 HTl.out.2.2); have HB := H_ (HB.out.trans (U2.below HGs.out)); clear U2 R2)
  | (refine stepPs rfl (run_gr _ rfl W1.heap.size rfl p _ _ HG.out) ?_)
  | (refine stepPs rfl (run_get 26 _ rfl (w.heap.size + 1) 0 rfl Tryz.underlying26 rfl (.int .i8 m.f) (Blk.cell HMb.out 0)) ?_)
  | (refine ⟨trivial, ?_⟩; gi_at_call 94; refine (callsIn_wide.2 (ps_moves p (ownN p) (theN p) m.f _)).mono ?_; rintro e wn ⟨b, f, hb0, hf0, rfl, hb, hgr, hfr⟩))
 have hsz := HS1.out
 have hsn := hb.size
 have hgl := HG.out.lt
 have HG := H_ (HG.out.later hb)
 have HMb := H_ (Blk.later HMb.out hb)
 have HI := H_ (Blk.later HI.out hb)
 have HT := H_ (HT.out.on hb)
 have HB := H_ (below_on HB.out hb)
 have Hin := H_ (show MvIn p (ownN p) (theN p) m.f b f wn from ⟨hgr, hfr, HT.out⟩)
 have hW1 : W1.heap.size < wn.heap.size := by omega
 have hwn : w.heap.size + 3 ≤ wn.heap.size := by omega
 have HW1 := H_ hW1
 have HWn := H_ hwn
 have Hg4 := H_ (show W1.heap.size ≠ w.heap.size + 1 + 1 by omega)
 have hbo : b ≠ w.heap.size + 1 + 1 := by omega
 have hfo : f ≠ w.heap.size + 1 + 1 := by omega
 have hto : PsOff (· = w.heap.size + 1 + 1) := ⟨fun e => by have := HTl.out.1; have := ps_varlt HT0.out.var; omega, fun e => by have := HT0.out.db.lt; omega, fun e => by have := HT0.out.lead.lt; omega⟩
 clear hb hgr hfr hb0 hf0
 refine range_boxC (n := 20) (val := pmV) (gf := 176) (lb := #[.pointer (some ⟨b, 0, none⟩), .pointer (some ⟨f, 0, none⟩)]) rfl (enters_of Tryz.func176 (by kernel_rfl) rfl) (· = w.heap.size + 1 + 1) (fun k e => by subst e; omega) (mvsL p (ownN p) (theN p) m.f)
  (mvs_seq 19 b f (by decide) p HP.out (ownN p) (theN p) (ownN_lt p) (theN_lt p) m.f HM.out.f (· = w.heap.size + 1 + 1) wn Hin.out ⟨hbo, hfo, hto⟩ (fun k e => by subst e; omega))
  (fun pre C A => (∀ x ∈ pre, mvE (pmM x) m = false) ∧ Blk A (w.heap.size + 1 + 1) 3 #[.int .i64 0] ∧ Kept (· = w.heap.size + 1 + 1) wn A)
  (fun pre C A => (∃ x ∈ pre, mvE (pmM x) m = true) ∧ Blk A (w.heap.size + 1 + 1) 3 #[.int .i64 (tkZ p (theN p) m.f.toNat m.t.toNat)] ∧ Kept (· = w.heap.size + 1 + 1) wn A)
  ?hI ?hIx ⟨fun _ h => absurd h List.not_mem_nil, HI.out, Kept.refl _ _⟩ 40 pmA (fun x b2 => { tmps := #[.agg (posA p), .agg (mvA m), .pointer (some ⟨w.heap.size, 0, none⟩), .pointer (some ⟨w.heap.size + 1, 0, none⟩), .pointer (some ⟨w.heap.size + 1 + 1, 0, none⟩), .pointer (some ⟨W1.heap.size, 0, none⟩), .pointer (some ⟨b2, 0, none⟩), .agg (posA p), .agg (grA p (ownN p) (theN p)), .agg (grA p (ownN p) (theN p)), .pointer (some ⟨w.heap.size + 1, 0, none⟩), .int .i8 m.f, .int .i64 m.f, .func (.func 176) #[] #[.pointer (some ⟨b, 0, none⟩), .pointer (some ⟨f, 0, none⟩)], pmV x, undef, undef, undef, undef, undef, undef, undef, undef, undef, undef, undef], defers := [] }) ?assign ?body ?done ?stop
 case hI => exact fun pre C A A' h k => ⟨h.1, (k.same _ (Blk.lt h.2.1) (fun g => by have := g.1; have := HWn.out; omega)).trans h.2.1, h.2.2.since (k.mono fun i hi => hi.1) (Nat.le_refl _)⟩
 case hIx => exact fun pre C A A' h k => ⟨h.1, (k.same _ (Blk.lt h.2.1) (fun g => by have := g.1; have := HWn.out; omega)).trans h.2.1, h.2.2.since (k.mono fun i hi => hi.1) (Nat.le_refl _)⟩
 case assign =>
  intro l2 x A K' hK'
  simp only [pmV, pmA] at hK' ⊢
  gi_wp2
  exact hK'
 case body =>
  rintro l2 b2 pre x C A ⟨hall, hv, hk⟩ hcb hb2 hblk hpre
  have hxm : x ∈ mvsL p (ownN p) (theN p) m.f := hpre.subset (by simp)
  have HFx := H_ (fit_pm hxm)
  have HBl := H_ hblk
  have HMa := H_ (show Blk A (w.heap.size + 1) 40 (mvA m) from (hk.same _ (Blk.lt HMb.out) (by omega)).trans HMb.out)
  have HGa := H_ (show GR A W1.heap.size p (ownN p) (theN p) from (hk.same _ HG.out.lt Hg4.out).trans HG.out)
  have Hv := H_ hv
  have Hk := H_ hk
  have Hall := H_ hall
  have Hcb := H_ hcb
  have Hxm := H_ hxm
  clear hall hv hk hcb hb2 hblk hpre hxm
  cases e : mvE (pmM x) m
  ·gi_wp2_with (first
    | (refine stepRd rfl (fun _ h => by cases h) (run_pm _ rfl b2 rfl x HBl.out) ?_)
    | (refine stepRd rfl (fun _ h => by cases h) (run_mvL _ rfl (w.heap.size + 1) rfl m HMa.out) ?_)
    | (refine stepRd rfl (fun _ h => by cases h) (run_mvE _ _ rfl (pmM x) m rfl rfl HFx.out HM.out false e) ?_))
   exact ⟨C, Kept.refl _ _, fun k hk => ⟨.inl hk, (Hcb.out k hk).2.1⟩, fun y hy => (List.mem_append.1 hy).elim (Hall.out y) (fun g => by rw [List.mem_singleton.1 g]; exact e), Hv.out, Hk.out⟩
  ·have em : pmM x = m := mvE_true.1 e
   obtain ⟨h1, h2, h3⟩ := mvs_in Hxm.out
   obtain ⟨F, hF, hmf⟩ := nat_of_sq h3
   have hmt : m.t = (x.t : Int) := by rw [← em]; rfl
   have HFl := H_ hF
   have HTl2 := H_ h2
   have HMf := H_ hmf
   have HMt := H_ hmt
   rw [hmf] at hwf
   rw [hmt] at hwt
   clear em h1 h2 h3 hF hmf hmt
   gi_wp2_with (first
    | (refine stepRd rfl (fun _ h => by cases h) (run_pm _ rfl b2 rfl x HBl.out) ?_)
    | (refine stepRd rfl (fun _ h => by cases h) (run_mvL _ rfl (w.heap.size + 1) rfl m HMa.out) ?_)
    | (refine stepRd rfl (fun _ h => by cases h) (run_mvE _ _ rfl (pmM x) m rfl rfl HFx.out HM.out true e) ?_)
    | (refine stepRd rfl (fun _ h => by cases h) (run_gr _ rfl W1.heap.size rfl p _ _ HGa.out) ?_)
    | (refine stepRd rfl (fun _ h => by cases h) (run_get 26 _ rfl (w.heap.size + 1) 0 rfl Tryz.underlying26 rfl (.int .i8 (F : Int)) ((Blk.cell HMa.out 0).trans (by rw [← HMf.out]; rfl))) ?_)
    | (refine stepRd rfl (fun _ h => by cases h) (run_get 26 _ rfl (w.heap.size + 1) 1 rfl Tryz.underlying26 rfl (.int .i8 (x.t : Int)) ((Blk.cell HMa.out 1).trans (by rw [← HMt.out]; rfl))) ?_)
    | (refine ⟨trivial, ?_⟩; gi_at_call 95; refine ((callsIn_wide.2 (ps_taken p (ownN p) (theN p) F x.t HFl.out HTl2.out _ HP.out (theN_lt p))).inRound _).mono ?_; rintro e5 w5 ⟨rfl, hb5⟩; have hcv := Blk.cell (Blk.later Hv.out hb5) 0; have hfv := Blk.frozen (Blk.later Hv.out hb5) 0; have Hb5 := H_ hb5; clear hb5))
   have hkk : Kept (· = w.heap.size + 1 + 1) A (World.setCell w5 ⟨w.heap.size + 1 + 1, 0, none⟩ (.int .i64 (tkZ p (theN p) F x.t))) := (Kept.of_call _ Hb5.out).trans (Kept.setCell _ _ _ _)
   have hbk := Blk.set (Blk.later Hv.out Hb5.out) 0 (.int .i64 (tkZ p (theN p) F x.t))
   refine ⟨C, hkk.mono fun _ => .inl, fun k hk => ⟨.inl hk, Nat.lt_of_lt_of_le (Hcb.out k hk).2.1 hkk.size⟩, ⟨x, by simp, e⟩, ?_, Hk.out.trans hkk⟩
   rw [HMf.out, HMt.out, Int.toNat_natCast, Int.toNat_natCast]
   exact hbk
 case done =>
  rintro C A ⟨hall, hv, hk⟩ hcb hd
  have hcv := Blk.cell hv 0
  have hfv := Blk.frozen hv 0
  have HN := H_ (tak_no hall)
  gi_wp2_with fail
  have hkk : Kept (· = w.heap.size + 1 + 1) A (World.setCell A ⟨w.heap.size + 1 + 1, 0, none⟩ (.int .i64 (-1))) := Kept.setCell _ _ _ _
  have hbk := Blk.set hv 0 (.int .i64 (-1))
  refine marks_leave (lo := wn.heap.size) (hi := wn.heap.size + 1) ⟨wn.heap.size, rfl, Nat.le_refl _, Nat.lt_succ_self _, hkk.obj hd (by have := HWn.out; omega), trivial⟩ (fun w' hk' => ?_)
  have hc5 : w'.cell? ⟨w.heap.size + 1 + 1, 0, none⟩ = some (.int .i64 (-1)) := hk'.cell (Blk.cell hbk 0) (by have := HWn.out; show ¬ wn.heap.size ≤ w.heap.size + 1 + 1; omega)
  refine ⟨.int .i64 (-1), ?_, by rw [HN.out], HB.out.trans ((hk.trans hkk).below (fun i e => by omega) (by omega) |>.trans (hk'.below (fun i hi => by omega) (by have := hk.size; have := hkk.size; omega)))⟩
  simp [results, Tryz.f40, go_sem, hc5]
 case stop =>
  rintro pre C A hne hpre ⟨hex, hv, hk⟩ hcb hd
  have HN := H_ (tak_yes hpre hex)
  gi_wp2_with fail
  refine marks_leave (lo := wn.heap.size) (hi := wn.heap.size + 1) ⟨wn.heap.size, rfl, Nat.le_refl _, Nat.lt_succ_self _, hd, trivial⟩ (fun w' hk' => ?_)
  have hc5 : w'.cell? ⟨w.heap.size + 1 + 1, 0, none⟩ = some (.int .i64 (tkZ p (theN p) m.f.toNat m.t.toNat)) := hk'.cell (Blk.cell hv 0) (by have := HWn.out; show ¬ wn.heap.size ≤ w.heap.size + 1 + 1; omega)
  refine ⟨.int .i64 (tkZ p (theN p) m.f.toNat m.t.toNat), ?_, by rw [HN.out], HB.out.trans (hk.below (fun i e => by omega) (by omega) |>.trans (hk'.below (fun i hi => by omega) (by have := hk.size; omega)))⟩
  simp [results, Tryz.f40, go_sem, hc5]
theorem taken_ps (p : Nat → Int) (m : Mv) (w : World) (hp : PsR p) (hm : FitV m) (hT : PsT w) : Calls Tryz.prog 40 #[.agg (posA p), .agg (mvA m)] w (IntL (takZ p m) w) :=
 callsIn_wide.1 (taken_in p m w hp hm hT)
theorem takes_ps (p : Nat → Int) (m : Mv) (w : World) (hp : PsR p) (hm : FitV m) (hT : PsT w) : Calls Tryz.prog 18 #[.agg (posA p), .agg (mvA m)] w (BoL (takZ p m != -1) w) := by
 have HP := H_ hp
 have HM := H_ hm
 have HT := H_ hT
 clear hp hm hT
 obtain ⟨W0, hW0⟩ : ∃ W0, W0 = (w.alloc (.cells (posA p) 31)).alloc (.cells (mvA m) 40) := ⟨_, rfl⟩
 have HB := H_ (Below.refl w.heap.size w)
 go_enter Tryz.func18, Tryz.ntmps18
 go_wp2_with (first
  | (refine step_box rfl _ rfl p rfl ?_; intro b1 w1 N R; have HB := H_ (HB.out.trans (N.below.mono HB.out.size)); have HR := H_ R; clear N R)
  | (refine blk_box rfl 40 _ rfl (mvA m) rfl ?_; intro b3 w3 N R; have HR := H_ (HR.out.later N.below); have HB := H_ (below_on HB.out N.below); have HR3 := H_ R; clear N R)
  | (refine step_load rfl _ rfl b1 rfl p HR.out ?_)
  | (refine blk_load rfl 40 _ rfl b3 rfl (mvA m) HR3.out _ Tryz.underlying40 rfl sizePm ?_)
  | (go_at_call 40; refine (taken_ps p m _ HP.out HM.out (HT.out.on HB.out)).mono ?_; rintro e w4 ⟨rfl, hb⟩; have HB := H_ (below_on HB.out hb); clear hb))
 go_ret
 exact ⟨rfl, HB.out⟩
end Go.Proofs.YteblmnbagbdiiaaGreatDoor
