/-
 Layer 13: what a move takes.
-/
import Derived.Test.YtidgfadbdgheiaaGreatDoorPsF
import Derived.Test.YtidgfadbdgheiaaGreatDoorAfBaseK
namespace Go.Proofs.YtidgfadbdgheiaaGreatDoor
open Go.RowKit Go.Shelf
set_option linter.unusedVariables false
set_option linter.unusedSimpArgs false
attribute [local go_sem] Oper.semAt_some

def pmM (x : Pm) : Mv := ⟨x.f, x.t, x.k, 0, false⟩
/-- The square of what the move takes. -/
def tkZ (p : Nat → Int) (t f b : Nat) : Int := bif t.testBit b then (b : Int) else bif (knP p (f : Int) == 1) && (((b : Int) == p 83) && (((f % 8 : Nat) : Int) != ((b % 8 : Nat) : Int))) then ((f - f % 8 + b % 8 : Nat) : Int) else -1
theorem ps_rem : ∀ n : Nat, n < 64 → wrap64 ((n : Int) % 8) = ((n % 8 : Nat) : Int) := by decide +kernel
set_option maxRecDepth 100000 in
set_option maxHeartbeats 1000000 in
theorem ps_taken (p : Nat → Int) (o t f b : Nat) (hf : f < 64) (hb64 : b < 64) (w : World) (hp : PsR p) (ht : t < W64) :
  Calls Tryz.prog 36 #[.agg (grA p o t), .int .i64 (f : Int), .int .i64 (b : Int)] w (IntL (tkZ p t f b) w) := by
 have HP := Lib.hid hp
 have hw83 : IntKind.i64.wrap (p 83) = p 83 := by have := hp.pass; rw [IntKind.wrap_i64]; omega
 have HB := Lib.hid (Below.refl w.heap.size w)
 obtain ⟨h, HH⟩ : ∃ h, Hid (t.testBit b = h) := ⟨_, Lib.hid rfl⟩
 have HHc := Lib.hid (show ∀ w1, Calls Tryz.prog 80 #[.int .u64 (t : Int), .int .i64 (b : Int)] w1 (fun e w' => e = .returned (.bool h) ∧ w1 = w') from fun w1 => HH.out ▸ hasN_nat t b hb64 ▸ has_any t (b : Int) w1 ht)
 obtain ⟨g, HG⟩ : ∃ g, Hid ((knP p (f : Int) == 1) = g) := ⟨_, Lib.hid rfl⟩
 have HPw := Lib.hid (show ∀ w1, Calls Tryz.prog 81 #[.agg (grA p o t), .int .i64 (f : Int)] w1 (BoL g w1) from fun w1 => HG.out ▸ ps_pawn p o t (f : Int) w1 HP.out.bd)
 have hr1 := ps_rem f hf
 have hr2 := ps_rem b hb64
 have Hf := Lib.hid hf
 have Hb := Lib.hid hb64
 clear hp ht hf hb64
 cases h
 ·cases g
  ·have HS := Lib.hid (show tkZ p t f b = -1 by unfold tkZ; rw [HH.out, HG.out]; rfl)
   go_enter Tryz.func36, Tryz.ntmps36
   go_wp2_with (first
    | (refine gr_box rfl _ rfl p o t rfl ?_; intro b1 w1 N R; have HB := Lib.hid (HB.out.trans (N.below.mono HB.out.size)); have HR := Lib.hid R; clear N R)
    | (refine gr_load rfl _ rfl b1 rfl p o t HR.out ?_)
    | (refine step_get rfl 23 _ rfl b1 89 rfl Tryz.underlying23 rfl (.int .u64 (t : Int)) ?_ ?_; exact HR.out.the)
    | (go_at_call 80; refine (HHc.out _).mono ?_; rintro e w3 ⟨rfl, rfl⟩)
    | (go_at_call 81; refine (HPw.out _).mono ?_; rintro e w3 ⟨rfl, hb⟩; have HR := Lib.hid (HR.out.later hb); have HB := Lib.hid (below_on HB.out hb); clear hb))
   go_ret
   exact ⟨by rw [HS.out]; rfl, HB.out⟩
  ·cases g1 : ((b : Int) == p 83)
   ·have HS := Lib.hid (show tkZ p t f b = -1 by unfold tkZ; rw [HH.out, HG.out, g1]; rfl)
    go_enter Tryz.func36, Tryz.ntmps36
    go_wp2_with (first
     | (refine gr_box rfl _ rfl p o t rfl ?_; intro b1 w1 N R; have HB := Lib.hid (HB.out.trans (N.below.mono HB.out.size)); have HR := Lib.hid R; clear N R)
     | (refine gr_load rfl _ rfl b1 rfl p o t HR.out ?_)
     | (refine step_get rfl 23 _ rfl b1 89 rfl Tryz.underlying23 rfl (.int .u64 (t : Int)) ?_ ?_; exact HR.out.the)
     | (refine step_get rfl 26 _ rfl b1 83 rfl Tryz.underlying26 rfl (.int .i8 (p 83)) ?_ ?_; exact HR.out.cell 83 (by decide))
     | (go_at_call 80; refine (HHc.out _).mono ?_; rintro e w3 ⟨rfl, rfl⟩)
     | (go_at_call 81; refine (HPw.out _).mono ?_; rintro e w3 ⟨rfl, hb⟩; have HR := Lib.hid (HR.out.later hb); have HB := Lib.hid (below_on HB.out hb); clear hb))
    go_ret
    exact ⟨by rw [HS.out]; rfl, HB.out⟩
   ·cases g2 : (((f % 8 : Nat) : Int) != ((b % 8 : Nat) : Int))
    ·have HS := Lib.hid (show tkZ p t f b = -1 by unfold tkZ; rw [HH.out, HG.out, g1, g2]; rfl)
     go_enter Tryz.func36, Tryz.ntmps36
     go_wp2_with (first
      | (refine gr_box rfl _ rfl p o t rfl ?_; intro b1 w1 N R; have HB := Lib.hid (HB.out.trans (N.below.mono HB.out.size)); have HR := Lib.hid R; clear N R)
      | (refine gr_load rfl _ rfl b1 rfl p o t HR.out ?_)
      | (refine step_get rfl 23 _ rfl b1 89 rfl Tryz.underlying23 rfl (.int .u64 (t : Int)) ?_ ?_; exact HR.out.the)
      | (refine step_get rfl 26 _ rfl b1 83 rfl Tryz.underlying26 rfl (.int .i8 (p 83)) ?_ ?_; exact HR.out.cell 83 (by decide))
      | (go_at_call 80; refine (HHc.out _).mono ?_; rintro e w3 ⟨rfl, rfl⟩)
      | (go_at_call 81; refine (HPw.out _).mono ?_; rintro e w3 ⟨rfl, hb⟩; have HR := Lib.hid (HR.out.later hb); have HB := Lib.hid (below_on HB.out hb); clear hb))
     go_ret
     exact ⟨by rw [HS.out]; rfl, HB.out⟩
    ·have HE := Lib.hid (show wrap64 (wrap64 ((f : Int) - (f : Int) % 8) + (b : Int) % 8) = ((f - f % 8 + b % 8 : Nat) : Int) by have := Hf.out; rw [IntWalk.wrap64_in ((f : Int) - (f : Int) % 8) ⟨by omega, by omega⟩, IntWalk.wrap64_in _ ⟨by omega, by omega⟩]; omega)
     have HS := Lib.hid (show tkZ p t f b = ((f - f % 8 + b % 8 : Nat) : Int) by unfold tkZ; rw [HH.out, HG.out, g1, g2]; rfl)
     go_enter Tryz.func36, Tryz.ntmps36
     go_wp2_with (first
      | (refine gr_box rfl _ rfl p o t rfl ?_; intro b1 w1 N R; have HB := Lib.hid (HB.out.trans (N.below.mono HB.out.size)); have HR := Lib.hid R; clear N R)
      | (refine gr_load rfl _ rfl b1 rfl p o t HR.out ?_)
      | (refine step_get rfl 23 _ rfl b1 89 rfl Tryz.underlying23 rfl (.int .u64 (t : Int)) ?_ ?_; exact HR.out.the)
      | (refine step_get rfl 26 _ rfl b1 83 rfl Tryz.underlying26 rfl (.int .i8 (p 83)) ?_ ?_; exact HR.out.cell 83 (by decide))
      | (go_at_call 80; refine (HHc.out _).mono ?_; rintro e w3 ⟨rfl, rfl⟩)
      | (go_at_call 81; refine (HPw.out _).mono ?_; rintro e w3 ⟨rfl, hb⟩; have HR := Lib.hid (HR.out.later hb); have HB := Lib.hid (below_on HB.out hb); clear hb))
     go_ret
     exact ⟨by rw [HS.out]; exact congrArg (fun x => Ending.returned (Value.int .i64 x)) HE.out, HB.out⟩
 ·have HS := Lib.hid (show tkZ p t f b = (b : Int) by unfold tkZ; rw [HH.out]; rfl)
  go_enter Tryz.func36, Tryz.ntmps36
  go_wp2_with (first
   | (refine gr_box rfl _ rfl p o t rfl ?_; intro b1 w1 N R; have HB := Lib.hid (HB.out.trans (N.below.mono HB.out.size)); have HR := Lib.hid R; clear N R)
   | (refine step_get rfl 23 _ rfl b1 89 rfl Tryz.underlying23 rfl (.int .u64 (t : Int)) ?_ ?_; exact HR.out.the)
   | (go_at_call 80; refine (HHc.out _).mono ?_; rintro e w3 ⟨rfl, rfl⟩))
  go_ret
  exact ⟨by rw [HS.out]; rfl, HB.out⟩
/-- What the move takes; -1, if there is no such move, or if it takes nothing. -/
def takZ (p : Nat → Int) (m : Mv) : Int := bif (mvsL p (ownN p) (theN p) m.f).any (fun x => mvE (pmM x) m) then tkZ p (theN p) m.f.toNat m.t.toNat else -1
theorem mvs_in {p : Nat → Int} {o t : Nat} {s : Int} {x : Pm} (h : x ∈ mvsL p o t s) : x.f = s ∧ x.t < 64 ∧ sq s = true := by
 unfold mvsL mvO at h
 rw [List.mem_flatMap] at h
 obtain ⟨b, hb, hx⟩ := h
 rw [List.mem_map] at hx
 obtain ⟨k, _, rfl⟩ := hx
 refine ⟨rfl, (mem_listN.1 hb).1, ?_⟩
 cases hs : sq s
 ·have : golN p o t s = 0 := by unfold golN; rw [hasN_no hs]; rfl
  rw [this] at hb
  have := (mem_listN.1 hb).2
  rw [Nat.zero_testBit] at this; cases this
 ·rfl
theorem bec_le {p : Nat → Int} {s : Int} {b k : Nat} (h : k ∈ becL p s b) : k ≤ 255 := by
 unfold becL at h
 generalize (knP p s == 1 && (((b / 8 : Nat) : Int) == homZ (oth (p 78)))) = z at h
 cases z
 ·simp at h; omega
 ·have := hi_cases (p 0).toNat
  simp [prL, upN] at h
  obtain ⟨a, ha, rfl⟩ := h
  omega
theorem fit_pm {p : Nat → Int} {o t : Nat} {s : Int} {x : Pm} (h : x ∈ mvsL p o t s) : FitV (pmM x) := by
 obtain ⟨h1, h2, h3⟩ := mvs_in h
 obtain ⟨n, hn, hs⟩ := nat_of_sq h3
 have hk : x.k ≤ 255 := by
  unfold mvsL mvO at h
  rw [List.mem_flatMap] at h
  obtain ⟨b, _, hx⟩ := h
  rw [List.mem_map] at hx
  obtain ⟨k, hk, rfl⟩ := hx
  exact bec_le hk
 exact ⟨by show -128 ≤ x.f ∧ x.f ≤ 127; omega, by show -128 ≤ (x.t : Int) ∧ (x.t : Int) ≤ 127; omega, by show 0 ≤ (x.k : Int) ∧ (x.k : Int) ≤ 255; omega, ⟨Int.le_refl _, by show (0 : Int) ≤ 255; decide⟩⟩
theorem run_boxPs {o : Oper} {a : Act} {w : World} (x : Operand) (ho : o.op = .box 31 x) (p : Nat → Int) (hx : a.eval x = .agg (posA p)) :
  (execOp a.eval o).run Tryz.prog w = .ok (.value (.pointer (some ⟨w.heap.size, 0, none⟩))) (w.alloc (.cells (posA p) 31)) := by
 unfold execOp
 simp only [ho, hx, Instr.box, Sem.run_bind, Sem.run_pure]
 rfl
theorem run_boxMv {o : Oper} {a : Act} {w : World} (x : Operand) (ho : o.op = .box 40 x) (m : Mv) (hx : a.eval x = .agg (mvA m)) :
  (execOp a.eval o).run Tryz.prog w = .ok (.value (.pointer (some ⟨w.heap.size, 0, none⟩))) (w.alloc (.cells (mvA m) 40)) := by
 unfold execOp
 simp only [ho, hx, Instr.box, Sem.run_bind, Sem.run_pure]
 rfl
theorem run_mvE {o : Oper} {a : Act} {w : World} (x y : Operand) (ho : o.op = .binOp .eql 40 x y 40) (m n : Mv) (hx : a.eval x = .agg (mvA m)) (hy : a.eval y = .agg (mvA n)) (hm : FitV m) (hn : FitV n) (b : Bool) (hb : mvE m n = b) :
  (execOp a.eval o).run Tryz.prog w = .ok (.value (.bool b)) w := by
 have hr : (binOp .eql 40 (.agg (mvA m)) (.agg (mvA n))).run Tryz.prog w = .ok (.bool b) w := by
  rw [run_eql_struct, run_mveq hm hn, hb]; rfl
 unfold execOp
 simp only [ho, hx, hy, Sem.run_bind, run_eqGuard_agg w _ _ _ _ _ _ guardMv, Result.andThen_ok, hr]
 rfl
theorem run_mvL {o : Oper} {a : Act} {w : World} (x : Operand) (ho : o.op = .load 40 x) (b : Nat) (hx : a.eval x = .pointer (some ⟨b, 0, none⟩)) (m : Mv) (hr : Blk w b 40 (mvA m)) : (execOp a.eval o).run Tryz.prog w = .ok (.value (.agg (mvA m))) w :=
 run_blk 40 x ho b hx (mvA m) hr _ Tryz.underlying40 rfl sizePm
theorem tak_yes {p : Nat → Int} {m : Mv} {pre : List Pm} (hp : pre <+: mvsL p (ownN p) (theN p) m.f) (h : ∃ x ∈ pre, mvE (pmM x) m = true) : takZ p m = tkZ p (theN p) m.f.toNat m.t.toNat := by
 obtain ⟨x, hx, e⟩ := h
 unfold takZ
 rw [List.any_eq_true.2 ⟨x, hp.subset hx, e⟩]; rfl
theorem tak_no {p : Nat → Int} {m : Mv} (h : ∀ x ∈ mvsL p (ownN p) (theN p) m.f, mvE (pmM x) m = false) : takZ p m = -1 := by
 unfold takZ
 rw [List.any_eq_false.2 fun x hx => by rw [h x hx]; simp]; rfl
theorem tk_world (w : World) (p : Nat → Int) (m : Mv) : ∃ W0, W0 = ((w.alloc (.cells (posA p) 31)).alloc (.cells (mvA m) 40)).alloc (.cells #[.int .i64 0] 3) ∧
  W0.heap.size = w.heap.size + 3 ∧ Below w.heap.size w W0 ∧ Row W0 w.heap.size p ∧ Blk W0 (w.heap.size + 1) 40 (mvA m) ∧ Blk W0 (w.heap.size + 1 + 1) 3 #[.int .i64 0] := by
 have b1 : Row (w.alloc (.cells (posA p) 31)) w.heap.size p := heap_alloc_new w (.cells (posA p) 31)
 have b2 := heap_alloc_new (w.alloc (.cells (posA p) 31)) (.cells (mvA m) 40)
 have b3 := heap_alloc_new ((w.alloc (.cells (posA p) 31)).alloc (.cells (mvA m) 40)) (.cells #[.int .i64 0] 3)
 have s1 : (w.alloc (.cells (posA p) 31)).heap.size = w.heap.size + 1 := by simp
 have s2 : ((w.alloc (.cells (posA p) 31)).alloc (.cells (mvA m) 40)).heap.size = w.heap.size + 2 := by simp
 rw [s1] at b2
 rw [s2] at b3
 exact ⟨_, rfl, by simp, below_on (below_on (box_below _ _) (box_below _ _)) (box_below _ _), (b1.later (box_below _ _)).later (box_below _ _), Blk.later b2 (box_below _ _), b3⟩
set_option maxRecDepth 100000 in
set_option maxHeartbeats 4000000 in
theorem taken_in (p : Nat → Int) (m : Mv) (w : World) (hp : PsR p) (hm : FitV m) (hT : PsT w) : CallsIn Fence.wide 20 Tryz.prog 14 #[.agg (posA p), .agg (mvA m)] w (IntL (takZ p m) w) := by
 have HP := Lib.hid hp
 have HM := Lib.hid hm
 have HT0 := Lib.hid hT
 have hwf : IntKind.i64.wrap m.f = m.f := by have := hm.f; rw [IntKind.wrap_i64]; omega
 have hwt : IntKind.i64.wrap m.t = m.t := by have := hm.t; rw [IntKind.wrap_i64]; omega
 clear hp hm hT
 refine callsIn_of_wp_marks Tryz.func14 rfl trivial ?_ rfl
 simp only [Tryz.ntmps14, List.size_toArray, List.length_cons, List.length_nil, Nat.reduceAdd, Nat.reduceSub, Array.replicate_succ, Array.replicate_zero, List.push_toArray, List.append_toArray, List.nil_append, List.cons_append]
 obtain ⟨W0, hW0, hs0, hb0, hr0, hm0, hi0⟩ := tk_world w p m
 have HR := Lib.hid hr0
 have HMb := Lib.hid hm0
 have HI := Lib.hid hi0
 have HB := Lib.hid hb0
 have HT := Lib.hid (HT0.out.on hb0)
 have HS0 := Lib.hid hs0
 clear hs0 hb0 hr0 hm0 hi0
 gi_wp2_with (first
  | (refine stepPs rfl (run_boxPs _ rfl p rfl) ?_)
  | (refine stepPs rfl (run_boxMv _ rfl m rfl) ?_)
  | (rw [← hW0]; clear hW0; refine stepPs rfl (run_posP _ rfl w.heap.size rfl p HR.out) ?_)
  | (refine ⟨trivial, ?_⟩; gi_at_call 34; refine (callsIn_wide.2 (ps_seen p _ HP.out)).mono ?_; rintro e W1 ⟨rfl, hb1⟩; have HMb := Lib.hid (Blk.later HMb.out hb1); have HI := Lib.hid (Blk.later HI.out hb1); have HT := Lib.hid (HT.out.on hb1); have HB := Lib.hid (below_on HB.out hb1); have HS1 := Lib.hid (show w.heap.size + 3 ≤ W1.heap.size by have := HS0.out; have := hb1.size; omega); clear hb1)
  | (refine stepPs rfl (run_allocGr rfl) ?_; have HTl := Lib.hid (And.intro (ps_varlt HT.out.var) (And.intro HT.out.db.lt HT.out.lead.lt)); have HMb := Lib.hid (Blk.later HMb.out (box_below _ (.cells (grA zeroP 0 0) 63))); have HI := Lib.hid (Blk.later HI.out (box_below _ (.cells (grA zeroP 0 0) 63))); have HT := Lib.hid (HT.out.on (box_below _ (.cells (grA zeroP 0 0) 63))); have HGs := Lib.hid HB.out.size; have HB := Lib.hid (below_on HB.out (box_below _ (.cells (grA zeroP 0 0) 63))))
  | (refine gi_storeGr rfl _ _ rfl W1.heap.size rfl zeroP p 0 0 _ _ rfl (heap_alloc_new W1 _) ?_; intro W2 U2 R2; have HG := Lib.hid R2; have HMb := Lib.hid (Blk.apart HMb.out U2 (by have := HS1.out; omega)); have HI := Lib.hid (Blk.apart HI.out U2 (by have := HS1.out; omega)); have HT := Lib.hid (HT.out.low (U2.below (Nat.le_refl _)) HTl.out.1 HTl.out.2.1 HTl.out.2.2); have HB := Lib.hid (HB.out.trans (U2.below HGs.out)); clear U2 R2)
  | (refine stepPs rfl (run_gr _ rfl W1.heap.size rfl p _ _ HG.out) ?_)
  | (refine stepPs rfl (run_get 26 _ rfl (w.heap.size + 1) 0 rfl Tryz.underlying26 rfl (.int .i8 m.f) (Blk.cell HMb.out 0)) ?_)
  | (refine ⟨trivial, ?_⟩; gi_at_call 35; refine (callsIn_wide.2 (ps_moves p (ownN p) (theN p) m.f _)).mono ?_; rintro e wn ⟨b, f, hb0, hf0, rfl, hb, hgr, hfr⟩))
 have hsz := HS1.out
 have hsn := hb.size
 have hgl := HG.out.lt
 have HG := Lib.hid (HG.out.later hb)
 have HMb := Lib.hid (Blk.later HMb.out hb)
 have HI := Lib.hid (Blk.later HI.out hb)
 have HT := Lib.hid (HT.out.on hb)
 have HB := Lib.hid (below_on HB.out hb)
 have Hin := Lib.hid (show MvIn p (ownN p) (theN p) m.f b f wn from ⟨hgr, hfr, HT.out⟩)
 have hW1 : W1.heap.size < wn.heap.size := by omega
 have hwn : w.heap.size + 3 ≤ wn.heap.size := by omega
 have HW1 := Lib.hid hW1
 have HWn := Lib.hid hwn
 have Hg4 := Lib.hid (show W1.heap.size ≠ w.heap.size + 1 + 1 by omega)
 have hbo : b ≠ w.heap.size + 1 + 1 := by omega
 have hfo : f ≠ w.heap.size + 1 + 1 := by omega
 have hto : PsOff (· = w.heap.size + 1 + 1) := ⟨fun e => by have := HTl.out.1; have := ps_varlt HT0.out.var; omega, fun e => by have := HT0.out.db.lt; omega, fun e => by have := HT0.out.lead.lt; omega⟩
 clear hb hgr hfr hb0 hf0
 refine range_boxC (n := 20) (val := pmV) (gf := 77) (lb := #[.pointer (some ⟨b, 0, none⟩), .pointer (some ⟨f, 0, none⟩)]) rfl (enters_of Tryz.func77 (by kernel_rfl) rfl) (· = w.heap.size + 1 + 1) (fun k e => by subst e; omega) (mvsL p (ownN p) (theN p) m.f)
  (mvs_seq 19 b f (by decide) p HP.out (ownN p) (theN p) (ownN_lt p) (theN_lt p) m.f HM.out.f (· = w.heap.size + 1 + 1) wn Hin.out ⟨hbo, hfo, hto⟩ (fun k e => by subst e; omega))
  (fun pre C A => (∀ x ∈ pre, mvE (pmM x) m = false) ∧ Blk A (w.heap.size + 1 + 1) 3 #[.int .i64 0] ∧ Kept (· = w.heap.size + 1 + 1) wn A)
  (fun pre C A => (∃ x ∈ pre, mvE (pmM x) m = true) ∧ Blk A (w.heap.size + 1 + 1) 3 #[.int .i64 (tkZ p (theN p) m.f.toNat m.t.toNat)] ∧ Kept (· = w.heap.size + 1 + 1) wn A)
  ?hI ?hIx ⟨fun _ h => absurd h List.not_mem_nil, HI.out, Kept.refl _ _⟩ 40 pmA (fun x b2 => { tmps := #[.agg (posA p), .agg (mvA m), .pointer (some ⟨w.heap.size, 0, none⟩), .pointer (some ⟨w.heap.size + 1, 0, none⟩), .pointer (some ⟨w.heap.size + 1 + 1, 0, none⟩), .pointer (some ⟨W1.heap.size, 0, none⟩), .pointer (some ⟨b2, 0, none⟩), .agg (posA p), .agg (grA p (ownN p) (theN p)), .agg (grA p (ownN p) (theN p)), .pointer (some ⟨w.heap.size + 1, 0, none⟩), .int .i8 m.f, .int .i64 m.f, .func (.func 77) #[] #[.pointer (some ⟨b, 0, none⟩), .pointer (some ⟨f, 0, none⟩)], pmV x, undef, undef, undef, undef, undef, undef, undef, undef, undef, undef, undef], defers := [] }) ?assign ?body ?done ?stop
 case hI => exact fun pre C A A' h k => ⟨h.1, (k.same _ (Blk.lt h.2.1) (fun g => by have := g.1; have := HWn.out; omega)).trans h.2.1, h.2.2.since (k.mono fun i hi => hi.1) (Nat.le_refl _)⟩
 case hIx => exact fun pre C A A' h k => ⟨h.1, (k.same _ (Blk.lt h.2.1) (fun g => by have := g.1; have := HWn.out; omega)).trans h.2.1, h.2.2.since (k.mono fun i hi => hi.1) (Nat.le_refl _)⟩
 case assign =>
  intro l2 x A K' hK'
  simp only [pmV, pmA] at hK' ⊢
  gi_wp2
  exact hK'
 case body =>
  rintro l2 b2 pre x C A ⟨hall, hv, hk⟩ hcb hb2 hblk hpre
  have hxm : x ∈ mvsL p (ownN p) (theN p) m.f := hpre.subset (by simp)
  have HFx := Lib.hid (fit_pm hxm)
  have HBl := Lib.hid hblk
  have HMa := Lib.hid (show Blk A (w.heap.size + 1) 40 (mvA m) from (hk.same _ (Blk.lt HMb.out) (by omega)).trans HMb.out)
  have HGa := Lib.hid (show GR A W1.heap.size p (ownN p) (theN p) from (hk.same _ HG.out.lt Hg4.out).trans HG.out)
  have Hv := Lib.hid hv
  have Hk := Lib.hid hk
  have Hall := Lib.hid hall
  have Hcb := Lib.hid hcb
  have Hxm := Lib.hid hxm
  clear hall hv hk hcb hb2 hblk hpre hxm
  cases e : mvE (pmM x) m
  ·gi_wp2_with (first
    | (refine stepRd rfl (fun _ h => by cases h) (run_pm _ rfl b2 rfl x HBl.out) ?_)
    | (refine stepRd rfl (fun _ h => by cases h) (run_mvL _ rfl (w.heap.size + 1) rfl m HMa.out) ?_)
    | (refine stepRd rfl (fun _ h => by cases h) (run_mvE _ _ rfl (pmM x) m rfl rfl HFx.out HM.out false e) ?_))
   exact ⟨C, Kept.refl _ _, fun k hk => ⟨.inl hk, (Hcb.out k hk).2.1⟩, fun y hy => (List.mem_append.1 hy).elim (Hall.out y) (fun g => by rw [List.mem_singleton.1 g]; exact e), Hv.out, Hk.out⟩
  ·have em : pmM x = m := mvE_true.1 e
   obtain ⟨h1, h2, h3⟩ := mvs_in Hxm.out
   obtain ⟨F, hF, hmf⟩ := nat_of_sq h3
   have hmt : m.t = (x.t : Int) := by rw [← em]; rfl
   have HFl := Lib.hid hF
   have HTl2 := Lib.hid h2
   have HMf := Lib.hid hmf
   have HMt := Lib.hid hmt
   rw [hmf] at hwf
   rw [hmt] at hwt
   clear em h1 h2 h3 hF hmf hmt
   gi_wp2_with (first
    | (refine stepRd rfl (fun _ h => by cases h) (run_pm _ rfl b2 rfl x HBl.out) ?_)
    | (refine stepRd rfl (fun _ h => by cases h) (run_mvL _ rfl (w.heap.size + 1) rfl m HMa.out) ?_)
    | (refine stepRd rfl (fun _ h => by cases h) (run_mvE _ _ rfl (pmM x) m rfl rfl HFx.out HM.out true e) ?_)
    | (refine stepRd rfl (fun _ h => by cases h) (run_gr _ rfl W1.heap.size rfl p _ _ HGa.out) ?_)
    | (refine stepRd rfl (fun _ h => by cases h) (run_get 26 _ rfl (w.heap.size + 1) 0 rfl Tryz.underlying26 rfl (.int .i8 (F : Int)) ((Blk.cell HMa.out 0).trans (by rw [← HMf.out]; rfl))) ?_)
    | (refine stepRd rfl (fun _ h => by cases h) (run_get 26 _ rfl (w.heap.size + 1) 1 rfl Tryz.underlying26 rfl (.int .i8 (x.t : Int)) ((Blk.cell HMa.out 1).trans (by rw [← HMt.out]; rfl))) ?_)
    | (refine ⟨trivial, ?_⟩; gi_at_call 36; refine ((callsIn_wide.2 (ps_taken p (ownN p) (theN p) F x.t HFl.out HTl2.out _ HP.out (theN_lt p))).inRound _).mono ?_; rintro e5 w5 ⟨rfl, hb5⟩; have hcv := Blk.cell (Blk.later Hv.out hb5) 0; have hfv := Blk.frozen (Blk.later Hv.out hb5) 0; have Hb5 := Lib.hid hb5; clear hb5))
   have hkk : Kept (· = w.heap.size + 1 + 1) A (World.setCell w5 ⟨w.heap.size + 1 + 1, 0, none⟩ (.int .i64 (tkZ p (theN p) F x.t))) := (Kept.of_call _ Hb5.out).trans (Kept.setCell _ _ _ _)
   have hbk := Blk.set (Blk.later Hv.out Hb5.out) 0 (.int .i64 (tkZ p (theN p) F x.t))
   refine ⟨C, hkk.mono fun _ => .inl, fun k hk => ⟨.inl hk, Nat.lt_of_lt_of_le (Hcb.out k hk).2.1 hkk.size⟩, ⟨x, by simp, e⟩, ?_, Hk.out.trans hkk⟩
   rw [HMf.out, HMt.out, Int.toNat_natCast, Int.toNat_natCast]
   exact hbk
 case done =>
  rintro C A ⟨hall, hv, hk⟩ hcb hd
  have hcv := Blk.cell hv 0
  have hfv := Blk.frozen hv 0
  have HN := Lib.hid (tak_no hall)
  gi_wp2_with fail
  have hkk : Kept (· = w.heap.size + 1 + 1) A (World.setCell A ⟨w.heap.size + 1 + 1, 0, none⟩ (.int .i64 (-1))) := Kept.setCell _ _ _ _
  have hbk := Blk.set hv 0 (.int .i64 (-1))
  refine marks_leave (lo := wn.heap.size) (hi := wn.heap.size + 1) ⟨wn.heap.size, rfl, Nat.le_refl _, Nat.lt_succ_self _, hkk.obj hd (by have := HWn.out; omega), trivial⟩ (fun w' hk' => ?_)
  have hc5 : w'.cell? ⟨w.heap.size + 1 + 1, 0, none⟩ = some (.int .i64 (-1)) := hk'.cell (Blk.cell hbk 0) (by have := HWn.out; show ¬ wn.heap.size ≤ w.heap.size + 1 + 1; omega)
  refine ⟨.int .i64 (-1), ?_, by rw [HN.out], HB.out.trans ((hk.trans hkk).below (fun i e => by omega) (by omega) |>.trans (hk'.below (fun i hi => by omega) (by have := hk.size; have := hkk.size; omega)))⟩
  simp [results, Tryz.f14, go_sem, hc5]
 case stop =>
  rintro pre C A hne hpre ⟨hex, hv, hk⟩ hcb hd
  have HN := Lib.hid (tak_yes hpre hex)
  gi_wp2_with fail
  refine marks_leave (lo := wn.heap.size) (hi := wn.heap.size + 1) ⟨wn.heap.size, rfl, Nat.le_refl _, Nat.lt_succ_self _, hd, trivial⟩ (fun w' hk' => ?_)
  have hc5 : w'.cell? ⟨w.heap.size + 1 + 1, 0, none⟩ = some (.int .i64 (tkZ p (theN p) m.f.toNat m.t.toNat)) := hk'.cell (Blk.cell hv 0) (by have := HWn.out; show ¬ wn.heap.size ≤ w.heap.size + 1 + 1; omega)
  refine ⟨.int .i64 (tkZ p (theN p) m.f.toNat m.t.toNat), ?_, by rw [HN.out], HB.out.trans (hk.below (fun i e => by omega) (by omega) |>.trans (hk'.below (fun i hi => by omega) (by have := hk.size; omega)))⟩
  simp [results, Tryz.f14, go_sem, hc5]
theorem taken_ps (p : Nat → Int) (m : Mv) (w : World) (hp : PsR p) (hm : FitV m) (hT : PsT w) : Calls Tryz.prog 14 #[.agg (posA p), .agg (mvA m)] w (IntL (takZ p m) w) :=
 callsIn_wide.1 (taken_in p m w hp hm hT)
end Go.Proofs.YtidgfadbdgheiaaGreatDoor
