/-
 Contracts of castle's isFree, isSafe: loops over the squares from the one to the other one.
-/
import Derived.Test.YtidgfadbdgheiaaGreatDoorCsB
import Derived.Test.YtidgfadbdgheiaaGreatDoorAtBy
namespace Go.Proofs.YtidgfadbdgheiaaGreatDoor
open Go.RowKit Go.Shelf
set_option linter.unusedVariables false
set_option linter.unusedSimpArgs false
attribute [local go_sem] Oper.semAt_some

def CellI (w : World) (b : Nat) (x : Int) : Prop := w.cell? ⟨b, 0, none⟩ = some (.int .i64 x)
theorem span_any (x y : Int) (w : World) : Calls Tryz.prog 138 #[.int .i64 x, .int .i64 y] w fun e w' => ∃ b c, e = .returned (.func (.func 169) #[] #[.pointer (some ⟨b, 0, none⟩), .pointer (some ⟨c, 0, none⟩)]) ∧ Below w.heap.size w w' ∧ w.heap.size ≤ b ∧ b < w'.heap.size ∧ w.heap.size ≤ c ∧ c < w'.heap.size ∧ CellI w' b x ∧ CellI w' c y := by
 refine (span_box x y w).mono ?_
 rintro e w' ⟨rfl, rfl⟩
 have e1 : (w.alloc (.cells #[.int .i64 x] 3)).heap.size = w.heap.size + 1 := by simp
 have hb : Below w.heap.size w ((w.alloc (.cells #[.int .i64 x] 3)).alloc (.cells #[.int .i64 y] 3)) := below_on (box_below _ _) (box_below _ _)
 refine ⟨w.heap.size, w.heap.size + 1, rfl, hb, Nat.le_refl _, by simp; omega, by omega, by simp, ?_, ?_⟩
 ·have h1 : (w.alloc (.cells #[.int .i64 x] 3)).cell? ⟨w.heap.size, 0, none⟩ = some (.int .i64 x) := cell_new w _ _
  exact ((box_below (w.alloc (.cells #[.int .i64 x] 3)) (.cells #[.int .i64 y] 3)).cell (p := ⟨w.heap.size, 0, none⟩) (by rw [e1]; simp)).trans h1
 ·have h2 := cell_new (w.alloc (.cells #[.int .i64 x] 3)) (.int .i64 y) 3
  rw [e1] at h2; exact h2
theorem stepRc {r n : Nat} {P : Program} {ops : Array Oper} {Q : Exit → Act → World → Prop} {rest : List Oper} {o : Oper} {a : Act} {w w' : World} {v : Value} (hg : o.guard = none) (hd : ∀ c, o.op ≠ .defer c) (hr : (execOp a.eval o).run P w = .ok (.value v) w')
  (h : wpListIn (Fence.wide.inRound r) n P ops Q rest (a.put o.dst v) w') : wpListIn (Fence.wide.inRound r) n P ops Q (o :: rest) a w :=
 wpListIn_plain hg fun K hK => opIn_of hd (by rw [hr]; exact hK _ _ h)
theorem row_kept {w w' : World} {X : Nat → Prop} {b : Nat} {p : Nat → Int} (h : Row w b p) (k : Kept X w w') (hx : ¬ X b) : Row w' b p := k.obj (show w.heap[b]? = _ from h) hx
theorem all_snoc {α : Type} {f : α → Bool} {l : List α} {x : α} (h : l.all f = true) (hx : f x = true) : (l ++ [x]).all f = true := by rw [List.all_append, h]; simp [hx]
theorem all_stop {α : Type} {f : α → Bool} {l pre : List α} {x : α} (hp : pre ++ [x] <+: l) (hx : f x = false) : l.all f = false := by
 have hm : x ∈ l := hp.subset (by simp)
 cases g : l.all f
 ·rfl
 ·rw [List.all_eq_true] at g; rw [g x hm] at hx; cases hx
theorem ps_atZc {p : Nat → Int} (hp : BdR p) (s : Int) : 0 ≤ atZ p s ∧ atZ p s ≤ 255 := by
 unfold atZ
 by_cases h : sq s = true
 ·rw [if_pos h]
  obtain ⟨n, hn, rfl⟩ := nat_of_sq h
  rw [Int.toNat_natCast]
  by_cases g : pcB (p (1 + n)) = true
  ·rw [if_pos g]; exact hp n hn
  ·rw [if_neg g]; omega
 ·rw [if_neg h]; omega
set_option maxRecDepth 100000 in
set_option maxHeartbeats 4000000 in
theorem cs_free_in (p : Nat → Int) (x y : Int) (w : World) (hp : AtR p) (hx : -1000 ≤ x ∧ x ≤ 1000) (hy : -1000 ≤ y ∧ y ≤ 1000) (hT : CsT w) : CallsIn Fence.wide 7 Tryz.prog 89 #[.agg (posA p), .int .i64 x, .int .i64 y] w (BoL (freeC p x y) w) := by
 have HP := Lib.hid hp
 have HT := Lib.hid hT
 clear hp hT
 refine callsIn_of_wp_marks Tryz.func89 rfl trivial ?_ rfl
 simp only [Tryz.ntmps89, List.size_toArray, List.length_cons, List.length_nil, Nat.reduceAdd, Nat.reduceSub, Array.replicate_succ, Array.replicate_zero, List.push_toArray, List.append_toArray, List.nil_append, List.cons_append]
 have HR := Lib.hid (row_old (row_new w p) (.cells #[.bool false] 4))
 gi_wp2_with (first
  | (refine stepIn2 rfl (run_boxP _ rfl p rfl) ?_)
  | (refine stepIn rfl (run_load _ rfl _ rfl p HR.out) ?_)
  | (refine ⟨trivial, ?_⟩; gi_at_call 138; refine (callsIn_wide.2 (span_any x y _)).mono ?_; rintro e w2 ⟨b, c, rfl, hb, hb0, hb1', hc0, hc1, hcb, hcc⟩))
 obtain ⟨w1, hw1⟩ : ∃ w1, w1 = (w.alloc (.cells (posA p) 31)).alloc (.cells #[.bool false] 4) := ⟨_, rfl⟩
 have hx1 : Boxed w1 (w.heap.size + 1) 4 (.bool false) := by rw [hw1, ← size_new w (.cells (posA p) 31)]; exact Boxed.new _ _ _
 have hr1 : Row w1 w.heap.size p := by rw [hw1]; exact HR.out
 have hs1 : w1.heap.size = w.heap.size + 2 := by rw [hw1, size_new, size_new]
 have hb1 : Below w.heap.size w w1 := by rw [hw1]; exact below_on (box_below _ _) (box_below _ _)
 rw [← hw1] at hb hb0 hc0
 clear hw1
 have hb2 := below_on hb1 hb
 have hx2 : Boxed w2 (w.heap.size + 1) 4 (.bool false) := boxed_kept hx1 (Kept.of_call (fun _ => False) hb) id
 have hr2 : Row w2 w.heap.size p := row_kept hr1 (Kept.of_call (fun _ => False) hb) id
 have l3 := hb.size
 have HS := Lib.hid (show w.heap.size + 2 ≤ w2.heap.size by omega)
 have hA' := span_seq 6 b c x y (by omega) (· = w.heap.size + 1) w2 hx hy hcb hcc (by omega) (by omega)
 clear HR hb hb0 hx1 hs1 hb1 hr1 hcb hcc hc0 hc1 hb1' l3
 have HB2 := Lib.hid hb2
 obtain ⟨gd, HGd⟩ : ∃ gd : Int → Bool, Hid (∀ s, gd s = (atZ p s == 0)) := ⟨_, Lib.hid fun _ => rfl⟩
 have HV := Lib.hid (show freeC p x y = (spL x y).all gd by unfold freeC; rw [show gd = fun s => (atZ p s == 0) from funext HGd.out])
 obtain ⟨L, hL⟩ : ∃ L, spL x y = L := ⟨_, rfl⟩
 rw [hL] at HV hA'
 clear hL
 refine range_seq (n := 7) rfl (enters_of Tryz.func169 (by kernel_rfl) rfl) (· = w.heap.size + 1) (fun k e => by have := HS.out; omega) L hA'
  (fun pre A => pre.all gd = true ∧ Boxed A (w.heap.size + 1) 4 (.bool false) ∧ Row A w.heap.size p ∧ Below w.heap.size w A) (fun pre A => L.all gd = false ∧ Boxed A (w.heap.size + 1) 4 (.bool false) ∧ Below w.heap.size w A) ?hI ?hIx ⟨rfl, hx2, hr2, hb2⟩
  (fun s => { tmps := #[.agg (posA p), .int .i64 x, .int .i64 y, .pointer (some ⟨w.heap.size, 0, none⟩), undef, undef, .pointer (some ⟨w.heap.size + 1, 0, none⟩), .int .i64 s, .int .i64 x, .int .i64 y, .func (.func 169) #[] #[.pointer (some ⟨b, 0, none⟩), .pointer (some ⟨c, 0, none⟩)], .int .i64 s, undef, undef, undef, undef], defers := [] }) ?assign ?body ?done ?stop
 case hI => exact fun q A A' h k => ⟨h.1, boxed_kept h.2.1 k (by have := HS.out; omega), row_kept h.2.2.1 k (by have := HS.out; omega), h.2.2.2.trans (k.below (fun i hi => by have := HS.out; omega) h.2.2.2.size)⟩
 case hIx => exact fun q A A' h k => ⟨h.1, boxed_kept h.2.1 k (by have := HS.out; omega), h.2.2.trans (k.below (fun i hi => by have := HS.out; omega) h.2.2.size)⟩
 case assign =>
  intro l s W K hK
  gi_wp2
  exact hK
 case body =>
  rintro l pre s A ⟨hall, hv, hrw, hB⟩ hpre
  have Hv := Lib.hid hv
  have HR := Lib.hid hrw
  have HB := Lib.hid hB
  have HA := Lib.hid hall
  have HPre := Lib.hid hpre
  clear hx2 hb2 hA' hr2 hv hB hpre hrw hall
  have HQ := Lib.hid (Kept.refl (· = w.heap.size + 1) A)
  have hz := ps_atZc HP.out.bd s
  cases g : (atZ p s == 0)
  ·have HGs := Lib.hid (show gd s = false by rw [HGd.out, g])
   gi_wp2_with (first
    | (refine stepRc rfl (fun c h => by cases h) (run_load _ rfl _ rfl p HR.out) ?_)
    | (refine ⟨trivial, ?_⟩; gi_at_call 67; refine (CallsIn.inRound l (callsIn_wide.2 (at_any p s _ HP.out.bd))).mono ?_; rintro e w3 ⟨rfl, hb⟩; have HQ := Lib.hid (HQ.out.trans (Kept.of_call _ hb)); have Hv := Lib.hid (boxed_kept Hv.out (Kept.of_call (fun _ => False) hb) id); have HB := Lib.hid (HB.out.trans (hb.mono HB.out.size)); have hcv := Hv.out.cell; have hfv := Hv.out.frozen; clear hb))
   exact ⟨(HQ.out.trans (Kept.setCell _ _ _ _)), all_stop HPre.out HGs.out, Hv.out.set _, HB.out.setCell (p := ⟨w.heap.size + 1, 0, none⟩) (by simp) _⟩
  ·have HGs := Lib.hid (show gd s = true by rw [HGd.out, g])
   gi_wp2_with (first
    | (refine stepRc rfl (fun c h => by cases h) (run_load _ rfl _ rfl p HR.out) ?_)
    | (refine ⟨trivial, ?_⟩; gi_at_call 67; refine (CallsIn.inRound l (callsIn_wide.2 (at_any p s _ HP.out.bd))).mono ?_; rintro e w3 ⟨rfl, hb⟩; have HQ := Lib.hid (HQ.out.trans (Kept.of_call _ hb)); have Hv := Lib.hid (boxed_kept Hv.out (Kept.of_call (fun _ => False) hb) id); have HR := Lib.hid (row_kept HR.out (Kept.of_call (fun _ => False) hb) id); have HB := Lib.hid (HB.out.trans (hb.mono HB.out.size)); clear hb))
   exact ⟨HQ.out, all_snoc HA.out HGs.out, Hv.out, HR.out, HB.out⟩
 case done =>
  rintro W ⟨hall, hv, hrw, hB⟩ hK
  have hcv := hv.cell
  have hfv := hv.frozen
  have Hv := Lib.hid hv
  have HB := Lib.hid hB
  have HK := Lib.hid hK
  have HN := Lib.hid hall
  clear hx2 hb2 hA' hr2 hv hB hK hall hrw
  gi_wp2_with fail
  have hK' := (Kept.setCell (w.heap.size + 1) 0 (.bool true) W).obj HK.out (by have := HS.out; omega)
  refine marks_leave (lo := w2.heap.size) (hi := w2.heap.size + 1) ⟨w2.heap.size, rfl, Nat.le_refl _, by omega, hK', trivial⟩ (fun w' hk => ?_)
  have hx := boxed_kept (Hv.out.set (.bool true)) hk (by have := HS.out; omega)
  have hc5 := hx.cell
  refine ⟨.bool true, ?_, by rw [HV.out, HN.out], (HB.out.setCell (p := ⟨w.heap.size + 1, 0, none⟩) (by simp) _).trans (hk.below (fun i hi => by have := HS.out; omega) (by have := HB.out.size; simp [World.setCell]; omega))⟩
  simp [results, Tryz.f89, go_sem, hc5]
 case stop =>
  rintro pre W hne hpre ⟨hN, hv, hB⟩ hK
  have Hv := Lib.hid hv
  have HB := Lib.hid hB
  have HK := Lib.hid hK
  have HN := Lib.hid hN
  clear hx2 hb2 hA' hr2 hv hB hK hne hpre hN
  gi_wp2_with fail
  refine marks_leave (lo := w2.heap.size) (hi := w2.heap.size + 1) ⟨w2.heap.size, rfl, Nat.le_refl _, by omega, HK.out, trivial⟩ (fun w' hk => ?_)
  have hc5 := (boxed_kept Hv.out hk (by have := HS.out; omega)).cell
  refine ⟨.bool false, ?_, by rw [HV.out, HN.out], HB.out.trans (hk.below (fun i hi => by have := HS.out; omega) HB.out.size)⟩
  simp [results, Tryz.f89, go_sem, hc5]
theorem cs_free_any (p : Nat → Int) (x y : Int) (w : World) (hp : AtR p) (hx : -1000 ≤ x ∧ x ≤ 1000) (hy : -1000 ≤ y ∧ y ≤ 1000) (hT : CsT w) : Calls Tryz.prog 89 #[.agg (posA p), .int .i64 x, .int .i64 y] w (BoL (freeC p x y) w) :=
 callsIn_wide.1 (cs_free_in p x y w hp hx hy hT)
set_option maxRecDepth 100000 in
set_option maxHeartbeats 4000000 in
theorem cs_safe_in (p : Nat → Int) (x y : Int) (w : World) (hp : AtR p) (hx : -1000 ≤ x ∧ x ≤ 1000) (hy : -1000 ≤ y ∧ y ≤ 1000) (hT : CsT w) : CallsIn Fence.wide 7 Tryz.prog 90 #[.agg (posA p), .int .i64 x, .int .i64 y] w (BoL (safeC p x y) w) := by
 have HP := Lib.hid hp
 have HT := Lib.hid hT
 clear hp hT
 refine callsIn_of_wp_marks Tryz.func90 rfl trivial ?_ rfl
 simp only [Tryz.ntmps90, List.size_toArray, List.length_cons, List.length_nil, Nat.reduceAdd, Nat.reduceSub, Array.replicate_succ, Array.replicate_zero, List.push_toArray, List.append_toArray, List.nil_append, List.cons_append]
 have HR := Lib.hid (row_old (row_new w p) (.cells #[.bool false] 4))
 gi_wp2_with (first
  | (refine stepIn2 rfl (run_boxP _ rfl p rfl) ?_)
  | (refine stepIn rfl (run_load _ rfl _ rfl p HR.out) ?_)
  | (refine ⟨trivial, ?_⟩; gi_at_call 138; refine (callsIn_wide.2 (span_any x y _)).mono ?_; rintro e w2 ⟨b, c, rfl, hb, hb0, hb1', hc0, hc1, hcb, hcc⟩))
 obtain ⟨w1, hw1⟩ : ∃ w1, w1 = (w.alloc (.cells (posA p) 31)).alloc (.cells #[.bool false] 4) := ⟨_, rfl⟩
 have hx1 : Boxed w1 (w.heap.size + 1) 4 (.bool false) := by rw [hw1, ← size_new w (.cells (posA p) 31)]; exact Boxed.new _ _ _
 have hr1 : Row w1 w.heap.size p := by rw [hw1]; exact HR.out
 have hs1 : w1.heap.size = w.heap.size + 2 := by rw [hw1, size_new, size_new]
 have hb1 : Below w.heap.size w w1 := by rw [hw1]; exact below_on (box_below _ _) (box_below _ _)
 rw [← hw1] at hb hb0 hc0
 clear hw1
 have hb2 := below_on hb1 hb
 have hx2 : Boxed w2 (w.heap.size + 1) 4 (.bool false) := boxed_kept hx1 (Kept.of_call (fun _ => False) hb) id
 have hr2 : Row w2 w.heap.size p := row_kept hr1 (Kept.of_call (fun _ => False) hb) id
 have l3 := hb.size
 have HS := Lib.hid (show w.heap.size + 2 ≤ w2.heap.size by omega)
 have hA' := span_seq 6 b c x y (by omega) (· = w.heap.size + 1) w2 hx hy hcb hcc (by omega) (by omega)
 clear HR hb hb0 hx1 hs1 hb1 hr1 hcb hcc hc0 hc1 hb1' l3
 have HB2 := Lib.hid hb2
 obtain ⟨gd, HGd⟩ : ∃ gd : Int → Bool, Hid (∀ s, gd s = (!bdC p s)) := ⟨_, Lib.hid fun _ => rfl⟩
 have HV := Lib.hid (show safeC p x y = (spL x y).all gd by unfold safeC; rw [show gd = fun s => (!bdC p s) from funext HGd.out])
 obtain ⟨L, hL⟩ : ∃ L, spL x y = L := ⟨_, rfl⟩
 rw [hL] at HV hA'
 clear hL
 refine range_seq (n := 7) rfl (enters_of Tryz.func169 (by kernel_rfl) rfl) (· = w.heap.size + 1) (fun k e => by have := HS.out; omega) L hA'
  (fun pre A => pre.all gd = true ∧ Boxed A (w.heap.size + 1) 4 (.bool false) ∧ Row A w.heap.size p ∧ Below w.heap.size w A) (fun pre A => L.all gd = false ∧ Boxed A (w.heap.size + 1) 4 (.bool false) ∧ Below w.heap.size w A) ?hI ?hIx ⟨rfl, hx2, hr2, hb2⟩
  (fun s => { tmps := #[.agg (posA p), .int .i64 x, .int .i64 y, .pointer (some ⟨w.heap.size, 0, none⟩), undef, undef, .pointer (some ⟨w.heap.size + 1, 0, none⟩), .int .i64 s, .int .i64 x, .int .i64 y, .func (.func 169) #[] #[.pointer (some ⟨b, 0, none⟩), .pointer (some ⟨c, 0, none⟩)], .int .i64 s, undef, undef, undef, undef, undef, undef, undef, undef, undef, undef, undef, undef], defers := [] }) ?assign ?body ?done ?stop
 case hI => exact fun q A A' h k => ⟨h.1, boxed_kept h.2.1 k (by have := HS.out; omega), row_kept h.2.2.1 k (by have := HS.out; omega), h.2.2.2.trans (k.below (fun i hi => by have := HS.out; omega) h.2.2.2.size)⟩
 case hIx => exact fun q A A' h k => ⟨h.1, boxed_kept h.2.1 k (by have := HS.out; omega), h.2.2.trans (k.below (fun i hi => by have := HS.out; omega) h.2.2.size)⟩
 case assign =>
  intro l s W K hK
  gi_wp2
  exact hK
 case body =>
  rintro l pre s A ⟨hall, hv, hrw, hB⟩ hpre
  have Hv := Lib.hid hv
  have HR := Lib.hid hrw
  have HB := Lib.hid hB
  have HA := Lib.hid hall
  have HPre := Lib.hid hpre
  clear hx2 hb2 hA' hr2 hv hB hpre hrw hall
  have HQ := Lib.hid (Kept.refl (· = w.heap.size + 1) A)
  have HF := Lib.hid (show Tryz.prog.follows .mixedOrders = true by kernel_rfl)
  have HO := Lib.hid (show 0 ≤ oth (p 78) by unfold oth; omega)
  cases g1 : anyB p s (oth (p 78))
  ·have HGs := Lib.hid (show gd s = true by rw [HGd.out]; unfold bdC; rw [g1]; rfl)
   have HOn := Lib.hid g1
   clear g1
   gi_wp2_with fail
   refine mid_begin (X := (· = w.heap.size + 1)) HF.out ?_
   refine mid_take 0 (by kernel_rfl) (by kernel_rfl) (by kernel_rfl) (by kernel_rfl) (by kernel_rfl) (fun _ _ d _ _ h => by cases d <;> exact h) (fun o ho => ?_)
   simp only [qa, qb, qc, qd] at ho; subst ho
   refine ⟨_, Or.inl ⟨by kernel_rfl, fun w' hl => run_load _ rfl _ rfl p (row_kept HR.out hl (by omega))⟩, ?_⟩
   simp only [Act.put, pa, pb, pc]
   refine mid_take 1 (by kernel_rfl) (by kernel_rfl) (by kernel_rfl) (by kernel_rfl) (by kernel_rfl) (fun _ _ d _ _ h => by cases d <;> exact h) (fun o ho => ?_)
   simp only [qa, qb, qc, qd] at ho; subst ho
   apply Exists.intro
   refine ⟨Or.inl ⟨by kernel_rfl, fun w' hl => ?_⟩, ?_⟩
   ·(go_simp; try with_reducible rfl)
   simp only [Act.put, pa, pb, pc]
   refine mid_take 2 (by kernel_rfl) (by kernel_rfl) (by kernel_rfl) (by kernel_rfl) (by kernel_rfl) (fun _ _ d _ _ h => by cases d <;> exact h) (fun o ho => ?_)
   simp only [qa, qb, qc, qd] at ho; subst ho
   apply Exists.intro
   refine ⟨Or.inl ⟨by kernel_rfl, fun w' hl => ?_⟩, ?_⟩
   ·(go_simp; try with_reducible rfl)
   simp only [Act.put, pa, pb, pc]
   refine mid_take 3 (by kernel_rfl) (by kernel_rfl) (by kernel_rfl) (by kernel_rfl) (by kernel_rfl) (fun _ _ d _ _ h => by cases d <;> exact h) (fun o ho => ?_)
   simp only [qa, qb, qc, qd] at ho; subst ho
   refine ⟨_, Or.inl ⟨by kernel_rfl, fun w' hl => run_get 5 _ rfl w.heap.size 78 rfl Tryz.underlying5 rfl (.int .u8 (p 78)) ((row_kept HR.out hl (by omega)).cell 78 (by decide))⟩, ?_⟩
   simp only [Act.put, pa, pb, pc]
   refine mid_one 4 (by kernel_rfl) (by kernel_rfl) (by kernel_rfl) (fun o ho => ?_)
   simp only [qa, qb, qc, qd] at ho; subst ho
   refine ⟨by kernel_rfl, fun wq hl K2 hK2 => ?_⟩
   have HQ := Lib.hid (HQ.out.trans (Kept.of_call _ hl)); have Hv := Lib.hid (boxed_kept Hv.out (Kept.of_call (fun _ => False) hl) id); have HR := Lib.hid (row_kept HR.out (Kept.of_call (fun _ => False) hl) id); have HB := Lib.hid (HB.out.trans (hl.mono HB.out.size)); clear hl
   refine mid_call _ _ (by go_simp; exact ⟨rfl, rfl⟩) ?_
   refine (cs_other (p 78) _).mono ?_; rintro e w3 ⟨rfl, rfl⟩; refine ⟨_, rfl, ?_⟩
   refine hK2.out _ _ (Kept.refl _ _) ?_
   clear hK2 K2
   simp only [Act.put, pa, pb, pc]
   refine mid_one 5 (by kernel_rfl) (by kernel_rfl) (by kernel_rfl) (fun o ho => ?_)
   simp only [qa, qb, qc, qd] at ho; subst ho
   refine ⟨by kernel_rfl, fun wq hl K2 hK2 => ?_⟩
   have HQ := Lib.hid (HQ.out.trans (Kept.of_call _ hl)); have Hv := Lib.hid (boxed_kept Hv.out (Kept.of_call (fun _ => False) hl) id); have HR := Lib.hid (row_kept HR.out (Kept.of_call (fun _ => False) hl) id); have HB := Lib.hid (HB.out.trans (hl.mono HB.out.size)); clear hl
   refine mid_call _ _ (by go_simp; exact ⟨rfl, rfl⟩) ?_
   refine (on_any p s (oth (p 78)) _ HP.out.bd (HO.out) (HT.out.on HB.out).db (HT.out.on HB.out).lead).mono ?_; rintro e w3 ⟨rfl, hb⟩; rw [HOn.out]; refine ⟨_, rfl, ?_⟩
   refine hK2.out _ _ (Kept.of_call _ hb) ?_
   have HQ := Lib.hid (HQ.out.trans (Kept.of_call _ hb)); have Hv := Lib.hid (boxed_kept Hv.out (Kept.of_call (fun _ => False) hb) id); have HR := Lib.hid (row_kept HR.out (Kept.of_call (fun _ => False) hb) id); have HB := Lib.hid (HB.out.trans (hb.mono HB.out.size)); clear hb
   clear hK2 K2
   simp only [Act.put, pa, pb, pc]
   refine mid_take 6 (by kernel_rfl) (by kernel_rfl) (by kernel_rfl) (by kernel_rfl) (by kernel_rfl) (fun _ _ d _ _ h => by cases d <;> exact h) (fun o ho => ?_)
   simp only [qa, qb, qc, qd] at ho; subst ho
   apply Exists.intro
   refine ⟨Or.inl ⟨by kernel_rfl, fun w' hl => ?_⟩, ?_⟩
   ·(go_simp; try with_reducible rfl)
   simp only [Act.put, pa, pb, pc]
   refine mid_take 7 (by kernel_rfl) (by kernel_rfl) (by kernel_rfl) (by kernel_rfl) (by kernel_rfl) (fun _ _ d _ _ h => by cases d <;> exact h) (fun o ho => ?_)
   simp only [qa, qb, qc, qd] at ho; subst ho
   refine ⟨_, Or.inr ⟨by kernel_rfl, rfl⟩, ?_⟩
   simp only [Act.put, pa, pb, pc]
   refine mid_take 8 (by kernel_rfl) (by kernel_rfl) (by kernel_rfl) (by kernel_rfl) (by kernel_rfl) (fun _ _ d _ _ h => by cases d <;> exact h) (fun o ho => ?_)
   simp only [qa, qb, qc, qd] at ho; subst ho
   refine ⟨_, Or.inr ⟨by kernel_rfl, rfl⟩, ?_⟩
   simp only [Act.put, pa, pb, pc]
   refine mid_take 9 (by kernel_rfl) (by kernel_rfl) (by kernel_rfl) (by kernel_rfl) (by kernel_rfl) (fun _ _ d _ _ h => by cases d <;> exact h) (fun o ho => ?_)
   simp only [qa, qb, qc, qd] at ho; subst ho
   refine ⟨_, Or.inr ⟨by kernel_rfl, rfl⟩, ?_⟩
   simp only [Act.put, pa, pb, pc]
   refine mid_take 10 (by kernel_rfl) (by kernel_rfl) (by kernel_rfl) (by kernel_rfl) (by kernel_rfl) (fun _ _ d _ _ h => by cases d <;> exact h) (fun o ho => ?_)
   simp only [qa, qb, qc, qd] at ho; subst ho
   refine ⟨_, Or.inr ⟨by kernel_rfl, rfl⟩, ?_⟩
   simp only [Act.put, pa, pb, pc]
   refine mid_take 11 (by kernel_rfl) (by kernel_rfl) (by kernel_rfl) (by kernel_rfl) (by kernel_rfl) (fun _ _ d _ _ h => by cases d <;> exact h) (fun o ho => ?_)
   simp only [qa, qb, qc, qd] at ho; subst ho
   apply Exists.intro
   refine ⟨Or.inl ⟨by kernel_rfl, fun w' hl => ?_⟩, ?_⟩
   ·(go_simp; try with_reducible rfl)
   simp only [Act.put, pa, pb, pc]
   refine mid_end (by kernel_rfl) (fun wz hz => ?_)
   have HQ := Lib.hid (HQ.out.trans (Kept.of_call _ hz)); have Hv := Lib.hid (boxed_kept Hv.out (Kept.of_call (fun _ => False) hz) id); have HR := Lib.hid (row_kept HR.out (Kept.of_call (fun _ => False) hz) id); have HB := Lib.hid (HB.out.trans (hz.mono HB.out.size)); clear hz
   have hcv := Hv.out.cell
   have hfv := Hv.out.frozen
   gi_wp2_with fail
   exact ⟨HQ.out, all_snoc HA.out HGs.out, Hv.out, HR.out, HB.out⟩
  ·cases g2 : shelB p s (p 78)
   ·have HGs := Lib.hid (show gd s = false by rw [HGd.out]; unfold bdC; rw [g1, g2]; rfl)
    have HOn := Lib.hid g1
    have HSh := Lib.hid g2
    clear g1 g2
    gi_wp2_with fail
    refine mid_begin (X := (· = w.heap.size + 1)) HF.out ?_
    refine mid_take 0 (by kernel_rfl) (by kernel_rfl) (by kernel_rfl) (by kernel_rfl) (by kernel_rfl) (fun _ _ d _ _ h => by cases d <;> exact h) (fun o ho => ?_)
    simp only [qa, qb, qc, qd] at ho; subst ho
    refine ⟨_, Or.inl ⟨by kernel_rfl, fun w' hl => run_load _ rfl _ rfl p (row_kept HR.out hl (by omega))⟩, ?_⟩
    simp only [Act.put, pa, pb, pc]
    refine mid_take 1 (by kernel_rfl) (by kernel_rfl) (by kernel_rfl) (by kernel_rfl) (by kernel_rfl) (fun _ _ d _ _ h => by cases d <;> exact h) (fun o ho => ?_)
    simp only [qa, qb, qc, qd] at ho; subst ho
    apply Exists.intro
    refine ⟨Or.inl ⟨by kernel_rfl, fun w' hl => ?_⟩, ?_⟩
    ·(go_simp; try with_reducible rfl)
    simp only [Act.put, pa, pb, pc]
    refine mid_take 2 (by kernel_rfl) (by kernel_rfl) (by kernel_rfl) (by kernel_rfl) (by kernel_rfl) (fun _ _ d _ _ h => by cases d <;> exact h) (fun o ho => ?_)
    simp only [qa, qb, qc, qd] at ho; subst ho
    apply Exists.intro
    refine ⟨Or.inl ⟨by kernel_rfl, fun w' hl => ?_⟩, ?_⟩
    ·(go_simp; try with_reducible rfl)
    simp only [Act.put, pa, pb, pc]
    refine mid_take 3 (by kernel_rfl) (by kernel_rfl) (by kernel_rfl) (by kernel_rfl) (by kernel_rfl) (fun _ _ d _ _ h => by cases d <;> exact h) (fun o ho => ?_)
    simp only [qa, qb, qc, qd] at ho; subst ho
    refine ⟨_, Or.inl ⟨by kernel_rfl, fun w' hl => run_get 5 _ rfl w.heap.size 78 rfl Tryz.underlying5 rfl (.int .u8 (p 78)) ((row_kept HR.out hl (by omega)).cell 78 (by decide))⟩, ?_⟩
    simp only [Act.put, pa, pb, pc]
    refine mid_one 4 (by kernel_rfl) (by kernel_rfl) (by kernel_rfl) (fun o ho => ?_)
    simp only [qa, qb, qc, qd] at ho; subst ho
    refine ⟨by kernel_rfl, fun wq hl K2 hK2 => ?_⟩
    have HQ := Lib.hid (HQ.out.trans (Kept.of_call _ hl)); have Hv := Lib.hid (boxed_kept Hv.out (Kept.of_call (fun _ => False) hl) id); have HR := Lib.hid (row_kept HR.out (Kept.of_call (fun _ => False) hl) id); have HB := Lib.hid (HB.out.trans (hl.mono HB.out.size)); clear hl
    refine mid_call _ _ (by go_simp; exact ⟨rfl, rfl⟩) ?_
    refine (cs_other (p 78) _).mono ?_; rintro e w3 ⟨rfl, rfl⟩; refine ⟨_, rfl, ?_⟩
    refine hK2.out _ _ (Kept.refl _ _) ?_
    clear hK2 K2
    simp only [Act.put, pa, pb, pc]
    refine mid_one 5 (by kernel_rfl) (by kernel_rfl) (by kernel_rfl) (fun o ho => ?_)
    simp only [qa, qb, qc, qd] at ho; subst ho
    refine ⟨by kernel_rfl, fun wq hl K2 hK2 => ?_⟩
    have HQ := Lib.hid (HQ.out.trans (Kept.of_call _ hl)); have Hv := Lib.hid (boxed_kept Hv.out (Kept.of_call (fun _ => False) hl) id); have HR := Lib.hid (row_kept HR.out (Kept.of_call (fun _ => False) hl) id); have HB := Lib.hid (HB.out.trans (hl.mono HB.out.size)); clear hl
    refine mid_call _ _ (by go_simp; exact ⟨rfl, rfl⟩) ?_
    refine (on_any p s (oth (p 78)) _ HP.out.bd (HO.out) (HT.out.on HB.out).db (HT.out.on HB.out).lead).mono ?_; rintro e w3 ⟨rfl, hb⟩; rw [HOn.out]; refine ⟨_, rfl, ?_⟩
    refine hK2.out _ _ (Kept.of_call _ hb) ?_
    have HQ := Lib.hid (HQ.out.trans (Kept.of_call _ hb)); have Hv := Lib.hid (boxed_kept Hv.out (Kept.of_call (fun _ => False) hb) id); have HR := Lib.hid (row_kept HR.out (Kept.of_call (fun _ => False) hb) id); have HB := Lib.hid (HB.out.trans (hb.mono HB.out.size)); clear hb
    clear hK2 K2
    simp only [Act.put, pa, pb, pc]
    refine mid_take 6 (by kernel_rfl) (by kernel_rfl) (by kernel_rfl) (by kernel_rfl) (by kernel_rfl) (fun _ _ d _ _ h => by cases d <;> exact h) (fun o ho => ?_)
    simp only [qa, qb, qc, qd] at ho; subst ho
    apply Exists.intro
    refine ⟨Or.inl ⟨by kernel_rfl, fun w' hl => ?_⟩, ?_⟩
    ·(go_simp; try with_reducible rfl)
    simp only [Act.put, pa, pb, pc]
    refine mid_take 7 (by kernel_rfl) (by kernel_rfl) (by kernel_rfl) (by kernel_rfl) (by kernel_rfl) (fun _ _ d _ _ h => by cases d <;> exact h) (fun o ho => ?_)
    simp only [qa, qb, qc, qd] at ho; subst ho
    refine ⟨_, Or.inl ⟨by kernel_rfl, fun w' hl => run_load _ rfl _ rfl p (row_kept HR.out hl (by omega))⟩, ?_⟩
    simp only [Act.put, pa, pb, pc]
    refine mid_take 8 (by kernel_rfl) (by kernel_rfl) (by kernel_rfl) (by kernel_rfl) (by kernel_rfl) (fun _ _ d _ _ h => by cases d <;> exact h) (fun o ho => ?_)
    simp only [qa, qb, qc, qd] at ho; subst ho
    apply Exists.intro
    refine ⟨Or.inl ⟨by kernel_rfl, fun w' hl => ?_⟩, ?_⟩
    ·(go_simp; try with_reducible rfl)
    simp only [Act.put, pa, pb, pc]
    refine mid_one 9 (by kernel_rfl) (by kernel_rfl) (by kernel_rfl) (fun o ho => ?_)
    simp only [qa, qb, qc, qd] at ho; subst ho
    refine ⟨by kernel_rfl, fun wq hl K2 hK2 => ?_⟩
    have HQ := Lib.hid (HQ.out.trans (Kept.of_call _ hl)); have Hv := Lib.hid (boxed_kept Hv.out (Kept.of_call (fun _ => False) hl) id); have HR := Lib.hid (row_kept HR.out (Kept.of_call (fun _ => False) hl) id); have HB := Lib.hid (HB.out.trans (hl.mono HB.out.size)); clear hl
    refine mid_call _ _ (by go_simp; exact ⟨rfl, rfl⟩) ?_
    refine (cs_shel p s _ HP.out.bd (HT.out.on HB.out).lead).mono ?_; rintro e w3 ⟨rfl, hb⟩; rw [HSh.out]; refine ⟨_, rfl, ?_⟩
    refine hK2.out _ _ (Kept.of_call _ hb) ?_
    have HQ := Lib.hid (HQ.out.trans (Kept.of_call _ hb)); have Hv := Lib.hid (boxed_kept Hv.out (Kept.of_call (fun _ => False) hb) id); have HR := Lib.hid (row_kept HR.out (Kept.of_call (fun _ => False) hb) id); have HB := Lib.hid (HB.out.trans (hb.mono HB.out.size)); clear hb
    clear hK2 K2
    simp only [Act.put, pa, pb, pc]
    refine mid_take 10 (by kernel_rfl) (by kernel_rfl) (by kernel_rfl) (by kernel_rfl) (by kernel_rfl) (fun _ _ d _ _ h => by cases d <;> exact h) (fun o ho => ?_)
    simp only [qa, qb, qc, qd] at ho; subst ho
    apply Exists.intro
    refine ⟨Or.inl ⟨by kernel_rfl, fun w' hl => ?_⟩, ?_⟩
    ·(go_simp; try with_reducible rfl)
    simp only [Act.put, pa, pb, pc]
    refine mid_take 11 (by kernel_rfl) (by kernel_rfl) (by kernel_rfl) (by kernel_rfl) (by kernel_rfl) (fun _ _ d _ _ h => by cases d <;> exact h) (fun o ho => ?_)
    simp only [qa, qb, qc, qd] at ho; subst ho
    apply Exists.intro
    refine ⟨Or.inl ⟨by kernel_rfl, fun w' hl => ?_⟩, ?_⟩
    ·(go_simp; try with_reducible rfl)
    simp only [Act.put, pa, pb, pc]
    refine mid_end (by kernel_rfl) (fun wz hz => ?_)
    have HQ := Lib.hid (HQ.out.trans (Kept.of_call _ hz)); have Hv := Lib.hid (boxed_kept Hv.out (Kept.of_call (fun _ => False) hz) id); have HR := Lib.hid (row_kept HR.out (Kept.of_call (fun _ => False) hz) id); have HB := Lib.hid (HB.out.trans (hz.mono HB.out.size)); clear hz
    have hcv := Hv.out.cell
    have hfv := Hv.out.frozen
    gi_wp2_with fail
    exact ⟨(HQ.out.trans (Kept.setCell _ _ _ _)), all_stop HPre.out HGs.out, Hv.out.set _, HB.out.setCell (p := ⟨w.heap.size + 1, 0, none⟩) (by simp) _⟩
   ·have HGs := Lib.hid (show gd s = true by rw [HGd.out]; unfold bdC; rw [g1, g2]; rfl)
    have HOn := Lib.hid g1
    have HSh := Lib.hid g2
    clear g1 g2
    gi_wp2_with fail
    refine mid_begin (X := (· = w.heap.size + 1)) HF.out ?_
    refine mid_take 0 (by kernel_rfl) (by kernel_rfl) (by kernel_rfl) (by kernel_rfl) (by kernel_rfl) (fun _ _ d _ _ h => by cases d <;> exact h) (fun o ho => ?_)
    simp only [qa, qb, qc, qd] at ho; subst ho
    refine ⟨_, Or.inl ⟨by kernel_rfl, fun w' hl => run_load _ rfl _ rfl p (row_kept HR.out hl (by omega))⟩, ?_⟩
    simp only [Act.put, pa, pb, pc]
    refine mid_take 1 (by kernel_rfl) (by kernel_rfl) (by kernel_rfl) (by kernel_rfl) (by kernel_rfl) (fun _ _ d _ _ h => by cases d <;> exact h) (fun o ho => ?_)
    simp only [qa, qb, qc, qd] at ho; subst ho
    apply Exists.intro
    refine ⟨Or.inl ⟨by kernel_rfl, fun w' hl => ?_⟩, ?_⟩
    ·(go_simp; try with_reducible rfl)
    simp only [Act.put, pa, pb, pc]
    refine mid_take 2 (by kernel_rfl) (by kernel_rfl) (by kernel_rfl) (by kernel_rfl) (by kernel_rfl) (fun _ _ d _ _ h => by cases d <;> exact h) (fun o ho => ?_)
    simp only [qa, qb, qc, qd] at ho; subst ho
    apply Exists.intro
    refine ⟨Or.inl ⟨by kernel_rfl, fun w' hl => ?_⟩, ?_⟩
    ·(go_simp; try with_reducible rfl)
    simp only [Act.put, pa, pb, pc]
    refine mid_take 3 (by kernel_rfl) (by kernel_rfl) (by kernel_rfl) (by kernel_rfl) (by kernel_rfl) (fun _ _ d _ _ h => by cases d <;> exact h) (fun o ho => ?_)
    simp only [qa, qb, qc, qd] at ho; subst ho
    refine ⟨_, Or.inl ⟨by kernel_rfl, fun w' hl => run_get 5 _ rfl w.heap.size 78 rfl Tryz.underlying5 rfl (.int .u8 (p 78)) ((row_kept HR.out hl (by omega)).cell 78 (by decide))⟩, ?_⟩
    simp only [Act.put, pa, pb, pc]
    refine mid_one 4 (by kernel_rfl) (by kernel_rfl) (by kernel_rfl) (fun o ho => ?_)
    simp only [qa, qb, qc, qd] at ho; subst ho
    refine ⟨by kernel_rfl, fun wq hl K2 hK2 => ?_⟩
    have HQ := Lib.hid (HQ.out.trans (Kept.of_call _ hl)); have Hv := Lib.hid (boxed_kept Hv.out (Kept.of_call (fun _ => False) hl) id); have HR := Lib.hid (row_kept HR.out (Kept.of_call (fun _ => False) hl) id); have HB := Lib.hid (HB.out.trans (hl.mono HB.out.size)); clear hl
    refine mid_call _ _ (by go_simp; exact ⟨rfl, rfl⟩) ?_
    refine (cs_other (p 78) _).mono ?_; rintro e w3 ⟨rfl, rfl⟩; refine ⟨_, rfl, ?_⟩
    refine hK2.out _ _ (Kept.refl _ _) ?_
    clear hK2 K2
    simp only [Act.put, pa, pb, pc]
    refine mid_one 5 (by kernel_rfl) (by kernel_rfl) (by kernel_rfl) (fun o ho => ?_)
    simp only [qa, qb, qc, qd] at ho; subst ho
    refine ⟨by kernel_rfl, fun wq hl K2 hK2 => ?_⟩
    have HQ := Lib.hid (HQ.out.trans (Kept.of_call _ hl)); have Hv := Lib.hid (boxed_kept Hv.out (Kept.of_call (fun _ => False) hl) id); have HR := Lib.hid (row_kept HR.out (Kept.of_call (fun _ => False) hl) id); have HB := Lib.hid (HB.out.trans (hl.mono HB.out.size)); clear hl
    refine mid_call _ _ (by go_simp; exact ⟨rfl, rfl⟩) ?_
    refine (on_any p s (oth (p 78)) _ HP.out.bd (HO.out) (HT.out.on HB.out).db (HT.out.on HB.out).lead).mono ?_; rintro e w3 ⟨rfl, hb⟩; rw [HOn.out]; refine ⟨_, rfl, ?_⟩
    refine hK2.out _ _ (Kept.of_call _ hb) ?_
    have HQ := Lib.hid (HQ.out.trans (Kept.of_call _ hb)); have Hv := Lib.hid (boxed_kept Hv.out (Kept.of_call (fun _ => False) hb) id); have HR := Lib.hid (row_kept HR.out (Kept.of_call (fun _ => False) hb) id); have HB := Lib.hid (HB.out.trans (hb.mono HB.out.size)); clear hb
    clear hK2 K2
    simp only [Act.put, pa, pb, pc]
    refine mid_take 6 (by kernel_rfl) (by kernel_rfl) (by kernel_rfl) (by kernel_rfl) (by kernel_rfl) (fun _ _ d _ _ h => by cases d <;> exact h) (fun o ho => ?_)
    simp only [qa, qb, qc, qd] at ho; subst ho
    apply Exists.intro
    refine ⟨Or.inl ⟨by kernel_rfl, fun w' hl => ?_⟩, ?_⟩
    ·(go_simp; try with_reducible rfl)
    simp only [Act.put, pa, pb, pc]
    refine mid_take 7 (by kernel_rfl) (by kernel_rfl) (by kernel_rfl) (by kernel_rfl) (by kernel_rfl) (fun _ _ d _ _ h => by cases d <;> exact h) (fun o ho => ?_)
    simp only [qa, qb, qc, qd] at ho; subst ho
    refine ⟨_, Or.inl ⟨by kernel_rfl, fun w' hl => run_load _ rfl _ rfl p (row_kept HR.out hl (by omega))⟩, ?_⟩
    simp only [Act.put, pa, pb, pc]
    refine mid_take 8 (by kernel_rfl) (by kernel_rfl) (by kernel_rfl) (by kernel_rfl) (by kernel_rfl) (fun _ _ d _ _ h => by cases d <;> exact h) (fun o ho => ?_)
    simp only [qa, qb, qc, qd] at ho; subst ho
    apply Exists.intro
    refine ⟨Or.inl ⟨by kernel_rfl, fun w' hl => ?_⟩, ?_⟩
    ·(go_simp; try with_reducible rfl)
    simp only [Act.put, pa, pb, pc]
    refine mid_one 9 (by kernel_rfl) (by kernel_rfl) (by kernel_rfl) (fun o ho => ?_)
    simp only [qa, qb, qc, qd] at ho; subst ho
    refine ⟨by kernel_rfl, fun wq hl K2 hK2 => ?_⟩
    have HQ := Lib.hid (HQ.out.trans (Kept.of_call _ hl)); have Hv := Lib.hid (boxed_kept Hv.out (Kept.of_call (fun _ => False) hl) id); have HR := Lib.hid (row_kept HR.out (Kept.of_call (fun _ => False) hl) id); have HB := Lib.hid (HB.out.trans (hl.mono HB.out.size)); clear hl
    refine mid_call _ _ (by go_simp; exact ⟨rfl, rfl⟩) ?_
    refine (cs_shel p s _ HP.out.bd (HT.out.on HB.out).lead).mono ?_; rintro e w3 ⟨rfl, hb⟩; rw [HSh.out]; refine ⟨_, rfl, ?_⟩
    refine hK2.out _ _ (Kept.of_call _ hb) ?_
    have HQ := Lib.hid (HQ.out.trans (Kept.of_call _ hb)); have Hv := Lib.hid (boxed_kept Hv.out (Kept.of_call (fun _ => False) hb) id); have HR := Lib.hid (row_kept HR.out (Kept.of_call (fun _ => False) hb) id); have HB := Lib.hid (HB.out.trans (hb.mono HB.out.size)); clear hb
    clear hK2 K2
    simp only [Act.put, pa, pb, pc]
    refine mid_take 10 (by kernel_rfl) (by kernel_rfl) (by kernel_rfl) (by kernel_rfl) (by kernel_rfl) (fun _ _ d _ _ h => by cases d <;> exact h) (fun o ho => ?_)
    simp only [qa, qb, qc, qd] at ho; subst ho
    apply Exists.intro
    refine ⟨Or.inl ⟨by kernel_rfl, fun w' hl => ?_⟩, ?_⟩
    ·(go_simp; try with_reducible rfl)
    simp only [Act.put, pa, pb, pc]
    refine mid_take 11 (by kernel_rfl) (by kernel_rfl) (by kernel_rfl) (by kernel_rfl) (by kernel_rfl) (fun _ _ d _ _ h => by cases d <;> exact h) (fun o ho => ?_)
    simp only [qa, qb, qc, qd] at ho; subst ho
    apply Exists.intro
    refine ⟨Or.inl ⟨by kernel_rfl, fun w' hl => ?_⟩, ?_⟩
    ·(go_simp; try with_reducible rfl)
    simp only [Act.put, pa, pb, pc]
    refine mid_end (by kernel_rfl) (fun wz hz => ?_)
    have HQ := Lib.hid (HQ.out.trans (Kept.of_call _ hz)); have Hv := Lib.hid (boxed_kept Hv.out (Kept.of_call (fun _ => False) hz) id); have HR := Lib.hid (row_kept HR.out (Kept.of_call (fun _ => False) hz) id); have HB := Lib.hid (HB.out.trans (hz.mono HB.out.size)); clear hz
    have hcv := Hv.out.cell
    have hfv := Hv.out.frozen
    gi_wp2_with fail
    exact ⟨HQ.out, all_snoc HA.out HGs.out, Hv.out, HR.out, HB.out⟩
 case done =>
  rintro W ⟨hall, hv, hrw, hB⟩ hK
  have hcv := hv.cell
  have hfv := hv.frozen
  have Hv := Lib.hid hv
  have HB := Lib.hid hB
  have HK := Lib.hid hK
  have HN := Lib.hid hall
  clear hx2 hb2 hA' hr2 hv hB hK hall hrw
  gi_wp2_with fail
  have hK' := (Kept.setCell (w.heap.size + 1) 0 (.bool true) W).obj HK.out (by have := HS.out; omega)
  refine marks_leave (lo := w2.heap.size) (hi := w2.heap.size + 1) ⟨w2.heap.size, rfl, Nat.le_refl _, by omega, hK', trivial⟩ (fun w' hk => ?_)
  have hx := boxed_kept (Hv.out.set (.bool true)) hk (by have := HS.out; omega)
  have hc5 := hx.cell
  refine ⟨.bool true, ?_, by rw [HV.out, HN.out], (HB.out.setCell (p := ⟨w.heap.size + 1, 0, none⟩) (by simp) _).trans (hk.below (fun i hi => by have := HS.out; omega) (by have := HB.out.size; simp [World.setCell]; omega))⟩
  simp [results, Tryz.f90, go_sem, hc5]
 case stop =>
  rintro pre W hne hpre ⟨hN, hv, hB⟩ hK
  have Hv := Lib.hid hv
  have HB := Lib.hid hB
  have HK := Lib.hid hK
  have HN := Lib.hid hN
  clear hx2 hb2 hA' hr2 hv hB hK hne hpre hN
  gi_wp2_with fail
  refine marks_leave (lo := w2.heap.size) (hi := w2.heap.size + 1) ⟨w2.heap.size, rfl, Nat.le_refl _, by omega, HK.out, trivial⟩ (fun w' hk => ?_)
  have hc5 := (boxed_kept Hv.out hk (by have := HS.out; omega)).cell
  refine ⟨.bool false, ?_, by rw [HV.out, HN.out], HB.out.trans (hk.below (fun i hi => by have := HS.out; omega) HB.out.size)⟩
  simp [results, Tryz.f90, go_sem, hc5]
theorem cs_safe_any (p : Nat → Int) (x y : Int) (w : World) (hp : AtR p) (hx : -1000 ≤ x ∧ x ≤ 1000) (hy : -1000 ≤ y ∧ y ≤ 1000) (hT : CsT w) : Calls Tryz.prog 90 #[.agg (posA p), .int .i64 x, .int .i64 y] w (BoL (safeC p x y) w) :=
 callsIn_wide.1 (cs_safe_in p x y w hp hx hy hT)
end Go.Proofs.YtidgfadbdgheiaaGreatDoor
