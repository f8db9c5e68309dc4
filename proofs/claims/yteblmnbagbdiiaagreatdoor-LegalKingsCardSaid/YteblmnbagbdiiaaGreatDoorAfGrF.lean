/-
 Several texts in one: AfR, AfS.
-/
import Derived.Test.YteblmnbagbdiiaaGreatDoorAfGrC
import Derived.Lib.AppendZerosOnto
import Derived.Lib.Walk
import Derived.Lib.SliceRun
import Derived.Laws.AppendOwnNone
import Derived.Laws.OwnMore
import Derived.Maps.AppendAt
import Derived.Great.BuildSlice
/-
 Layer 16: slices.Grow of nil, appends of whole lists.
-/
set_option maxRecDepth 100000
set_option maxHeartbeats 4000000
namespace Go.Proofs.YteblmnbagbdiiaaGreatDoor
open Go.RowKit Go.Shelf
set_option linter.unusedVariables false
set_option linter.unusedSimpArgs false
attribute [local go_sem] Oper.semAt_some

theorem infoMvA : ∃ i, Tryz.prog.info? 40 = some i ∧ i.zero = some (.agg (mvA mv0)) ∧ i.size = 5 ∧ i.bytes = 5 := by
 cases h : Tryz.prog.info? 40 with
 | none => have := infoMv; rw [h] at this; cases this
 | some i => have := infoMv; rw [h] at this; simp at this; exact ⟨i, rfl, this.1, this.2.1, this.2.2⟩
def NilL (w : World) (e : Ending) (w' : World) : Prop := ∃ v, e = .returned v ∧ MvsO w.heap.size [] v w' ∧ Below w.heap.size w w'
theorem grow_nil (n : Nat) (w : World) (hn : n ≤ 1000000) : Calls Tryz.prog 75 #[.slice none 0 0, .int .i64 (n : Int)] w (NilL w) := by
 obtain ⟨i0, hi0, hz0, hs0, hb0⟩ := infoMvA
 have h1 : ¬ ((n : Int) < 0) := by omega
 by_cases hz : n = 0
 ·subst hz
  go_enter Tryz.func75, Tryz.ntmps75
  go_wp2_with fail
  go_ret
  exact ⟨_, rfl, World.ownsRow_nil _ _ _ _, Below.refl _ _⟩
 ·have h4 : (n : Int) > 0 := by omega
  have hw : wrap64 ((n : Int)) = (n : Int) := IntWalk.wrap64_in _ ⟨by omega, by omega⟩
  have hold : (Builtin.firstCells i0.size 0 (.slice none 0 0)).run Tryz.prog w.drew = .ok #[] w.drew := run_firstCells_none w.drew i0.size 0 0 0
  have hrz : ∀ ty, (Builtin.append_ #[33, 3] ty #[.slice none 0 0, .int .i64 (n : Int)]).run Tryz.prog w =
    .ok (.slice (some ⟨w.heap.size, 0, none⟩) n (grownCap w n 0 40)) (w.drew.alloc (.cells (#[] ++ Builtin.zeroCells (Value.agg (mvA mv0)).cells n ++ Builtin.zeroCells (Value.agg (mvA mv0)).cells (grownCap w n 0 40 - n)) 40)) := fun ty => by
   have h := Lib.run_append_grow_zeros w 33 3 ty 40 i0 (.agg (mvA mv0)) .i64 .i64 Tryz.underlying33 Tryz.underlying3 hi0 hz0 none 0 0 [] hold n (by omega) (by omega) (by omega) (by omega) (by rw [hb0]; omega) (growslice_fits (by omega) (by rw [hb0]; omega))
   simpa using h
  have hge := grownCap_ge w n 0 40
  have hcm : grownCap w n 0 40 ≤ maxLen := grownCap_le_maxLen w n 0 40 (by unfold maxLen; omega)
  obtain ⟨G, hG⟩ : ∃ G, grownCap w n 0 40 = G := ⟨_, rfl⟩
  rw [hG] at hrz hge hcm
  have hG63 : G ≤ 9223372036854775807 := by unfold maxLen at hcm; omega
  have hown : ((w.alloc (.cells (Builtin.zeroCells (mvA mv0) n ++ Builtin.zeroCells (mvA mv0) (G - n)) 40)).drew).ownsRow w.heap.size 40 5 (.slice (some ⟨w.heap.size, 0, none⟩) 0 G) 0 [] := by
   refine ⟨rfl, .inr ⟨w.heap.size, G, _, rfl, Nat.le_refl _, heap_alloc_new w _, Nat.zero_le _, hcm, ?_, ?_⟩⟩
   ·have e5 : (mvA mv0).size = 5 := rfl
    simp only [Array.size_append, size_zeroCells, e5]
    omega
   ·simp
  have hbel : Below w.heap.size w ((w.alloc (.cells (Builtin.zeroCells (mvA mv0) n ++ Builtin.zeroCells (mvA mv0) (G - n)) 40)).drew) := ((Below.refl w.heap.size w).alloc (Nat.le_refl _) _).drew
  have HO := H_ hown
  have HB := H_ hbel
  clear hold hG hown hbel hge hi0 hz0 hs0 hb0
  go_enter Tryz.func75, Tryz.ntmps75
  go_wp2_with (at_builtin; refine Lib.wpList_append_run _ rfl _ _ _ _ rfl _ _ rfl rfl _ _ (hrz _) ?_)
  all_goals (go_ret; exact ⟨_, rfl, HO.out, HB.out⟩)
theorem Mvs.cells {L : List Mv} {g : Nat} {w : World} (h : Mvs L (some ⟨g, 0, none⟩) w) : ∀ j u, (cmL L)[j]? = some u → w.cell? ((⟨g, 0, none⟩ : Addr).add j) = some u := by
 intro j u hj
 have hlen : (cmL L).length = 5 * L.length := by
  clear h hj
  induction L with
  | nil => rfl
  | cons x L ih =>
   have e : cmL (x :: L) = (mvA x).toList ++ cmL L := rfl
   have : (mvA x).toList.length = 5 := rfl
   rw [e, List.length_append, ih, this, List.length_cons]; omega
 have hjl := (List.getElem?_eq_some_iff.1 hj).1
 obtain ⟨m, hm⟩ : ∃ m, L[j / 5]? = some m := ⟨_, List.getElem?_eq_getElem (by omega)⟩
 obtain ⟨g', cur, e, hb, hc⟩ := h _ m hm
 obtain rfl : g = g' := by injection e with e; injection e
 have e1 : ((⟨g, 0, none⟩ : Addr).add j) = ⟨g, j, none⟩ := by simp [Addr.add]; try exact fun h => h.symm
 have e2 : j = 5 * (j / 5) + j % 5 := by omega
 rw [e1, Blk.cell hb j]
 have h1 := hc (j % 5) (by omega)
 have h2 := cmL_get L (j / 5) m (j % 5) hm (by omega)
 rw [← e2] at h1 h2
 rw [h1, ← h2, hj]
theorem cmL_len (L : List Mv) : (cmL L).length = 5 * L.length := by
 induction L with
 | nil => rfl
 | cons x L ih =>
  have e : cmL (x :: L) = (mvA x).toList ++ cmL L := rfl
  have : (mvA x).toList.length = 5 := rfl
  rw [e, List.length_append, ih, this, List.length_cons]; omega
theorem cmL_app (A B : List Mv) : cmL (A ++ B) = cmL A ++ cmL B := by unfold cmL; rw [List.flatMap_append]
theorem cmL_one (L : List Mv) : ∀ u ∈ cmL L, u.oneCell' = true := by
 intro u hu
 obtain ⟨m, _, hm⟩ := List.mem_flatMap.1 hu
 have := mv_one m
 rw [Array.all_eq_true_iff_forall_mem] at this
 exact this u (by simpa using hm)
theorem mvs_at {L : List Mv} {B : Nat} {v : Value} {w : World} (h : MvsO B L v w) : ∃ a c, v = .slice a L.length c ∧ Mvs L a w ∧ (a = none → L = [] ∧ c = 0) ∧ (∀ g, a = some g → ∃ k, g = ⟨k, 0, none⟩ ∧ B ≤ k ∧ k < w.heap.size) := by
 obtain ⟨a, c, e, hm⟩ := mvs_of h
 refine ⟨a, c, e, hm, ?_, ?_⟩
 ·rintro rfl
  rcases h.2 with ⟨h1, h2⟩ | ⟨g, cap, cur, h1, _⟩
  ·rw [h1] at e
   injection e with e1 e2 e3
   exact ⟨List.length_eq_zero_iff.1 e2.symm, e3.symm⟩
  ·rw [h1] at e
   injection e with e1
   cases e1
 ·rintro g rfl
  rcases h.2 with ⟨h1, h2⟩ | ⟨k, cap, cur, h1, hB, hk, _⟩
  ·rw [h1] at e
   injection e with e1
   cases e1
  ·rw [h1] at e
   injection e with e1
   injection e1 with e1
   exact ⟨k, e1.symm, hB, (Array.getElem?_eq_some_iff.1 hk).1⟩
theorem run_app (B : Nat) (A L : List Mv) (v : Value) (a : Option Addr) (c : Nat) (w : World) (hA : MvsO B A v w) (hL : Mvs L a w) (hg : ∀ g, a = some g → ∃ k, g = ⟨k, 0, none⟩) (hnil : a = none → L = [] ∧ c = 0) (hlen : A.length + L.length ≤ 10000000) (hB : B ≤ w.heap.size) (ty : TypeId) :
  ∃ v' w', (Builtin.append_ #[33, 33] ty #[v, .slice a L.length c]).run Tryz.prog w = .ok v' w' ∧ MvsO B (A ++ L) v' w' ∧ w.grownBy w' v.ownBlock ∧ (v'.ownBlock = v.ownBlock ∨ v'.ownBlock = some w.heap.size) := by
 obtain ⟨i0, hi, hz, hs, hb⟩ := infoMvA
 cases a with
 | none =>
  obtain ⟨rfl, rfl⟩ := hnil rfl
  have hr := run_append_owned_none (P := Tryz.prog) (w := w) B 33 ty 40 i0 5 Tryz.underlying33 hi v A.length (cmL A) hA
  exact ⟨v, w, hr, by rw [List.append_nil]; exact hA, ⟨rfl, rfl, rfl, Nat.le_refl _, fun _ _ _ => rfl⟩, Or.inl rfl⟩
 | some g =>
  obtain ⟨k, rfl⟩ := hg g rfl
  obtain ⟨v', w', h1, h2, h3, _, h5⟩ := run_append_own_at (P := Tryz.prog) w B 33 ty 40 i0 (.agg (mvA mv0)) 5 5 Tryz.underlying33 hi hz hs hb rfl (by decide) v A.length (cmL A) hA ⟨k, 0, none⟩ L.length c (cmL L) (by rw [cmL_len]; omega) hL.cells (cmL_one L) (by unfold maxLen; omega) (by omega) hB
  exact ⟨v', w', h1, by unfold MvsO; rw [List.length_append, cmL_app]; exact h2, h3, h5⟩
end Go.Proofs.YteblmnbagbdiiaaGreatDoor
/-
 Layer 16: slices.Concat of three lists; after.All.
-/
namespace Go.Proofs.YteblmnbagbdiiaaGreatDoor
open Go.RowKit Go.Shelf
set_option linter.unusedVariables false
set_option linter.unusedSimpArgs false
attribute [local go_sem] Oper.semAt_some

theorem infoSl : (Tryz.prog.info? 33).map (fun i => (i.zero, i.size)) = some (some (.slice none 0 0), 1) := by kernel_rfl
theorem fill3S (a b c : Option Addr) (l m n x y z : Nat) : Instr.fill (fun i => some (i * 1, 1)) ((Array.range (3 * 1)).map ((Value.slice none 0 0).cells[· % (Value.slice none 0 0).cells.size]!)) [(0, .slice a l x), (1, .slice b m y), (2, .slice c n z)] = some #[.slice a l x, .slice b m y, .slice c n z] := by kernel_rfl
theorem late_lists {o : Oper} {a : Act} {w : World} {K : Act → World → Prop} {Q : Exit → Act → World → Prop} (parts : Array (Nat × Operand)) (ho : o.op = .buildSlice 95 3 parts) (cs : Array Value)
  (ps : List (Nat × Value)) (hps : (parts.map fun (i, x) => (i, a.eval x)).toList = ps) (hp : Instr.fill (fun i => some (i * 1, 1)) ((Array.range (3 * 1)).map ((Value.slice none 0 0).cells[· % (Value.slice none 0 0).cells.size]!)) ps = some cs)
  (h : ∀ b w', New b w w' → Blk w' b 33 cs → K (a.put o.dst (.slice (some ⟨b, 0, none⟩) 3 3)) w') : Wp Tryz.prog o a w K Q := ⟨by
 have hk := h _ _ (New.alloc w _) (heap_alloc_new w (.cells cs 33))
 cases hq : Tryz.prog.info? 33 with
 | none => have := infoSl; simp [hq] at this
 | some i =>
  have hi := infoSl
  simp only [hq, Option.map_some, Option.some.injEq, Prod.mk.injEq] at hi
  refine wp_buildSlice 95 33 3 parts ho cs i (.slice none 0 0) Tryz.underlying95 hq hi.1 (by rw [hi.2]; omega) (by rw [hi.2]; omega) ?_ hk
  rw [hi.2, hps]
  exact hp⟩
theorem Mvs.kept {L : List Mv} {a : Option Addr} {w w' : World} {X : Nat → Prop} (h : Mvs L a w) (k : Kept X w w') (hx : ∀ g, a = some ⟨g, 0, none⟩ → ¬ X g) : Mvs L a w' := fun i m hm => by
 obtain ⟨g, cur, e, hb, hc⟩ := h i m hm
 exact ⟨g, cur, e, k.obj (show w.heap[g]? = _ from hb) (hx g e), hc⟩
structure Src (L : List Mv) (a : Option Addr) (c B : Nat) (w : World) : Prop where
 mvs : Mvs L a w
 nil : a = none → L = [] ∧ c = 0
 at_ : ∀ g, a = some g → ∃ k, g = ⟨k, 0, none⟩ ∧ k < B
 len : L.length ≤ 300000
theorem Src.later {L : List Mv} {a : Option Addr} {c B : Nat} {w w' : World} (h : Src L a c B w) (hb : Below w.heap.size w w') : Src L a c B w' := { h with mvs := h.mvs.later hb }
theorem Src.kept {L : List Mv} {a : Option Addr} {c B C : Nat} {w w' : World} {X : Nat → Prop} (h : Src L a c B w) (k : Kept X w w') (hx : ∀ g, X g → C ≤ g) (hB : B ≤ C) : Src L a c B w' :=
 ⟨h.mvs.kept k (fun g e hg => by
   obtain ⟨k', e', hk⟩ := h.at_ _ e
   injection e' with e1
   have := hx g hg
   omega), h.nil, h.at_, h.len⟩
theorem run_src {B C : Nat} {A L : List Mv} {v : Value} {a : Option Addr} {c : Nat} {w : World} (hA : MvsO B A v w) (hL : Src L a c C w) (hlen : A.length ≤ 1000000) (hB : B ≤ w.heap.size) :
  ∃ v' w', (Builtin.append_ #[33, 33] 33 #[v, .slice a L.length c]).run Tryz.prog w = .ok v' w' ∧ MvsO B (A ++ L) v' w' ∧ w.grownBy w' v.ownBlock := by
 have hl := hL.len
 obtain ⟨v', w', h1, h2, h3, _⟩ := run_app B A L v a c w hA hL.mvs (fun g e => by obtain ⟨k, h, _⟩ := hL.at_ g e; exact ⟨k, h⟩) hL.nil (by omega) hB 33
 exact ⟨v', w', h1, h2, h3⟩
theorem concat_any (L0 L1 L2 : List Mv) (a0 a1 a2 : Option Addr) (c0 c1 c2 g B : Nat) (w : World) (hg : Blk w g 33 #[.slice a0 L0.length c0, .slice a1 L1.length c1, .slice a2 L2.length c2]) (h0 : Src L0 a0 c0 B w) (h1 : Src L1 a1 c1 B w) (h2 : Src L2 a2 c2 B w) (hB : B ≤ w.heap.size) :
  Calls Tryz.prog 35 #[.slice (some ⟨g, 0, none⟩) 3 3] w (MvL (L0 ++ L1 ++ L2) w) := by
 have HG := H_ hg
 have H0 := H_ h0
 have H1 := H_ h1
 have H2 := H_ h2
 have HBn := H_ hB
 have HGl := H_ (Blk.lt hg)
 have l0 := h0.len
 have l1 := h1.len
 have l2 := h2.len
 have n0 : ¬ ((L0.length : Int) < 0) := by omega
 have n1 : ¬ (((L0.length + L1.length : Nat) : Int) < 0) := by omega
 have n2 : ¬ (((L0.length + L1.length + L2.length : Nat) : Int) < 0) := by omega
 have w0 : wrap64 (L0.length : Int) = (L0.length : Int) := IntWalk.wrap64_in _ ⟨by omega, by omega⟩
 have w1 : wrap64 ((L0.length : Int) + (L1.length : Int)) = ((L0.length + L1.length : Nat) : Int) := by rw [IntWalk.wrap64_in _ ⟨by omega, by omega⟩]; omega
 have w2 : wrap64 (((L0.length + L1.length : Nat) : Int) + (L2.length : Int)) = ((L0.length + L1.length + L2.length : Nat) : Int) := by rw [IntWalk.wrap64_in _ ⟨by omega, by omega⟩]; omega
 have hS : L0.length + L1.length + L2.length ≤ 1000000 := by omega
 obtain ⟨s2, hs2⟩ : ∃ s, L0.length + L1.length = s := ⟨_, rfl⟩
 obtain ⟨s3, hs3⟩ : ∃ s, L0.length + L1.length + L2.length = s := ⟨_, rfl⟩
 have HS2 := H_ hs2
 have HS3 := H_ hs3
 rw [hs3] at n2 w2 hS
 rw [hs2] at n1 w1 w2
 clear hg h0 h1 h2 hB hs2 hs3
 have HB := H_ (Below.refl w.heap.size w)
 go_enter Tryz.func35, Tryz.ntmps35
 go_wp2_with fail
 go_loopw [3, 11] (fun v i wr => (i = .int .i64 0 ∧ v = .int .i64 0 ∨ i = .int .i64 1 ∧ v = .int .i64 (L0.length : Int) ∨ i = .int .i64 2 ∧ v = .int .i64 (s2 : Int) ∨ i = .int .i64 3 ∧ v = .int .i64 (s3 : Int)) ∧ w = wr) (fun _ i _ => 3 - (intOf i).toNat)
 case atStart => exact ⟨Or.inl ⟨rfl, rfl⟩, rfl⟩
 case round =>
  obtain ⟨hrel, rfl⟩ := hrel
  rcases hrel with ⟨rfl, rfl⟩ | ⟨rfl, rfl⟩ | ⟨rfl, rfl⟩ | ⟨rfl, rfl⟩
  ·go_wp2_with (guard_target = gL1 14; refine step_get rfl 33 _ rfl g 0 rfl Tryz.underlying33 rfl (.slice a0 L0.length c0) ((HG.out.cell 0).trans rfl) ?_)
   go_roundw
   case rel => exact ⟨Or.inr (Or.inl ⟨by go_num, by first | rfl | (simp only [Value.int.injEq, true_and]; have := HS2.out; have := HS3.out; omega) | (simp [w0]; try (have := HS2.out; have := HS3.out; omega))⟩), by first | rfl | trivial⟩
   case measure => simp [intOf]
  ·go_wp2_with (guard_target = gL1 14; refine step_get rfl 33 _ rfl g 1 rfl Tryz.underlying33 rfl (.slice a1 L1.length c1) ((HG.out.cell 1).trans rfl) ?_)
   go_roundw
   case rel => exact ⟨Or.inr (Or.inr (Or.inl ⟨by go_num, by first | rfl | (simp only [Value.int.injEq, true_and]; have := HS2.out; have := HS3.out; omega) | (simp [w1]; try (have := HS2.out; have := HS3.out; omega))⟩)), by first | rfl | trivial⟩
   case measure => simp [intOf]
  ·go_wp2_with (guard_target = gL1 14; refine step_get rfl 33 _ rfl g 2 rfl Tryz.underlying33 rfl (.slice a2 L2.length c2) ((HG.out.cell 2).trans rfl) ?_)
   go_roundw
   case rel => exact ⟨Or.inr (Or.inr (Or.inr ⟨by go_num, by first | rfl | (simp only [Value.int.injEq, true_and]; have := HS2.out; have := HS3.out; omega) | (simp [w2]; try (have := HS2.out; have := HS3.out; omega))⟩)), by first | rfl | trivial⟩
   case measure => simp [intOf]
  ·go_wp2_with (go_at_call 75; refine (grow_nil s3 _ hS).mono ?_; rintro e w3 ⟨v6, rfl, hv6, hb⟩; have HV := H_ hv6; have HG := H_ (HG.out.later hb); have H0 := H_ (H0.out.later hb); have H1 := H_ (H1.out.later hb); have H2 := H_ (H2.out.later hb); have HSz := H_ hb.size; have HB := H_ (below_on HB.out hb); clear hb hv6)
   go_loopw [6, 27] (fun v i wr => (i = .int .i64 0 ∧ MvsO w.heap.size [] v wr ∨ i = .int .i64 1 ∧ MvsO w.heap.size L0 v wr ∨ i = .int .i64 2 ∧ MvsO w.heap.size (L0 ++ L1) v wr ∨ i = .int .i64 3 ∧ MvsO w.heap.size (L0 ++ L1 ++ L2) v wr) ∧ Blk wr g 33 #[.slice a0 L0.length c0, .slice a1 L1.length c1, .slice a2 L2.length c2] ∧ Src L0 a0 c0 B wr ∧ Src L1 a1 c1 B wr ∧ Src L2 a2 c2 B wr ∧ Below w.heap.size w wr ∧ w.heap.size ≤ wr.heap.size) (fun _ i _ => 3 - (intOf i).toNat)
   case atStart => exact ⟨Or.inl ⟨rfl, HV.out⟩, HG.out, H0.out, H1.out, H2.out, HB.out, HSz.out⟩
   case round =>
    clear HV HG H0 H1 H2 HB HSz
    obtain ⟨hrel, hg, h0, h1, h2, hb, hsz⟩ := hrel
    have HG := H_ hg
    have H0 := H_ h0
    have H1 := H_ h1
    have H2 := H_ h2
    have HB := H_ hb
    have HSz := H_ hsz
    clear hg h0 h1 h2 hb hsz
    rcases hrel with ⟨rfl, hv⟩ | ⟨rfl, hv⟩ | ⟨rfl, hv⟩ | ⟨rfl, hv⟩
    ·obtain ⟨v', w', hr, hO, hgr⟩ := run_src hv H0.out (by first | omega | (simp; done) | (simp; omega)) HSz.out
     have hkp := mkept_grown hgr
     have hfrom : ∀ k, _ = some k → w.heap.size ≤ k := fun k e => hv.from e
     have HVn := H_ (show MvsO w.heap.size (L0) v' w' from by simpa using hO)
     have HGn := H_ (show Blk w' g 33 _ from hkp.obj (show _ = _ from HG.out) (fun e => by have := hfrom _ e; have := HGl.out; omega))
     have H0n := H_ (H0.out.kept hkp hfrom HBn.out)
     have H1n := H_ (H1.out.kept hkp hfrom HBn.out)
     have H2n := H_ (H2.out.kept hkp hfrom HBn.out)
     have HBe := H_ (HB.out.trans (hkp.below hfrom HSz.out))
     have HSn := H_ (Nat.le_trans HSz.out hkp.size)
     clear hkp hfrom hO hgr
     go_wp2_with (first
      | (guard_target = gL1 30; refine step_get rfl 33 _ rfl g 0 rfl Tryz.underlying33 rfl (.slice a0 L0.length c0) ((HG.out.cell 0).trans rfl) ?_)
      | (at_builtin; refine Lib.wpList_append_run _ rfl _ _ _ _ rfl _ _ rfl rfl _ _ hr ?_))
     go_roundw
     case rel => exact ⟨Or.inr (Or.inl ⟨by go_num, HVn.out⟩), HGn.out, H0n.out, H1n.out, H2n.out, HBe.out, HSn.out⟩
     case measure => simp [intOf]
    ·obtain ⟨v', w', hr, hO, hgr⟩ := run_src hv H1.out (by first | omega | (simp; done) | (simp; omega)) HSz.out
     have hkp := mkept_grown hgr
     have hfrom : ∀ k, _ = some k → w.heap.size ≤ k := fun k e => hv.from e
     have HVn := H_ (show MvsO w.heap.size (L0 ++ L1) v' w' from hO)
     have HGn := H_ (show Blk w' g 33 _ from hkp.obj (show _ = _ from HG.out) (fun e => by have := hfrom _ e; have := HGl.out; omega))
     have H0n := H_ (H0.out.kept hkp hfrom HBn.out)
     have H1n := H_ (H1.out.kept hkp hfrom HBn.out)
     have H2n := H_ (H2.out.kept hkp hfrom HBn.out)
     have HBe := H_ (HB.out.trans (hkp.below hfrom HSz.out))
     have HSn := H_ (Nat.le_trans HSz.out hkp.size)
     clear hkp hfrom hO hgr
     go_wp2_with (first
      | (guard_target = gL1 30; refine step_get rfl 33 _ rfl g 1 rfl Tryz.underlying33 rfl (.slice a1 L1.length c1) ((HG.out.cell 1).trans rfl) ?_)
      | (at_builtin; refine Lib.wpList_append_run _ rfl _ _ _ _ rfl _ _ rfl rfl _ _ hr ?_))
     go_roundw
     case rel => exact ⟨Or.inr (Or.inr (Or.inl ⟨by go_num, HVn.out⟩)), HGn.out, H0n.out, H1n.out, H2n.out, HBe.out, HSn.out⟩
     case measure => simp [intOf]
    ·obtain ⟨v', w', hr, hO, hgr⟩ := run_src hv H2.out (by first | omega | (simp; done) | (simp; omega)) HSz.out
     have hkp := mkept_grown hgr
     have hfrom : ∀ k, _ = some k → w.heap.size ≤ k := fun k e => hv.from e
     have HVn := H_ (show MvsO w.heap.size (L0 ++ L1 ++ L2) v' w' from hO)
     have HGn := H_ (show Blk w' g 33 _ from hkp.obj (show _ = _ from HG.out) (fun e => by have := hfrom _ e; have := HGl.out; omega))
     have H0n := H_ (H0.out.kept hkp hfrom HBn.out)
     have H1n := H_ (H1.out.kept hkp hfrom HBn.out)
     have H2n := H_ (H2.out.kept hkp hfrom HBn.out)
     have HBe := H_ (HB.out.trans (hkp.below hfrom HSz.out))
     have HSn := H_ (Nat.le_trans HSz.out hkp.size)
     clear hkp hfrom hO hgr
     go_wp2_with (first
      | (guard_target = gL1 30; refine step_get rfl 33 _ rfl g 2 rfl Tryz.underlying33 rfl (.slice a2 L2.length c2) ((HG.out.cell 2).trans rfl) ?_)
      | (at_builtin; refine Lib.wpList_append_run _ rfl _ _ _ _ rfl _ _ rfl rfl _ _ hr ?_))
     go_roundw
     case rel => exact ⟨Or.inr (Or.inr (Or.inr ⟨by go_num, HVn.out⟩)), HGn.out, H0n.out, H1n.out, H2n.out, HBe.out, HSn.out⟩
     case measure => simp [intOf]
    ·go_wp2_with fail
     go_ret
     exact ⟨_, rfl, hv, HB.out⟩
structure SrcA (L : List Mv) (a : Option Addr) (c : Nat) (w : World) : Prop where
 mvs : Mvs L a w
 nil : a = none → L = [] ∧ c = 0
 at_ : ∀ g, a = some g → ∃ k, g = ⟨k, 0, none⟩ ∧ k < w.heap.size
theorem SrcA.later {L : List Mv} {a : Option Addr} {c : Nat} {w w' : World} (h : SrcA L a c w) (hb : Below w.heap.size w w') : SrcA L a c w' :=
 ⟨h.mvs.later hb, h.nil, fun g e => by obtain ⟨k, h1, h2⟩ := h.at_ g e; exact ⟨k, h1, Nat.lt_of_lt_of_le h2 hb.size⟩⟩
theorem SrcA.src {L : List Mv} {a : Option Addr} {c : Nat} {w : World} (h : SrcA L a c w) (hn : L.length ≤ 300000) : Src L a c w.heap.size w := ⟨h.mvs, h.nil, h.at_, hn⟩
theorem cam_lenA (p : Nat → Int) : (camL p).length ≤ 2 := by
 unfold camL
 cases thC p
 ·exact Nat.zero_le _
 ·rw [cond_true, List.length_append]
  have h : ∀ n, (oneC p n).length ≤ 1 := fun n => by unfold oneC; cases inC p n <;> simp
  have := h 0; have := h 1; omega
theorem all_after (p : Nat → Int) (w : World) (hp : WfP p) (hT : CsT w) : Calls Tryz.prog 16 #[.agg (posA p)] w (MvL (afL p) w) := by
 have HP := H_ hp
 have HT := H_ hT
 clear hp hT
 have hn0 := all_len p
 have hn1 := cam_lenA p
 have hn2 := drL_len p
 unfold afL
 obtain ⟨L0, h0⟩ : ∃ L, (allL p).map pmM = L := ⟨_, rfl⟩
 obtain ⟨L1, h1⟩ : ∃ L, camL p = L := ⟨_, rfl⟩
 obtain ⟨L2, h2⟩ : ∃ L, drL p = L := ⟨_, rfl⟩
 have hl0 : L0.length ≤ 300000 := by rw [← h0, List.length_map]; omega
 have HL0 := H_ h0
 have HL1 := H_ h1
 have HL2 := H_ h2
 rw [h1] at hn1
 rw [h2] at hn2
 have HN0 := H_ hl0
 have HN1 := H_ (show L1.length ≤ 300000 by omega)
 have HN2 := H_ (show L2.length ≤ 300000 by omega)
 rw [h0, h1, h2]
 clear h0 h1 h2 hn0 hn1 hn2 hl0
 have HB := H_ (Below.refl w.heap.size w)
 go_enter Tryz.func16, Tryz.ntmps16
 go_wp2_with (guard_target = gB 1; refine step_box rfl _ rfl p rfl ?_; intro b1 w1 N R; have HG1 := H_ (nA HB.out N); have HB := H_ (below_on HB.out N.below); have HR1 := H_ R; clear N R)
 refine late_begin 9 (by kernel_rfl) ?_
 refine lv 0 rfl ⟨_, fun w' hl => (run_load _ rfl _ rfl (p) (HR1.out.later hl)), ?_⟩
 simp only [Act.put, pa, pb, pc]
 refine lv 2 rfl ⟨_, fun w' hl => (run_load _ rfl _ rfl (p) (HR1.out.later hl)), ?_⟩
 simp only [Act.put, pa, pb, pc]
 refine lv 4 rfl ⟨_, fun w' hl => (run_load _ rfl _ rfl (p) (HR1.out.later hl)), ?_⟩
 simp only [Act.put, pa, pb, pc]
 refine l1 1 rfl fun wn hl K hK => ?_
 have HR1 := H_ (HR1.out.later hl); have HB := H_ (below_on HB.out hl); clear hl
 refine we ?_
 refine (list_ps p _ (PsR.of HP.out) (HT.out.on HB.out).ps).mono ?_; rintro e wm ⟨v, rfl, hv, hb⟩; refine ⟨_, rfl, ?_⟩
 have hv := pms_mvs hv
 obtain ⟨a0, c0, rfl, hm0, hz0, ha0⟩ := mvs_at (mvsO_down hv HB.out.size)
 have HSx := H_ (show SrcA _ a0 c0 wm from ⟨hm0, hz0, fun g e => by obtain ⟨k, h1, _, h2⟩ := ha0 g e; exact ⟨k, h1, h2⟩⟩)
 rw [HL0.out] at HSx ⊢
 clear hv hm0 hz0 ha0
 refine hK.out _ _ hb ?_
 have HR1 := H_ (HR1.out.later hb); have HB := H_ (below_on HB.out hb); clear hb
 have HS0 := HSx; clear HSx
 clear hK K
 simp only [Act.put, pa, pb, pc]
 refine l1 3 rfl fun wn hl K hK => ?_
 have HR1 := H_ (HR1.out.later hl); have HS0 := H_ (HS0.out.later hl); have HB := H_ (below_on HB.out hl); clear hl
 refine we ?_
 refine (list_cs p _ (csR_of HP.out) (HT.out.on HB.out)).mono ?_; rintro e wm ⟨v, rfl, hv, hb⟩; refine ⟨_, rfl, ?_⟩
 obtain ⟨a1, c1, rfl, hm1, hz1, ha1⟩ := mvs_at (mvsO_down hv HB.out.size)
 have HSx := H_ (show SrcA _ a1 c1 wm from ⟨hm1, hz1, fun g e => by obtain ⟨k, h1, _, h2⟩ := ha1 g e; exact ⟨k, h1, h2⟩⟩)
 rw [HL1.out] at HSx ⊢
 clear hv hm1 hz1 ha1
 refine hK.out _ _ hb ?_
 have HR1 := H_ (HR1.out.later hb); have HS0 := H_ (HS0.out.later hb); have HB := H_ (below_on HB.out hb); clear hb
 have HS1 := HSx; clear HSx
 clear hK K
 simp only [Act.put, pa, pb, pc]
 refine l1 5 rfl fun wn hl K hK => ?_
 have HR1 := H_ (HR1.out.later hl); have HS0 := H_ (HS0.out.later hl); have HS1 := H_ (HS1.out.later hl); have HB := H_ (below_on HB.out hl); clear hl
 refine we ?_
 refine (list_dr p _ HP.out.dr (HT.out.on HB.out).dr).mono ?_; rintro e wm ⟨v, rfl, hv, hb⟩; refine ⟨_, rfl, ?_⟩
 obtain ⟨a2, c2, rfl, hm2, hz2, ha2⟩ := mvs_at (mvsO_down hv HB.out.size)
 have HSx := H_ (show SrcA _ a2 c2 wm from ⟨hm2, hz2, fun g e => by obtain ⟨k, h1, _, h2⟩ := ha2 g e; exact ⟨k, h1, h2⟩⟩)
 rw [HL2.out] at HSx ⊢
 clear hv hm2 hz2 ha2
 refine hK.out _ _ hb ?_
 have HR1 := H_ (HR1.out.later hb); have HS0 := H_ (HS0.out.later hb); have HS1 := H_ (HS1.out.later hb); have HB := H_ (below_on HB.out hb); clear hb
 have HS2 := HSx; clear HSx
 clear hK K
 simp only [Act.put, pa, pb, pc]
 refine l1 6 rfl fun wn hl K hK => ?_
 have HR1 := H_ (HR1.out.later hl); have HS0 := H_ (HS0.out.later hl); have HS1 := H_ (HS1.out.later hl); have HS2 := H_ (HS2.out.later hl); have HB := H_ (below_on HB.out hl); clear hl
 refine late_lists _ rfl _ _ (by kernel_rfl) (fill3S a0 a1 a2 L0.length L1.length L2.length c0 c1 c2) ?_; intro b2 wm N R
 have hb := N.below
 have HG2 := H_ R; clear N R
 refine hK.out _ _ hb ?_
 have HR1 := H_ (HR1.out.later hb); have HS0 := H_ (HS0.out.later hb); have HS1 := H_ (HS1.out.later hb); have HS2 := H_ (HS2.out.later hb); have HB := H_ (below_on HB.out hb); clear hb
 have HG2 := H_ HG2.out
 clear hK K
 simp only [Act.put, pa, pb, pc]
 refine l1 7 rfl fun wn hl K hK => ?_
 have HR1 := H_ (HR1.out.later hl); have HS0 := H_ (HS0.out.later hl); have HS1 := H_ (HS1.out.later hl); have HS2 := H_ (HS2.out.later hl); have HG2 := H_ (HG2.out.later hl); have HB := H_ (below_on HB.out hl); clear hl
 refine we ?_
 refine (concat_any L0 L1 L2 a0 a1 a2 c0 c1 c2 b2 _ _ HG2.out (HS0.out.src HN0.out) (HS1.out.src HN1.out) (HS2.out.src HN2.out) (Nat.le_refl _)).mono ?_; rintro e wm ⟨v, rfl, hv, hb⟩; refine ⟨_, rfl, ?_⟩
 have HV_ := H_ (mvsO_down hv HB.out.size); clear hv
 refine hK.out _ _ hb ?_
 have HR1 := H_ (HR1.out.later hb); have HS0 := H_ (HS0.out.later hb); have HS1 := H_ (HS1.out.later hb); have HS2 := H_ (HS2.out.later hb); have HG2 := H_ (HG2.out.later hb); have HB := H_ (below_on HB.out hb); clear hb
 have HV := HV_; clear HV_
 clear hK K
 simp only [Act.put, pa, pb, pc]
 refine lw 8 rfl ?_
 simp only [Act.put, pa, pb, pc]
 refine late_end (by kernel_rfl) (fun wn hl => ?_)
 have HR1 := H_ (HR1.out.later hl); have HS0 := H_ (HS0.out.later hl); have HS1 := H_ (HS1.out.later hl); have HS2 := H_ (HS2.out.later hl); have HG2 := H_ (HG2.out.later hl); have HV := H_ (HV.out.later hl); have HB := H_ (below_on HB.out hl); clear hl
 go_wp2_with fail
 go_ret
 exact ⟨_, rfl, HV.out, HB.out⟩
end Go.Proofs.YteblmnbagbdiiaaGreatDoor
