/-
 The contract of the iterator that 'attacking' hands back.
-/
import Derived.Test.YtidgfadbdgheiaaGreatDoorAtMake
import Derived.Test.YtidgfadbdgheiaaGreatDoorAfBaseK
import Derived.Deep.RegionHeld3
namespace Go.Proofs.YtidgfadbdgheiaaGreatDoor
open Go.RowKit Go.Shelf
set_option linter.unusedVariables false
set_option linter.unusedSimpArgs false
attribute [local go_sem] Oper.semAt_some

/-- What the iterator reads: its position, square, color, and the tables. -/
structure AttIn (p : Nat → Int) (s c : Int) (pB cB sB : Nat) (w : World) : Prop where
 row : Row w pB p
 col : w.cell? ⟨cB, 0, none⟩ = some (.int .u8 c)
 sq : w.cell? ⟨sB, 0, none⟩ = some (.int .i64 s)
 db : TabDb w
 lead : TabLead w
def AttOff (pB cB sB : Nat) (X : Nat → Prop) : Prop := ¬ X pB ∧ ¬ X cB ∧ ¬ X sB ∧ ¬ X 4 ∧ ¬ X 3
theorem AttIn.kept {p : Nat → Int} {s c : Int} {pB cB sB : Nat} {w w' : World} {X : Nat → Prop} (h : AttIn p s c pB cB sB w) (k : Kept X w w') (ho : AttOff pB cB sB X) : AttIn p s c pB cB sB w' :=
 ⟨(k.same pB (Array.getElem?_eq_some_iff.1 h.row).1 ho.1).trans h.row, k.cell h.col ho.2.1, k.cell h.sq ho.2.2.1, fun j hj => k.cell (h.db j hj) ho.2.2.2.1, fun j hj => k.cell (h.lead j hj) ho.2.2.2.2⟩
theorem AttIn.on {p : Nat → Int} {s c : Int} {pB cB sB : Nat} {w w' : World} (h : AttIn p s c pB cB sB w) (k : Below w.heap.size w w') : AttIn p s c pB cB sB w' :=
 h.kept (Kept.of_call (fun _ => False) k) ⟨id, id, id, id, id⟩
theorem AttIn.later {p : Nat → Int} {s c : Int} {pB cB sB : Nat} {w w' : World} (h : AttIn p s c pB cB sB w) (k : Below w.heap.size w w') : AttIn p s c pB cB sB w' := h.on k
theorem AttIn.off {p : Nat → Int} {s c : Int} {pB cB sB : Nat} {w W : World} {Y : Nat → Prop} (h : AttIn p s c pB cB sB w) (ho : AttOff pB cB sB Y) : AttOff pB cB sB (Xs Y w W) := by
 have a1 := (Array.getElem?_eq_some_iff.1 h.row).1
 have a2 := cell_block h.col
 have a3 := cell_block h.sq
 have a4 := h.db.lt
 have a5 := h.lead.lt
 obtain ⟨h1, h2, h3, h4, h5⟩ := ho
 refine ⟨?_, ?_, ?_, ?_, ?_⟩
 ·rintro (g | g); { exact h1 g }; { omega }
 ·rintro (g | g); { exact h2 g }; { simp at a2; omega }
 ·rintro (g | g); { exact h3 g }; { simp at a3; omega }
 ·rintro (g | g); { exact h4 g }; { omega }
 ·rintro (g | g); { exact h5 g }; { omega }

/-- What a cell of one block holds. -/
def CellIs (w : World) (b : Nat) (v : Value) : Prop := w.cell? ⟨b, 0, none⟩ = some v
theorem CellIs.later {w w' : World} {b : Nat} {v : Value} (h : CellIs w b v) (k : Below w.heap.size w w') : CellIs w' b v := (k.cell (cell_block h)).trans h
theorem CellIs.kept {w w' : World} {b : Nat} {v : Value} {X : Nat → Prop} (h : CellIs w b v) (k : Kept X w w') (hx : ¬ X b) : CellIs w' b v := k.cell h hx
theorem att_mono (p : Nat → Int) (s c : Int) {k m : Nat} (h : k ≤ m) : attL p s c k <+: attL p s c m := by
 induction m with
 | zero =>
  obtain rfl : k = 0 := by omega
  exact List.prefix_rfl
 | succ m ih =>
  by_cases e : k = m + 1
  ·subst e; exact List.prefix_rfl
  ·exact (ih (by omega)).trans (List.prefix_append _ _)
/-- The squares of the kind among those gone through. -/
def fltL (p : Nat → Int) (k : Nat) (l : List Nat) : List Nat := l.filter fun x => kndZ (atZ p (x : Int)) == (k : Int)
theorem flt_yes {p : Nat → Int} {k x : Nat} (l : List Nat) (h : kndZ (atZ p (x : Int)) = (k : Int)) : fltL p k (l ++ [x]) = fltL p k l ++ [x] := by unfold fltL; rw [List.filter_append]; simp [h]
theorem flt_no {p : Nat → Int} {k x : Nat} (l : List Nat) (h : kndZ (atZ p (x : Int)) ≠ (k : Int)) : fltL p k (l ++ [x]) = fltL p k l := by unfold fltL; rw [List.filter_append]; simp [h]
theorem att_pre {p : Nat → Int} {s c : Int} {k x : Nat} {pre : List Nat} (hk : k < 7) (h : pre ++ [x] <+: listN (ofN p c 0 &&& atkN (oth c) k s (occN p))) (hx : kndZ (atZ p (x : Int)) = (k : Int)) :
  (attL p s c k ++ fltL p k pre) ++ [x] <+: attL p s c 7 := by
 rw [List.append_assoc, ← flt_yes pre hx]
 obtain ⟨t, ht⟩ := h
 have e : attL p s c k ++ fltL p k (pre ++ [x]) <+: attL p s c (k + 1) := ⟨fltL p k t, by rw [List.append_assoc, attL]; unfold tellN fltL; rw [← List.filter_append, ht]⟩
 exact e.trans (att_mono p s c (by omega))
theorem wrap8 {v : Int} (h0 : 0 ≤ v) (h1 : v ≤ 7) : IntKind.i64.wrap v = v := by
 have : v = 0 ∨ v = 1 ∨ v = 2 ∨ v = 3 ∨ v = 4 ∨ v = 5 ∨ v = 6 ∨ v = 7 := by omega
 rcases this with rfl | rfl | rfl | rfl | rfl | rfl | rfl | rfl <;> rfl
theorem loop_k {F : Fence} {n : Nat} {P : Program} {c : Code} {Q : Exit → Act → World → Prop} {a : Act} {w : World} (I : Act → World → Prop) (μ : Act → World → Nat) (h₀ : I a w)
  (round : ∀ a w, I a w → ∀ K : Act → World → Prop, Shut (∀ a' w', I a' w' → μ a' w' < μ a w → K a' w') → c.wpIn F n P (Exit.then K Q) a w) : (Code.loop c).wpIn F n P Q a w :=
 wpIn_loop I μ h₀ fun a w h => round a w h _ fun a' w' hi hm => ⟨hi, hm⟩

set_option maxRecDepth 100000 in
set_option maxHeartbeats 4000000 in
theorem att_seq (n pB cB sB : Nat) (hn : 4 ≤ n) (p : Nat → Int) (s c : Int) (Y : Nat → Prop) (w : World) (hp : BdR p) (hc : 0 ≤ c) (hA : AttIn p s c pB cB sB w) (hO : AttOff pB cB sB Y) (hYw : ∀ k, Y k → k < w.heap.size) :
  SeqK n 172 #[.pointer (some ⟨pB, 0, none⟩), .pointer (some ⟨cB, 0, none⟩), .pointer (some ⟨sB, 0, none⟩)] Y (attL p s c 7) w := by
 intro l J Jx W hW hJ hJx hyd h0
 have HA := Lib.hid (hA.on hW)
 have HO := Lib.hid (hA.off (W := W) hO)
 have HS := Lib.hid hW.size
 have HY := Lib.hid hyd
 have HP := Lib.hid hp
 have HJ := Lib.hid hJ
 have HJx := Lib.hid hJx
 have H0 := Lib.hid h0
 have HYw := Lib.hid hYw
 have HF := Lib.hid (by kernel_rfl : Tryz.prog.follows .mixedOrders = true)
 clear hA hO hyd hp hJ hJx h0 hW hYw
 show CallsIn Fence.wide n Tryz.prog _ #[.func (.yield l) #[] #[], .pointer (some ⟨pB, 0, none⟩), .pointer (some ⟨cB, 0, none⟩), .pointer (some ⟨sB, 0, none⟩)] W _
 have h1 : 1 ≤ n := by omega
 refine callsIn_of_wp_marks Tryz.func172 rfl trivial ?_ rfl
 simp only [Tryz.ntmps172, List.size_toArray, List.length_cons, List.length_nil, Nat.reduceAdd, Nat.reduceSub, Array.replicate_succ, Array.replicate_zero, List.push_toArray, List.append_toArray, List.nil_append, List.cons_append]
 have HA1 := Lib.hid (HA.out.on (box_below W (.cells #[.func (.yield l) #[] #[]] 105)))
 have HB4 := Lib.hid (cell_new W (.func (.yield l) #[] #[]) 105)
 have HK1 := Lib.hid (Kept.of_call (Xs Y w W) (box_below W (.cells #[.func (.yield l) #[] #[]] 105)))
 have HJ1 := Lib.hid (HJ.out _ _ _ H0.out (Kept.of_below (box_below W (.cells #[.func (.yield l) #[] #[]] 105))))
 have hcc := HA1.out.col
 have HR := Lib.hid HA1.out.row
 gi_wp2_with fail
 refine wpIn_wide.2 (wp_region_noPanic ?_)
 obtain ⟨W1, HW1⟩ : ∃ W1, Hid (W.alloc (.cells #[.func (.yield l) #[] #[]] 105) = W1) := ⟨_, Lib.hid rfl⟩
 rw [HW1.out] at HA1 HB4 HK1 HJ1 HR hcc ⊢
 have HA := HA1
 have HB := Lib.hid (Below.refl W1.heap.size W1)
 refine late_begin 7 (by kernel_rfl) ?_
 refine late_take 0 (by kernel_rfl) (by kernel_rfl) (by kernel_rfl) (by kernel_rfl) (by kernel_rfl) (fun _ _ d _ _ h => by cases d <;> exact h) (fun o ho => ?_)
 simp only [List.getElem?_toArray, List.getElem?_cons_zero, List.getElem?_cons_succ, Option.some.injEq] at ho; subst ho
 refine ⟨_, Or.inl ⟨by kernel_rfl, fun w' hl => Or.inl (run_load _ rfl _ rfl (p) (HR.out.later hl))⟩, ?_⟩
 simp only [Act.put, List.setIfInBounds_toArray, List.set_cons_zero, List.set_cons_succ]
 refine late_take 1 (by kernel_rfl) (by kernel_rfl) (by kernel_rfl) (by kernel_rfl) (by kernel_rfl) (fun _ _ d _ _ h => by cases d <;> exact h) (fun o ho => ?_)
 simp only [List.getElem?_toArray, List.getElem?_cons_zero, List.getElem?_cons_succ, Option.some.injEq] at ho; subst ho
 refine ⟨_, Or.inl ⟨by kernel_rfl, fun w' hl => Or.inl (run_get 5 _ rfl cB 0 rfl Tryz.underlying5 rfl (.int .u8 c) ((HA.out.later hl).col))⟩, ?_⟩
 simp only [Act.put, List.setIfInBounds_toArray, List.set_cons_zero, List.set_cons_succ]
 refine late_take 3 (by kernel_rfl) (by kernel_rfl) (by kernel_rfl) (by kernel_rfl) (by kernel_rfl) (fun _ _ d _ _ h => by cases d <;> exact h) (fun o ho => ?_)
 simp only [List.getElem?_toArray, List.getElem?_cons_zero, List.getElem?_cons_succ, Option.some.injEq] at ho; subst ho
 refine ⟨_, Or.inl ⟨by kernel_rfl, fun w' hl => Or.inl (run_load _ rfl _ rfl (p) (HR.out.later hl))⟩, ?_⟩
 simp only [Act.put, List.setIfInBounds_toArray, List.set_cons_zero, List.set_cons_succ]
 refine late_one 2 (by kernel_rfl) (by kernel_rfl) (fun o ho => ?_)
 simp only [List.getElem?_toArray, List.getElem?_cons_zero, List.getElem?_cons_succ, Option.some.injEq] at ho; subst ho
 refine ⟨by kernel_rfl, fun wn hl K hK => ?_⟩
 have HA := Lib.hid (HA.out.later hl); have HR := Lib.hid (HR.out.later hl); have HB := Lib.hid (below_on HB.out hl); clear hl
 refine wp_enter _ _ (by go_simp; exact ⟨rfl, rfl⟩) ?_
 refine (of_any p c 0 _ HP.out).mono ?_; rintro e wm ⟨rfl, hb⟩; refine ⟨_, rfl, ?_⟩
 refine hK.out _ _ hb ?_
 have HA := Lib.hid (HA.out.later hb); have HR := Lib.hid (HR.out.later hb); have HB := Lib.hid (below_on HB.out hb); clear hb
 clear hK K
 simp only [Act.put, List.setIfInBounds_toArray, List.set_cons_zero, List.set_cons_succ]
 refine late_one 4 (by kernel_rfl) (by kernel_rfl) (fun o ho => ?_)
 simp only [List.getElem?_toArray, List.getElem?_cons_zero, List.getElem?_cons_succ, Option.some.injEq] at ho; subst ho
 refine ⟨by kernel_rfl, fun wn hl K hK => ?_⟩
 have HA := Lib.hid (HA.out.later hl); have HR := Lib.hid (HR.out.later hl); have HB := Lib.hid (below_on HB.out hl); clear hl
 refine wp_enter _ _ (by go_simp; exact ⟨rfl, rfl⟩) ?_
 refine (all_set p _ HP.out).mono ?_; rintro e wm ⟨rfl, hb⟩; refine ⟨_, rfl, ?_⟩
 refine hK.out _ _ hb ?_
 have HA := Lib.hid (HA.out.later hb); have HR := Lib.hid (HR.out.later hb); have HB := Lib.hid (below_on HB.out hb); clear hb
 clear hK K
 simp only [Act.put, List.setIfInBounds_toArray, List.set_cons_zero, List.set_cons_succ]
 refine late_take 5 (by kernel_rfl) (by kernel_rfl) (by kernel_rfl) (by kernel_rfl) (by kernel_rfl) (fun _ _ d _ _ h => by cases d <;> exact h) (fun o ho => ?_)
 simp only [List.getElem?_toArray, List.getElem?_cons_zero, List.getElem?_cons_succ, Option.some.injEq] at ho; subst ho
 apply Exists.intro
 refine ⟨Or.inl ⟨by kernel_rfl, fun w' hl => Or.inl ?_⟩, ?_⟩
 ·(go_simp; try with_reducible rfl)
 simp only [Act.put, List.setIfInBounds_toArray, List.set_cons_zero, List.set_cons_succ]
 refine late_take 6 (by kernel_rfl) (by kernel_rfl) (by kernel_rfl) (by kernel_rfl) (by kernel_rfl) (fun _ _ d _ _ h => by cases d <;> exact h) (fun o ho => ?_)
 simp only [List.getElem?_toArray, List.getElem?_cons_zero, List.getElem?_cons_succ, Option.some.injEq] at ho; subst ho
 apply Exists.intro
 refine ⟨Or.inl ⟨by kernel_rfl, fun w' hl => Or.inl ?_⟩, ?_⟩
 ·(go_simp; try with_reducible rfl)
 simp only [Act.put, List.setIfInBounds_toArray, List.set_cons_zero, List.set_cons_succ]
 refine late_end (by kernel_rfl) (fun wn hl => ?_)
 have HA := Lib.hid (HA.out.later hl); have HR := Lib.hid (HR.out.later hl); have HB := Lib.hid (below_on HB.out hl); clear hl
 refine NoPanic.normal ?_
 gi_wp2_with (refine ⟨trivial, ?_⟩; gi_at_call 173; refine (callsIn_wide.2 (ways_any _)).mono ?_; rintro e w4 ⟨rfl, hb⟩; have HB := Lib.hid (below_on HB.out hb); clear hb)
 have hk := Kept.of_call (Xs Y w W) HB.out
 have HA4 := Lib.hid (HA1.out.on HB.out)
 have HB44 := Lib.hid ((HB.out.cell (cell_block HB4.out)).trans HB4.out)
 have hW1 : W1.heap.size = W.heap.size + 1 := by rw [← HW1.out]; exact size_new _ _
 have HJ4 := Lib.hid (HJ.out _ _ _ HJ1.out ((Kept.of_below HB.out).mono (fun k hk => by rw [hW1] at hk; omega)))
 have HS4 := Lib.hid (show W.heap.size < w4.heap.size by have := HB.out.size; omega)
 clear hk HJ1 HB HA1 HB4 HK1 hcc
 refine loop_k (fun a wr => ∃ (k : Nat) (ds : List Deferred) (u7 u8 u9 u10 u11 u12 u13 u14 u17 u18 u19 u20 u21 u22 u23 u24 u25 u26 u27 u28 u29 u30 u31 u32 u33 u34 u35 u36 u37 u38 u39 u40 u41 u42 u43 u44 : Value), k ≤ 7 ∧ a = { tmps := #[.func (.yield l) #[] #[], .pointer (some ⟨pB, 0, none⟩), .pointer (some ⟨cB, 0, none⟩), .pointer (some ⟨sB, 0, none⟩), .pointer (some ⟨W.heap.size, 0, none⟩), .int .u64 ((ofN p c 0 : Nat) : Int), .int .u64 ((occN p : Nat) : Int), u7, u8, u9, u10, u11, u12, u13, u14, .agg waysA, .int .i64 (k : Int), u17, u18, u19, u20, u21, u22, u23, u24, u25, u26, u27, u28, u29, u30, u31, u32, u33, u34, u35, u36, u37, u38, u39, u40, u41, u42, u43, u44], defers := ds } ∧ J (attL p s c k) wr ∧ Kept (Xs Y w W) w4 wr ∧ Marks w4.heap.size wr.heap.size ds wr) (fun a _ => 7 - (intOf (a.tmps.getD 16 undef)).toNat) ?_ ?_
 ·exact ⟨0, [], _, _, _, _, _, _, _, _, _, _, _, _, _, _, _, _, _, _, _, _, _, _, _, _, _, _, _, _, _, _, _, _, _, _, _, _, Nat.zero_le _, rfl, HJ4.out, Kept.refl _ _, trivial⟩
 ·rintro a wr ⟨k, ds, u7, u8, u9, u10, u11, u12, u13, u14, u17, u18, u19, u20, u21, u22, u23, u24, u25, u26, u27, u28, u29, u30, u31, u32, u33, u34, u35, u36, u37, u38, u39, u40, u41, u42, u43, u44, hk7, rfl, hj, hkk, hm⟩ K HK
  have Hj := Lib.hid hj
  have Hk := Lib.hid hkk
  have Hm := Lib.hid hm
  clear hj hkk hm
  by_cases h7 : k = 7
  ·subst h7
   gi_wp2_with fail
   refine marks_leave Hm.out (fun w' hk => ?_)
   exact ⟨_, results_none rfl _ _ _, ⟨_, rfl⟩, .inl (HJ.out _ _ _ Hj.out (hk.mono fun i hi => by have := HS4.out; omega))⟩
  ·have hk : k < 7 := by omega
   have hlt : (k : Int) < 7 := by omega
   have HK7 := Lib.hid hk
   clear h7 hk7 hk
   gi_wp2_with (refine stepIn rfl (way_index k HK7.out _ _ rfl rfl rfl) ?_)
   refine wpIn_wide.2 (wp_region_noPanic ?_)
   have hb0 : Below wr.heap.size wr ((wr.alloc (.cells #[.int .i64 (k : Int)] 3)).alloc (.cells #[.func (.func (wayF k)) #[] #[]] 151)) := ((Below.refl _ _).alloc (Nat.le_refl _) _).alloc (by rw [size_new]; omega) _
   have h7 : CellIs ((wr.alloc (.cells #[.int .i64 (k : Int)] 3)).alloc (.cells #[.func (.func (wayF k)) #[] #[]] 151)) wr.heap.size (.int .i64 (k : Int)) := CellIs.later (show CellIs _ _ _ from cell_new wr _ _) (box_below _ _)
   have h8 : CellIs ((wr.alloc (.cells #[.int .i64 (k : Int)] 3)).alloc (.cells #[.func (.func (wayF k)) #[] #[]] 151)) (wr.heap.size + 1) (.func (.func (wayF k)) #[] #[]) := by
    show World.cell? _ _ = _
    rw [← size_new wr (.cells #[.int .i64 (k : Int)] 3)]; exact cell_new _ _ _
   have hs : ((wr.alloc (.cells #[.int .i64 (k : Int)] 3)).alloc (.cells #[.func (.func (wayF k)) #[] #[]] 151)).heap.size = wr.heap.size + 2 := by rw [size_new, size_new]
   obtain ⟨wk, hwk⟩ : ∃ wk, wk = (wr.alloc (.cells #[.int .i64 (k : Int)] 3)).alloc (.cells #[.func (.func (wayF k)) #[] #[]] 151) := ⟨_, rfl⟩
   rw [← hwk] at hb0 h7 h8 hs ⊢
   have HW7 := Lib.hid h7
   have HW8 := Lib.hid h8
   have HSk := Lib.hid hs
   have HBk := Lib.hid hb0
   clear hwk h7 h8 hs hb0
   have HA := Lib.hid ((HA4.out.kept Hk.out HO.out).on HBk.out)
   have HB := Lib.hid (Below.refl wk.heap.size wk)
   have HC := Lib.hid (show 0 ≤ oth c by unfold oth; omega)
   have HO2 := Lib.hid (occN_lt p)
   have HAnd := Lib.hid (and_nat (ofN_lt p c 0) (atkN_lt (oth c) k s (occN p)))
   have hwe := way_enters k HK7.out
   refine late_begin 10 (by kernel_rfl) ?_
   refine late_take 0 (by kernel_rfl) (by kernel_rfl) (by kernel_rfl) (by kernel_rfl) (by kernel_rfl) (fun _ _ d _ _ h => by cases d <;> exact h) (fun o ho => ?_)
   simp only [List.getElem?_toArray, List.getElem?_cons_zero, List.getElem?_cons_succ, Option.some.injEq] at ho; subst ho
   apply Exists.intro
   refine ⟨Or.inl ⟨by kernel_rfl, fun w' hl => Or.inl ?_⟩, ?_⟩
   ·(go_simp; try with_reducible rfl)
   simp only [Act.put, List.setIfInBounds_toArray, List.set_cons_zero, List.set_cons_succ]
   refine late_take 1 (by kernel_rfl) (by kernel_rfl) (by kernel_rfl) (by kernel_rfl) (by kernel_rfl) (fun _ _ d _ _ h => by cases d <;> exact h) (fun o ho => ?_)
   simp only [List.getElem?_toArray, List.getElem?_cons_zero, List.getElem?_cons_succ, Option.some.injEq] at ho; subst ho
   apply Exists.intro
   refine ⟨Or.inl ⟨by kernel_rfl, fun w' hl => Or.inl ?_⟩, ?_⟩
   ·(go_simp; try with_reducible rfl)
   simp only [Act.put, List.setIfInBounds_toArray, List.set_cons_zero, List.set_cons_succ]
   refine late_take 2 (by kernel_rfl) (by kernel_rfl) (by kernel_rfl) (by kernel_rfl) (by kernel_rfl) (fun _ _ d _ _ h => by cases d <;> exact h) (fun o ho => ?_)
   simp only [List.getElem?_toArray, List.getElem?_cons_zero, List.getElem?_cons_succ, Option.some.injEq] at ho; subst ho
   refine ⟨_, Or.inl ⟨by kernel_rfl, fun w' hl => Or.inl (run_get 149 _ rfl (wr.heap.size + 1) 0 rfl Tryz.underlying149 rfl (.func (.func (wayF k)) #[] #[]) (HW8.out.later hl))⟩, ?_⟩
   simp only [Act.put, List.setIfInBounds_toArray, List.set_cons_zero, List.set_cons_succ]
   refine late_take 3 (by kernel_rfl) (by kernel_rfl) (by kernel_rfl) (by kernel_rfl) (by kernel_rfl) (fun _ _ d _ _ h => by cases d <;> exact h) (fun o ho => ?_)
   simp only [List.getElem?_toArray, List.getElem?_cons_zero, List.getElem?_cons_succ, Option.some.injEq] at ho; subst ho
   refine ⟨_, Or.inl ⟨by kernel_rfl, fun w' hl => Or.inl (run_get 5 _ rfl cB 0 rfl Tryz.underlying5 rfl (.int .u8 c) ((HA.out.later hl).col))⟩, ?_⟩
   simp only [Act.put, List.setIfInBounds_toArray, List.set_cons_zero, List.set_cons_succ]
   refine late_take 5 (by kernel_rfl) (by kernel_rfl) (by kernel_rfl) (by kernel_rfl) (by kernel_rfl) (fun _ _ d _ _ h => by cases d <;> exact h) (fun o ho => ?_)
   simp only [List.getElem?_toArray, List.getElem?_cons_zero, List.getElem?_cons_succ, Option.some.injEq] at ho; subst ho
   refine ⟨_, Or.inl ⟨by kernel_rfl, fun w' hl => Or.inl (run_get 3 _ rfl sB 0 rfl Tryz.underlying3 rfl (.int .i64 s) ((HA.out.later hl).sq))⟩, ?_⟩
   simp only [Act.put, List.setIfInBounds_toArray, List.set_cons_zero, List.set_cons_succ]
   refine late_take 6 (by kernel_rfl) (by kernel_rfl) (by kernel_rfl) (by kernel_rfl) (by kernel_rfl) (fun _ _ d _ _ h => by cases d <;> exact h) (fun o ho => ?_)
   simp only [List.getElem?_toArray, List.getElem?_cons_zero, List.getElem?_cons_succ, Option.some.injEq] at ho; subst ho
   apply Exists.intro
   refine ⟨Or.inl ⟨by kernel_rfl, fun w' hl => Or.inl ?_⟩, ?_⟩
   ·(go_simp; try with_reducible rfl)
   simp only [Act.put, List.setIfInBounds_toArray, List.set_cons_zero, List.set_cons_succ]
   refine late_one 4 (by kernel_rfl) (by kernel_rfl) (fun o ho => ?_)
   simp only [List.getElem?_toArray, List.getElem?_cons_zero, List.getElem?_cons_succ, Option.some.injEq] at ho; subst ho
   refine ⟨by kernel_rfl, fun wn hl K hK => ?_⟩
   have HA := Lib.hid (HA.out.later hl); have HW7 := Lib.hid (HW7.out.later hl); have HW8 := Lib.hid (HW8.out.later hl); have HB := Lib.hid (below_on HB.out hl); clear hl
   refine wp_enter _ _ (by go_simp; exact ⟨rfl, rfl⟩) ?_
   refine (other_any c _).mono ?_; rintro e wm ⟨rfl, rfl⟩; refine ⟨_, rfl, ?_⟩
   refine hK.out _ _ (Later.refl _) ?_
   clear hK K
   simp only [Act.put, List.setIfInBounds_toArray, List.set_cons_zero, List.set_cons_succ]
   refine late_one 7 (by kernel_rfl) (by kernel_rfl) (fun o ho => ?_)
   simp only [List.getElem?_toArray, List.getElem?_cons_zero, List.getElem?_cons_succ, Option.some.injEq] at ho; subst ho
   refine ⟨by kernel_rfl, fun wn hl K hK => ?_⟩
   have HA := Lib.hid (HA.out.later hl); have HW7 := Lib.hid (HW7.out.later hl); have HW8 := Lib.hid (HW8.out.later hl); have HB := Lib.hid (below_on HB.out hl); clear hl
   refine wp_enter (wayF k) #[.int .u8 (oth c), .int .i64 s, .int .u64 ((occN p : Nat) : Int)] (by go_simp) ?_
   refine (way_any k HK7.out (oth c) s (occN p) _ HC.out HO2.out HA.out.db HA.out.lead).mono ?_; rintro e wm ⟨rfl, hb⟩; refine ⟨_, rfl, ?_⟩
   refine hK.out _ _ hb ?_
   have HA := Lib.hid (HA.out.later hb); have HW7 := Lib.hid (HW7.out.later hb); have HW8 := Lib.hid (HW8.out.later hb); have HB := Lib.hid (below_on HB.out hb); clear hb
   clear hK K
   simp only [Act.put, List.setIfInBounds_toArray, List.set_cons_zero, List.set_cons_succ]
   refine late_take 8 (by kernel_rfl) (by kernel_rfl) (by kernel_rfl) (by kernel_rfl) (by kernel_rfl) (fun _ _ d _ _ h => by cases d <;> exact h) (fun o ho => ?_)
   simp only [List.getElem?_toArray, List.getElem?_cons_zero, List.getElem?_cons_succ, Option.some.injEq] at ho; subst ho
   refine ⟨.int .u64 ((ofN p c 0 &&& atkN (oth c) k s (occN p) : Nat) : Int), Or.inl ⟨by kernel_rfl, fun w' hl => Or.inl ?_⟩, ?_⟩
   ·(go_simp; rw [HAnd.out])
   simp only [Act.put, List.setIfInBounds_toArray, List.set_cons_zero, List.set_cons_succ]
   refine late_one 9 (by kernel_rfl) (by kernel_rfl) (fun o ho => ?_)
   simp only [List.getElem?_toArray, List.getElem?_cons_zero, List.getElem?_cons_succ, Option.some.injEq] at ho; subst ho
   refine ⟨by kernel_rfl, fun wn hl K hK => ?_⟩
   have HA := Lib.hid (HA.out.later hl); have HW7 := Lib.hid (HW7.out.later hl); have HW8 := Lib.hid (HW8.out.later hl); have HB := Lib.hid (below_on HB.out hl); clear hl
   refine wp_enter _ _ (by go_simp; exact ⟨rfl, rfl⟩) ?_
   refine (each_box _ _).mono ?_; rintro e wm ⟨rfl, rfl⟩; refine ⟨_, rfl, ?_⟩
   have hb := box_below wn (.cells #[.int .u64 ((ofN p c 0 &&& atkN (oth c) k s (occN p) : Nat) : Int)] 23)
   have hE : CellIs (wn.alloc (.cells #[.int .u64 ((ofN p c 0 &&& atkN (oth c) k s (occN p) : Nat) : Int)] 23)) wn.heap.size (.int .u64 ((ofN p c 0 &&& atkN (oth c) k s (occN p) : Nat) : Int)) := cell_new wn _ _
   refine hK.out _ _ hb ?_
   obtain ⟨Bn, hBn⟩ : ∃ Bn, Bn = wn.heap.size := ⟨_, rfl⟩
   rw [← hBn] at hE ⊢
   have HA := Lib.hid (HA.out.later hb); have HW7 := Lib.hid (HW7.out.later hb); have HW8 := Lib.hid (HW8.out.later hb); have HB := Lib.hid (below_on HB.out hb); clear hb
   have HE := Lib.hid hE
   clear hE hBn
   clear hK K
   simp only [Act.put, List.setIfInBounds_toArray, List.set_cons_zero, List.set_cons_succ]
   refine late_end (by kernel_rfl) (fun wn hl => ?_)
   have HA := Lib.hid (HA.out.later hl); have HW7 := Lib.hid (HW7.out.later hl); have HW8 := Lib.hid (HW8.out.later hl); have HE := Lib.hid (HE.out.later hl); have HB := Lib.hid (below_on HB.out hl); clear hl
   refine NoPanic.normal ?_
   gi_wp2_with fail
   clear hwe
   have HKn := Lib.hid (show Kept (Xs Y w W) wr wn from (Kept.of_call _ HBk.out).trans (Kept.of_call _ HB.out))
   have HSn := Lib.hid (show wr.heap.size + 2 ≤ wn.heap.size by have := HB.out.size; have := HSk.out; omega)
   have HSr := Lib.hid Hk.out.size
   have HBn := Lib.hid (show Kept (wr.heap.size ≤ ·) wr wn from (Kept.of_below HBk.out).trans ((Kept.of_below HB.out).mono (fun i hi => by have := HSk.out; omega)))
   have HJn := Lib.hid (HJ.out _ _ _ Hj.out (HBn.out.mono (fun i hi => by have := HSr.out; have := HS4.out; omega)))
   have HY4 := Lib.hid (show CellIs wn W.heap.size (.func (.yield l) #[] #[]) from CellIs.later (show CellIs _ _ _ from (Hk.out.cell HB44.out (by rintro (g | g); { exact absurd (HYw.out W.heap.size g) (by have := HS.out; omega) }; { exact Nat.lt_irrefl _ g.2 }))) (HBk.out.trans (HB.out.mono HBk.out.size)))
   refine range_kept (n := n) (gf := 187) (lb := #[.pointer (some ⟨Bn, 0, none⟩)]) rfl (enters_of Tryz.func187 (by kernel_rfl) rfl) (Xs Y w W) ?hY (listN (ofN p c 0 &&& atkN (oth c) k s (occN p)))
    (each_seq (n - 1) Bn _ (by omega) (Xs Y w W) wn (and_lt (atkN_lt _ _ _ _)) HE.out HA.out.db HO.out.2.2.2.1)
    (fun pre A => J (attL p s c k ++ fltL p k pre) A ∧ Kept (Xs Y w W) wn A) (fun pre A => (∃ q, q ≠ [] ∧ q <+: attL p s c 7 ∧ Jx q A) ∧ Kept (Xs Y w W) wn A) ?hI ?hIx ?h0
    (fun x => { tmps := #[.func (.yield l) #[] #[], .pointer (some ⟨pB, 0, none⟩), .pointer (some ⟨cB, 0, none⟩), .pointer (some ⟨sB, 0, none⟩), .pointer (some ⟨W.heap.size, 0, none⟩), .int .u64 ((ofN p c 0 : Nat) : Int), .int .u64 ((occN p : Nat) : Int), .pointer (some ⟨wr.heap.size, 0, none⟩), .pointer (some ⟨wr.heap.size + 1, 0, none⟩), .int .i64 (x : Int), u10, u11, u12, u13, u14, .agg waysA, .int .i64 (k : Int), .bool true, .int .i64 (k : Int), .agg #[.func (.func (wayF k)) #[] #[]], .int .u64 ((ofN p c 0 : Nat) : Int), .pointer (some ⟨wr.heap.size + 1, 0, none⟩), .func (.func (wayF k)) #[] #[], .int .u8 c, .int .u8 (oth c), .int .i64 s, .int .u64 ((occN p : Nat) : Int), .int .u64 ((atkN (oth c) k s (occN p) : Nat) : Int), .int .u64 ((ofN p c 0 &&& atkN (oth c) k s (occN p) : Nat) : Int), .func (.func 187) #[] #[.pointer (some ⟨Bn, 0, none⟩)], .int .i64 (x : Int), u31, u32, u33, u34, u35, u36, u37, u38, u39, u40, u41, u42, u43, u44], defers := [] }) ?assign ?body ?done ?stop
   case hY => rintro i (g | g); { have := HYw.out _ g; have := HS.out; have := HS4.out; have := HSr.out; have := HSn.out; omega }; { have := HS4.out; have := HSr.out; have := HSn.out; omega }
   case hI => exact fun q A A' h k => ⟨HJ.out _ _ _ h.1 (k.mono fun i hi => by have := HS4.out; have := HSr.out; have := HSn.out; omega), h.2.since k (Nat.le_refl _)⟩
   case hIx => rintro _ A A' ⟨⟨q, h1, h2, h3⟩, h4⟩ k; exact ⟨⟨q, h1, h2, HJx.out _ _ _ h3 (k.mono fun i hi => by have := HS4.out; have := HSr.out; have := HSn.out; omega)⟩, h4.since k (Nat.le_refl _)⟩
   case h0 => exact ⟨by rw [show fltL p k [] = [] from rfl, List.append_nil]; exact HJn.out, Kept.refl _ _⟩
   case assign =>
    intro l2 x A K' hK'
    gi_wp2
    exact hK'
   case body =>
    rintro l2 pre x A ⟨hj, hk⟩ hpre
    dsimp only
    have Hj := Lib.hid hj
    have Hk := Lib.hid hk
    have Hp := Lib.hid hpre
    have HAA := Lib.hid (HA.out.kept hk HO.out)
    have H7 := Lib.hid (show CellIs A wr.heap.size (.int .i64 (k : Int)) from (HW7.out).kept hk (by rintro (g | g); { exact absurd (HYw.out _ g) (by have := HS.out; have := HS4.out; have := HSr.out; omega) }; { have := HS4.out; have := HSr.out; omega }))
    have H4 := Lib.hid (show CellIs A W.heap.size (.func (.yield l) #[] #[]) from HY4.out.kept hk (by rintro (g | g); { exact absurd (HYw.out W.heap.size g) (by have := HS.out; omega) }; { exact Nat.lt_irrefl _ g.2 }))
    have HN7 := Lib.hid (show ¬ Xs Y w W wr.heap.size by rintro (g | g); { exact absurd (HYw.out _ g) (by have := HS.out; have := HS4.out; have := HSr.out; omega) }; { have := HS4.out; have := HSr.out; omega })
    have HN4 := Lib.hid (show ¬ Xs Y w W W.heap.size by rintro (g | g); { exact absurd (HYw.out W.heap.size g) (by have := HS.out; omega) }; { exact Nat.lt_irrefl _ g.2 })
    have HSa := Lib.hid hk.size
    clear hj hk hpre
    have hx64 : x < 64 := by
     obtain ⟨t, ht⟩ := Hp.out
     have : x ∈ listN (ofN p c 0 &&& atkN (oth c) k s (occN p)) := by rw [← ht]; simp
     exact (mem_listN.1 this).1
    have Hr0 := knd_rng (atZ p (x : Int))
    have Ha0 : 0 ≤ atZ p (x : Int) ∧ atZ p (x : Int) ≤ 255 := by
     rw [atZ_nat p hx64]; split
     ·exact HP.out x hx64
     ·omega
    obtain ⟨v, HV⟩ : ∃ v, Hid (kndZ (atZ p (x : Int)) = v) := ⟨_, Lib.hid rfl⟩
    obtain ⟨av, HAv⟩ : ∃ av, Hid (atZ p (x : Int) = av) := ⟨_, Lib.hid rfl⟩
    have HA0 := Lib.hid Ha0
    have HR0 := Lib.hid Hr0
    clear Ha0 Hr0 hx64
    cases hm : (v == (k : Int))
    ·gi_wp2_with fail
     refine mid_begin (X := Xs Y w W) HF.out ?_
     have HQ := Lib.hid (Kept.refl (Xs Y w W) A)
     have HB := Lib.hid (Below.refl A.heap.size A)
     refine mid_take 0 (by kernel_rfl) (by kernel_rfl) (by kernel_rfl) (by kernel_rfl) (by kernel_rfl) (fun _ _ d _ _ h => by cases d <;> exact h) (fun o ho => ?_)
     simp only [List.getElem?_toArray, List.getElem?_cons_zero, List.getElem?_cons_succ, Option.some.injEq] at ho; subst ho
     refine ⟨_, Or.inl ⟨by kernel_rfl, fun w' hl => run_load _ rfl _ rfl p (HAA.out.kept hl HO.out).row⟩, ?_⟩
     simp only [Act.put, List.setIfInBounds_toArray, List.set_cons_zero, List.set_cons_succ]
     refine mid_take 1 (by kernel_rfl) (by kernel_rfl) (by kernel_rfl) (by kernel_rfl) (by kernel_rfl) (fun _ _ d _ _ h => by cases d <;> exact h) (fun o ho => ?_)
     simp only [List.getElem?_toArray, List.getElem?_cons_zero, List.getElem?_cons_succ, Option.some.injEq] at ho; subst ho
     apply Exists.intro
     refine ⟨Or.inl ⟨by kernel_rfl, fun w' hl => ?_⟩, ?_⟩
     ·(go_simp; try with_reducible rfl)
     simp only [Act.put, List.setIfInBounds_toArray, List.set_cons_zero, List.set_cons_succ]
     refine mid_take 5 (by kernel_rfl) (by kernel_rfl) (by kernel_rfl) (by kernel_rfl) (by kernel_rfl) (fun _ _ d _ _ h => by cases d <;> exact h) (fun o ho => ?_)
     simp only [List.getElem?_toArray, List.getElem?_cons_zero, List.getElem?_cons_succ, Option.some.injEq] at ho; subst ho
     refine ⟨_, Or.inl ⟨by kernel_rfl, fun w' hl => run_get 3 _ rfl wr.heap.size 0 rfl Tryz.underlying3 rfl (.int .i64 (k : Int)) (H7.out.kept hl HN7.out)⟩, ?_⟩
     simp only [Act.put, List.setIfInBounds_toArray, List.set_cons_zero, List.set_cons_succ]
     refine mid_one 2 (by kernel_rfl) (by kernel_rfl) (by kernel_rfl) (fun o ho => ?_)
     simp only [List.getElem?_toArray, List.getElem?_cons_zero, List.getElem?_cons_succ, Option.some.injEq] at ho; subst ho
     refine ⟨by kernel_rfl, fun wq hl K2 hK2 => ?_⟩
     have HQ := Lib.hid (HQ.out.trans (Kept.of_call _ hl)); have HB := Lib.hid (below_on HB.out hl); clear hl
     refine mid_call _ _ (by go_simp; exact ⟨rfl, rfl⟩) ?_
     refine (at_any p (x : Int) _ HP.out).mono ?_; rintro e wm ⟨rfl, hb⟩; refine ⟨_, rfl, ?_⟩
     rw [HAv.out]
     refine hK2.out _ _ (Kept.of_call _ hb) ?_
     have HQ := Lib.hid (HQ.out.trans (Kept.of_call _ hb)); have HB := Lib.hid (below_on HB.out hb); clear hb
     clear hK2 K2
     simp only [Act.put, List.setIfInBounds_toArray, List.set_cons_zero, List.set_cons_succ]
     refine mid_one 3 (by kernel_rfl) (by kernel_rfl) (by kernel_rfl) (fun o ho => ?_)
     simp only [List.getElem?_toArray, List.getElem?_cons_zero, List.getElem?_cons_succ, Option.some.injEq] at ho; subst ho
     refine ⟨by kernel_rfl, fun wq hl K2 hK2 => ?_⟩
     have HQ := Lib.hid (HQ.out.trans (Kept.of_call _ hl)); have HB := Lib.hid (below_on HB.out hl); clear hl
     refine mid_call _ _ (by go_simp; exact ⟨rfl, rfl⟩) ?_
     refine (knd_any av _ (by rw [← HAv.out]; exact HA0.out.1) (by rw [← HAv.out]; exact HA0.out.2)).mono ?_; rintro e wm ⟨rfl, rfl⟩; refine ⟨_, rfl, ?_⟩
     rw [show kndZ av = v by rw [← HAv.out]; exact HV.out]
     refine hK2.out _ _ (Kept.refl _ _) ?_
     clear hK2 K2
     simp only [Act.put, List.setIfInBounds_toArray, List.set_cons_zero, List.set_cons_succ]
     have hv0 : 0 ≤ v := by rw [← HV.out]; exact HR0.out.1
     have hv1 : v ≤ 7 := by rw [← HV.out]; exact HR0.out.2
     have HWr := Lib.hid (wrap8 hv0 hv1)
     refine mid_take 4 (by kernel_rfl) (by kernel_rfl) (by kernel_rfl) (by kernel_rfl) (by kernel_rfl) (fun _ _ d _ _ h => by cases d <;> exact h) (fun o ho => ?_)
     simp only [List.getElem?_toArray, List.getElem?_cons_zero, List.getElem?_cons_succ, Option.some.injEq] at ho; subst ho
     refine ⟨.int .i64 v, Or.inl ⟨by kernel_rfl, fun w' hl => ?_⟩, ?_⟩
     ·(go_simp; rw [HWr.out])
     simp only [Act.put, List.setIfInBounds_toArray, List.set_cons_zero, List.set_cons_succ]
     clear hv0 hv1
     refine mid_take 6 (by kernel_rfl) (by kernel_rfl) (by kernel_rfl) (by kernel_rfl) (by kernel_rfl) (fun _ _ d _ _ h => by cases d <;> exact h) (fun o ho => ?_)
     simp only [List.getElem?_toArray, List.getElem?_cons_zero, List.getElem?_cons_succ, Option.some.injEq] at ho; subst ho
     apply Exists.intro
     refine ⟨Or.inl ⟨by kernel_rfl, fun w' hl => ?_⟩, ?_⟩
     ·(go_simp; try with_reducible rfl)
     simp only [Act.put, List.setIfInBounds_toArray, List.set_cons_zero, List.set_cons_succ]
     refine mid_take 7 (by kernel_rfl) (by kernel_rfl) (by kernel_rfl) (by kernel_rfl) (by kernel_rfl) (fun _ _ d _ _ h => by cases d <;> exact h) (fun o ho => ?_)
     simp only [List.getElem?_toArray, List.getElem?_cons_zero, List.getElem?_cons_succ, Option.some.injEq] at ho; subst ho
     apply Exists.intro
     refine ⟨Or.inl ⟨by kernel_rfl, fun w' hl => ?_⟩, ?_⟩
     ·(go_simp; try with_reducible rfl)
     simp only [Act.put, List.setIfInBounds_toArray, List.set_cons_zero, List.set_cons_succ]
     refine mid_take 8 (by kernel_rfl) (by kernel_rfl) (by kernel_rfl) (by kernel_rfl) (by kernel_rfl) (fun _ _ d _ _ h => by cases d <;> exact h) (fun o ho => ?_)
     simp only [List.getElem?_toArray, List.getElem?_cons_zero, List.getElem?_cons_succ, Option.some.injEq] at ho; subst ho
     refine ⟨_, Or.inr ⟨by kernel_rfl, rfl⟩, ?_⟩
     simp only [Act.put, List.setIfInBounds_toArray, List.set_cons_zero, List.set_cons_succ]
     refine mid_take 9 (by kernel_rfl) (by kernel_rfl) (by kernel_rfl) (by kernel_rfl) (by kernel_rfl) (fun _ _ d _ _ h => by cases d <;> exact h) (fun o ho => ?_)
     simp only [List.getElem?_toArray, List.getElem?_cons_zero, List.getElem?_cons_succ, Option.some.injEq] at ho; subst ho
     refine ⟨_, Or.inr ⟨by kernel_rfl, rfl⟩, ?_⟩
     simp only [Act.put, List.setIfInBounds_toArray, List.set_cons_zero, List.set_cons_succ]
     refine mid_take 10 (by kernel_rfl) (by kernel_rfl) (by kernel_rfl) (by kernel_rfl) (by kernel_rfl) (fun _ _ d _ _ h => by cases d <;> exact h) (fun o ho => ?_)
     simp only [List.getElem?_toArray, List.getElem?_cons_zero, List.getElem?_cons_succ, Option.some.injEq] at ho; subst ho
     refine ⟨_, Or.inr ⟨by kernel_rfl, rfl⟩, ?_⟩
     simp only [Act.put, List.setIfInBounds_toArray, List.set_cons_zero, List.set_cons_succ]
     refine mid_take 11 (by kernel_rfl) (by kernel_rfl) (by kernel_rfl) (by kernel_rfl) (by kernel_rfl) (fun _ _ d _ _ h => by cases d <;> exact h) (fun o ho => ?_)
     simp only [List.getElem?_toArray, List.getElem?_cons_zero, List.getElem?_cons_succ, Option.some.injEq] at ho; subst ho
     refine ⟨_, Or.inr ⟨by kernel_rfl, rfl⟩, ?_⟩
     simp only [Act.put, List.setIfInBounds_toArray, List.set_cons_zero, List.set_cons_succ]
     refine mid_take 12 (by kernel_rfl) (by kernel_rfl) (by kernel_rfl) (by kernel_rfl) (by kernel_rfl) (fun _ _ d _ _ h => by cases d <;> exact h) (fun o ho => ?_)
     simp only [List.getElem?_toArray, List.getElem?_cons_zero, List.getElem?_cons_succ, Option.some.injEq] at ho; subst ho
     apply Exists.intro
     refine ⟨Or.inl ⟨by kernel_rfl, fun w' hl => ?_⟩, ?_⟩
     ·(go_simp; try with_reducible rfl)
     simp only [Act.put, List.setIfInBounds_toArray, List.set_cons_zero, List.set_cons_succ]
     refine mid_end (by kernel_rfl) (fun wz hz => ?_)
     have HQ := Lib.hid (HQ.out.trans (Kept.of_call _ hz))
     have HB := Lib.hid (below_on HB.out hz)
     have Hmn := Lib.hid hm
     clear hz hm
     gi_wp2_with fail
     refine ⟨HQ.out, ?_, Hk.out.trans HQ.out⟩
     rw [flt_no pre (fun e => by have h := HV.out; rw [e] at h; have g := Hmn.out; rw [← h, beq_self_eq_true] at g; cases g)]
     exact HJ.out _ _ _ Hj.out ((Kept.of_below HB.out).mono (fun i hi => by have := HSa.out; have := HSn.out; have := HSr.out; have := HS4.out; omega))
    ·gi_wp2_with fail
     refine mid_begin (X := Xs Y w W) HF.out ?_
     have HQ := Lib.hid (Kept.refl (Xs Y w W) A)
     have HB := Lib.hid (Below.refl A.heap.size A)
     refine mid_take 0 (by kernel_rfl) (by kernel_rfl) (by kernel_rfl) (by kernel_rfl) (by kernel_rfl) (fun _ _ d _ _ h => by cases d <;> exact h) (fun o ho => ?_)
     simp only [List.getElem?_toArray, List.getElem?_cons_zero, List.getElem?_cons_succ, Option.some.injEq] at ho; subst ho
     refine ⟨_, Or.inl ⟨by kernel_rfl, fun w' hl => run_load _ rfl _ rfl p (HAA.out.kept hl HO.out).row⟩, ?_⟩
     simp only [Act.put, List.setIfInBounds_toArray, List.set_cons_zero, List.set_cons_succ]
     refine mid_take 1 (by kernel_rfl) (by kernel_rfl) (by kernel_rfl) (by kernel_rfl) (by kernel_rfl) (fun _ _ d _ _ h => by cases d <;> exact h) (fun o ho => ?_)
     simp only [List.getElem?_toArray, List.getElem?_cons_zero, List.getElem?_cons_succ, Option.some.injEq] at ho; subst ho
     apply Exists.intro
     refine ⟨Or.inl ⟨by kernel_rfl, fun w' hl => ?_⟩, ?_⟩
     ·(go_simp; try with_reducible rfl)
     simp only [Act.put, List.setIfInBounds_toArray, List.set_cons_zero, List.set_cons_succ]
     refine mid_take 5 (by kernel_rfl) (by kernel_rfl) (by kernel_rfl) (by kernel_rfl) (by kernel_rfl) (fun _ _ d _ _ h => by cases d <;> exact h) (fun o ho => ?_)
     simp only [List.getElem?_toArray, List.getElem?_cons_zero, List.getElem?_cons_succ, Option.some.injEq] at ho; subst ho
     refine ⟨_, Or.inl ⟨by kernel_rfl, fun w' hl => run_get 3 _ rfl wr.heap.size 0 rfl Tryz.underlying3 rfl (.int .i64 (k : Int)) (H7.out.kept hl HN7.out)⟩, ?_⟩
     simp only [Act.put, List.setIfInBounds_toArray, List.set_cons_zero, List.set_cons_succ]
     refine mid_one 2 (by kernel_rfl) (by kernel_rfl) (by kernel_rfl) (fun o ho => ?_)
     simp only [List.getElem?_toArray, List.getElem?_cons_zero, List.getElem?_cons_succ, Option.some.injEq] at ho; subst ho
     refine ⟨by kernel_rfl, fun wq hl K2 hK2 => ?_⟩
     have HQ := Lib.hid (HQ.out.trans (Kept.of_call _ hl)); have HB := Lib.hid (below_on HB.out hl); clear hl
     refine mid_call _ _ (by go_simp; exact ⟨rfl, rfl⟩) ?_
     refine (at_any p (x : Int) _ HP.out).mono ?_; rintro e wm ⟨rfl, hb⟩; refine ⟨_, rfl, ?_⟩
     rw [HAv.out]
     refine hK2.out _ _ (Kept.of_call _ hb) ?_
     have HQ := Lib.hid (HQ.out.trans (Kept.of_call _ hb)); have HB := Lib.hid (below_on HB.out hb); clear hb
     clear hK2 K2
     simp only [Act.put, List.setIfInBounds_toArray, List.set_cons_zero, List.set_cons_succ]
     refine mid_one 3 (by kernel_rfl) (by kernel_rfl) (by kernel_rfl) (fun o ho => ?_)
     simp only [List.getElem?_toArray, List.getElem?_cons_zero, List.getElem?_cons_succ, Option.some.injEq] at ho; subst ho
     refine ⟨by kernel_rfl, fun wq hl K2 hK2 => ?_⟩
     have HQ := Lib.hid (HQ.out.trans (Kept.of_call _ hl)); have HB := Lib.hid (below_on HB.out hl); clear hl
     refine mid_call _ _ (by go_simp; exact ⟨rfl, rfl⟩) ?_
     refine (knd_any av _ (by rw [← HAv.out]; exact HA0.out.1) (by rw [← HAv.out]; exact HA0.out.2)).mono ?_; rintro e wm ⟨rfl, rfl⟩; refine ⟨_, rfl, ?_⟩
     rw [show kndZ av = v by rw [← HAv.out]; exact HV.out]
     refine hK2.out _ _ (Kept.refl _ _) ?_
     clear hK2 K2
     simp only [Act.put, List.setIfInBounds_toArray, List.set_cons_zero, List.set_cons_succ]
     have hv0 : 0 ≤ v := by rw [← HV.out]; exact HR0.out.1
     have hv1 : v ≤ 7 := by rw [← HV.out]; exact HR0.out.2
     have HWr := Lib.hid (wrap8 hv0 hv1)
     refine mid_take 4 (by kernel_rfl) (by kernel_rfl) (by kernel_rfl) (by kernel_rfl) (by kernel_rfl) (fun _ _ d _ _ h => by cases d <;> exact h) (fun o ho => ?_)
     simp only [List.getElem?_toArray, List.getElem?_cons_zero, List.getElem?_cons_succ, Option.some.injEq] at ho; subst ho
     refine ⟨.int .i64 v, Or.inl ⟨by kernel_rfl, fun w' hl => ?_⟩, ?_⟩
     ·(go_simp; rw [HWr.out])
     simp only [Act.put, List.setIfInBounds_toArray, List.set_cons_zero, List.set_cons_succ]
     clear hv0 hv1
     refine mid_take 6 (by kernel_rfl) (by kernel_rfl) (by kernel_rfl) (by kernel_rfl) (by kernel_rfl) (fun _ _ d _ _ h => by cases d <;> exact h) (fun o ho => ?_)
     simp only [List.getElem?_toArray, List.getElem?_cons_zero, List.getElem?_cons_succ, Option.some.injEq] at ho; subst ho
     apply Exists.intro
     refine ⟨Or.inl ⟨by kernel_rfl, fun w' hl => ?_⟩, ?_⟩
     ·(go_simp; try with_reducible rfl)
     simp only [Act.put, List.setIfInBounds_toArray, List.set_cons_zero, List.set_cons_succ]
     refine mid_take 7 (by kernel_rfl) (by kernel_rfl) (by kernel_rfl) (by kernel_rfl) (by kernel_rfl) (fun _ _ d _ _ h => by cases d <;> exact h) (fun o ho => ?_)
     simp only [List.getElem?_toArray, List.getElem?_cons_zero, List.getElem?_cons_succ, Option.some.injEq] at ho; subst ho
     apply Exists.intro
     refine ⟨Or.inl ⟨by kernel_rfl, fun w' hl => ?_⟩, ?_⟩
     ·(go_simp; try with_reducible rfl)
     simp only [Act.put, List.setIfInBounds_toArray, List.set_cons_zero, List.set_cons_succ]
     refine mid_take 8 (by kernel_rfl) (by kernel_rfl) (by kernel_rfl) (by kernel_rfl) (by kernel_rfl) (fun _ _ d _ _ h => by cases d <;> exact h) (fun o ho => ?_)
     simp only [List.getElem?_toArray, List.getElem?_cons_zero, List.getElem?_cons_succ, Option.some.injEq] at ho; subst ho
     refine ⟨_, Or.inl ⟨by kernel_rfl, fun w' hl => run_get 105 _ rfl W.heap.size 0 rfl Tryz.underlying105 rfl (.func (.yield l) #[] #[]) ((H4.out.kept HQ.out HN4.out).kept hl HN4.out)⟩, ?_⟩
     simp only [Act.put, List.setIfInBounds_toArray, List.set_cons_zero, List.set_cons_succ]
     refine mid_take 9 (by kernel_rfl) (by kernel_rfl) (by kernel_rfl) (by kernel_rfl) (by kernel_rfl) (fun _ _ d _ _ h => by cases d <;> exact h) (fun o ho => ?_)
     simp only [List.getElem?_toArray, List.getElem?_cons_zero, List.getElem?_cons_succ, Option.some.injEq] at ho; subst ho
     apply Exists.intro
     refine ⟨Or.inl ⟨by kernel_rfl, fun w' hl => ?_⟩, ?_⟩
     ·(go_simp; try with_reducible rfl)
     simp only [Act.put, List.setIfInBounds_toArray, List.set_cons_zero, List.set_cons_succ]
     refine mid_one 10 (by kernel_rfl) (by kernel_rfl) (by kernel_rfl) (fun o ho => ?_)
     simp only [List.getElem?_toArray, List.getElem?_cons_zero, List.getElem?_cons_succ, Option.some.injEq] at ho; subst ho
     refine ⟨by kernel_rfl, fun wq hl K2 hK2 => ?_⟩
     have HQ := Lib.hid (HQ.out.trans (Kept.of_call _ hl)); have HB := Lib.hid (below_on HB.out hl); clear hl
     refine mid_yield n l #[.int .i64 (x : Int)] (fun w' => by go_simp) (HY.out (attL p s c k ++ fltL p k pre) x _ (HJ.out _ _ _ Hj.out ((Kept.of_below HB.out).mono (fun i hi => by have := HSa.out; have := HSn.out; have := HSr.out; have := HS4.out; omega))) (att_pre HK7.out Hp.out (HV.out.trans (eq_of_beq hm)))) ?_
     rintro e w5 ⟨bb, rfl, hk5, hj5⟩; refine ⟨_, rfl, ?_⟩
     refine hK2.out _ _ hk5 ?_
     have HQ := Lib.hid (HQ.out.trans hk5); have HJ5 := Lib.hid hj5; clear hk5 hj5
     clear hK2 K2
     simp only [Act.put, List.setIfInBounds_toArray, List.set_cons_zero, List.set_cons_succ]
     refine mid_take 11 (by kernel_rfl) (by kernel_rfl) (by kernel_rfl) (by kernel_rfl) (by kernel_rfl) (fun _ _ d _ _ h => by cases d <;> exact h) (fun o ho => ?_)
     simp only [List.getElem?_toArray, List.getElem?_cons_zero, List.getElem?_cons_succ, Option.some.injEq] at ho; subst ho
     apply Exists.intro
     refine ⟨Or.inl ⟨by kernel_rfl, fun w' hl => ?_⟩, ?_⟩
     ·(go_simp; try with_reducible rfl)
     simp only [Act.put, List.setIfInBounds_toArray, List.set_cons_zero, List.set_cons_succ]
     refine mid_take 12 (by kernel_rfl) (by kernel_rfl) (by kernel_rfl) (by kernel_rfl) (by kernel_rfl) (fun _ _ d _ _ h => by cases d <;> exact h) (fun o ho => ?_)
     simp only [List.getElem?_toArray, List.getElem?_cons_zero, List.getElem?_cons_succ, Option.some.injEq] at ho; subst ho
     apply Exists.intro
     refine ⟨Or.inl ⟨by kernel_rfl, fun w' hl => ?_⟩, ?_⟩
     ·(go_simp; try with_reducible rfl)
     simp only [Act.put, List.setIfInBounds_toArray, List.set_cons_zero, List.set_cons_succ]
     refine mid_end (by kernel_rfl) (fun wz hz => ?_)
     have hq := HQ.out.trans (Kept.of_call _ hz)
     have hz2 : Kept (W.heap.size ≤ ·) w5 wz := (Kept.of_below hz).mono (fun i hi => by have := HQ.out.size; have := HSa.out; have := HSn.out; have := HSr.out; have := HS4.out; omega)
     have hkx : kndZ (atZ p (x : Int)) = (k : Int) := HV.out.trans (eq_of_beq hm)
     have HKX := Lib.hid hkx
     have HQ := Lib.hid hq
     have HZ := Lib.hid hz2
     clear hq hz hz2 hm hkx
     cases bb
     ·gi_wp2_with fail
      have h5 : Jx ((attL p s c k ++ fltL p k pre) ++ [x]) w5 := HJ5.out
      exact ⟨HQ.out, ⟨_, by simp, att_pre HK7.out Hp.out HKX.out, HJx.out _ _ _ h5 HZ.out⟩, Hk.out.trans HQ.out⟩
     ·gi_wp2_with fail
      have h5 : J ((attL p s c k ++ fltL p k pre) ++ [x]) w5 := HJ5.out
      refine ⟨HQ.out, ?_, Hk.out.trans HQ.out⟩
      rw [flt_yes pre HKX.out, ← List.append_assoc]
      exact HJ.out _ _ _ h5 HZ.out
   case done =>
    rintro A ⟨hj, hk⟩ hd
    dsimp only
    have Hj2 := Lib.hid hj
    have Hk2 := Lib.hid hk
    have Hd := Lib.hid hd
    clear hj hk hd
    gi_wp2_with fail
    refine HK.out _ _ ⟨k + 1, _, _, _, _, _, _, _, _, _, _, _, _, _, _, _, _, _, _, _, _, _, _, _, _, _, _, _, _, _, _, _, _, _, _, _, _, _, by have := HK7.out; omega, rfl, Hj2.out, Hk.out.trans (HKn.out.trans Hk2.out), ⟨_, rfl, by have := HSn.out; have := Hk.out.size; omega, (Array.getElem?_eq_some_iff.1 Hd.out).1, Hd.out, ?_⟩⟩ ?_
    ·refine (Hm.out.mono (by have := HSn.out; omega)).kept (HKn.out.trans Hk2.out) ?_
     rintro i h1 _ (g | g)
     ·exact absurd (HYw.out _ g) (by have := HS.out; have := HS4.out; omega)
     ·have := HS4.out; omega
    ·simp [intOf]; have := HK7.out; omega
   case stop =>
    rintro pre A _ _ ⟨⟨q, h1, h2, h3⟩, hk⟩ hd
    dsimp only
    have H2 := Lib.hid hk
    have Hd := Lib.hid hd
    have Hq := Lib.hid (And.intro h1 (And.intro h2 h3))
    clear hd hk h1 h2 h3
    gi_wp2_with fail
    refine marks_leave (lo := w4.heap.size) (hi := A.heap.size) ⟨wn.heap.size, rfl, by have := HSn.out; have := Hk.out.size; omega, (Array.getElem?_eq_some_iff.1 Hd.out).1, Hd.out, ?_⟩ (fun w' hk => ⟨_, results_none rfl _ _ _, ⟨_, rfl⟩, .inr ⟨q, Hq.out.1, Hq.out.2.1, HJx.out _ _ _ Hq.out.2.2 (hk.mono fun i hi => by have := HS4.out; omega)⟩⟩)
    refine (Hm.out.mono (by have := HSn.out; omega)).kept (HKn.out.trans H2.out) ?_
    rintro i h1 _ (g | g)
    ·exact absurd (HYw.out _ g) (by have := HS.out; have := HS4.out; omega)
    ·have := HS4.out; omega
end Go.Proofs.YtidgfadbdgheiaaGreatDoor
