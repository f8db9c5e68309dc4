/-
 Several texts in one: AtAtt, AtBy.
-/
import Derived.Test.YteblmnbagbdiiaaGreatDoorAtMake
import Derived.Test.YteblmnbagbdiiaaGreatDoorAfBaseK
import Derived.Deep.RegionHeld3
/-
 The contract of the iterator that 'attacking' hands back.
-/
set_option maxRecDepth 100000
set_option maxHeartbeats 4000000
namespace Go.Proofs.YteblmnbagbdiiaaGreatDoor
open Go.RowKit Go.Shelf
set_option linter.unusedVariables false
set_option linter.unusedSimpArgs false
attribute [local go_sem] Oper.semAt_some

structure AttIn (p : Nat → Int) (s c : Int) (pB cB sB : Nat) (w : World) : Prop where
 row : Row w pB p
 col : w.cell? ⟨cB, 0, none⟩ = some (.int .u8 c)
 sq : w.cell? ⟨sB, 0, none⟩ = some (.int .i64 s)
 db : TabDb w
 lead : TabLead w
def AttOff (pB cB sB : Nat) (X : Nat → Prop) : Prop := ¬ X pB ∧ ¬ X cB ∧ ¬ X sB ∧ ¬ X 2 ∧ ¬ X 4
theorem AttIn.kept {p : Nat → Int} {s c : Int} {pB cB sB : Nat} {w w' : World} {X : Nat → Prop} (h : AttIn p s c pB cB sB w) (k : Kept X w w') (ho : AttOff pB cB sB X) : AttIn p s c pB cB sB w' :=
 ⟨(k.same pB (Array.getElem?_eq_some_iff.1 h.row).1 ho.1).trans h.row, k.cell h.col ho.2.1, k.cell h.sq ho.2.2.1, fun j hj => k.cell (h.db j hj) ho.2.2.2.1, fun j hj => k.cell (h.lead j hj) ho.2.2.2.2⟩
theorem AttIn.on {p : Nat → Int} {s c : Int} {pB cB sB : Nat} {w w' : World} (h : AttIn p s c pB cB sB w) (k : Below w.heap.size w w') : AttIn p s c pB cB sB w' :=
 h.kept (Kept.of_call (fun _ => False) k) ⟨id, id, id, id, id⟩
theorem AttIn.later {p : Nat → Int} {s c : Int} {pB cB sB : Nat} {w w' : World} (h : AttIn p s c pB cB sB w) (k : Below w.heap.size w w') : AttIn p s c pB cB sB w' := h.on k
theorem AttIn.off {p : Nat → Int} {s c : Int} {pB cB sB : Nat} {w W : World} {Y : Nat → Prop} (h : AttIn p s c pB cB sB w) (ho : AttOff pB cB sB Y) : AttOff pB cB sB (Xs Y w W) := by
 have a1 := (Array.getElem?_eq_some_iff.1 h.row).1
 have a2 := cell_block h.col
 have a3 := cell_block h.sq
 have a4 := h.db.lt
 have a5 := h.lead.lt
 obtain ⟨h1, h2, h3, h4, h5⟩ := ho
 refine ⟨?_, ?_, ?_, ?_, ?_⟩
 ·rintro (g | g); { exact h1 g }; { omega }
 ·rintro (g | g); { exact h2 g }; { simp at a2; omega }
 ·rintro (g | g); { exact h3 g }; { simp at a3; omega }
 ·rintro (g | g); { exact h4 g }; { omega }
 ·rintro (g | g); { exact h5 g }; { omega }

def CellIs (w : World) (b : Nat) (v : Value) : Prop := w.cell? ⟨b, 0, none⟩ = some v
theorem CellIs.later {w w' : World} {b : Nat} {v : Value} (h : CellIs w b v) (k : Below w.heap.size w w') : CellIs w' b v := (k.cell (cell_block h)).trans h
theorem CellIs.kept {w w' : World} {b : Nat} {v : Value} {X : Nat → Prop} (h : CellIs w b v) (k : Kept X w w') (hx : ¬ X b) : CellIs w' b v := k.cell h hx
theorem att_mono (p : Nat → Int) (s c : Int) {k m : Nat} (h : k ≤ m) : attL p s c k <+: attL p s c m := by
 induction m with
 | zero =>
  obtain rfl : k = 0 := by omega
  exact List.prefix_rfl
 | succ m ih =>
  by_cases e : k = m + 1
  ·subst e; exact List.prefix_rfl
  ·exact (ih (by omega)).trans (List.prefix_append _ _)
def fltL (p : Nat → Int) (k : Nat) (l : List Nat) : List Nat := l.filter fun x => kndZ (atZ p (x : Int)) == (k : Int)
theorem flt_yes {p : Nat → Int} {k x : Nat} (l : List Nat) (h : kndZ (atZ p (x : Int)) = (k : Int)) : fltL p k (l ++ [x]) = fltL p k l ++ [x] := by unfold fltL; rw [List.filter_append]; simp [h]
theorem flt_no {p : Nat → Int} {k x : Nat} (l : List Nat) (h : kndZ (atZ p (x : Int)) ≠ (k : Int)) : fltL p k (l ++ [x]) = fltL p k l := by unfold fltL; rw [List.filter_append]; simp [h]
theorem att_pre {p : Nat → Int} {s c : Int} {k x : Nat} {pre : List Nat} (hk : k < 7) (h : pre ++ [x] <+: listN (ofN p c 0 &&& atkN (oth c) k s (occN p))) (hx : kndZ (atZ p (x : Int)) = (k : Int)) :
  (attL p s c k ++ fltL p k pre) ++ [x] <+: attL p s c 7 := by
 rw [List.append_assoc, ← flt_yes pre hx]
 obtain ⟨t, ht⟩ := h
 have e : attL p s c k ++ fltL p k (pre ++ [x]) <+: attL p s c (k + 1) := ⟨fltL p k t, by rw [List.append_assoc, attL]; unfold tellN fltL; rw [← List.filter_append, ht]⟩
 exact e.trans (att_mono p s c (by omega))
theorem wrap8 {v : Int} (h0 : 0 ≤ v) (h1 : v ≤ 7) : IntKind.i64.wrap v = v := by
 have : v = 0 ∨ v = 1 ∨ v = 2 ∨ v = 3 ∨ v = 4 ∨ v = 5 ∨ v = 6 ∨ v = 7 := by omega
 rcases this with rfl | rfl | rfl | rfl | rfl | rfl | rfl | rfl <;> rfl
theorem loop_k {F : Fence} {n : Nat} {P : Program} {c : Code} {Q : Exit → Act → World → Prop} {a : Act} {w : World} (I : Act → World → Prop) (μ : Act → World → Nat) (h₀ : I a w)
  (round : ∀ a w, I a w → ∀ K : Act → World → Prop, Shut (∀ a' w', I a' w' → μ a' w' < μ a w → K a' w') → c.wpIn F n P (Exit.then K Q) a w) : (Code.loop c).wpIn F n P Q a w :=
 wpIn_loop I μ h₀ fun a w h => round a w h _ fun a' w' hi hm => ⟨hi, hm⟩

theorem att_seq (n pB cB sB : Nat) (hn : 4 ≤ n) (p : Nat → Int) (s c : Int) (Y : Nat → Prop) (w : World) (hp : BdR p) (hc : 0 ≤ c) (hA : AttIn p s c pB cB sB w) (hO : AttOff pB cB sB Y) (hYw : ∀ k, Y k → k < w.heap.size) :
  SeqK n 150 #[.pointer (some ⟨pB, 0, none⟩), .pointer (some ⟨cB, 0, none⟩), .pointer (some ⟨sB, 0, none⟩)] Y (attL p s c 7) w := by
 intro l J Jx W hW hJ hJx hyd h0
 have HA := H_ (hA.on hW)
 have HO := H_ (hA.off (W := W) hO)
 have HS := H_ hW.size
 have HY := H_ hyd
 have HP := H_ hp
 have HJ := H_ hJ
 have HJx := H_ hJx
 have H0 := H_ h0
 have HYw := H_ hYw
 have HF := H_ (by kernel_rfl : Tryz.prog.follows .mixedOrders = true)
 clear hA hO hyd hp hJ hJx h0 hW hYw
 show CallsIn Fence.wide n Tryz.prog _ #[.func (.yield l) #[] #[], .pointer (some ⟨pB, 0, none⟩), .pointer (some ⟨cB, 0, none⟩), .pointer (some ⟨sB, 0, none⟩)] W _
 have h1 : 1 ≤ n := by omega
 refine callsIn_of_wp_marks Tryz.func150 rfl trivial ?_ rfl
 simp only [Tryz.ntmps150, List.size_toArray, List.length_cons, List.length_nil, Nat.reduceAdd, Nat.reduceSub, Array.replicate_succ, Array.replicate_zero, List.push_toArray, List.append_toArray, List.nil_append, List.cons_append]
 have HA1 := H_ (HA.out.on (box_below W (.cells #[.func (.yield l) #[] #[]] 77)))
 have HB4 := H_ (cell_new W (.func (.yield l) #[] #[]) 77)
 have HK1 := H_ (Kept.of_call (Xs Y w W) (box_below W (.cells #[.func (.yield l) #[] #[]] 77)))
 have HJ1 := H_ (HJ.out _ _ _ H0.out (Kept.of_below (box_below W (.cells #[.func (.yield l) #[] #[]] 77))))
 have hcc := HA1.out.col
 have HR := H_ HA1.out.row
 gi_wp2_with fail
 refine wpIn_wide.2 (wp_region_noPanic ?_)
 obtain ⟨W1, HW1⟩ : ∃ W1, Hid (W.alloc (.cells #[.func (.yield l) #[] #[]] 77) = W1) := ⟨_, H_ rfl⟩
 rw [HW1.out] at HA1 HB4 HK1 HJ1 HR hcc ⊢
 have HA := HA1
 have HB := H_ (Below.refl W1.heap.size W1)
 refine late_begin 7 (by kernel_rfl) ?_
 refine lv 0 rfl ⟨_, fun w' hl => (run_load _ rfl _ rfl (p) (HR.out.later hl)), ?_⟩
 simp only [Act.put, pa, pb, pc]
 refine lv 1 rfl ⟨_, fun w' hl => (run_get 5 _ rfl cB 0 rfl Tryz.underlying5 rfl (.int .u8 c) ((HA.out.later hl).col)), ?_⟩
 simp only [Act.put, pa, pb, pc]
 refine lv 3 rfl ⟨_, fun w' hl => (run_load _ rfl _ rfl (p) (HR.out.later hl)), ?_⟩
 simp only [Act.put, pa, pb, pc]
 refine l1 2 rfl fun wn hl K hK => ?_
 have HA := H_ (HA.out.later hl); have HR := H_ (HR.out.later hl); have HB := H_ (below_on HB.out hl); clear hl
 refine we ?_
 refine (of_any p c 0 _ HP.out).mono ?_; rintro e wm ⟨rfl, hb⟩; refine ⟨_, rfl, ?_⟩
 refine hK.out _ _ hb ?_
 have HA := H_ (HA.out.later hb); have HR := H_ (HR.out.later hb); have HB := H_ (below_on HB.out hb); clear hb
 clear hK K
 simp only [Act.put, pa, pb, pc]
 refine l1 4 rfl fun wn hl K hK => ?_
 have HA := H_ (HA.out.later hl); have HR := H_ (HR.out.later hl); have HB := H_ (below_on HB.out hl); clear hl
 refine we ?_
 refine (all_set p _ HP.out).mono ?_; rintro e wm ⟨rfl, hb⟩; refine ⟨_, rfl, ?_⟩
 refine hK.out _ _ hb ?_
 have HA := H_ (HA.out.later hb); have HR := H_ (HR.out.later hb); have HB := H_ (below_on HB.out hb); clear hb
 clear hK K
 simp only [Act.put, pa, pb, pc]
 refine lw 5 rfl ?_
 simp only [Act.put, pa, pb, pc]
 refine lw 6 rfl ?_
 simp only [Act.put, pa, pb, pc]
 refine late_end (by kernel_rfl) (fun wn hl => ?_)
 have HA := H_ (HA.out.later hl); have HR := H_ (HR.out.later hl); have HB := H_ (below_on HB.out hl); clear hl
 refine NoPanic.normal ?_
 gi_wp2_with (refine ⟨trivial, ?_⟩; gi_at_call 151; refine (callsIn_wide.2 (ways_any _)).mono ?_; rintro e w4 ⟨rfl, hb⟩; have HB := H_ (below_on HB.out hb); clear hb)
 have hk := Kept.of_call (Xs Y w W) HB.out
 have HA4 := H_ (HA1.out.on HB.out)
 have HB44 := H_ ((HB.out.cell (cell_block HB4.out)).trans HB4.out)
 have hW1 : W1.heap.size = W.heap.size + 1 := by rw [← HW1.out]; exact size_new _ _
 have HJ4 := H_ (HJ.out _ _ _ HJ1.out ((Kept.of_below HB.out).mono (fun k hk => by rw [hW1] at hk; omega)))
 have HS4 := H_ (show W.heap.size < w4.heap.size by have := HB.out.size; omega)
 clear hk HJ1 HB HA1 HB4 HK1 hcc
 refine loop_k (fun a wr => ∃ (k : Nat) (ds : List Deferred) (u7 u8 u9 u10 u11 u12 u13 u14 u17 u18 u19 u20 u21 u22 u23 u24 u25 u26 u27 u28 u29 u30 u31 u32 u33 u34 u35 u36 u37 u38 u39 u40 u41 u42 u43 u44 : Value), k ≤ 7 ∧ a = { tmps := #[.func (.yield l) #[] #[], .pointer (some ⟨pB, 0, none⟩), .pointer (some ⟨cB, 0, none⟩), .pointer (some ⟨sB, 0, none⟩), .pointer (some ⟨W.heap.size, 0, none⟩), .int .u64 ((ofN p c 0 : Nat) : Int), .int .u64 ((occN p : Nat) : Int), u7, u8, u9, u10, u11, u12, u13, u14, .agg waysA, .int .i64 (k : Int), u17, u18, u19, u20, u21, u22, u23, u24, u25, u26, u27, u28, u29, u30, u31, u32, u33, u34, u35, u36, u37, u38, u39, u40, u41, u42, u43, u44], defers := ds } ∧ J (attL p s c k) wr ∧ Kept (Xs Y w W) w4 wr ∧ Marks w4.heap.size wr.heap.size ds wr) (fun a _ => 7 - (intOf (a.tmps.getD 16 undef)).toNat) ?_ ?_
 ·exact ⟨0, [], _, _, _, _, _, _, _, _, _, _, _, _, _, _, _, _, _, _, _, _, _, _, _, _, _, _, _, _, _, _, _, _, _, _, _, _, Nat.zero_le _, rfl, HJ4.out, Kept.refl _ _, trivial⟩
 ·rintro a wr ⟨k, ds, u7, u8, u9, u10, u11, u12, u13, u14, u17, u18, u19, u20, u21, u22, u23, u24, u25, u26, u27, u28, u29, u30, u31, u32, u33, u34, u35, u36, u37, u38, u39, u40, u41, u42, u43, u44, hk7, rfl, hj, hkk, hm⟩ K HK
  have Hj := H_ hj
  have Hk := H_ hkk
  have Hm := H_ hm
  clear hj hkk hm
  by_cases h7 : k = 7
  ·subst h7
   gi_wp2_with fail
   refine marks_leave Hm.out (fun w' hk => ?_)
   exact ⟨_, results_none rfl _ _ _, ⟨_, rfl⟩, .inl (HJ.out _ _ _ Hj.out (hk.mono fun i hi => by have := HS4.out; omega))⟩
  ·have hk : k < 7 := by omega
   have hlt : (k : Int) < 7 := by omega
   have HK7 := H_ hk
   clear h7 hk7 hk
   gi_wp2_with (refine stepIn rfl (way_index k HK7.out _ _ rfl rfl rfl) ?_)
   refine wpIn_wide.2 (wp_region_noPanic ?_)
   have hb0 : Below wr.heap.size wr ((wr.alloc (.cells #[.int .i64 (k : Int)] 3)).alloc (.cells #[.func (.func (wayF k)) #[] #[]] 141)) := ((Below.refl _ _).alloc (Nat.le_refl _) _).alloc (by rw [size_new]; omega) _
   have h7 : CellIs ((wr.alloc (.cells #[.int .i64 (k : Int)] 3)).alloc (.cells #[.func (.func (wayF k)) #[] #[]] 141)) wr.heap.size (.int .i64 (k : Int)) := CellIs.later (show CellIs _ _ _ from cell_new wr _ _) (box_below _ _)
   have h8 : CellIs ((wr.alloc (.cells #[.int .i64 (k : Int)] 3)).alloc (.cells #[.func (.func (wayF k)) #[] #[]] 141)) (wr.heap.size + 1) (.func (.func (wayF k)) #[] #[]) := by
    show World.cell? _ _ = _
    rw [← size_new wr (.cells #[.int .i64 (k : Int)] 3)]; exact cell_new _ _ _
   have hs : ((wr.alloc (.cells #[.int .i64 (k : Int)] 3)).alloc (.cells #[.func (.func (wayF k)) #[] #[]] 141)).heap.size = wr.heap.size + 2 := by rw [size_new, size_new]
   obtain ⟨wk, hwk⟩ : ∃ wk, wk = (wr.alloc (.cells #[.int .i64 (k : Int)] 3)).alloc (.cells #[.func (.func (wayF k)) #[] #[]] 141) := ⟨_, rfl⟩
   rw [← hwk] at hb0 h7 h8 hs ⊢
   have HW7 := H_ h7
   have HW8 := H_ h8
   have HSk := H_ hs
   have HBk := H_ hb0
   clear hwk h7 h8 hs hb0
   have HA := H_ ((HA4.out.kept Hk.out HO.out).on HBk.out)
   have HB := H_ (Below.refl wk.heap.size wk)
   have HC := H_ (show 0 ≤ oth c by unfold oth; omega)
   have HO2 := H_ (occN_lt p)
   have HAnd := H_ (and_nat (ofN_lt p c 0) (atkN_lt (oth c) k s (occN p)))
   have hwe := way_enters k HK7.out
   refine late_begin 10 (by kernel_rfl) ?_
   refine lw 0 rfl ?_
   simp only [Act.put, pa, pb, pc]
   refine lw 1 rfl ?_
   simp only [Act.put, pa, pb, pc]
   refine lv 2 rfl ⟨_, fun w' hl => (run_get 139 _ rfl (wr.heap.size + 1) 0 rfl Tryz.underlying139 rfl (.func (.func (wayF k)) #[] #[]) (HW8.out.later hl)), ?_⟩
   simp only [Act.put, pa, pb, pc]
   refine lv 3 rfl ⟨_, fun w' hl => (run_get 5 _ rfl cB 0 rfl Tryz.underlying5 rfl (.int .u8 c) ((HA.out.later hl).col)), ?_⟩
   simp only [Act.put, pa, pb, pc]
   refine lv 5 rfl ⟨_, fun w' hl => (run_get 3 _ rfl sB 0 rfl Tryz.underlying3 rfl (.int .i64 s) ((HA.out.later hl).sq)), ?_⟩
   simp only [Act.put, pa, pb, pc]
   refine lw 6 rfl ?_
   simp only [Act.put, pa, pb, pc]
   refine l1 4 rfl fun wn hl K hK => ?_
   have HA := H_ (HA.out.later hl); have HW7 := H_ (HW7.out.later hl); have HW8 := H_ (HW8.out.later hl); have HB := H_ (below_on HB.out hl); clear hl
   refine we ?_
   refine (other_any c _).mono ?_; rintro e wm ⟨rfl, rfl⟩; refine ⟨_, rfl, ?_⟩
   refine hK.out _ _ (Later.refl _) ?_
   clear hK K
   simp only [Act.put, pa, pb, pc]
   refine l1 7 rfl fun wn hl K hK => ?_
   have HA := H_ (HA.out.later hl); have HW7 := H_ (HW7.out.later hl); have HW8 := H_ (HW8.out.later hl); have HB := H_ (below_on HB.out hl); clear hl
   refine wp_enter (wayF k) #[.int .u8 (oth c), .int .i64 s, .int .u64 ((occN p : Nat) : Int)] (by go_simp) ?_
   refine (way_any k HK7.out (oth c) s (occN p) _ HC.out HO2.out HA.out.db HA.out.lead).mono ?_; rintro e wm ⟨rfl, hb⟩; refine ⟨_, rfl, ?_⟩
   refine hK.out _ _ hb ?_
   have HA := H_ (HA.out.later hb); have HW7 := H_ (HW7.out.later hb); have HW8 := H_ (HW8.out.later hb); have HB := H_ (below_on HB.out hb); clear hb
   clear hK K
   simp only [Act.put, pa, pb, pc]
   refine lv 8 rfl ⟨.int .u64 ((ofN p c 0 &&& atkN (oth c) k s (occN p) : Nat) : Int), fun w' hl => ?_, ?_⟩
   ·(go_simp; rw [HAnd.out])
   simp only [Act.put, pa, pb, pc]
   refine l1 9 rfl fun wn hl K hK => ?_
   have HA := H_ (HA.out.later hl); have HW7 := H_ (HW7.out.later hl); have HW8 := H_ (HW8.out.later hl); have HB := H_ (below_on HB.out hl); clear hl
   refine we ?_
   refine (each_box _ _).mono ?_; rintro e wm ⟨rfl, rfl⟩; refine ⟨_, rfl, ?_⟩
   have hb := box_below wn (.cells #[.int .u64 ((ofN p c 0 &&& atkN (oth c) k s (occN p) : Nat) : Int)] 23)
   have hE : CellIs (wn.alloc (.cells #[.int .u64 ((ofN p c 0 &&& atkN (oth c) k s (occN p) : Nat) : Int)] 23)) wn.heap.size (.int .u64 ((ofN p c 0 &&& atkN (oth c) k s (occN p) : Nat) : Int)) := cell_new wn _ _
   refine hK.out _ _ hb ?_
   obtain ⟨Bn, hBn⟩ : ∃ Bn, Bn = wn.heap.size := ⟨_, rfl⟩
   rw [← hBn] at hE ⊢
   have HA := H_ (HA.out.later hb); have HW7 := H_ (HW7.out.later hb); have HW8 := H_ (HW8.out.later hb); have HB := H_ (below_on HB.out hb); clear hb
   have HE := H_ hE
   clear hE hBn
   clear hK K
   simp only [Act.put, pa, pb, pc]
   refine late_end (by kernel_rfl) (fun wn hl => ?_)
   have HA := H_ (HA.out.later hl); have HW7 := H_ (HW7.out.later hl); have HW8 := H_ (HW8.out.later hl); have HE := H_ (HE.out.later hl); have HB := H_ (below_on HB.out hl); clear hl
   refine NoPanic.normal ?_
   gi_wp2_with fail
   clear hwe
   have HKn := H_ (show Kept (Xs Y w W) wr wn from (Kept.of_call _ HBk.out).trans (Kept.of_call _ HB.out))
   have HSn := H_ (show wr.heap.size + 2 ≤ wn.heap.size by have := HB.out.size; have := HSk.out; omega)
   have HSr := H_ Hk.out.size
   have HBn := H_ (show Kept (wr.heap.size ≤ ·) wr wn from (Kept.of_below HBk.out).trans ((Kept.of_below HB.out).mono (fun i hi => by have := HSk.out; omega)))
   have HJn := H_ (HJ.out _ _ _ Hj.out (HBn.out.mono (fun i hi => by have := HSr.out; have := HS4.out; omega)))
   have HY4 := H_ (show CellIs wn W.heap.size (.func (.yield l) #[] #[]) from CellIs.later (show CellIs _ _ _ from (Hk.out.cell HB44.out (by rintro (g | g); { exact absurd (HYw.out W.heap.size g) (by have := HS.out; omega) }; { exact Nat.lt_irrefl _ g.2 }))) (HBk.out.trans (HB.out.mono HBk.out.size)))
   refine range_kept (n := n) (gf := 216) (lb := #[.pointer (some ⟨Bn, 0, none⟩)]) rfl (enters_of Tryz.func216 (by kernel_rfl) rfl) (Xs Y w W) ?hY (listN (ofN p c 0 &&& atkN (oth c) k s (occN p)))
    (each_seq (n - 1) Bn _ (by omega) (Xs Y w W) wn (and_lt (atkN_lt _ _ _ _)) HE.out HA.out.db HO.out.2.2.2.1)
    (fun pre A => J (attL p s c k ++ fltL p k pre) A ∧ Kept (Xs Y w W) wn A) (fun pre A => (∃ q, q ≠ [] ∧ q <+: attL p s c 7 ∧ Jx q A) ∧ Kept (Xs Y w W) wn A) ?hI ?hIx ?h0
    (fun x => { tmps := #[.func (.yield l) #[] #[], .pointer (some ⟨pB, 0, none⟩), .pointer (some ⟨cB, 0, none⟩), .pointer (some ⟨sB, 0, none⟩), .pointer (some ⟨W.heap.size, 0, none⟩), .int .u64 ((ofN p c 0 : Nat) : Int), .int .u64 ((occN p : Nat) : Int), .pointer (some ⟨wr.heap.size, 0, none⟩), .pointer (some ⟨wr.heap.size + 1, 0, none⟩), .int .i64 (x : Int), u10, u11, u12, u13, u14, .agg waysA, .int .i64 (k : Int), .bool true, .int .i64 (k : Int), .agg #[.func (.func (wayF k)) #[] #[]], .int .u64 ((ofN p c 0 : Nat) : Int), .pointer (some ⟨wr.heap.size + 1, 0, none⟩), .func (.func (wayF k)) #[] #[], .int .u8 c, .int .u8 (oth c), .int .i64 s, .int .u64 ((occN p : Nat) : Int), .int .u64 ((atkN (oth c) k s (occN p) : Nat) : Int), .int .u64 ((ofN p c 0 &&& atkN (oth c) k s (occN p) : Nat) : Int), .func (.func 216) #[] #[.pointer (some ⟨Bn, 0, none⟩)], .int .i64 (x : Int), u31, u32, u33, u34, u35, u36, u37, u38, u39, u40, u41, u42, u43, u44], defers := [] }) ?assign ?body ?done ?stop
   case hY => rintro i (g | g); { have := HYw.out _ g; have := HS.out; have := HS4.out; have := HSr.out; have := HSn.out; omega }; { have := HS4.out; have := HSr.out; have := HSn.out; omega }
   case hI => exact fun q A A' h k => ⟨HJ.out _ _ _ h.1 (k.mono fun i hi => by have := HS4.out; have := HSr.out; have := HSn.out; omega), h.2.since k (Nat.le_refl _)⟩
   case hIx => rintro _ A A' ⟨⟨q, h1, h2, h3⟩, h4⟩ k; exact ⟨⟨q, h1, h2, HJx.out _ _ _ h3 (k.mono fun i hi => by have := HS4.out; have := HSr.out; have := HSn.out; omega)⟩, h4.since k (Nat.le_refl _)⟩
   case h0 => exact ⟨by rw [show fltL p k [] = [] from rfl, List.append_nil]; exact HJn.out, Kept.refl _ _⟩
   case assign =>
    intro l2 x A K' hK'
    gi_wp2
    exact hK'
   case body =>
    rintro l2 pre x A ⟨hj, hk⟩ hpre
    dsimp only
    have Hj := H_ hj
    have Hk := H_ hk
    have Hp := H_ hpre
    have HAA := H_ (HA.out.kept hk HO.out)
    have H7 := H_ (show CellIs A wr.heap.size (.int .i64 (k : Int)) from (HW7.out).kept hk (by rintro (g | g); { exact absurd (HYw.out _ g) (by have := HS.out; have := HS4.out; have := HSr.out; omega) }; { have := HS4.out; have := HSr.out; omega }))
    have H4 := H_ (show CellIs A W.heap.size (.func (.yield l) #[] #[]) from HY4.out.kept hk (by rintro (g | g); { exact absurd (HYw.out W.heap.size g) (by have := HS.out; omega) }; { exact Nat.lt_irrefl _ g.2 }))
    have HN7 := H_ (show ¬ Xs Y w W wr.heap.size by rintro (g | g); { exact absurd (HYw.out _ g) (by have := HS.out; have := HS4.out; have := HSr.out; omega) }; { have := HS4.out; have := HSr.out; omega })
    have HN4 := H_ (show ¬ Xs Y w W W.heap.size by rintro (g | g); { exact absurd (HYw.out W.heap.size g) (by have := HS.out; omega) }; { exact Nat.lt_irrefl _ g.2 })
    have HSa := H_ hk.size
    clear hj hk hpre
    have hx64 : x < 64 := by
     obtain ⟨t, ht⟩ := Hp.out
     have : x ∈ listN (ofN p c 0 &&& atkN (oth c) k s (occN p)) := by rw [← ht]; simp
     exact (mem_listN.1 this).1
    have Hr0 := knd_rng (atZ p (x : Int))
    have Ha0 : 0 ≤ atZ p (x : Int) ∧ atZ p (x : Int) ≤ 255 := by
     rw [atZ_nat p hx64]; split
     ·exact HP.out x hx64
     ·omega
    obtain ⟨v, HV⟩ : ∃ v, Hid (kndZ (atZ p (x : Int)) = v) := ⟨_, H_ rfl⟩
    obtain ⟨av, HAv⟩ : ∃ av, Hid (atZ p (x : Int) = av) := ⟨_, H_ rfl⟩
    have HA0 := H_ Ha0
    have HR0 := H_ Hr0
    clear Ha0 Hr0 hx64
    cases hm : (v == (k : Int))
    ·gi_wp2_with fail
     refine mid_begin (X := Xs Y w W) HF.out ?_
     have HQ := H_ (Kept.refl (Xs Y w W) A)
     have HB := H_ (Below.refl A.heap.size A)
     refine mid_take 0 (by kernel_rfl) (by kernel_rfl) (by kernel_rfl) (by kernel_rfl) (by kernel_rfl) (fun _ _ d _ _ h => by cases d <;> exact h) (fun o ho => ?_)
     simp only [qa, qb, qc, qd] at ho; subst ho
     refine ⟨_, Or.inl ⟨by kernel_rfl, fun w' hl => run_load _ rfl _ rfl p (HAA.out.kept hl HO.out).row⟩, ?_⟩
     simp only [Act.put, pa, pb, pc]
     refine mid_take 1 (by kernel_rfl) (by kernel_rfl) (by kernel_rfl) (by kernel_rfl) (by kernel_rfl) (fun _ _ d _ _ h => by cases d <;> exact h) (fun o ho => ?_)
     simp only [qa, qb, qc, qd] at ho; subst ho
     apply Exists.intro
     refine ⟨Or.inl ⟨by kernel_rfl, fun w' hl => ?_⟩, ?_⟩
     ·(go_simp; try with_reducible rfl)
     simp only [Act.put, pa, pb, pc]
     refine mid_take 5 (by kernel_rfl) (by kernel_rfl) (by kernel_rfl) (by kernel_rfl) (by kernel_rfl) (fun _ _ d _ _ h => by cases d <;> exact h) (fun o ho => ?_)
     simp only [qa, qb, qc, qd] at ho; subst ho
     refine ⟨_, Or.inl ⟨by kernel_rfl, fun w' hl => run_get 3 _ rfl wr.heap.size 0 rfl Tryz.underlying3 rfl (.int .i64 (k : Int)) (H7.out.kept hl HN7.out)⟩, ?_⟩
     simp only [Act.put, pa, pb, pc]
     refine mid_one 2 (by kernel_rfl) (by kernel_rfl) (by kernel_rfl) (fun o ho => ?_)
     simp only [qa, qb, qc, qd] at ho; subst ho
     refine ⟨by kernel_rfl, fun wq hl K2 hK2 => ?_⟩
     have HQ := H_ (HQ.out.trans (Kept.of_call _ hl)); have HB := H_ (below_on HB.out hl); clear hl
     refine mid_call _ _ (by go_simp; exact ⟨rfl, rfl⟩) ?_
     refine (at_any p (x : Int) _ HP.out).mono ?_; rintro e wm ⟨rfl, hb⟩; refine ⟨_, rfl, ?_⟩
     rw [HAv.out]
     refine hK2.out _ _ (Kept.of_call _ hb) ?_
     have HQ := H_ (HQ.out.trans (Kept.of_call _ hb)); have HB := H_ (below_on HB.out hb); clear hb
     clear hK2 K2
     simp only [Act.put, pa, pb, pc]
     refine mid_one 3 (by kernel_rfl) (by kernel_rfl) (by kernel_rfl) (fun o ho => ?_)
     simp only [qa, qb, qc, qd] at ho; subst ho
     refine ⟨by kernel_rfl, fun wq hl K2 hK2 => ?_⟩
     have HQ := H_ (HQ.out.trans (Kept.of_call _ hl)); have HB := H_ (below_on HB.out hl); clear hl
     refine mid_call _ _ (by go_simp; exact ⟨rfl, rfl⟩) ?_
     refine (knd_any av _ (by rw [← HAv.out]; exact HA0.out.1) (by rw [← HAv.out]; exact HA0.out.2)).mono ?_; rintro e wm ⟨rfl, rfl⟩; refine ⟨_, rfl, ?_⟩
     rw [show kndZ av = v by rw [← HAv.out]; exact HV.out]
     refine hK2.out _ _ (Kept.refl _ _) ?_
     clear hK2 K2
     simp only [Act.put, pa, pb, pc]
     have hv0 : 0 ≤ v := by rw [← HV.out]; exact HR0.out.1
     have hv1 : v ≤ 7 := by rw [← HV.out]; exact HR0.out.2
     have HWr := H_ (wrap8 hv0 hv1)
     refine mid_take 4 (by kernel_rfl) (by kernel_rfl) (by kernel_rfl) (by kernel_rfl) (by kernel_rfl) (fun _ _ d _ _ h => by cases d <;> exact h) (fun o ho => ?_)
     simp only [qa, qb, qc, qd] at ho; subst ho
     refine ⟨.int .i64 v, Or.inl ⟨by kernel_rfl, fun w' hl => ?_⟩, ?_⟩
     ·(go_simp; rw [HWr.out])
     simp only [Act.put, pa, pb, pc]
     clear hv0 hv1
     refine mid_take 6 (by kernel_rfl) (by kernel_rfl) (by kernel_rfl) (by kernel_rfl) (by kernel_rfl) (fun _ _ d _ _ h => by cases d <;> exact h) (fun o ho => ?_)
     simp only [qa, qb, qc, qd] at ho; subst ho
     apply Exists.intro
     refine ⟨Or.inl ⟨by kernel_rfl, fun w' hl => ?_⟩, ?_⟩
     ·(go_simp; try with_reducible rfl)
     simp only [Act.put, pa, pb, pc]
     refine mid_take 7 (by kernel_rfl) (by kernel_rfl) (by kernel_rfl) (by kernel_rfl) (by kernel_rfl) (fun _ _ d _ _ h => by cases d <;> exact h) (fun o ho => ?_)
     simp only [qa, qb, qc, qd] at ho; subst ho
     apply Exists.intro
     refine ⟨Or.inl ⟨by kernel_rfl, fun w' hl => ?_⟩, ?_⟩
     ·(go_simp; try with_reducible rfl)
     simp only [Act.put, pa, pb, pc]
     refine mid_take 8 (by kernel_rfl) (by kernel_rfl) (by kernel_rfl) (by kernel_rfl) (by kernel_rfl) (fun _ _ d _ _ h => by cases d <;> exact h) (fun o ho => ?_)
     simp only [qa, qb, qc, qd] at ho; subst ho
     refine ⟨_, Or.inr ⟨by kernel_rfl, rfl⟩, ?_⟩
     simp only [Act.put, pa, pb, pc]
     refine mid_take 9 (by kernel_rfl) (by kernel_rfl) (by kernel_rfl) (by kernel_rfl) (by kernel_rfl) (fun _ _ d _ _ h => by cases d <;> exact h) (fun o ho => ?_)
     simp only [qa, qb, qc, qd] at ho; subst ho
     refine ⟨_, Or.inr ⟨by kernel_rfl, rfl⟩, ?_⟩
     simp only [Act.put, pa, pb, pc]
     refine mid_take 10 (by kernel_rfl) (by kernel_rfl) (by kernel_rfl) (by kernel_rfl) (by kernel_rfl) (fun _ _ d _ _ h => by cases d <;> exact h) (fun o ho => ?_)
     simp only [qa, qb, qc, qd] at ho; subst ho
     refine ⟨_, Or.inr ⟨by kernel_rfl, rfl⟩, ?_⟩
     simp only [Act.put, pa, pb, pc]
     refine mid_take 11 (by kernel_rfl) (by kernel_rfl) (by kernel_rfl) (by kernel_rfl) (by kernel_rfl) (fun _ _ d _ _ h => by cases d <;> exact h) (fun o ho => ?_)
     simp only [qa, qb, qc, qd] at ho; subst ho
     refine ⟨_, Or.inr ⟨by kernel_rfl, rfl⟩, ?_⟩
     simp only [Act.put, pa, pb, pc]
     refine mid_take 12 (by kernel_rfl) (by kernel_rfl) (by kernel_rfl) (by kernel_rfl) (by kernel_rfl) (fun _ _ d _ _ h => by cases d <;> exact h) (fun o ho => ?_)
     simp only [qa, qb, qc, qd] at ho; subst ho
     apply Exists.intro
     refine ⟨Or.inl ⟨by kernel_rfl, fun w' hl => ?_⟩, ?_⟩
     ·(go_simp; try with_reducible rfl)
     simp only [Act.put, pa, pb, pc]
     refine mid_end (by kernel_rfl) (fun wz hz => ?_)
     have HQ := H_ (HQ.out.trans (Kept.of_call _ hz))
     have HB := H_ (below_on HB.out hz)
     have Hmn := H_ hm
     clear hz hm
     gi_wp2_with fail
     refine ⟨HQ.out, ?_, Hk.out.trans HQ.out⟩
     rw [flt_no pre (fun e => by have h := HV.out; rw [e] at h; have g := Hmn.out; rw [← h, beq_self_eq_true] at g; cases g)]
     exact HJ.out _ _ _ Hj.out ((Kept.of_below HB.out).mono (fun i hi => by have := HSa.out; have := HSn.out; have := HSr.out; have := HS4.out; omega))
    ·gi_wp2_with fail
     refine mid_begin (X := Xs Y w W) HF.out ?_
     have HQ := H_ (Kept.refl (Xs Y w W) A)
     have HB := H_ (Below.refl A.heap.size A)
     refine mid_take 0 (by kernel_rfl) (by kernel_rfl) (by kernel_rfl) (by kernel_rfl) (by kernel_rfl) (fun _ _ d _ _ h => by cases d <;> exact h) (fun o ho => ?_)
     simp only [qa, qb, qc, qd] at ho; subst ho
     refine ⟨_, Or.inl ⟨by kernel_rfl, fun w' hl => run_load _ rfl _ rfl p (HAA.out.kept hl HO.out).row⟩, ?_⟩
     simp only [Act.put, pa, pb, pc]
     refine mid_take 1 (by kernel_rfl) (by kernel_rfl) (by kernel_rfl) (by kernel_rfl) (by kernel_rfl) (fun _ _ d _ _ h => by cases d <;> exact h) (fun o ho => ?_)
     simp only [qa, qb, qc, qd] at ho; subst ho
     apply Exists.intro
     refine ⟨Or.inl ⟨by kernel_rfl, fun w' hl => ?_⟩, ?_⟩
     ·(go_simp; try with_reducible rfl)
     simp only [Act.put, pa, pb, pc]
     refine mid_take 5 (by kernel_rfl) (by kernel_rfl) (by kernel_rfl) (by kernel_rfl) (by kernel_rfl) (fun _ _ d _ _ h => by cases d <;> exact h) (fun o ho => ?_)
     simp only [qa, qb, qc, qd] at ho; subst ho
     refine ⟨_, Or.inl ⟨by kernel_rfl, fun w' hl => run_get 3 _ rfl wr.heap.size 0 rfl Tryz.underlying3 rfl (.int .i64 (k : Int)) (H7.out.kept hl HN7.out)⟩, ?_⟩
     simp only [Act.put, pa, pb, pc]
     refine mid_one 2 (by kernel_rfl) (by kernel_rfl) (by kernel_rfl) (fun o ho => ?_)
     simp only [qa, qb, qc, qd] at ho; subst ho
     refine ⟨by kernel_rfl, fun wq hl K2 hK2 => ?_⟩
     have HQ := H_ (HQ.out.trans (Kept.of_call _ hl)); have HB := H_ (below_on HB.out hl); clear hl
     refine mid_call _ _ (by go_simp; exact ⟨rfl, rfl⟩) ?_
     refine (at_any p (x : Int) _ HP.out).mono ?_; rintro e wm ⟨rfl, hb⟩; refine ⟨_, rfl, ?_⟩
     rw [HAv.out]
     refine hK2.out _ _ (Kept.of_call _ hb) ?_
     have HQ := H_ (HQ.out.trans (Kept.of_call _ hb)); have HB := H_ (below_on HB.out hb); clear hb
     clear hK2 K2
     simp only [Act.put, pa, pb, pc]
     refine mid_one 3 (by kernel_rfl) (by kernel_rfl) (by kernel_rfl) (fun o ho => ?_)
     simp only [qa, qb, qc, qd] at ho; subst ho
     refine ⟨by kernel_rfl, fun wq hl K2 hK2 => ?_⟩
     have HQ := H_ (HQ.out.trans (Kept.of_call _ hl)); have HB := H_ (below_on HB.out hl); clear hl
     refine mid_call _ _ (by go_simp; exact ⟨rfl, rfl⟩) ?_
     refine (knd_any av _ (by rw [← HAv.out]; exact HA0.out.1) (by rw [← HAv.out]; exact HA0.out.2)).mono ?_; rintro e wm ⟨rfl, rfl⟩; refine ⟨_, rfl, ?_⟩
     rw [show kndZ av = v by rw [← HAv.out]; exact HV.out]
     refine hK2.out _ _ (Kept.refl _ _) ?_
     clear hK2 K2
     simp only [Act.put, pa, pb, pc]
     have hv0 : 0 ≤ v := by rw [← HV.out]; exact HR0.out.1
     have hv1 : v ≤ 7 := by rw [← HV.out]; exact HR0.out.2
     have HWr := H_ (wrap8 hv0 hv1)
     refine mid_take 4 (by kernel_rfl) (by kernel_rfl) (by kernel_rfl) (by kernel_rfl) (by kernel_rfl) (fun _ _ d _ _ h => by cases d <;> exact h) (fun o ho => ?_)
     simp only [qa, qb, qc, qd] at ho; subst ho
     refine ⟨.int .i64 v, Or.inl ⟨by kernel_rfl, fun w' hl => ?_⟩, ?_⟩
     ·(go_simp; rw [HWr.out])
     simp only [Act.put, pa, pb, pc]
     clear hv0 hv1
     refine mid_take 6 (by kernel_rfl) (by kernel_rfl) (by kernel_rfl) (by kernel_rfl) (by kernel_rfl) (fun _ _ d _ _ h => by cases d <;> exact h) (fun o ho => ?_)
     simp only [qa, qb, qc, qd] at ho; subst ho
     apply Exists.intro
     refine ⟨Or.inl ⟨by kernel_rfl, fun w' hl => ?_⟩, ?_⟩
     ·(go_simp; try with_reducible rfl)
     simp only [Act.put, pa, pb, pc]
     refine mid_take 7 (by kernel_rfl) (by kernel_rfl) (by kernel_rfl) (by kernel_rfl) (by kernel_rfl) (fun _ _ d _ _ h => by cases d <;> exact h) (fun o ho => ?_)
     simp only [qa, qb, qc, qd] at ho; subst ho
     apply Exists.intro
     refine ⟨Or.inl ⟨by kernel_rfl, fun w' hl => ?_⟩, ?_⟩
     ·(go_simp; try with_reducible rfl)
     simp only [Act.put, pa, pb, pc]
     refine mid_take 8 (by kernel_rfl) (by kernel_rfl) (by kernel_rfl) (by kernel_rfl) (by kernel_rfl) (fun _ _ d _ _ h => by cases d <;> exact h) (fun o ho => ?_)
     simp only [qa, qb, qc, qd] at ho; subst ho
     refine ⟨_, Or.inl ⟨by kernel_rfl, fun w' hl => run_get 77 _ rfl W.heap.size 0 rfl Tryz.underlying77 rfl (.func (.yield l) #[] #[]) ((H4.out.kept HQ.out HN4.out).kept hl HN4.out)⟩, ?_⟩
     simp only [Act.put, pa, pb, pc]
     refine mid_take 9 (by kernel_rfl) (by kernel_rfl) (by kernel_rfl) (by kernel_rfl) (by kernel_rfl) (fun _ _ d _ _ h => by cases d <;> exact h) (fun o ho => ?_)
     simp only [qa, qb, qc, qd] at ho; subst ho
     apply Exists.intro
     refine ⟨Or.inl ⟨by kernel_rfl, fun w' hl => ?_⟩, ?_⟩
     ·(go_simp; try with_reducible rfl)
     simp only [Act.put, pa, pb, pc]
     refine mid_one 10 (by kernel_rfl) (by kernel_rfl) (by kernel_rfl) (fun o ho => ?_)
     simp only [qa, qb, qc, qd] at ho; subst ho
     refine ⟨by kernel_rfl, fun wq hl K2 hK2 => ?_⟩
     have HQ := H_ (HQ.out.trans (Kept.of_call _ hl)); have HB := H_ (below_on HB.out hl); clear hl
     refine mid_yield n l #[.int .i64 (x : Int)] (fun w' => by go_simp) (HY.out (attL p s c k ++ fltL p k pre) x _ (HJ.out _ _ _ Hj.out ((Kept.of_below HB.out).mono (fun i hi => by have := HSa.out; have := HSn.out; have := HSr.out; have := HS4.out; omega))) (att_pre HK7.out Hp.out (HV.out.trans (eq_of_beq hm)))) ?_
     rintro e w5 ⟨bb, rfl, hk5, hj5⟩; refine ⟨_, rfl, ?_⟩
     refine hK2.out _ _ hk5 ?_
     have HQ := H_ (HQ.out.trans hk5); have HJ5 := H_ hj5; clear hk5 hj5
     clear hK2 K2
     simp only [Act.put, pa, pb, pc]
     refine mid_take 11 (by kernel_rfl) (by kernel_rfl) (by kernel_rfl) (by kernel_rfl) (by kernel_rfl) (fun _ _ d _ _ h => by cases d <;> exact h) (fun o ho => ?_)
     simp only [qa, qb, qc, qd] at ho; subst ho
     apply Exists.intro
     refine ⟨Or.inl ⟨by kernel_rfl, fun w' hl => ?_⟩, ?_⟩
     ·(go_simp; try with_reducible rfl)
     simp only [Act.put, pa, pb, pc]
     refine mid_take 12 (by kernel_rfl) (by kernel_rfl) (by kernel_rfl) (by kernel_rfl) (by kernel_rfl) (fun _ _ d _ _ h => by cases d <;> exact h) (fun o ho => ?_)
     simp only [qa, qb, qc, qd] at ho; subst ho
     apply Exists.intro
     refine ⟨Or.inl ⟨by kernel_rfl, fun w' hl => ?_⟩, ?_⟩
     ·(go_simp; try with_reducible rfl)
     simp only [Act.put, pa, pb, pc]
     refine mid_end (by kernel_rfl) (fun wz hz => ?_)
     have hq := HQ.out.trans (Kept.of_call _ hz)
     have hz2 : Kept (W.heap.size ≤ ·) w5 wz := (Kept.of_below hz).mono (fun i hi => by have := HQ.out.size; have := HSa.out; have := HSn.out; have := HSr.out; have := HS4.out; omega)
     have hkx : kndZ (atZ p (x : Int)) = (k : Int) := HV.out.trans (eq_of_beq hm)
     have HKX := H_ hkx
     have HQ := H_ hq
     have HZ := H_ hz2
     clear hq hz hz2 hm hkx
     cases bb
     ·gi_wp2_with fail
      have h5 : Jx ((attL p s c k ++ fltL p k pre) ++ [x]) w5 := HJ5.out
      exact ⟨HQ.out, ⟨_, by simp, att_pre HK7.out Hp.out HKX.out, HJx.out _ _ _ h5 HZ.out⟩, Hk.out.trans HQ.out⟩
     ·gi_wp2_with fail
      have h5 : J ((attL p s c k ++ fltL p k pre) ++ [x]) w5 := HJ5.out
      refine ⟨HQ.out, ?_, Hk.out.trans HQ.out⟩
      rw [flt_yes pre HKX.out, ← List.append_assoc]
      exact HJ.out _ _ _ h5 HZ.out
   case done =>
    rintro A ⟨hj, hk⟩ hd
    dsimp only
    have Hj2 := H_ hj
    have Hk2 := H_ hk
    have Hd := H_ hd
    clear hj hk hd
    gi_wp2_with fail
    refine HK.out _ _ ⟨k + 1, _, _, _, _, _, _, _, _, _, _, _, _, _, _, _, _, _, _, _, _, _, _, _, _, _, _, _, _, _, _, _, _, _, _, _, _, _, by have := HK7.out; omega, rfl, Hj2.out, Hk.out.trans (HKn.out.trans Hk2.out), ⟨_, rfl, by have := HSn.out; have := Hk.out.size; omega, (Array.getElem?_eq_some_iff.1 Hd.out).1, Hd.out, ?_⟩⟩ ?_
    ·refine (Hm.out.mono (by have := HSn.out; omega)).kept (HKn.out.trans Hk2.out) ?_
     rintro i h1 _ (g | g)
     ·exact absurd (HYw.out _ g) (by have := HS.out; have := HS4.out; omega)
     ·have := HS4.out; omega
    ·simp [intOf]; have := HK7.out; omega
   case stop =>
    rintro pre A _ _ ⟨⟨q, h1, h2, h3⟩, hk⟩ hd
    dsimp only
    have H2 := H_ hk
    have Hd := H_ hd
    have Hq := H_ (And.intro h1 (And.intro h2 h3))
    clear hd hk h1 h2 h3
    gi_wp2_with fail
    refine marks_leave (lo := w4.heap.size) (hi := A.heap.size) ⟨wn.heap.size, rfl, by have := HSn.out; have := Hk.out.size; omega, (Array.getElem?_eq_some_iff.1 Hd.out).1, Hd.out, ?_⟩ (fun w' hk => ⟨_, results_none rfl _ _ _, ⟨_, rfl⟩, .inr ⟨q, Hq.out.1, Hq.out.2.1, HJx.out _ _ _ Hq.out.2.2 (hk.mono fun i hi => by have := HS4.out; omega)⟩⟩)
    refine (Hm.out.mono (by have := HSn.out; omega)).kept (HKn.out.trans H2.out) ?_
    rintro i h1 _ (g | g)
    ·exact absurd (HYw.out _ g) (by have := HS.out; have := HS4.out; omega)
    ·have := HS4.out; omega
end Go.Proofs.YteblmnbagbdiiaaGreatDoor
/-
 Contracts of the program's By and On: ranges over the iterator of 'attacking'.
-/
namespace Go.Proofs.YteblmnbagbdiiaaGreatDoor
open Go.RowKit Go.Shelf
set_option linter.unusedVariables false
attribute [local go_sem] Oper.semAt_some

theorem stepIn2 {n : Nat} {P : Program} {ops : Array Oper} {Q : Exit → Act → World → Prop} {rest : List Oper} {o : Oper} {a : Act} {w w' : World} {v : Value} (hg : o.guard = none) (hr : (execOp a.eval o).run P w = .ok (.value v) w')
  (h : wpListIn Fence.wide n P ops Q rest (a.put o.dst v) w') : wpListIn Fence.wide n P ops Q (o :: rest) a w :=
 wpListIn_plain hg fun K hK => ⟨fun _ _ => trivial, by
  show o.uponIn Fence.wide n P a K Q ((execOp a.eval o).run P w)
  rw [hr]; exact hK _ _ h⟩
theorem run_boxP {o : Oper} {a : Act} {w : World} (x : Operand) (ho : o.op = .box 31 x) (p : Nat → Int) (hx : a.eval x = .agg (posA p)) :
  (execOp a.eval o).run Tryz.prog w = .ok (.value (.pointer (some ⟨w.heap.size, 0, none⟩))) (w.alloc (.cells (posA p) 31)) := by
 unfold execOp
 simp only [ho, hx, Instr.box, Sem.run_bind, Sem.run_pure]
 rfl
theorem boxed_kept {w w' : World} {X : Nat → Prop} {b : Nat} {t : TypeId} {v : Value} (h : Boxed w b t v) (k : Kept X w w') (hx : ¬ X b) : Boxed w' b t v := k.obj (show w.heap[b]? = _ from h) hx

theorem by_in (p : Nat → Int) (s c : Int) (w : World) (hp : BdR p) (hc : 0 ≤ c) (hD : TabDb w) (hL : TabLead w) : CallsIn Fence.wide 7 Tryz.prog 141 #[.agg (posA p), .int .i64 s, .int .u8 c] w (U64L (byN p s c) w) := by
 have HP := H_ hp
 have HD := H_ hD
 have HL := H_ hL
 clear hp hD hL
 refine callsIn_of_wp_marks Tryz.func141 rfl trivial ?_ rfl
 simp only [Tryz.ntmps141, List.size_toArray, List.length_cons, List.length_nil, Nat.reduceAdd, Nat.reduceSub, Array.replicate_succ, Array.replicate_zero, List.push_toArray, List.append_toArray, List.nil_append, List.cons_append]
 have HR := H_ (row_old (row_new w p) (.cells #[.int .u64 0] 23))
 gi_wp2_with (first
  | (refine stepIn2 rfl (run_boxP _ rfl p rfl) ?_)
  | (refine stepIn rfl (run_load _ rfl _ rfl p HR.out) ?_)
  | (refine ⟨trivial, ?_⟩; gi_at_call 74; refine (callsIn_wide.2 (attacking_any p s c _)).mono ?_; rintro e w2 ⟨b, hb0, rfl, hb, hrow, hs, hcol⟩))
 obtain ⟨w1, hw1⟩ : ∃ w1, w1 = (w.alloc (.cells (posA p) 31)).alloc (.cells #[.int .u64 0] 23) := ⟨_, rfl⟩
 have hx1 : Boxed w1 (w.heap.size + 1) 23 (.int .u64 ((putL [] : Nat) : Int)) := by rw [hw1, ← size_new w (.cells (posA p) 31)]; exact Boxed.new _ _ _
 have hs1 : w1.heap.size = w.heap.size + 2 := by rw [hw1, size_new, size_new]
 have hb1 : Below w.heap.size w w1 := by rw [hw1]; exact below_on (box_below _ _) (box_below _ _)
 rw [← hw1] at hb hb0
 clear hw1
 have hb2 := below_on hb1 hb
 have hx2 : Boxed w2 (w.heap.size + 1) 23 (.int .u64 ((putL [] : Nat) : Int)) := boxed_kept hx1 (Kept.of_call (fun _ => False) hb) id
 have hA : AttIn p s c b (b + 2) (b + 1) w2 := ⟨hrow, hcol, hs, HD.out.next hb2, HL.out.next hb2⟩
 have l1 := HD.out.lt
 have l2 := HL.out.lt
 have l3 := hb.size
 have HS := H_ (show w.heap.size + 2 ≤ w2.heap.size by omega)
 have hA' := att_seq 6 b (b + 2) (b + 1) (by omega) p s c (· = w.heap.size + 1) w2 HP.out hc hA ⟨by omega, by omega, by omega, by omega, by omega⟩ (fun k e => by omega)
 clear hA HR hrow hs hcol hb hb0 hx1 hs1 hb1 l1 l2 l3
 have HB2 := H_ hb2
 refine range_kept (n := 7) rfl (enters_of Tryz.func150 (by kernel_rfl) rfl) (· = w.heap.size + 1) (fun k e => by have := HS.out; omega) (attL p s c 7) hA'
  (fun pre A => Boxed A (w.heap.size + 1) 23 (.int .u64 ((putL pre : Nat) : Int)) ∧ Below w.heap.size w A) (fun _ _ => False) ?hI (fun _ _ _ h _ => h) ⟨hx2, hb2⟩
  (fun x => { tmps := #[.agg (posA p), .int .i64 s, .int .u8 c, .pointer (some ⟨w.heap.size, 0, none⟩), undef, undef, .int .u64 0, .pointer (some ⟨w.heap.size + 1, 0, none⟩), .int .i64 (x : Int), .agg (posA p), .int .i64 s, .int .u8 c, .func (.func 150) #[] #[.pointer (some ⟨b, 0, none⟩), .pointer (some ⟨b + 2, 0, none⟩), .pointer (some ⟨b + 1, 0, none⟩)], .int .i64 (x : Int), undef, undef, undef, undef], defers := [] }) ?assign ?body ?done ?stop
 case hI => exact fun q A A' h k => ⟨boxed_kept h.1 k (by have := HS.out; omega), h.2.trans (k.below (fun i hi => by have := HS.out; omega) h.2.size)⟩
 case assign =>
  intro l x W K hK
  gi_wp2
  exact hK
 case body =>
  rintro l pre x A ⟨hv, hB⟩ hpre
  have hcv := hv.cell
  have hfv := hv.frozen
  have Hv := H_ hv
  have HB := H_ hB
  clear hx2 hb2 hA' hv hB hpre
  gi_wp2_with (refine ⟨trivial, ?_⟩; gi_at_call 198; refine (CallsIn.inRound l (callsIn_wide.2 (put_any _ _ _ (putL_lt pre)))).mono ?_; rintro e w3 ⟨rfl, rfl⟩)
  exact ⟨Kept.setCell _ _ _ _, by rw [putL_snoc]; exact Hv.out.set _, HB.out.setCell (p := ⟨w.heap.size + 1, 0, none⟩) (by simp) _⟩
 case done =>
  rintro W ⟨hv, hB⟩ hK
  have hcv := hv.cell
  have HB := H_ hB
  have HK := H_ hK
  clear hx2 hb2 hA' hB hK
  gi_wp2_with fail
  refine marks_leave (lo := w.heap.size) (hi := w2.heap.size + 1) ⟨w2.heap.size, rfl, by have := HS.out; omega, by omega, HK.out, trivial⟩ (fun w' hk => ?_)
  exact ⟨_, results_tmp rfl _ _ _, rfl, HB.out.trans (hk.below (fun i hi => hi) HB.out.size)⟩
 case stop =>
  rintro pre W _ _ h _
  exact h.elim
theorem by_any (p : Nat → Int) (s c : Int) (w : World) (hp : BdR p) (hc : 0 ≤ c) (hD : TabDb w) (hL : TabLead w) : Calls Tryz.prog 141 #[.agg (posA p), .int .i64 s, .int .u8 c] w (U64L (byN p s c) w) :=
 callsIn_wide.1 (by_in p s c w hp hc hD hL)
def anyB (p : Nat → Int) (s c : Int) : Bool := byN p s c != 0
theorem on_nil {p : Nat → Int} {s c : Int} (h : [] = attL p s c 7) : anyB p s c = false := by unfold anyB byN; rw [← h]; rfl
theorem on_some {p : Nat → Int} {s c : Int} {pre : List Nat} (hne : pre ≠ []) (h : pre <+: attL p s c 7) : anyB p s c = true := by
 obtain ⟨x, t, rfl⟩ := List.exists_cons_of_ne_nil hne
 have hx : x ∈ attL p s c 7 := h.subset List.mem_cons_self
 obtain ⟨k, _, hk⟩ := (mem_att p s c x 7).1 hx
 have hx64 := ((mem_tell p s c k x).1 hk).1
 have : (byN p s c).testBit x = true := by unfold byN; rw [putL_testBit _ _ hx64, decide_eq_true_eq]; exact hx
 unfold anyB
 rw [bne_iff_ne]
 intro e
 rw [e, Nat.zero_testBit] at this
 cases this
theorem on_in (p : Nat → Int) (s c : Int) (w : World) (hp : BdR p) (hc : 0 ≤ c) (hD : TabDb w) (hL : TabLead w) : CallsIn Fence.wide 7 Tryz.prog 33 #[.agg (posA p), .int .i64 s, .int .u8 c] w (BoL (anyB p s c) w) := by
 have HP := H_ hp
 have HD := H_ hD
 have HL := H_ hL
 clear hp hD hL
 refine callsIn_of_wp_marks Tryz.func33 rfl trivial ?_ rfl
 simp only [Tryz.ntmps33, List.size_toArray, List.length_cons, List.length_nil, Nat.reduceAdd, Nat.reduceSub, Array.replicate_succ, Array.replicate_zero, List.push_toArray, List.append_toArray, List.nil_append, List.cons_append]
 have HR := H_ (row_old (row_new w p) (.cells #[.bool false] 4))
 gi_wp2_with (first
  | (refine stepIn2 rfl (run_boxP _ rfl p rfl) ?_)
  | (refine stepIn rfl (run_load _ rfl _ rfl p HR.out) ?_)
  | (refine ⟨trivial, ?_⟩; gi_at_call 74; refine (callsIn_wide.2 (attacking_any p s c _)).mono ?_; rintro e w2 ⟨b, hb0, rfl, hb, hrow, hs, hcol⟩))
 obtain ⟨w1, hw1⟩ : ∃ w1, w1 = (w.alloc (.cells (posA p) 31)).alloc (.cells #[.bool false] 4) := ⟨_, rfl⟩
 have hx1 : Boxed w1 (w.heap.size + 1) 4 (.bool false) := by rw [hw1, ← size_new w (.cells (posA p) 31)]; exact Boxed.new _ _ _
 have hs1 : w1.heap.size = w.heap.size + 2 := by rw [hw1, size_new, size_new]
 have hb1 : Below w.heap.size w w1 := by rw [hw1]; exact below_on (box_below _ _) (box_below _ _)
 rw [← hw1] at hb hb0
 clear hw1
 have hb2 := below_on hb1 hb
 have hx2 : Boxed w2 (w.heap.size + 1) 4 (.bool false) := boxed_kept hx1 (Kept.of_call (fun _ => False) hb) id
 have hA : AttIn p s c b (b + 2) (b + 1) w2 := ⟨hrow, hcol, hs, HD.out.next hb2, HL.out.next hb2⟩
 have l1 := HD.out.lt
 have l2 := HL.out.lt
 have l3 := hb.size
 have HS := H_ (show w.heap.size + 2 ≤ w2.heap.size by omega)
 have hA' := att_seq 6 b (b + 2) (b + 1) (by omega) p s c (· = w.heap.size + 1) w2 HP.out hc hA ⟨by omega, by omega, by omega, by omega, by omega⟩ (fun k e => by omega)
 clear hA HR hrow hs hcol hb hb0 hx1 hs1 hb1 l1 l2 l3
 refine range_kept (n := 7) rfl (enters_of Tryz.func150 (by kernel_rfl) rfl) (· = w.heap.size + 1) (fun k e => by have := HS.out; omega) (attL p s c 7) hA'
  (fun pre A => pre = [] ∧ Boxed A (w.heap.size + 1) 4 (.bool false) ∧ Below w.heap.size w A) (fun _ A => Boxed A (w.heap.size + 1) 4 (.bool true) ∧ Below w.heap.size w A) ?hI ?hIx ⟨rfl, hx2, hb2⟩
  (fun x => { tmps := #[.agg (posA p), .int .i64 s, .int .u8 c, .pointer (some ⟨w.heap.size, 0, none⟩), undef, undef, .pointer (some ⟨w.heap.size + 1, 0, none⟩), .agg (posA p), .int .i64 s, .int .u8 c, .func (.func 150) #[] #[.pointer (some ⟨b, 0, none⟩), .pointer (some ⟨b + 2, 0, none⟩), .pointer (some ⟨b + 1, 0, none⟩)], .int .i64 (x : Int)], defers := [] }) ?assign ?body ?done ?stop
 case hI => exact fun q A A' h k => ⟨h.1, boxed_kept h.2.1 k (by have := HS.out; omega), h.2.2.trans (k.below (fun i hi => by have := HS.out; omega) h.2.2.size)⟩
 case hIx => exact fun q A A' h k => ⟨boxed_kept h.1 k (by have := HS.out; omega), h.2.trans (k.below (fun i hi => by have := HS.out; omega) h.2.size)⟩
 case assign =>
  intro l x W K hK
  gi_wp2
  simpa using hK
 case body =>
  rintro l pre x A ⟨_, hv, hB⟩ hpre
  have hcv := hv.cell
  have hfv := hv.frozen
  have Hv := H_ hv
  have HB := H_ hB
  clear hx2 hb2 hA' hv hB hpre
  gi_wp2_with fail
  exact ⟨Kept.setCell _ _ _ _, Hv.out.set _, HB.out.setCell (p := ⟨w.heap.size + 1, 0, none⟩) (by simp) _⟩
 case done =>
  rintro W ⟨hnil, hv, hB⟩ hK
  have hcv := hv.cell
  have hfv := hv.frozen
  have Hv := H_ hv
  have HB := H_ hB
  have HK := H_ hK
  have HN := H_ hnil
  clear hx2 hb2 hA' hv hB hK hnil
  gi_wp2_with fail
  have hK' := (Kept.setCell (w.heap.size + 1) 0 (.bool false) W).obj HK.out (by have := HS.out; omega)
  refine marks_leave (lo := w2.heap.size) (hi := w2.heap.size + 1) ⟨w2.heap.size, rfl, Nat.le_refl _, by omega, hK', trivial⟩ (fun w' hk => ?_)
  have hx := boxed_kept (Hv.out.set (.bool false)) hk (by have := HS.out; omega)
  have hc5 := hx.cell
  refine ⟨.bool false, ?_, by rw [on_nil HN.out.symm], (HB.out.setCell (p := ⟨w.heap.size + 1, 0, none⟩) (by simp) _).trans (hk.below (fun i hi => by have := HS.out; omega) (by have := HB.out.size; simp [World.setCell]; omega))⟩
  simp [results, Tryz.f33, go_sem, hc5]
 case stop =>
  rintro pre W hne hpre ⟨hv, hB⟩ hK
  have Hv := H_ hv
  have HB := H_ hB
  have HK := H_ hK
  have HN := H_ (on_some hne hpre)
  clear hx2 hb2 hA' hv hB hK hne hpre
  gi_wp2_with fail
  refine marks_leave (lo := w2.heap.size) (hi := w2.heap.size + 1) ⟨w2.heap.size, rfl, Nat.le_refl _, by omega, HK.out, trivial⟩ (fun w' hk => ?_)
  have hc5 := (boxed_kept Hv.out hk (by have := HS.out; omega)).cell
  refine ⟨.bool true, ?_, by rw [HN.out], HB.out.trans (hk.below (fun i hi => by have := HS.out; omega) HB.out.size)⟩
  simp [results, Tryz.f33, go_sem, hc5]
theorem on_any (p : Nat → Int) (s c : Int) (w : World) (hp : BdR p) (hc : 0 ≤ c) (hD : TabDb w) (hL : TabLead w) : Calls Tryz.prog 33 #[.agg (posA p), .int .i64 s, .int .u8 c] w (BoL (anyB p s c) w) :=
 callsIn_wide.1 (on_in p s c w hp hc hD hL)
end Go.Proofs.YteblmnbagbdiiaaGreatDoor
