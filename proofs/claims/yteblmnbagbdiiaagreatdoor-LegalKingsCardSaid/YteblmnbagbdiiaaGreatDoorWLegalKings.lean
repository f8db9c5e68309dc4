/-
 The walk of LegalKings.
-/
import Derived.Test.YteblmnbagbdiiaaGreatDoorLgM
import Derived.Deep.DeepCutAuto
import Derived.WalkKit
import Derived.OpenShut
set_option maxRecDepth 100000
set_option maxHeartbeats 16000000
namespace Go.Proofs.YteblmnbagbdiiaaGreatDoor.legalKings
open Go.RowKit
set_option linter.unusedVariables false
set_option linter.unusedSimpArgs false
theorem u8w0 : IntKind.u8.wrap 0 = 0 := by decide
theorem u8w1 : IntKind.u8.wrap 1 = 1 := by decide
theorem u8w6 : IntKind.u8.wrap 6 = 6 := by decide
theorem u8w8 : IntKind.u8.wrap 8 = 8 := by decide
theorem u8w14 : IntKind.u8.wrap 14 = 14 := by decide
theorem walk_0 (p : Nat → Int) (w0 : WfP p) (ht : p 78 = 0) (w : World) (hD : TabDb w) (hL : TabLead w) (hV : TabVar w) (hKn : TabKn w) (hG : TabGl w) : Calls Tryz.prog 4 #[.agg (posA p)] w fun e w' => e = .returned (.bool true) ∧ Below w.heap.size w w' := by
 have HT := H_ (show CsT w from ⟨hD, hL, hV, hG⟩)
 have HK := H_ hKn
 have HP := H_ w0
 have HTu := H_ ht
 have hv0 := (AtR.of w0).var
 obtain ⟨v, hv⟩ : ∃ v, p 0 = v := ⟨_, rfl⟩
 have HVv := H_ hv
 rw [hv] at hv0
 have HV := H_ hv0
 obtain ⟨L, hL0⟩ : ∃ L, lsL p = L := ⟨_, rfl⟩
 have HL := H_ hL0
 have HLn := H_ (show L.length ≤ 1000000 by rw [← hL0]; exact ls_len p)
 have HMem := H_ (show ∀ m, m ∈ L → m ∈ lsL p by rw [hL0]; exact fun m h => h)
 clear hD hL hV hKn hG w0 hL0 ht hv hv0
 have HB := H_ (Below.refl w.heap.size w)
 go_enter Tryz.func4, Tryz.ntmps4
 go_wp2_with (first
   | (guard_target = gB 1; refine step_box rfl _ rfl p rfl ?_; intro b1 w1 N R; have HG1 := H_ (nA HB.out N); have HB := H_ (below_on HB.out N.below); have HR1 := H_ R; clear N R)
   | (guard_target = gL 1; refine step_load rfl _ rfl b1 rfl p HR1.out ?_))
 refine (lg_lawful p _ HP.out).mono ?_; rintro e w3 ⟨b, rfl, hb⟩; have HR1 := H_ (HR1.out.later hb); have HB := H_ (below_on HB.out hb); clear hb
 cases b
 ·go_wp2_with (first
   | (go_at_call 11; refine (lg_awake _ (HT.out.on HB.out) (HK.out.on HB.out)).mono ?_; rintro e w3 ⟨rfl, hb⟩; have HB := H_ (below_on HB.out hb); clear hb))
  go_ret
  exact ⟨rfl, HB.out⟩
 ·go_wp2_with (first
   | (guard_target = gL 1; refine step_load rfl _ rfl b1 rfl p HR1.out ?_)
   | (go_at_call 9; refine (lg_list p _ HP.out (HT.out.on HB.out)).mono ?_; rintro e w3 ⟨v, rfl, hv, hb⟩; rw [HL.out] at hv; obtain ⟨a3, c3, rfl, hE⟩ := mvs_of hv; have HE := H_ hE; have HR1 := H_ (HR1.out.later hb); have HB := H_ (below_on HB.out hb); clear hb hv hE))
  go_loopw [4] (fun i wr => ∃ k : Nat, k ≤ L.length ∧ i = .int .i64 (k : Int) ∧ Mvs L a3 wr ∧ Row wr b1 p ∧ Below w.heap.size w wr) (fun i _ => L.length - (intOf i).toNat)
  case atStart => exact ⟨0, by omega, rfl, HE.out, HR1.out, HB.out⟩
  case round =>
   clear HE HR1 HB
   obtain ⟨k, hk, rfl, he, hr1, hb⟩ := hrel
   have HE := H_ he
   have HR1 := H_ hr1
   have HB := H_ hb
   clear he hr1 hb
   by_cases hlt : k < L.length
   ·obtain ⟨m, hm⟩ : ∃ m, L[k]? = some m := ⟨_, List.getElem?_eq_getElem hlt⟩
    obtain ⟨g, rfl, _⟩ := HE.out.at hm
    have HX := H_ hm
    have hmem := HMem.out m (List.mem_of_getElem? hm)
    have HFit := H_ (ls_fit HP.out hmem)
    have HMb := H_ (ls_wel hmem).1
    have hkg := ls_kings HP.out hmem HTu.out
    rw [HVv.out] at hkg
    have hw1 : (k : Int) < 1000000 := by have := HLn.out; omega
    have hwf := mov_wf HP.out m
    obtain ⟨q, hq⟩ : ∃ q, movP p m = q := ⟨_, rfl⟩
    rw [hq] at hkg hwf
    have HQ := H_ hq
    have HW := H_ hwf
    have HKg := H_ hkg
    have Hlt := H_ hlt
    clear hm hmem hq hkg hwf hlt
    have hlt : (k : Int) < (L.length : Int) := by have := Hlt.out; omega
    go_upto_region 7 with fail
    go_cut [5, 6] (fun s5 s6 wx => ∃ b5, s5 = .pointer (some ⟨b5, 0, none⟩) ∧ s6 = .bool true ∧ w.heap.size ≤ b5 ∧ b1 ≠ b5 ∧ Row wx b5 q ∧ Row wx b1 p ∧ Mvs L (some ⟨g, 0, none⟩) wx ∧ Below w.heap.size w wx)
    case first =>
     obtain ⟨wx0, hwx⟩ : ∃ wx0, wx0 = wr := ⟨_, rfl⟩
     have HW0 := H_ (show w.heap.size ≤ wx0.heap.size by rw [hwx]; exact HB.out.size)
     have HL1 := H_ (show b1 < wx0.heap.size by rw [hwx]; exact HR1.out.lt)
     have HLg := H_ (show g < wx0.heap.size by rw [hwx]; exact HE.out.lt HX.out)
     have HX0 := H_ (show Below wx0.heap.size wx0 wr by rw [hwx]; exact Below.refl _ _)
     clear hwx
     have HFm := H_ (by kernel_rfl : Tryz.prog.follows .mixedOrders = true)
     refine (wpIn_wide (n := 1)).1 ?_
     refine Wid.mid_begin (X := (wx0.heap.size ≤ ·)) HFm.out ?_
     refine Wid.mid_take 0 (by kernel_rfl) (by kernel_rfl) (by kernel_rfl) (by kernel_rfl) (by kernel_rfl) (fun _ _ d _ _ h => by cases d <;> exact h) (fun o ho => ?_)
     simp only [qa, qb, qc, qd] at ho; subst ho
     refine ⟨_, Or.inl ⟨by kernel_rfl, fun w' hl => run_load _ rfl _ rfl p (show Row w' b1 p from (hl.same b1 HR1.out.lt (Nat.not_le.2 HL1.out)).trans HR1.out)⟩, ?_⟩
     simp only [Act.put, pa, pb, pc]
     refine Wid.mid_take 1 (by kernel_rfl) (by kernel_rfl) (by kernel_rfl) (by kernel_rfl) (by kernel_rfl) (fun _ _ d _ _ h => by cases d <;> exact h) (fun o ho => ?_)
     simp only [qa, qb, qc, qd] at ho; subst ho
     apply Exists.intro
     refine ⟨Or.inl ⟨by kernel_rfl, fun w' hl => ?_⟩, ?_⟩
     ·(go_simp; try with_reducible rfl)
     simp only [Act.put, pa, pb, pc]
     refine Wid.mid_take 2 (by kernel_rfl) (by kernel_rfl) (by kernel_rfl) (by kernel_rfl) (by kernel_rfl) (fun _ _ d _ _ h => by cases d <;> exact h) (fun o ho => ?_)
     simp only [qa, qb, qc, qd] at ho; subst ho
     apply Exists.intro
     refine ⟨Or.inl ⟨by kernel_rfl, fun w' hl => ?_⟩, ?_⟩
     ·(go_simp; try with_reducible rfl)
     simp only [Act.put, pa, pb, pc]
     refine Wid.mid_take 3 (by kernel_rfl) (by kernel_rfl) (by kernel_rfl) (by kernel_rfl) (by kernel_rfl) (fun _ _ d _ _ h => by cases d <;> exact h) (fun o ho => ?_)
     simp only [qa, qb, qc, qd] at ho; subst ho
     refine ⟨.pointer (some ⟨g, k * 5, none⟩), Or.inl ⟨by kernel_rfl, fun w' hl => ?_⟩, ?_⟩
     ·(go_simp <;> (intro hbad; omega))
     simp only [Act.put, pa, pb, pc]
     refine Wid.mid_take 4 (by kernel_rfl) (by kernel_rfl) (by kernel_rfl) (by kernel_rfl) (by kernel_rfl) (fun _ _ d _ _ h => by cases d <;> exact h) (fun o ho => ?_)
     simp only [qa, qb, qc, qd] at ho; subst ho
     refine ⟨.agg (mvA m), Or.inl ⟨by kernel_rfl, fun w' hl => run_mvK _ rfl g k _ rfl (by first | omega | (simp; omega)) m ((HE.out.keptX hl (Nat.not_le.2 HLg.out)).get HX.out)⟩, ?_⟩
     simp only [Act.put, pa, pb, pc]
     refine mid_some [5, 9] (by kernel_rfl) (by kernel_rfl) (by simp) (by kernel_rfl) (fun i hi => ?_)
     simp only [List.mem_cons, List.not_mem_nil, or_false] at hi
     rcases hi with rfl | rfl
     ·intro o ho
      simp only [qa, qb, qc, qd] at ho; subst ho
      refine ⟨by kernel_rfl, fun wn hl Kx hKx => ?_⟩
      have HX0 := H_ (HX0.out.trans (hl.mono HX0.out.size))
      have HR1 := H_ (HR1.out.later hl); have HE := H_ (HE.out.later hl); have HB := H_ (below_on HB.out hl); clear hl
      refine Wid.mid_call _ _ (by go_simp; exact ⟨rfl, rfl⟩) ?_
      refine (moveQ HQ.out HMb.out _ HP.out HFit.out (HT.out.on HB.out)).mono ?_; rintro e wm ⟨rfl, hb⟩; refine ⟨_, rfl, ?_⟩
      refine hKx.out _ _ (Kept.of_call _ hb) ?_
      have HX0 := H_ (HX0.out.trans (hb.mono HX0.out.size))
      have HR1 := H_ (HR1.out.later hb); have HE := H_ (HE.out.later hb); have HB := H_ (below_on HB.out hb); clear hb
      clear hKx Kx
      simp only [Act.put, pa, pb, pc]
      refine Wid.mid_take 6 (by kernel_rfl) (by kernel_rfl) (by kernel_rfl) (by kernel_rfl) (by kernel_rfl) (fun _ _ d _ _ h => by cases d <;> exact h) (fun o ho => ?_)
      simp only [qa, qb, qc, qd] at ho; subst ho
      apply Exists.intro
      refine ⟨Or.inl ⟨by kernel_rfl, fun w' hl => ?_⟩, ?_⟩
      ·(go_simp; try with_reducible rfl)
      simp only [Act.put, pa, pb, pc]
      refine Wid.mid_take 7 (by kernel_rfl) (by kernel_rfl) (by kernel_rfl) (by kernel_rfl) (by kernel_rfl) (fun _ _ d _ _ h => by cases d <;> exact h) (fun o ho => ?_)
      simp only [qa, qb, qc, qd] at ho; subst ho
      apply Exists.intro
      refine ⟨Or.inl ⟨by kernel_rfl, fun w' hl => ?_⟩, ?_⟩
      ·(go_simp; try with_reducible rfl)
      simp only [Act.put, pa, pb, pc]
      refine Wid.mid_take 8 (by kernel_rfl) (by kernel_rfl) (by kernel_rfl) (by kernel_rfl) (by kernel_rfl) (fun _ _ d _ _ h => by cases d <;> exact h) (fun o ho => ?_)
      simp only [qa, qb, qc, qd] at ho; subst ho
      apply Exists.intro
      refine ⟨Or.inl ⟨by kernel_rfl, fun w' hl => ?_⟩, ?_⟩
      ·(go_simp; try with_reducible rfl)
      simp only [Act.put, pa, pb, pc]
      refine Wid.mid_one 9 (by kernel_rfl) (by kernel_rfl) (by kernel_rfl) (fun o ho => ?_)
      simp only [qa, qb, qc, qd] at ho; subst ho
      refine ⟨by kernel_rfl, fun wn hl Kx hKx => ?_⟩
      have HX0 := H_ (HX0.out.trans (hl.mono HX0.out.size))
      have HR1 := H_ (HR1.out.later hl); have HE := H_ (HE.out.later hl); have HB := H_ (below_on HB.out hl); clear hl
      refine mid_allocP rfl ?_; intro b5 wm N R
      have HD15 := H_ (show b1 ≠ b5 by have := HR1.out.lt; have := N.at_; omega)
      have HDg5 := H_ (show g ≠ b5 by have := HE.out.lt HX.out; have := N.at_; omega)
      have HG5 := H_ (show wx0.heap.size ≤ b5 by have := HX0.out.size; have := N.at_; omega)
      have hb := N.below
      have HRn := H_ R
      clear N R
      refine hKx.out _ _ (Kept.of_call _ hb) ?_
      have HX0 := H_ (HX0.out.trans (hb.mono HX0.out.size))
      have HR1 := H_ (HR1.out.later hb); have HE := H_ (HE.out.later hb); have HB := H_ (below_on HB.out hb); clear hb
      have HR5 := HRn; clear HRn
      clear hKx Kx
      simp only [Act.put, pa, pb, pc]
      refine Wid.mid_one 10 (by kernel_rfl) (by kernel_rfl) (by kernel_rfl) (fun o ho => ?_)
      simp only [qa, qb, qc, qd] at ho; subst ho
      refine ⟨by kernel_rfl, fun wn hl Kx hKx => ?_⟩
      have HR1 := H_ (HR1.out.later hl); have HE := H_ (HE.out.later hl); have HR5 := H_ (HR5.out.later hl); have HB := H_ (below_on HB.out hl); clear hl
      refine mid_storeP _ _ rfl b5 rfl zeroP q rfl HR5.out ?_; intro wm U R
      have HR1 := H_ (HR1.out.apart U HD15.out)
      have HE := H_ (HE.out.upd U HDg5.out)
      refine hKx.out _ _ (kept_updX U HG5.out) ?_
      have HR5 := H_ R; have HB := H_ (HB.out.trans (U.below (Nat.le_trans HW0.out HG5.out))); clear U R
      clear hKx Kx
      simp only [Act.put, pa, pb, pc]
      refine Wid.mid_take 11 (by kernel_rfl) (by kernel_rfl) (by kernel_rfl) (by kernel_rfl) (by kernel_rfl) (fun _ _ d _ _ h => by cases d <;> exact h) (fun o ho => ?_)
      simp only [qa, qb, qc, qd] at ho; subst ho
      apply Exists.intro
      refine ⟨Or.inl ⟨by kernel_rfl, fun w' hl => ?_⟩, ?_⟩
      ·(go_simp; try with_reducible rfl)
      simp only [Act.put, pa, pb, pc]
      refine Wid.mid_end (by kernel_rfl) (fun wn hl => ?_)
      have HR1 := H_ (HR1.out.later hl); have HE := H_ (HE.out.later hl); have HR5 := H_ (HR5.out.later hl); have HB := H_ (below_on HB.out hl); clear hl
      go_wp2_with fail
      go_meet
      case rel => exact ⟨b5, rfl, rfl, Nat.le_trans HW0.out HG5.out, HD15.out, HR5.out, HR1.out, HE.out, HB.out⟩
     ·intro o ho
      simp only [qa, qb, qc, qd] at ho; subst ho
      refine ⟨by kernel_rfl, fun wn hl Kx hKx => ?_⟩
      have HX0 := H_ (HX0.out.trans (hl.mono HX0.out.size))
      have HR1 := H_ (HR1.out.later hl); have HE := H_ (HE.out.later hl); have HB := H_ (below_on HB.out hl); clear hl
      refine mid_allocP rfl ?_; intro b5 wm N R
      have HD15 := H_ (show b1 ≠ b5 by have := HR1.out.lt; have := N.at_; omega)
      have HDg5 := H_ (show g ≠ b5 by have := HE.out.lt HX.out; have := N.at_; omega)
      have HG5 := H_ (show wx0.heap.size ≤ b5 by have := HX0.out.size; have := N.at_; omega)
      have hb := N.below
      have HRn := H_ R
      clear N R
      refine hKx.out _ _ (Kept.of_call _ hb) ?_
      have HX0 := H_ (HX0.out.trans (hb.mono HX0.out.size))
      have HR1 := H_ (HR1.out.later hb); have HE := H_ (HE.out.later hb); have HB := H_ (below_on HB.out hb); clear hb
      have HR5 := HRn; clear HRn
      clear hKx Kx
      simp only [Act.put, pa, pb, pc]
      refine Wid.mid_one 5 (by kernel_rfl) (by kernel_rfl) (by kernel_rfl) (fun o ho => ?_)
      simp only [qa, qb, qc, qd] at ho; subst ho
      refine ⟨by kernel_rfl, fun wn hl Kx hKx => ?_⟩
      have HX0 := H_ (HX0.out.trans (hl.mono HX0.out.size))
      have HR1 := H_ (HR1.out.later hl); have HE := H_ (HE.out.later hl); have HR5 := H_ (HR5.out.later hl); have HB := H_ (below_on HB.out hl); clear hl
      refine Wid.mid_call _ _ (by go_simp; exact ⟨rfl, rfl⟩) ?_
      refine (moveQ HQ.out HMb.out _ HP.out HFit.out (HT.out.on HB.out)).mono ?_; rintro e wm ⟨rfl, hb⟩; refine ⟨_, rfl, ?_⟩
      refine hKx.out _ _ (Kept.of_call _ hb) ?_
      have HX0 := H_ (HX0.out.trans (hb.mono HX0.out.size))
      have HR1 := H_ (HR1.out.later hb); have HE := H_ (HE.out.later hb); have HR5 := H_ (HR5.out.later hb); have HB := H_ (below_on HB.out hb); clear hb
      clear hKx Kx
      simp only [Act.put, pa, pb, pc]
      refine Wid.mid_take 6 (by kernel_rfl) (by kernel_rfl) (by kernel_rfl) (by kernel_rfl) (by kernel_rfl) (fun _ _ d _ _ h => by cases d <;> exact h) (fun o ho => ?_)
      simp only [qa, qb, qc, qd] at ho; subst ho
      apply Exists.intro
      refine ⟨Or.inl ⟨by kernel_rfl, fun w' hl => ?_⟩, ?_⟩
      ·(go_simp; try with_reducible rfl)
      simp only [Act.put, pa, pb, pc]
      refine Wid.mid_take 7 (by kernel_rfl) (by kernel_rfl) (by kernel_rfl) (by kernel_rfl) (by kernel_rfl) (fun _ _ d _ _ h => by cases d <;> exact h) (fun o ho => ?_)
      simp only [qa, qb, qc, qd] at ho; subst ho
      apply Exists.intro
      refine ⟨Or.inl ⟨by kernel_rfl, fun w' hl => ?_⟩, ?_⟩
      ·(go_simp; try with_reducible rfl)
      simp only [Act.put, pa, pb, pc]
      refine Wid.mid_take 8 (by kernel_rfl) (by kernel_rfl) (by kernel_rfl) (by kernel_rfl) (by kernel_rfl) (fun _ _ d _ _ h => by cases d <;> exact h) (fun o ho => ?_)
      simp only [qa, qb, qc, qd] at ho; subst ho
      apply Exists.intro
      refine ⟨Or.inl ⟨by kernel_rfl, fun w' hl => ?_⟩, ?_⟩
      ·(go_simp; try with_reducible rfl)
      simp only [Act.put, pa, pb, pc]
      refine Wid.mid_one 10 (by kernel_rfl) (by kernel_rfl) (by kernel_rfl) (fun o ho => ?_)
      simp only [qa, qb, qc, qd] at ho; subst ho
      refine ⟨by kernel_rfl, fun wn hl Kx hKx => ?_⟩
      have HR1 := H_ (HR1.out.later hl); have HE := H_ (HE.out.later hl); have HR5 := H_ (HR5.out.later hl); have HB := H_ (below_on HB.out hl); clear hl
      refine mid_storeP _ _ rfl b5 rfl zeroP q rfl HR5.out ?_; intro wm U R
      have HR1 := H_ (HR1.out.apart U HD15.out)
      have HE := H_ (HE.out.upd U HDg5.out)
      refine hKx.out _ _ (kept_updX U HG5.out) ?_
      have HR5 := H_ R; have HB := H_ (HB.out.trans (U.below (Nat.le_trans HW0.out HG5.out))); clear U R
      clear hKx Kx
      simp only [Act.put, pa, pb, pc]
      refine Wid.mid_take 11 (by kernel_rfl) (by kernel_rfl) (by kernel_rfl) (by kernel_rfl) (by kernel_rfl) (fun _ _ d _ _ h => by cases d <;> exact h) (fun o ho => ?_)
      simp only [qa, qb, qc, qd] at ho; subst ho
      apply Exists.intro
      refine ⟨Or.inl ⟨by kernel_rfl, fun w' hl => ?_⟩, ?_⟩
      ·(go_simp; try with_reducible rfl)
      simp only [Act.put, pa, pb, pc]
      refine Wid.mid_end (by kernel_rfl) (fun wn hl => ?_)
      have HR1 := H_ (HR1.out.later hl); have HE := H_ (HE.out.later hl); have HR5 := H_ (HR5.out.later hl); have HB := H_ (below_on HB.out hl); clear hl
      go_wp2_with fail
      go_meet
      case rel => exact ⟨b5, rfl, rfl, Nat.le_trans HW0.out HG5.out, HD15.out, HR5.out, HR1.out, HE.out, HB.out⟩
    case rest =>
     obtain ⟨b5, rfl, rfl, hg5, hd15, hr5, hr1, he, hb⟩ := hcut
     have HG5 := H_ hg5
     have HD15 := H_ hd15
     have HR5 := H_ hr5
     have HR1 := H_ hr1
     have HE := H_ he
     have HB := H_ hb
     clear hg5 hd15 hr5 hr1 he hb
     go_wp2_with fail
     go_loopw [7, 8, 9] (fun s7 s8 s9 wr => ∃ j : Nat, j ≤ 64 ∧ s9 = .int .i64 (j : Int) ∧ s7 = .bool (anyK q 6 j) ∧ s8 = .bool (anyK q 14 j) ∧ Row wr b5 q ∧ Row wr b1 p ∧ Mvs L (some ⟨g, 0, none⟩) wr ∧ Below w.heap.size w wr) (fun _ _ s9 _ => 64 - (intOf s9).toNat)
     case atStart => exact ⟨0, by omega, rfl, rfl, rfl, HR5.out, HR1.out, HE.out, HB.out⟩
     case round =>
      clear HR5 HR1 HE HB
      obtain ⟨j, hj, rfl, rfl, rfl, hr5, hr1, he, hb⟩ := hrel
      have HR5 := H_ hr5
      have HR1 := H_ hr1
      have HE := H_ he
      have HB := H_ hb
      clear hr5 hr1 he hb
      by_cases hj64 : j < 64
      ·have hji : (j : Int) < 64 := by omega
       have HJ := H_ (show 1 + j < 88 by omega)
       have HJ6 := H_ hj64
       clear hj64
       obtain ⟨f7, h7⟩ : ∃ f, anyK q 6 j = f := ⟨_, rfl⟩
       obtain ⟨f8, h8⟩ : ∃ f, anyK q 14 j = f := ⟨_, rfl⟩
       have HS7 := H_ (anyK_succ q 6 j)
       have HS8 := H_ (anyK_succ q 14 j)
       have H7 := H_ h7
       have H8 := H_ h8
       rw [h7, h8]
       clear h7 h8
       cases f7 <;> cases f8
       ·go_wp2_with fail
        refine late_begin 13 (by kernel_rfl) ?_
        refine lw 0 rfl ?_
        simp only [Act.put, pa, pb, pc]
        refine lw 1 rfl ?_
        simp only [Act.put, pa, pb, pc]
        refine lw 2 rfl ?_
        simp only [Act.put, pa, pb, pc]
        refine lw 3 rfl ?_
        simp only [Act.put, pa, pb, pc]
        refine lw 4 rfl ?_
        simp only [Act.put, pa, pb, pc]
        refine lv 5 rfl ⟨.int .u8 (q (1 + j)), fun w' hl => (run_get 5 _ rfl b5 (1 + j) rfl Tryz.underlying5 rfl (.int .u8 (q (1 + j))) (((HR5.out.later hl).cell (1 + j) HJ.out).trans (by rw [kAt_board (Nat.zero_le _) (by have := HJ.out; omega)]))), ?_⟩
        simp only [Act.put, pa, pb, pc]
        refine lw 6 rfl ?_
        simp only [Act.put, pa, pb, pc]
        refine lv 7 rfl ⟨.int .u8 0, fun w' hl => (run_get 5 _ rfl b1 78 rfl Tryz.underlying5 rfl (.int .u8 0) (((HR1.out.later hl).cell 78 (by decide)).trans (by rw [HTu.out]; rfl))), ?_⟩
        simp only [Act.put, pa, pb, pc]
        refine lw 8 rfl ?_
        simp only [Act.put, pa, pb, pc]
        refine lw 9 rfl ?_
        simp only [Act.put, pa, pb, pc]
        refine lw 10 rfl ?_
        simp only [Act.put, pa, pb, pc]
        refine lw 11 rfl ?_
        simp only [Act.put, pa, pb, pc]
        refine lw 12 rfl ?_
        simp only [Act.put, pa, pb, pc]
        refine late_end (by kernel_rfl) (fun wn hl => ?_)
        have HR5 := H_ (HR5.out.later hl); have HR1 := H_ (HR1.out.later hl); have HE := H_ (HE.out.later hl); have HB := H_ (below_on HB.out hl); clear hl
        go_wp2_with fail
        refine late_begin 14 (by kernel_rfl) ?_
        refine lw 0 rfl ?_
        simp only [Act.put, pa, pb, pc]
        refine lw 1 rfl ?_
        simp only [Act.put, pa, pb, pc]
        refine lw 2 rfl ?_
        simp only [Act.put, pa, pb, pc]
        refine lw 3 rfl ?_
        simp only [Act.put, pa, pb, pc]
        refine lw 4 rfl ?_
        simp only [Act.put, pa, pb, pc]
        refine lv 5 rfl ⟨.int .u8 (q (1 + j)), fun w' hl => (run_get 5 _ rfl b5 (1 + j) rfl Tryz.underlying5 rfl (.int .u8 (q (1 + j))) (((HR5.out.later hl).cell (1 + j) HJ.out).trans (by rw [kAt_board (Nat.zero_le _) (by have := HJ.out; omega)]))), ?_⟩
        simp only [Act.put, pa, pb, pc]
        refine lw 6 rfl ?_
        simp only [Act.put, pa, pb, pc]
        refine lv 7 rfl ⟨.int .u8 0, fun w' hl => (run_get 5 _ rfl b1 78 rfl Tryz.underlying5 rfl (.int .u8 0) (((HR1.out.later hl).cell 78 (by decide)).trans (by rw [HTu.out]; rfl))), ?_⟩
        simp only [Act.put, pa, pb, pc]
        refine lw 8 rfl ?_
        simp only [Act.put, pa, pb, pc]
        refine lw 9 rfl ?_
        simp only [Act.put, pa, pb, pc]
        refine lw 10 rfl ?_
        simp only [Act.put, pa, pb, pc]
        refine lw 11 rfl ?_
        simp only [Act.put, pa, pb, pc]
        refine lw 12 rfl ?_
        simp only [Act.put, pa, pb, pc]
        refine lw 13 rfl ?_
        simp only [Act.put, pa, pb, pc]
        refine late_end (by kernel_rfl) (fun wn hl => ?_)
        have HR5 := H_ (HR5.out.later hl); have HR1 := H_ (HR1.out.later hl); have HE := H_ (HE.out.later hl); have HB := H_ (below_on HB.out hl); clear hl
        go_wp2_with fail
        go_roundw
        case rel => exact ⟨j + 1, by have := HJ6.out; omega, by go_num, by rw [HS7.out, H7.out]; simp [u8w0, u8w1, u8w6, u8w8, u8w14], by rw [HS8.out, H8.out]; simp [u8w0, u8w1, u8w6, u8w8, u8w14], HR5.out, HR1.out, HE.out, HB.out⟩
        case measure => simp [intOf]; have := HJ6.out; omega
       ·go_wp2_with fail
        refine late_begin 13 (by kernel_rfl) ?_
        refine lw 0 rfl ?_
        simp only [Act.put, pa, pb, pc]
        refine lw 1 rfl ?_
        simp only [Act.put, pa, pb, pc]
        refine lw 2 rfl ?_
        simp only [Act.put, pa, pb, pc]
        refine lw 3 rfl ?_
        simp only [Act.put, pa, pb, pc]
        refine lw 4 rfl ?_
        simp only [Act.put, pa, pb, pc]
        refine lv 5 rfl ⟨.int .u8 (q (1 + j)), fun w' hl => (run_get 5 _ rfl b5 (1 + j) rfl Tryz.underlying5 rfl (.int .u8 (q (1 + j))) (((HR5.out.later hl).cell (1 + j) HJ.out).trans (by rw [kAt_board (Nat.zero_le _) (by have := HJ.out; omega)]))), ?_⟩
        simp only [Act.put, pa, pb, pc]
        refine lw 6 rfl ?_
        simp only [Act.put, pa, pb, pc]
        refine lv 7 rfl ⟨.int .u8 0, fun w' hl => (run_get 5 _ rfl b1 78 rfl Tryz.underlying5 rfl (.int .u8 0) (((HR1.out.later hl).cell 78 (by decide)).trans (by rw [HTu.out]; rfl))), ?_⟩
        simp only [Act.put, pa, pb, pc]
        refine lw 8 rfl ?_
        simp only [Act.put, pa, pb, pc]
        refine lw 9 rfl ?_
        simp only [Act.put, pa, pb, pc]
        refine lw 10 rfl ?_
        simp only [Act.put, pa, pb, pc]
        refine lw 11 rfl ?_
        simp only [Act.put, pa, pb, pc]
        refine lw 12 rfl ?_
        simp only [Act.put, pa, pb, pc]
        refine late_end (by kernel_rfl) (fun wn hl => ?_)
        have HR5 := H_ (HR5.out.later hl); have HR1 := H_ (HR1.out.later hl); have HE := H_ (HE.out.later hl); have HB := H_ (below_on HB.out hl); clear hl
        go_wp2_with fail
        refine late_begin 14 (by kernel_rfl) ?_
        refine lw 0 rfl ?_
        simp only [Act.put, pa, pb, pc]
        refine lw 1 rfl ?_
        simp only [Act.put, pa, pb, pc]
        refine lo 2 rfl ?_
        simp only [Act.put, pa, pb, pc]
        refine lo 3 rfl ?_
        simp only [Act.put, pa, pb, pc]
        refine lo 4 rfl ?_
        simp only [Act.put, pa, pb, pc]
        refine lo 5 rfl ?_
        simp only [Act.put, pa, pb, pc]
        refine lo 6 rfl ?_
        simp only [Act.put, pa, pb, pc]
        refine lo 7 rfl ?_
        simp only [Act.put, pa, pb, pc]
        refine lo 8 rfl ?_
        simp only [Act.put, pa, pb, pc]
        refine lo 9 rfl ?_
        simp only [Act.put, pa, pb, pc]
        refine lo 10 rfl ?_
        simp only [Act.put, pa, pb, pc]
        refine lo 11 rfl ?_
        simp only [Act.put, pa, pb, pc]
        refine lw 12 rfl ?_
        simp only [Act.put, pa, pb, pc]
        refine lw 13 rfl ?_
        simp only [Act.put, pa, pb, pc]
        refine late_end (by kernel_rfl) (fun wn hl => ?_)
        have HR5 := H_ (HR5.out.later hl); have HR1 := H_ (HR1.out.later hl); have HE := H_ (HE.out.later hl); have HB := H_ (below_on HB.out hl); clear hl
        go_wp2_with fail
        go_roundw
        case rel => exact ⟨j + 1, by have := HJ6.out; omega, by go_num, by rw [HS7.out, H7.out]; simp [u8w0, u8w1, u8w6, u8w8, u8w14], by rw [HS8.out, H8.out]; simp [u8w0, u8w1, u8w6, u8w8, u8w14], HR5.out, HR1.out, HE.out, HB.out⟩
        case measure => simp [intOf]; have := HJ6.out; omega
       ·go_wp2_with fail
        refine late_begin 13 (by kernel_rfl) ?_
        refine lw 0 rfl ?_
        simp only [Act.put, pa, pb, pc]
        refine lw 1 rfl ?_
        simp only [Act.put, pa, pb, pc]
        refine lo 2 rfl ?_
        simp only [Act.put, pa, pb, pc]
        refine lo 3 rfl ?_
        simp only [Act.put, pa, pb, pc]
        refine lo 4 rfl ?_
        simp only [Act.put, pa, pb, pc]
        refine lo 5 rfl ?_
        simp only [Act.put, pa, pb, pc]
        refine lo 6 rfl ?_
        simp only [Act.put, pa, pb, pc]
        refine lo 7 rfl ?_
        simp only [Act.put, pa, pb, pc]
        refine lo 8 rfl ?_
        simp only [Act.put, pa, pb, pc]
        refine lo 9 rfl ?_
        simp only [Act.put, pa, pb, pc]
        refine lo 10 rfl ?_
        simp only [Act.put, pa, pb, pc]
        refine lw 11 rfl ?_
        simp only [Act.put, pa, pb, pc]
        refine lw 12 rfl ?_
        simp only [Act.put, pa, pb, pc]
        refine late_end (by kernel_rfl) (fun wn hl => ?_)
        have HR5 := H_ (HR5.out.later hl); have HR1 := H_ (HR1.out.later hl); have HE := H_ (HE.out.later hl); have HB := H_ (below_on HB.out hl); clear hl
        go_wp2_with fail
        refine late_begin 14 (by kernel_rfl) ?_
        refine lw 0 rfl ?_
        simp only [Act.put, pa, pb, pc]
        refine lw 1 rfl ?_
        simp only [Act.put, pa, pb, pc]
        refine lw 2 rfl ?_
        simp only [Act.put, pa, pb, pc]
        refine lw 3 rfl ?_
        simp only [Act.put, pa, pb, pc]
        refine lw 4 rfl ?_
        simp only [Act.put, pa, pb, pc]
        refine lv 5 rfl ⟨.int .u8 (q (1 + j)), fun w' hl => (run_get 5 _ rfl b5 (1 + j) rfl Tryz.underlying5 rfl (.int .u8 (q (1 + j))) (((HR5.out.later hl).cell (1 + j) HJ.out).trans (by rw [kAt_board (Nat.zero_le _) (by have := HJ.out; omega)]))), ?_⟩
        simp only [Act.put, pa, pb, pc]
        refine lw 6 rfl ?_
        simp only [Act.put, pa, pb, pc]
        refine lv 7 rfl ⟨.int .u8 0, fun w' hl => (run_get 5 _ rfl b1 78 rfl Tryz.underlying5 rfl (.int .u8 0) (((HR1.out.later hl).cell 78 (by decide)).trans (by rw [HTu.out]; rfl))), ?_⟩
        simp only [Act.put, pa, pb, pc]
        refine lw 8 rfl ?_
        simp only [Act.put, pa, pb, pc]
        refine lw 9 rfl ?_
        simp only [Act.put, pa, pb, pc]
        refine lw 10 rfl ?_
        simp only [Act.put, pa, pb, pc]
        refine lw 11 rfl ?_
        simp only [Act.put, pa, pb, pc]
        refine lw 12 rfl ?_
        simp only [Act.put, pa, pb, pc]
        refine lw 13 rfl ?_
        simp only [Act.put, pa, pb, pc]
        refine late_end (by kernel_rfl) (fun wn hl => ?_)
        have HR5 := H_ (HR5.out.later hl); have HR1 := H_ (HR1.out.later hl); have HE := H_ (HE.out.later hl); have HB := H_ (below_on HB.out hl); clear hl
        go_wp2_with fail
        go_roundw
        case rel => exact ⟨j + 1, by have := HJ6.out; omega, by go_num, by rw [HS7.out, H7.out]; simp [u8w0, u8w1, u8w6, u8w8, u8w14], by rw [HS8.out, H8.out]; simp [u8w0, u8w1, u8w6, u8w8, u8w14], HR5.out, HR1.out, HE.out, HB.out⟩
        case measure => simp [intOf]; have := HJ6.out; omega
       ·go_wp2_with fail
        refine late_begin 13 (by kernel_rfl) ?_
        refine lw 0 rfl ?_
        simp only [Act.put, pa, pb, pc]
        refine lw 1 rfl ?_
        simp only [Act.put, pa, pb, pc]
        refine lo 2 rfl ?_
        simp only [Act.put, pa, pb, pc]
        refine lo 3 rfl ?_
        simp only [Act.put, pa, pb, pc]
        refine lo 4 rfl ?_
        simp only [Act.put, pa, pb, pc]
        refine lo 5 rfl ?_
        simp only [Act.put, pa, pb, pc]
        refine lo 6 rfl ?_
        simp only [Act.put, pa, pb, pc]
        refine lo 7 rfl ?_
        simp only [Act.put, pa, pb, pc]
        refine lo 8 rfl ?_
        simp only [Act.put, pa, pb, pc]
        refine lo 9 rfl ?_
        simp only [Act.put, pa, pb, pc]
        refine lo 10 rfl ?_
        simp only [Act.put, pa, pb, pc]
        refine lw 11 rfl ?_
        simp only [Act.put, pa, pb, pc]
        refine lw 12 rfl ?_
        simp only [Act.put, pa, pb, pc]
        refine late_end (by kernel_rfl) (fun wn hl => ?_)
        have HR5 := H_ (HR5.out.later hl); have HR1 := H_ (HR1.out.later hl); have HE := H_ (HE.out.later hl); have HB := H_ (below_on HB.out hl); clear hl
        go_wp2_with fail
        refine late_begin 14 (by kernel_rfl) ?_
        refine lw 0 rfl ?_
        simp only [Act.put, pa, pb, pc]
        refine lw 1 rfl ?_
        simp only [Act.put, pa, pb, pc]
        refine lo 2 rfl ?_
        simp only [Act.put, pa, pb, pc]
        refine lo 3 rfl ?_
        simp only [Act.put, pa, pb, pc]
        refine lo 4 rfl ?_
        simp only [Act.put, pa, pb, pc]
        refine lo 5 rfl ?_
        simp only [Act.put, pa, pb, pc]
        refine lo 6 rfl ?_
        simp only [Act.put, pa, pb, pc]
        refine lo 7 rfl ?_
        simp only [Act.put, pa, pb, pc]
        refine lo 8 rfl ?_
        simp only [Act.put, pa, pb, pc]
        refine lo 9 rfl ?_
        simp only [Act.put, pa, pb, pc]
        refine lo 10 rfl ?_
        simp only [Act.put, pa, pb, pc]
        refine lo 11 rfl ?_
        simp only [Act.put, pa, pb, pc]
        refine lw 12 rfl ?_
        simp only [Act.put, pa, pb, pc]
        refine lw 13 rfl ?_
        simp only [Act.put, pa, pb, pc]
        refine late_end (by kernel_rfl) (fun wn hl => ?_)
        have HR5 := H_ (HR5.out.later hl); have HR1 := H_ (HR1.out.later hl); have HE := H_ (HE.out.later hl); have HB := H_ (below_on HB.out hl); clear hl
        go_wp2_with fail
        go_roundw
        case rel => exact ⟨j + 1, by have := HJ6.out; omega, by go_num, by rw [HS7.out, H7.out]; simp [u8w0, u8w1, u8w6, u8w8, u8w14], by rw [HS8.out, H8.out]; simp [u8w0, u8w1, u8w6, u8w8, u8w14], HR5.out, HR1.out, HE.out, HB.out⟩
        case measure => simp [intOf]; have := HJ6.out; omega
      ·obtain rfl : j = 64 := by omega
       have HM7 := H_ (show anyK q 6 64 = hkB q 0 by have h := hk_any (q := q) (t := 0) (by decide); simpa using h.symm)
       have HM8 := H_ (show anyK q 14 64 = hkB q 1 by have h := hk_any (q := q) (t := 1) (by decide); simpa using h.symm)
       have HO := H_ (show oth 0 = 1 by decide)
       have hkg := HKg.out
       rw [HO.out] at hkg
       obtain ⟨r, hr⟩ : ∃ r, ryB v.toNat (0 : Int).toNat = r := ⟨_, rfl⟩
       obtain ⟨ka, hka⟩ : ∃ x, chkB q 0 = x := ⟨_, rfl⟩
       obtain ⟨kb, hkb⟩ : ∃ x, chkB q 1 = x := ⟨_, rfl⟩
       rw [hr, hka, hkb] at hkg
       have HRy := H_ hr
       have HCa := H_ hka
       have HCb := H_ hkb
       obtain ⟨hkg1, hkg2⟩ := hkg
       obtain ⟨f7, h7⟩ : ∃ f, anyK q 6 64 = f := ⟨_, rfl⟩
       obtain ⟨f8, h8⟩ : ∃ f, anyK q 14 64 = f := ⟨_, rfl⟩
       rw [← HM7.out, ← HM8.out, h7, h8] at hkg1
       rw [h7, h8]
       clear h7 h8 hr hka hkb
       cases r
       ·clear hkg1
        cases g8 : (v == 8)
        ·clear hkg2
         go_wp2_with (first
           | (guard_target = gL 63; refine step_get rfl 5 _ rfl b1 0 rfl Tryz.underlying5 rfl (.int .u8 v) ?_ ?_; exact (HR1.out.cell 0 (by decide)).trans (by rw [HVv.out]; rfl))
           | (guard_target = gL 65; refine step_get rfl 5 _ rfl b1 78 rfl Tryz.underlying5 rfl (.int .u8 0) ?_ ?_; exact (HR1.out.cell 78 (by decide)).trans (by rw [HTu.out]; rfl))
           | (guard_target = gL 73; refine step_get rfl 5 _ rfl b1 78 rfl Tryz.underlying5 rfl (.int .u8 0) ?_ ?_; exact (HR1.out.cell 78 (by decide)).trans (by rw [HTu.out]; rfl))
           | (go_at_call 14; refine (royalI HRy.out _ HV.out (by decide) (HT.out.on HB.out).var).mono ?_; rintro e w3 ⟨rfl, hb⟩; have HR5 := H_ (HR5.out.later hb); have HR1 := H_ (HR1.out.later hb); have HE := H_ (HE.out.later hb); have HB := H_ (below_on HB.out hb); clear hb)
           | (guard_target = gL 5; refine step_load rfl _ rfl b5 rfl q HR5.out ?_)
           | (go_at_call 15; guard_target = Go.Calls _ _ #[_, Go.Value.int _ 0] _ _; refine (checkK HCa.out _ HW.out (by decide) (HT.out.on HB.out)).mono ?_; rintro e w3 ⟨rfl, hb⟩; have HR5 := H_ (HR5.out.later hb); have HR1 := H_ (HR1.out.later hb); have HE := H_ (HE.out.later hb); have HB := H_ (below_on HB.out hb); clear hb)
           | (guard_target = gL 77; refine step_get rfl 5 _ rfl b1 0 rfl Tryz.underlying5 rfl (.int .u8 v) ?_ ?_; exact (HR1.out.cell 0 (by decide)).trans (by rw [HVv.out]; rfl))
           | (guard_target = gL 87; refine step_get rfl 5 _ rfl b1 0 rfl Tryz.underlying5 rfl (.int .u8 v) ?_ ?_; exact (HR1.out.cell 0 (by decide)).trans (by rw [HVv.out]; rfl)))
         go_roundw
         case rel => exact ⟨k + 1, by have := Hlt.out; omega, by go_num, HE.out, HR1.out, HB.out⟩
         case measure => simp [intOf]; have := Hlt.out; omega
        ·obtain ⟨rfl, rfl⟩ := hkg2 (beq_iff_eq.1 g8)
         go_wp2_with (first
           | (guard_target = gL 63; refine step_get rfl 5 _ rfl b1 0 rfl Tryz.underlying5 rfl (.int .u8 v) ?_ ?_; exact (HR1.out.cell 0 (by decide)).trans (by rw [HVv.out]; rfl))
           | (guard_target = gL 65; refine step_get rfl 5 _ rfl b1 78 rfl Tryz.underlying5 rfl (.int .u8 0) ?_ ?_; exact (HR1.out.cell 78 (by decide)).trans (by rw [HTu.out]; rfl))
           | (guard_target = gL 73; refine step_get rfl 5 _ rfl b1 78 rfl Tryz.underlying5 rfl (.int .u8 0) ?_ ?_; exact (HR1.out.cell 78 (by decide)).trans (by rw [HTu.out]; rfl))
           | (go_at_call 14; refine (royalI HRy.out _ HV.out (by decide) (HT.out.on HB.out).var).mono ?_; rintro e w3 ⟨rfl, hb⟩; have HR5 := H_ (HR5.out.later hb); have HR1 := H_ (HR1.out.later hb); have HE := H_ (HE.out.later hb); have HB := H_ (below_on HB.out hb); clear hb)
           | (guard_target = gL 5; refine step_load rfl _ rfl b5 rfl q HR5.out ?_)
           | (go_at_call 15; guard_target = Go.Calls _ _ #[_, Go.Value.int _ 0] _ _; refine (checkK HCa.out _ HW.out (by decide) (HT.out.on HB.out)).mono ?_; rintro e w3 ⟨rfl, hb⟩; have HR5 := H_ (HR5.out.later hb); have HR1 := H_ (HR1.out.later hb); have HE := H_ (HE.out.later hb); have HB := H_ (below_on HB.out hb); clear hb)
           | (go_at_call 15; guard_target = Go.Calls _ _ #[_, Go.Value.int _ 1] _ _; refine (checkK HCb.out _ HW.out (by decide) (HT.out.on HB.out)).mono ?_; rintro e w3 ⟨rfl, hb⟩; have HR5 := H_ (HR5.out.later hb); have HR1 := H_ (HR1.out.later hb); have HE := H_ (HE.out.later hb); have HB := H_ (below_on HB.out hb); clear hb)
           | (guard_target = gL 77; refine step_get rfl 5 _ rfl b1 0 rfl Tryz.underlying5 rfl (.int .u8 v) ?_ ?_; exact (HR1.out.cell 0 (by decide)).trans (by rw [HVv.out]; rfl))
           | (guard_target = gL 87; refine step_get rfl 5 _ rfl b1 0 rfl Tryz.underlying5 rfl (.int .u8 v) ?_ ?_; exact (HR1.out.cell 0 (by decide)).trans (by rw [HVv.out]; rfl)))
         go_roundw
         case rel => exact ⟨k + 1, by have := Hlt.out; omega, by go_num, HE.out, HR1.out, HB.out⟩
         case measure => simp [intOf]; have := Hlt.out; omega
       ·obtain ⟨rfl, hk3⟩ := hkg1 rfl
        cases ka
        ·clear hk3
         cases g8 : (v == 8)
         ·clear hkg2
          go_wp2_with (first
            | (guard_target = gL 63; refine step_get rfl 5 _ rfl b1 0 rfl Tryz.underlying5 rfl (.int .u8 v) ?_ ?_; exact (HR1.out.cell 0 (by decide)).trans (by rw [HVv.out]; rfl))
            | (guard_target = gL 65; refine step_get rfl 5 _ rfl b1 78 rfl Tryz.underlying5 rfl (.int .u8 0) ?_ ?_; exact (HR1.out.cell 78 (by decide)).trans (by rw [HTu.out]; rfl))
            | (guard_target = gL 73; refine step_get rfl 5 _ rfl b1 78 rfl Tryz.underlying5 rfl (.int .u8 0) ?_ ?_; exact (HR1.out.cell 78 (by decide)).trans (by rw [HTu.out]; rfl))
            | (go_at_call 14; refine (royalI HRy.out _ HV.out (by decide) (HT.out.on HB.out).var).mono ?_; rintro e w3 ⟨rfl, hb⟩; have HR5 := H_ (HR5.out.later hb); have HR1 := H_ (HR1.out.later hb); have HE := H_ (HE.out.later hb); have HB := H_ (below_on HB.out hb); clear hb)
            | (guard_target = gL 5; refine step_load rfl _ rfl b5 rfl q HR5.out ?_)
            | (go_at_call 15; guard_target = Go.Calls _ _ #[_, Go.Value.int _ 0] _ _; refine (checkK HCa.out _ HW.out (by decide) (HT.out.on HB.out)).mono ?_; rintro e w3 ⟨rfl, hb⟩; have HR5 := H_ (HR5.out.later hb); have HR1 := H_ (HR1.out.later hb); have HE := H_ (HE.out.later hb); have HB := H_ (below_on HB.out hb); clear hb)
            | (guard_target = gL 77; refine step_get rfl 5 _ rfl b1 0 rfl Tryz.underlying5 rfl (.int .u8 v) ?_ ?_; exact (HR1.out.cell 0 (by decide)).trans (by rw [HVv.out]; rfl))
            | (guard_target = gL 87; refine step_get rfl 5 _ rfl b1 0 rfl Tryz.underlying5 rfl (.int .u8 v) ?_ ?_; exact (HR1.out.cell 0 (by decide)).trans (by rw [HVv.out]; rfl)))
          go_roundw
          case rel => exact ⟨k + 1, by have := Hlt.out; omega, by go_num, HE.out, HR1.out, HB.out⟩
          case measure => simp [intOf]; have := Hlt.out; omega
         ·have hz := hkg2 (beq_iff_eq.1 g8)
          have hz2 : kb = false := by first | exact hz.1 | exact hz.2
          subst hz2
          clear hz hkg2
          go_wp2_with (first
            | (guard_target = gL 63; refine step_get rfl 5 _ rfl b1 0 rfl Tryz.underlying5 rfl (.int .u8 v) ?_ ?_; exact (HR1.out.cell 0 (by decide)).trans (by rw [HVv.out]; rfl))
            | (guard_target = gL 65; refine step_get rfl 5 _ rfl b1 78 rfl Tryz.underlying5 rfl (.int .u8 0) ?_ ?_; exact (HR1.out.cell 78 (by decide)).trans (by rw [HTu.out]; rfl))
            | (guard_target = gL 73; refine step_get rfl 5 _ rfl b1 78 rfl Tryz.underlying5 rfl (.int .u8 0) ?_ ?_; exact (HR1.out.cell 78 (by decide)).trans (by rw [HTu.out]; rfl))
            | (go_at_call 14; refine (royalI HRy.out _ HV.out (by decide) (HT.out.on HB.out).var).mono ?_; rintro e w3 ⟨rfl, hb⟩; have HR5 := H_ (HR5.out.later hb); have HR1 := H_ (HR1.out.later hb); have HE := H_ (HE.out.later hb); have HB := H_ (below_on HB.out hb); clear hb)
            | (guard_target = gL 5; refine step_load rfl _ rfl b5 rfl q HR5.out ?_)
            | (go_at_call 15; guard_target = Go.Calls _ _ #[_, Go.Value.int _ 0] _ _; refine (checkK HCa.out _ HW.out (by decide) (HT.out.on HB.out)).mono ?_; rintro e w3 ⟨rfl, hb⟩; have HR5 := H_ (HR5.out.later hb); have HR1 := H_ (HR1.out.later hb); have HE := H_ (HE.out.later hb); have HB := H_ (below_on HB.out hb); clear hb)
            | (go_at_call 15; guard_target = Go.Calls _ _ #[_, Go.Value.int _ 1] _ _; refine (checkK HCb.out _ HW.out (by decide) (HT.out.on HB.out)).mono ?_; rintro e w3 ⟨rfl, hb⟩; have HR5 := H_ (HR5.out.later hb); have HR1 := H_ (HR1.out.later hb); have HE := H_ (HE.out.later hb); have HB := H_ (below_on HB.out hb); clear hb)
            | (guard_target = gL 77; refine step_get rfl 5 _ rfl b1 0 rfl Tryz.underlying5 rfl (.int .u8 v) ?_ ?_; exact (HR1.out.cell 0 (by decide)).trans (by rw [HVv.out]; rfl))
            | (guard_target = gL 87; refine step_get rfl 5 _ rfl b1 0 rfl Tryz.underlying5 rfl (.int .u8 v) ?_ ?_; exact (HR1.out.cell 0 (by decide)).trans (by rw [HVv.out]; rfl)))
          go_roundw
          case rel => exact ⟨k + 1, by have := Hlt.out; omega, by go_num, HE.out, HR1.out, HB.out⟩
          case measure => simp [intOf]; have := Hlt.out; omega
        ·obtain ⟨hp3, rfl⟩ := hk3 rfl
         subst hp3
         clear hkg2
         go_wp2_with (first
           | (guard_target = gL 63; refine step_get rfl 5 _ rfl b1 0 rfl Tryz.underlying5 rfl (.int .u8 3) ?_ ?_; exact (HR1.out.cell 0 (by decide)).trans (by rw [HVv.out]; rfl))
           | (guard_target = gL 65; refine step_get rfl 5 _ rfl b1 78 rfl Tryz.underlying5 rfl (.int .u8 0) ?_ ?_; exact (HR1.out.cell 78 (by decide)).trans (by rw [HTu.out]; rfl))
           | (guard_target = gL 73; refine step_get rfl 5 _ rfl b1 78 rfl Tryz.underlying5 rfl (.int .u8 0) ?_ ?_; exact (HR1.out.cell 78 (by decide)).trans (by rw [HTu.out]; rfl))
           | (go_at_call 14; refine (royalI HRy.out _ HV.out (by decide) (HT.out.on HB.out).var).mono ?_; rintro e w3 ⟨rfl, hb⟩; have HR5 := H_ (HR5.out.later hb); have HR1 := H_ (HR1.out.later hb); have HE := H_ (HE.out.later hb); have HB := H_ (below_on HB.out hb); clear hb)
           | (guard_target = gL 5; refine step_load rfl _ rfl b5 rfl q HR5.out ?_)
           | (go_at_call 15; guard_target = Go.Calls _ _ #[_, Go.Value.int _ 0] _ _; refine (checkK HCa.out _ HW.out (by decide) (HT.out.on HB.out)).mono ?_; rintro e w3 ⟨rfl, hb⟩; have HR5 := H_ (HR5.out.later hb); have HR1 := H_ (HR1.out.later hb); have HE := H_ (HE.out.later hb); have HB := H_ (below_on HB.out hb); clear hb)
           | (guard_target = gL 77; refine step_get rfl 5 _ rfl b1 0 rfl Tryz.underlying5 rfl (.int .u8 3) ?_ ?_; exact (HR1.out.cell 0 (by decide)).trans (by rw [HVv.out]; rfl))
           | (guard_target = gL 87; refine step_get rfl 5 _ rfl b1 0 rfl Tryz.underlying5 rfl (.int .u8 3) ?_ ?_; exact (HR1.out.cell 0 (by decide)).trans (by rw [HVv.out]; rfl)))
         go_roundw
         case rel => exact ⟨k + 1, by have := Hlt.out; omega, by go_num, HE.out, HR1.out, HB.out⟩
         case measure => simp [intOf]; have := Hlt.out; omega
   ·go_wp2_with (first
     | (go_at_call 11; refine (lg_awake _ (HT.out.on HB.out) (HK.out.on HB.out)).mono ?_; rintro e w3 ⟨rfl, hb⟩; have HB := H_ (below_on HB.out hb); clear hb))
    go_ret
    exact ⟨rfl, HB.out⟩
theorem walk_1 (p : Nat → Int) (w0 : WfP p) (ht : p 78 = 1) (w : World) (hD : TabDb w) (hL : TabLead w) (hV : TabVar w) (hKn : TabKn w) (hG : TabGl w) : Calls Tryz.prog 4 #[.agg (posA p)] w fun e w' => e = .returned (.bool true) ∧ Below w.heap.size w w' := by
 have HT := H_ (show CsT w from ⟨hD, hL, hV, hG⟩)
 have HK := H_ hKn
 have HP := H_ w0
 have HTu := H_ ht
 have hv0 := (AtR.of w0).var
 obtain ⟨v, hv⟩ : ∃ v, p 0 = v := ⟨_, rfl⟩
 have HVv := H_ hv
 rw [hv] at hv0
 have HV := H_ hv0
 obtain ⟨L, hL0⟩ : ∃ L, lsL p = L := ⟨_, rfl⟩
 have HL := H_ hL0
 have HLn := H_ (show L.length ≤ 1000000 by rw [← hL0]; exact ls_len p)
 have HMem := H_ (show ∀ m, m ∈ L → m ∈ lsL p by rw [hL0]; exact fun m h => h)
 clear hD hL hV hKn hG w0 hL0 ht hv hv0
 have HB := H_ (Below.refl w.heap.size w)
 go_enter Tryz.func4, Tryz.ntmps4
 go_wp2_with (first
   | (guard_target = gB 1; refine step_box rfl _ rfl p rfl ?_; intro b1 w1 N R; have HG1 := H_ (nA HB.out N); have HB := H_ (below_on HB.out N.below); have HR1 := H_ R; clear N R)
   | (guard_target = gL 1; refine step_load rfl _ rfl b1 rfl p HR1.out ?_))
 refine (lg_lawful p _ HP.out).mono ?_; rintro e w3 ⟨b, rfl, hb⟩; have HR1 := H_ (HR1.out.later hb); have HB := H_ (below_on HB.out hb); clear hb
 cases b
 ·go_wp2_with (first
   | (go_at_call 11; refine (lg_awake _ (HT.out.on HB.out) (HK.out.on HB.out)).mono ?_; rintro e w3 ⟨rfl, hb⟩; have HB := H_ (below_on HB.out hb); clear hb))
  go_ret
  exact ⟨rfl, HB.out⟩
 ·go_wp2_with (first
   | (guard_target = gL 1; refine step_load rfl _ rfl b1 rfl p HR1.out ?_)
   | (go_at_call 9; refine (lg_list p _ HP.out (HT.out.on HB.out)).mono ?_; rintro e w3 ⟨v, rfl, hv, hb⟩; rw [HL.out] at hv; obtain ⟨a3, c3, rfl, hE⟩ := mvs_of hv; have HE := H_ hE; have HR1 := H_ (HR1.out.later hb); have HB := H_ (below_on HB.out hb); clear hb hv hE))
  go_loopw [4] (fun i wr => ∃ k : Nat, k ≤ L.length ∧ i = .int .i64 (k : Int) ∧ Mvs L a3 wr ∧ Row wr b1 p ∧ Below w.heap.size w wr) (fun i _ => L.length - (intOf i).toNat)
  case atStart => exact ⟨0, by omega, rfl, HE.out, HR1.out, HB.out⟩
  case round =>
   clear HE HR1 HB
   obtain ⟨k, hk, rfl, he, hr1, hb⟩ := hrel
   have HE := H_ he
   have HR1 := H_ hr1
   have HB := H_ hb
   clear he hr1 hb
   by_cases hlt : k < L.length
   ·obtain ⟨m, hm⟩ : ∃ m, L[k]? = some m := ⟨_, List.getElem?_eq_getElem hlt⟩
    obtain ⟨g, rfl, _⟩ := HE.out.at hm
    have HX := H_ hm
    have hmem := HMem.out m (List.mem_of_getElem? hm)
    have HFit := H_ (ls_fit HP.out hmem)
    have HMb := H_ (ls_wel hmem).1
    have hkg := ls_kings HP.out hmem HTu.out
    rw [HVv.out] at hkg
    have hw1 : (k : Int) < 1000000 := by have := HLn.out; omega
    have hwf := mov_wf HP.out m
    obtain ⟨q, hq⟩ : ∃ q, movP p m = q := ⟨_, rfl⟩
    rw [hq] at hkg hwf
    have HQ := H_ hq
    have HW := H_ hwf
    have HKg := H_ hkg
    have Hlt := H_ hlt
    clear hm hmem hq hkg hwf hlt
    have hlt : (k : Int) < (L.length : Int) := by have := Hlt.out; omega
    go_upto_region 7 with fail
    go_cut [5, 6] (fun s5 s6 wx => ∃ b5, s5 = .pointer (some ⟨b5, 0, none⟩) ∧ s6 = .bool true ∧ w.heap.size ≤ b5 ∧ b1 ≠ b5 ∧ Row wx b5 q ∧ Row wx b1 p ∧ Mvs L (some ⟨g, 0, none⟩) wx ∧ Below w.heap.size w wx)
    case first =>
     obtain ⟨wx0, hwx⟩ : ∃ wx0, wx0 = wr := ⟨_, rfl⟩
     have HW0 := H_ (show w.heap.size ≤ wx0.heap.size by rw [hwx]; exact HB.out.size)
     have HL1 := H_ (show b1 < wx0.heap.size by rw [hwx]; exact HR1.out.lt)
     have HLg := H_ (show g < wx0.heap.size by rw [hwx]; exact HE.out.lt HX.out)
     have HX0 := H_ (show Below wx0.heap.size wx0 wr by rw [hwx]; exact Below.refl _ _)
     clear hwx
     have HFm := H_ (by kernel_rfl : Tryz.prog.follows .mixedOrders = true)
     refine (wpIn_wide (n := 1)).1 ?_
     refine Wid.mid_begin (X := (wx0.heap.size ≤ ·)) HFm.out ?_
     refine Wid.mid_take 0 (by kernel_rfl) (by kernel_rfl) (by kernel_rfl) (by kernel_rfl) (by kernel_rfl) (fun _ _ d _ _ h => by cases d <;> exact h) (fun o ho => ?_)
     simp only [qa, qb, qc, qd] at ho; subst ho
     refine ⟨_, Or.inl ⟨by kernel_rfl, fun w' hl => run_load _ rfl _ rfl p (show Row w' b1 p from (hl.same b1 HR1.out.lt (Nat.not_le.2 HL1.out)).trans HR1.out)⟩, ?_⟩
     simp only [Act.put, pa, pb, pc]
     refine Wid.mid_take 1 (by kernel_rfl) (by kernel_rfl) (by kernel_rfl) (by kernel_rfl) (by kernel_rfl) (fun _ _ d _ _ h => by cases d <;> exact h) (fun o ho => ?_)
     simp only [qa, qb, qc, qd] at ho; subst ho
     apply Exists.intro
     refine ⟨Or.inl ⟨by kernel_rfl, fun w' hl => ?_⟩, ?_⟩
     ·(go_simp; try with_reducible rfl)
     simp only [Act.put, pa, pb, pc]
     refine Wid.mid_take 2 (by kernel_rfl) (by kernel_rfl) (by kernel_rfl) (by kernel_rfl) (by kernel_rfl) (fun _ _ d _ _ h => by cases d <;> exact h) (fun o ho => ?_)
     simp only [qa, qb, qc, qd] at ho; subst ho
     apply Exists.intro
     refine ⟨Or.inl ⟨by kernel_rfl, fun w' hl => ?_⟩, ?_⟩
     ·(go_simp; try with_reducible rfl)
     simp only [Act.put, pa, pb, pc]
     refine Wid.mid_take 3 (by kernel_rfl) (by kernel_rfl) (by kernel_rfl) (by kernel_rfl) (by kernel_rfl) (fun _ _ d _ _ h => by cases d <;> exact h) (fun o ho => ?_)
     simp only [qa, qb, qc, qd] at ho; subst ho
     refine ⟨.pointer (some ⟨g, k * 5, none⟩), Or.inl ⟨by kernel_rfl, fun w' hl => ?_⟩, ?_⟩
     ·(go_simp <;> (intro hbad; omega))
     simp only [Act.put, pa, pb, pc]
     refine Wid.mid_take 4 (by kernel_rfl) (by kernel_rfl) (by kernel_rfl) (by kernel_rfl) (by kernel_rfl) (fun _ _ d _ _ h => by cases d <;> exact h) (fun o ho => ?_)
     simp only [qa, qb, qc, qd] at ho; subst ho
     refine ⟨.agg (mvA m), Or.inl ⟨by kernel_rfl, fun w' hl => run_mvK _ rfl g k _ rfl (by first | omega | (simp; omega)) m ((HE.out.keptX hl (Nat.not_le.2 HLg.out)).get HX.out)⟩, ?_⟩
     simp only [Act.put, pa, pb, pc]
     refine mid_some [5, 9] (by kernel_rfl) (by kernel_rfl) (by simp) (by kernel_rfl) (fun i hi => ?_)
     simp only [List.mem_cons, List.not_mem_nil, or_false] at hi
     rcases hi with rfl | rfl
     ·intro o ho
      simp only [qa, qb, qc, qd] at ho; subst ho
      refine ⟨by kernel_rfl, fun wn hl Kx hKx => ?_⟩
      have HX0 := H_ (HX0.out.trans (hl.mono HX0.out.size))
      have HR1 := H_ (HR1.out.later hl); have HE := H_ (HE.out.later hl); have HB := H_ (below_on HB.out hl); clear hl
      refine Wid.mid_call _ _ (by go_simp; exact ⟨rfl, rfl⟩) ?_
      refine (moveQ HQ.out HMb.out _ HP.out HFit.out (HT.out.on HB.out)).mono ?_; rintro e wm ⟨rfl, hb⟩; refine ⟨_, rfl, ?_⟩
      refine hKx.out _ _ (Kept.of_call _ hb) ?_
      have HX0 := H_ (HX0.out.trans (hb.mono HX0.out.size))
      have HR1 := H_ (HR1.out.later hb); have HE := H_ (HE.out.later hb); have HB := H_ (below_on HB.out hb); clear hb
      clear hKx Kx
      simp only [Act.put, pa, pb, pc]
      refine Wid.mid_take 6 (by kernel_rfl) (by kernel_rfl) (by kernel_rfl) (by kernel_rfl) (by kernel_rfl) (fun _ _ d _ _ h => by cases d <;> exact h) (fun o ho => ?_)
      simp only [qa, qb, qc, qd] at ho; subst ho
      apply Exists.intro
      refine ⟨Or.inl ⟨by kernel_rfl, fun w' hl => ?_⟩, ?_⟩
      ·(go_simp; try with_reducible rfl)
      simp only [Act.put, pa, pb, pc]
      refine Wid.mid_take 7 (by kernel_rfl) (by kernel_rfl) (by kernel_rfl) (by kernel_rfl) (by kernel_rfl) (fun _ _ d _ _ h => by cases d <;> exact h) (fun o ho => ?_)
      simp only [qa, qb, qc, qd] at ho; subst ho
      apply Exists.intro
      refine ⟨Or.inl ⟨by kernel_rfl, fun w' hl => ?_⟩, ?_⟩
      ·(go_simp; try with_reducible rfl)
      simp only [Act.put, pa, pb, pc]
      refine Wid.mid_take 8 (by kernel_rfl) (by kernel_rfl) (by kernel_rfl) (by kernel_rfl) (by kernel_rfl) (fun _ _ d _ _ h => by cases d <;> exact h) (fun o ho => ?_)
      simp only [qa, qb, qc, qd] at ho; subst ho
      apply Exists.intro
      refine ⟨Or.inl ⟨by kernel_rfl, fun w' hl => ?_⟩, ?_⟩
      ·(go_simp; try with_reducible rfl)
      simp only [Act.put, pa, pb, pc]
      refine Wid.mid_one 9 (by kernel_rfl) (by kernel_rfl) (by kernel_rfl) (fun o ho => ?_)
      simp only [qa, qb, qc, qd] at ho; subst ho
      refine ⟨by kernel_rfl, fun wn hl Kx hKx => ?_⟩
      have HX0 := H_ (HX0.out.trans (hl.mono HX0.out.size))
      have HR1 := H_ (HR1.out.later hl); have HE := H_ (HE.out.later hl); have HB := H_ (below_on HB.out hl); clear hl
      refine mid_allocP rfl ?_; intro b5 wm N R
      have HD15 := H_ (show b1 ≠ b5 by have := HR1.out.lt; have := N.at_; omega)
      have HDg5 := H_ (show g ≠ b5 by have := HE.out.lt HX.out; have := N.at_; omega)
      have HG5 := H_ (show wx0.heap.size ≤ b5 by have := HX0.out.size; have := N.at_; omega)
      have hb := N.below
      have HRn := H_ R
      clear N R
      refine hKx.out _ _ (Kept.of_call _ hb) ?_
      have HX0 := H_ (HX0.out.trans (hb.mono HX0.out.size))
      have HR1 := H_ (HR1.out.later hb); have HE := H_ (HE.out.later hb); have HB := H_ (below_on HB.out hb); clear hb
      have HR5 := HRn; clear HRn
      clear hKx Kx
      simp only [Act.put, pa, pb, pc]
      refine Wid.mid_one 10 (by kernel_rfl) (by kernel_rfl) (by kernel_rfl) (fun o ho => ?_)
      simp only [qa, qb, qc, qd] at ho; subst ho
      refine ⟨by kernel_rfl, fun wn hl Kx hKx => ?_⟩
      have HR1 := H_ (HR1.out.later hl); have HE := H_ (HE.out.later hl); have HR5 := H_ (HR5.out.later hl); have HB := H_ (below_on HB.out hl); clear hl
      refine mid_storeP _ _ rfl b5 rfl zeroP q rfl HR5.out ?_; intro wm U R
      have HR1 := H_ (HR1.out.apart U HD15.out)
      have HE := H_ (HE.out.upd U HDg5.out)
      refine hKx.out _ _ (kept_updX U HG5.out) ?_
      have HR5 := H_ R; have HB := H_ (HB.out.trans (U.below (Nat.le_trans HW0.out HG5.out))); clear U R
      clear hKx Kx
      simp only [Act.put, pa, pb, pc]
      refine Wid.mid_take 11 (by kernel_rfl) (by kernel_rfl) (by kernel_rfl) (by kernel_rfl) (by kernel_rfl) (fun _ _ d _ _ h => by cases d <;> exact h) (fun o ho => ?_)
      simp only [qa, qb, qc, qd] at ho; subst ho
      apply Exists.intro
      refine ⟨Or.inl ⟨by kernel_rfl, fun w' hl => ?_⟩, ?_⟩
      ·(go_simp; try with_reducible rfl)
      simp only [Act.put, pa, pb, pc]
      refine Wid.mid_end (by kernel_rfl) (fun wn hl => ?_)
      have HR1 := H_ (HR1.out.later hl); have HE := H_ (HE.out.later hl); have HR5 := H_ (HR5.out.later hl); have HB := H_ (below_on HB.out hl); clear hl
      go_wp2_with fail
      go_meet
      case rel => exact ⟨b5, rfl, rfl, Nat.le_trans HW0.out HG5.out, HD15.out, HR5.out, HR1.out, HE.out, HB.out⟩
     ·intro o ho
      simp only [qa, qb, qc, qd] at ho; subst ho
      refine ⟨by kernel_rfl, fun wn hl Kx hKx => ?_⟩
      have HX0 := H_ (HX0.out.trans (hl.mono HX0.out.size))
      have HR1 := H_ (HR1.out.later hl); have HE := H_ (HE.out.later hl); have HB := H_ (below_on HB.out hl); clear hl
      refine mid_allocP rfl ?_; intro b5 wm N R
      have HD15 := H_ (show b1 ≠ b5 by have := HR1.out.lt; have := N.at_; omega)
      have HDg5 := H_ (show g ≠ b5 by have := HE.out.lt HX.out; have := N.at_; omega)
      have HG5 := H_ (show wx0.heap.size ≤ b5 by have := HX0.out.size; have := N.at_; omega)
      have hb := N.below
      have HRn := H_ R
      clear N R
      refine hKx.out _ _ (Kept.of_call _ hb) ?_
      have HX0 := H_ (HX0.out.trans (hb.mono HX0.out.size))
      have HR1 := H_ (HR1.out.later hb); have HE := H_ (HE.out.later hb); have HB := H_ (below_on HB.out hb); clear hb
      have HR5 := HRn; clear HRn
      clear hKx Kx
      simp only [Act.put, pa, pb, pc]
      refine Wid.mid_one 5 (by kernel_rfl) (by kernel_rfl) (by kernel_rfl) (fun o ho => ?_)
      simp only [qa, qb, qc, qd] at ho; subst ho
      refine ⟨by kernel_rfl, fun wn hl Kx hKx => ?_⟩
      have HX0 := H_ (HX0.out.trans (hl.mono HX0.out.size))
      have HR1 := H_ (HR1.out.later hl); have HE := H_ (HE.out.later hl); have HR5 := H_ (HR5.out.later hl); have HB := H_ (below_on HB.out hl); clear hl
      refine Wid.mid_call _ _ (by go_simp; exact ⟨rfl, rfl⟩) ?_
      refine (moveQ HQ.out HMb.out _ HP.out HFit.out (HT.out.on HB.out)).mono ?_; rintro e wm ⟨rfl, hb⟩; refine ⟨_, rfl, ?_⟩
      refine hKx.out _ _ (Kept.of_call _ hb) ?_
      have HX0 := H_ (HX0.out.trans (hb.mono HX0.out.size))
      have HR1 := H_ (HR1.out.later hb); have HE := H_ (HE.out.later hb); have HR5 := H_ (HR5.out.later hb); have HB := H_ (below_on HB.out hb); clear hb
      clear hKx Kx
      simp only [Act.put, pa, pb, pc]
      refine Wid.mid_take 6 (by kernel_rfl) (by kernel_rfl) (by kernel_rfl) (by kernel_rfl) (by kernel_rfl) (fun _ _ d _ _ h => by cases d <;> exact h) (fun o ho => ?_)
      simp only [qa, qb, qc, qd] at ho; subst ho
      apply Exists.intro
      refine ⟨Or.inl ⟨by kernel_rfl, fun w' hl => ?_⟩, ?_⟩
      ·(go_simp; try with_reducible rfl)
      simp only [Act.put, pa, pb, pc]
      refine Wid.mid_take 7 (by kernel_rfl) (by kernel_rfl) (by kernel_rfl) (by kernel_rfl) (by kernel_rfl) (fun _ _ d _ _ h => by cases d <;> exact h) (fun o ho => ?_)
      simp only [qa, qb, qc, qd] at ho; subst ho
      apply Exists.intro
      refine ⟨Or.inl ⟨by kernel_rfl, fun w' hl => ?_⟩, ?_⟩
      ·(go_simp; try with_reducible rfl)
      simp only [Act.put, pa, pb, pc]
      refine Wid.mid_take 8 (by kernel_rfl) (by kernel_rfl) (by kernel_rfl) (by kernel_rfl) (by kernel_rfl) (fun _ _ d _ _ h => by cases d <;> exact h) (fun o ho => ?_)
      simp only [qa, qb, qc, qd] at ho; subst ho
      apply Exists.intro
      refine ⟨Or.inl ⟨by kernel_rfl, fun w' hl => ?_⟩, ?_⟩
      ·(go_simp; try with_reducible rfl)
      simp only [Act.put, pa, pb, pc]
      refine Wid.mid_one 10 (by kernel_rfl) (by kernel_rfl) (by kernel_rfl) (fun o ho => ?_)
      simp only [qa, qb, qc, qd] at ho; subst ho
      refine ⟨by kernel_rfl, fun wn hl Kx hKx => ?_⟩
      have HR1 := H_ (HR1.out.later hl); have HE := H_ (HE.out.later hl); have HR5 := H_ (HR5.out.later hl); have HB := H_ (below_on HB.out hl); clear hl
      refine mid_storeP _ _ rfl b5 rfl zeroP q rfl HR5.out ?_; intro wm U R
      have HR1 := H_ (HR1.out.apart U HD15.out)
      have HE := H_ (HE.out.upd U HDg5.out)
      refine hKx.out _ _ (kept_updX U HG5.out) ?_
      have HR5 := H_ R; have HB := H_ (HB.out.trans (U.below (Nat.le_trans HW0.out HG5.out))); clear U R
      clear hKx Kx
      simp only [Act.put, pa, pb, pc]
      refine Wid.mid_take 11 (by kernel_rfl) (by kernel_rfl) (by kernel_rfl) (by kernel_rfl) (by kernel_rfl) (fun _ _ d _ _ h => by cases d <;> exact h) (fun o ho => ?_)
      simp only [qa, qb, qc, qd] at ho; subst ho
      apply Exists.intro
      refine ⟨Or.inl ⟨by kernel_rfl, fun w' hl => ?_⟩, ?_⟩
      ·(go_simp; try with_reducible rfl)
      simp only [Act.put, pa, pb, pc]
      refine Wid.mid_end (by kernel_rfl) (fun wn hl => ?_)
      have HR1 := H_ (HR1.out.later hl); have HE := H_ (HE.out.later hl); have HR5 := H_ (HR5.out.later hl); have HB := H_ (below_on HB.out hl); clear hl
      go_wp2_with fail
      go_meet
      case rel => exact ⟨b5, rfl, rfl, Nat.le_trans HW0.out HG5.out, HD15.out, HR5.out, HR1.out, HE.out, HB.out⟩
    case rest =>
     obtain ⟨b5, rfl, rfl, hg5, hd15, hr5, hr1, he, hb⟩ := hcut
     have HG5 := H_ hg5
     have HD15 := H_ hd15
     have HR5 := H_ hr5
     have HR1 := H_ hr1
     have HE := H_ he
     have HB := H_ hb
     clear hg5 hd15 hr5 hr1 he hb
     go_wp2_with fail
     go_loopw [7, 8, 9] (fun s7 s8 s9 wr => ∃ j : Nat, j ≤ 64 ∧ s9 = .int .i64 (j : Int) ∧ s7 = .bool (anyK q 14 j) ∧ s8 = .bool (anyK q 6 j) ∧ Row wr b5 q ∧ Row wr b1 p ∧ Mvs L (some ⟨g, 0, none⟩) wr ∧ Below w.heap.size w wr) (fun _ _ s9 _ => 64 - (intOf s9).toNat)
     case atStart => exact ⟨0, by omega, rfl, rfl, rfl, HR5.out, HR1.out, HE.out, HB.out⟩
     case round =>
      clear HR5 HR1 HE HB
      obtain ⟨j, hj, rfl, rfl, rfl, hr5, hr1, he, hb⟩ := hrel
      have HR5 := H_ hr5
      have HR1 := H_ hr1
      have HE := H_ he
      have HB := H_ hb
      clear hr5 hr1 he hb
      by_cases hj64 : j < 64
      ·have hji : (j : Int) < 64 := by omega
       have HJ := H_ (show 1 + j < 88 by omega)
       have HJ6 := H_ hj64
       clear hj64
       obtain ⟨f7, h7⟩ : ∃ f, anyK q 14 j = f := ⟨_, rfl⟩
       obtain ⟨f8, h8⟩ : ∃ f, anyK q 6 j = f := ⟨_, rfl⟩
       have HS7 := H_ (anyK_succ q 14 j)
       have HS8 := H_ (anyK_succ q 6 j)
       have H7 := H_ h7
       have H8 := H_ h8
       rw [h7, h8]
       clear h7 h8
       cases f7 <;> cases f8
       ·go_wp2_with fail
        refine late_begin 13 (by kernel_rfl) ?_
        refine lw 0 rfl ?_
        simp only [Act.put, pa, pb, pc]
        refine lw 1 rfl ?_
        simp only [Act.put, pa, pb, pc]
        refine lw 2 rfl ?_
        simp only [Act.put, pa, pb, pc]
        refine lw 3 rfl ?_
        simp only [Act.put, pa, pb, pc]
        refine lw 4 rfl ?_
        simp only [Act.put, pa, pb, pc]
        refine lv 5 rfl ⟨.int .u8 (q (1 + j)), fun w' hl => (run_get 5 _ rfl b5 (1 + j) rfl Tryz.underlying5 rfl (.int .u8 (q (1 + j))) (((HR5.out.later hl).cell (1 + j) HJ.out).trans (by rw [kAt_board (Nat.zero_le _) (by have := HJ.out; omega)]))), ?_⟩
        simp only [Act.put, pa, pb, pc]
        refine lw 6 rfl ?_
        simp only [Act.put, pa, pb, pc]
        refine lv 7 rfl ⟨.int .u8 1, fun w' hl => (run_get 5 _ rfl b1 78 rfl Tryz.underlying5 rfl (.int .u8 1) (((HR1.out.later hl).cell 78 (by decide)).trans (by rw [HTu.out]; rfl))), ?_⟩
        simp only [Act.put, pa, pb, pc]
        refine lw 8 rfl ?_
        simp only [Act.put, pa, pb, pc]
        refine lw 9 rfl ?_
        simp only [Act.put, pa, pb, pc]
        refine lw 10 rfl ?_
        simp only [Act.put, pa, pb, pc]
        refine lw 11 rfl ?_
        simp only [Act.put, pa, pb, pc]
        refine lw 12 rfl ?_
        simp only [Act.put, pa, pb, pc]
        refine late_end (by kernel_rfl) (fun wn hl => ?_)
        have HR5 := H_ (HR5.out.later hl); have HR1 := H_ (HR1.out.later hl); have HE := H_ (HE.out.later hl); have HB := H_ (below_on HB.out hl); clear hl
        go_wp2_with fail
        refine late_begin 14 (by kernel_rfl) ?_
        refine lw 0 rfl ?_
        simp only [Act.put, pa, pb, pc]
        refine lw 1 rfl ?_
        simp only [Act.put, pa, pb, pc]
        refine lw 2 rfl ?_
        simp only [Act.put, pa, pb, pc]
        refine lw 3 rfl ?_
        simp only [Act.put, pa, pb, pc]
        refine lw 4 rfl ?_
        simp only [Act.put, pa, pb, pc]
        refine lv 5 rfl ⟨.int .u8 (q (1 + j)), fun w' hl => (run_get 5 _ rfl b5 (1 + j) rfl Tryz.underlying5 rfl (.int .u8 (q (1 + j))) (((HR5.out.later hl).cell (1 + j) HJ.out).trans (by rw [kAt_board (Nat.zero_le _) (by have := HJ.out; omega)]))), ?_⟩
        simp only [Act.put, pa, pb, pc]
        refine lw 6 rfl ?_
        simp only [Act.put, pa, pb, pc]
        refine lv 7 rfl ⟨.int .u8 1, fun w' hl => (run_get 5 _ rfl b1 78 rfl Tryz.underlying5 rfl (.int .u8 1) (((HR1.out.later hl).cell 78 (by decide)).trans (by rw [HTu.out]; rfl))), ?_⟩
        simp only [Act.put, pa, pb, pc]
        refine lw 8 rfl ?_
        simp only [Act.put, pa, pb, pc]
        refine lw 9 rfl ?_
        simp only [Act.put, pa, pb, pc]
        refine lw 10 rfl ?_
        simp only [Act.put, pa, pb, pc]
        refine lw 11 rfl ?_
        simp only [Act.put, pa, pb, pc]
        refine lw 12 rfl ?_
        simp only [Act.put, pa, pb, pc]
        refine lw 13 rfl ?_
        simp only [Act.put, pa, pb, pc]
        refine late_end (by kernel_rfl) (fun wn hl => ?_)
        have HR5 := H_ (HR5.out.later hl); have HR1 := H_ (HR1.out.later hl); have HE := H_ (HE.out.later hl); have HB := H_ (below_on HB.out hl); clear hl
        go_wp2_with fail
        go_roundw
        case rel => exact ⟨j + 1, by have := HJ6.out; omega, by go_num, by rw [HS7.out, H7.out]; simp [u8w0, u8w1, u8w6, u8w8, u8w14], by rw [HS8.out, H8.out]; simp [u8w0, u8w1, u8w6, u8w8, u8w14], HR5.out, HR1.out, HE.out, HB.out⟩
        case measure => simp [intOf]; have := HJ6.out; omega
       ·go_wp2_with fail
        refine late_begin 13 (by kernel_rfl) ?_
        refine lw 0 rfl ?_
        simp only [Act.put, pa, pb, pc]
        refine lw 1 rfl ?_
        simp only [Act.put, pa, pb, pc]
        refine lw 2 rfl ?_
        simp only [Act.put, pa, pb, pc]
        refine lw 3 rfl ?_
        simp only [Act.put, pa, pb, pc]
        refine lw 4 rfl ?_
        simp only [Act.put, pa, pb, pc]
        refine lv 5 rfl ⟨.int .u8 (q (1 + j)), fun w' hl => (run_get 5 _ rfl b5 (1 + j) rfl Tryz.underlying5 rfl (.int .u8 (q (1 + j))) (((HR5.out.later hl).cell (1 + j) HJ.out).trans (by rw [kAt_board (Nat.zero_le _) (by have := HJ.out; omega)]))), ?_⟩
        simp only [Act.put, pa, pb, pc]
        refine lw 6 rfl ?_
        simp only [Act.put, pa, pb, pc]
        refine lv 7 rfl ⟨.int .u8 1, fun w' hl => (run_get 5 _ rfl b1 78 rfl Tryz.underlying5 rfl (.int .u8 1) (((HR1.out.later hl).cell 78 (by decide)).trans (by rw [HTu.out]; rfl))), ?_⟩
        simp only [Act.put, pa, pb, pc]
        refine lw 8 rfl ?_
        simp only [Act.put, pa, pb, pc]
        refine lw 9 rfl ?_
        simp only [Act.put, pa, pb, pc]
        refine lw 10 rfl ?_
        simp only [Act.put, pa, pb, pc]
        refine lw 11 rfl ?_
        simp only [Act.put, pa, pb, pc]
        refine lw 12 rfl ?_
        simp only [Act.put, pa, pb, pc]
        refine late_end (by kernel_rfl) (fun wn hl => ?_)
        have HR5 := H_ (HR5.out.later hl); have HR1 := H_ (HR1.out.later hl); have HE := H_ (HE.out.later hl); have HB := H_ (below_on HB.out hl); clear hl
        go_wp2_with fail
        refine late_begin 14 (by kernel_rfl) ?_
        refine lw 0 rfl ?_
        simp only [Act.put, pa, pb, pc]
        refine lw 1 rfl ?_
        simp only [Act.put, pa, pb, pc]
        refine lo 2 rfl ?_
        simp only [Act.put, pa, pb, pc]
        refine lo 3 rfl ?_
        simp only [Act.put, pa, pb, pc]
        refine lo 4 rfl ?_
        simp only [Act.put, pa, pb, pc]
        refine lo 5 rfl ?_
        simp only [Act.put, pa, pb, pc]
        refine lo 6 rfl ?_
        simp only [Act.put, pa, pb, pc]
        refine lo 7 rfl ?_
        simp only [Act.put, pa, pb, pc]
        refine lo 8 rfl ?_
        simp only [Act.put, pa, pb, pc]
        refine lo 9 rfl ?_
        simp only [Act.put, pa, pb, pc]
        refine lo 10 rfl ?_
        simp only [Act.put, pa, pb, pc]
        refine lo 11 rfl ?_
        simp only [Act.put, pa, pb, pc]
        refine lw 12 rfl ?_
        simp only [Act.put, pa, pb, pc]
        refine lw 13 rfl ?_
        simp only [Act.put, pa, pb, pc]
        refine late_end (by kernel_rfl) (fun wn hl => ?_)
        have HR5 := H_ (HR5.out.later hl); have HR1 := H_ (HR1.out.later hl); have HE := H_ (HE.out.later hl); have HB := H_ (below_on HB.out hl); clear hl
        go_wp2_with fail
        go_roundw
        case rel => exact ⟨j + 1, by have := HJ6.out; omega, by go_num, by rw [HS7.out, H7.out]; simp [u8w0, u8w1, u8w6, u8w8, u8w14], by rw [HS8.out, H8.out]; simp [u8w0, u8w1, u8w6, u8w8, u8w14], HR5.out, HR1.out, HE.out, HB.out⟩
        case measure => simp [intOf]; have := HJ6.out; omega
       ·go_wp2_with fail
        refine late_begin 13 (by kernel_rfl) ?_
        refine lw 0 rfl ?_
        simp only [Act.put, pa, pb, pc]
        refine lw 1 rfl ?_
        simp only [Act.put, pa, pb, pc]
        refine lo 2 rfl ?_
        simp only [Act.put, pa, pb, pc]
        refine lo 3 rfl ?_
        simp only [Act.put, pa, pb, pc]
        refine lo 4 rfl ?_
        simp only [Act.put, pa, pb, pc]
        refine lo 5 rfl ?_
        simp only [Act.put, pa, pb, pc]
        refine lo 6 rfl ?_
        simp only [Act.put, pa, pb, pc]
        refine lo 7 rfl ?_
        simp only [Act.put, pa, pb, pc]
        refine lo 8 rfl ?_
        simp only [Act.put, pa, pb, pc]
        refine lo 9 rfl ?_
        simp only [Act.put, pa, pb, pc]
        refine lo 10 rfl ?_
        simp only [Act.put, pa, pb, pc]
        refine lw 11 rfl ?_
        simp only [Act.put, pa, pb, pc]
        refine lw 12 rfl ?_
        simp only [Act.put, pa, pb, pc]
        refine late_end (by kernel_rfl) (fun wn hl => ?_)
        have HR5 := H_ (HR5.out.later hl); have HR1 := H_ (HR1.out.later hl); have HE := H_ (HE.out.later hl); have HB := H_ (below_on HB.out hl); clear hl
        go_wp2_with fail
        refine late_begin 14 (by kernel_rfl) ?_
        refine lw 0 rfl ?_
        simp only [Act.put, pa, pb, pc]
        refine lw 1 rfl ?_
        simp only [Act.put, pa, pb, pc]
        refine lw 2 rfl ?_
        simp only [Act.put, pa, pb, pc]
        refine lw 3 rfl ?_
        simp only [Act.put, pa, pb, pc]
        refine lw 4 rfl ?_
        simp only [Act.put, pa, pb, pc]
        refine lv 5 rfl ⟨.int .u8 (q (1 + j)), fun w' hl => (run_get 5 _ rfl b5 (1 + j) rfl Tryz.underlying5 rfl (.int .u8 (q (1 + j))) (((HR5.out.later hl).cell (1 + j) HJ.out).trans (by rw [kAt_board (Nat.zero_le _) (by have := HJ.out; omega)]))), ?_⟩
        simp only [Act.put, pa, pb, pc]
        refine lw 6 rfl ?_
        simp only [Act.put, pa, pb, pc]
        refine lv 7 rfl ⟨.int .u8 1, fun w' hl => (run_get 5 _ rfl b1 78 rfl Tryz.underlying5 rfl (.int .u8 1) (((HR1.out.later hl).cell 78 (by decide)).trans (by rw [HTu.out]; rfl))), ?_⟩
        simp only [Act.put, pa, pb, pc]
        refine lw 8 rfl ?_
        simp only [Act.put, pa, pb, pc]
        refine lw 9 rfl ?_
        simp only [Act.put, pa, pb, pc]
        refine lw 10 rfl ?_
        simp only [Act.put, pa, pb, pc]
        refine lw 11 rfl ?_
        simp only [Act.put, pa, pb, pc]
        refine lw 12 rfl ?_
        simp only [Act.put, pa, pb, pc]
        refine lw 13 rfl ?_
        simp only [Act.put, pa, pb, pc]
        refine late_end (by kernel_rfl) (fun wn hl => ?_)
        have HR5 := H_ (HR5.out.later hl); have HR1 := H_ (HR1.out.later hl); have HE := H_ (HE.out.later hl); have HB := H_ (below_on HB.out hl); clear hl
        go_wp2_with fail
        go_roundw
        case rel => exact ⟨j + 1, by have := HJ6.out; omega, by go_num, by rw [HS7.out, H7.out]; simp [u8w0, u8w1, u8w6, u8w8, u8w14], by rw [HS8.out, H8.out]; simp [u8w0, u8w1, u8w6, u8w8, u8w14], HR5.out, HR1.out, HE.out, HB.out⟩
        case measure => simp [intOf]; have := HJ6.out; omega
       ·go_wp2_with fail
        refine late_begin 13 (by kernel_rfl) ?_
        refine lw 0 rfl ?_
        simp only [Act.put, pa, pb, pc]
        refine lw 1 rfl ?_
        simp only [Act.put, pa, pb, pc]
        refine lo 2 rfl ?_
        simp only [Act.put, pa, pb, pc]
        refine lo 3 rfl ?_
        simp only [Act.put, pa, pb, pc]
        refine lo 4 rfl ?_
        simp only [Act.put, pa, pb, pc]
        refine lo 5 rfl ?_
        simp only [Act.put, pa, pb, pc]
        refine lo 6 rfl ?_
        simp only [Act.put, pa, pb, pc]
        refine lo 7 rfl ?_
        simp only [Act.put, pa, pb, pc]
        refine lo 8 rfl ?_
        simp only [Act.put, pa, pb, pc]
        refine lo 9 rfl ?_
        simp only [Act.put, pa, pb, pc]
        refine lo 10 rfl ?_
        simp only [Act.put, pa, pb, pc]
        refine lw 11 rfl ?_
        simp only [Act.put, pa, pb, pc]
        refine lw 12 rfl ?_
        simp only [Act.put, pa, pb, pc]
        refine late_end (by kernel_rfl) (fun wn hl => ?_)
        have HR5 := H_ (HR5.out.later hl); have HR1 := H_ (HR1.out.later hl); have HE := H_ (HE.out.later hl); have HB := H_ (below_on HB.out hl); clear hl
        go_wp2_with fail
        refine late_begin 14 (by kernel_rfl) ?_
        refine lw 0 rfl ?_
        simp only [Act.put, pa, pb, pc]
        refine lw 1 rfl ?_
        simp only [Act.put, pa, pb, pc]
        refine lo 2 rfl ?_
        simp only [Act.put, pa, pb, pc]
        refine lo 3 rfl ?_
        simp only [Act.put, pa, pb, pc]
        refine lo 4 rfl ?_
        simp only [Act.put, pa, pb, pc]
        refine lo 5 rfl ?_
        simp only [Act.put, pa, pb, pc]
        refine lo 6 rfl ?_
        simp only [Act.put, pa, pb, pc]
        refine lo 7 rfl ?_
        simp only [Act.put, pa, pb, pc]
        refine lo 8 rfl ?_
        simp only [Act.put, pa, pb, pc]
        refine lo 9 rfl ?_
        simp only [Act.put, pa, pb, pc]
        refine lo 10 rfl ?_
        simp only [Act.put, pa, pb, pc]
        refine lo 11 rfl ?_
        simp only [Act.put, pa, pb, pc]
        refine lw 12 rfl ?_
        simp only [Act.put, pa, pb, pc]
        refine lw 13 rfl ?_
        simp only [Act.put, pa, pb, pc]
        refine late_end (by kernel_rfl) (fun wn hl => ?_)
        have HR5 := H_ (HR5.out.later hl); have HR1 := H_ (HR1.out.later hl); have HE := H_ (HE.out.later hl); have HB := H_ (below_on HB.out hl); clear hl
        go_wp2_with fail
        go_roundw
        case rel => exact ⟨j + 1, by have := HJ6.out; omega, by go_num, by rw [HS7.out, H7.out]; simp [u8w0, u8w1, u8w6, u8w8, u8w14], by rw [HS8.out, H8.out]; simp [u8w0, u8w1, u8w6, u8w8, u8w14], HR5.out, HR1.out, HE.out, HB.out⟩
        case measure => simp [intOf]; have := HJ6.out; omega
      ·obtain rfl : j = 64 := by omega
       have HM7 := H_ (show anyK q 14 64 = hkB q 1 by have h := hk_any (q := q) (t := 1) (by decide); simpa using h.symm)
       have HM8 := H_ (show anyK q 6 64 = hkB q 0 by have h := hk_any (q := q) (t := 0) (by decide); simpa using h.symm)
       have HO := H_ (show oth 1 = 0 by decide)
       have hkg := HKg.out
       rw [HO.out] at hkg
       obtain ⟨r, hr⟩ : ∃ r, ryB v.toNat (1 : Int).toNat = r := ⟨_, rfl⟩
       obtain ⟨ka, hka⟩ : ∃ x, chkB q 1 = x := ⟨_, rfl⟩
       obtain ⟨kb, hkb⟩ : ∃ x, chkB q 0 = x := ⟨_, rfl⟩
       rw [hr, hka, hkb] at hkg
       have HRy := H_ hr
       have HCa := H_ hka
       have HCb := H_ hkb
       obtain ⟨hkg1, hkg2⟩ := hkg
       obtain ⟨f7, h7⟩ : ∃ f, anyK q 14 64 = f := ⟨_, rfl⟩
       obtain ⟨f8, h8⟩ : ∃ f, anyK q 6 64 = f := ⟨_, rfl⟩
       rw [← HM7.out, ← HM8.out, h7, h8] at hkg1
       rw [h7, h8]
       clear h7 h8 hr hka hkb
       cases r
       ·clear hkg1
        cases g8 : (v == 8)
        ·clear hkg2
         go_wp2_with (first
           | (guard_target = gL 63; refine step_get rfl 5 _ rfl b1 0 rfl Tryz.underlying5 rfl (.int .u8 v) ?_ ?_; exact (HR1.out.cell 0 (by decide)).trans (by rw [HVv.out]; rfl))
           | (guard_target = gL 65; refine step_get rfl 5 _ rfl b1 78 rfl Tryz.underlying5 rfl (.int .u8 1) ?_ ?_; exact (HR1.out.cell 78 (by decide)).trans (by rw [HTu.out]; rfl))
           | (guard_target = gL 73; refine step_get rfl 5 _ rfl b1 78 rfl Tryz.underlying5 rfl (.int .u8 1) ?_ ?_; exact (HR1.out.cell 78 (by decide)).trans (by rw [HTu.out]; rfl))
           | (go_at_call 14; refine (royalI HRy.out _ HV.out (by decide) (HT.out.on HB.out).var).mono ?_; rintro e w3 ⟨rfl, hb⟩; have HR5 := H_ (HR5.out.later hb); have HR1 := H_ (HR1.out.later hb); have HE := H_ (HE.out.later hb); have HB := H_ (below_on HB.out hb); clear hb)
           | (guard_target = gL 5; refine step_load rfl _ rfl b5 rfl q HR5.out ?_)
           | (go_at_call 15; guard_target = Go.Calls _ _ #[_, Go.Value.int _ 1] _ _; refine (checkK HCa.out _ HW.out (by decide) (HT.out.on HB.out)).mono ?_; rintro e w3 ⟨rfl, hb⟩; have HR5 := H_ (HR5.out.later hb); have HR1 := H_ (HR1.out.later hb); have HE := H_ (HE.out.later hb); have HB := H_ (below_on HB.out hb); clear hb)
           | (guard_target = gL 77; refine step_get rfl 5 _ rfl b1 0 rfl Tryz.underlying5 rfl (.int .u8 v) ?_ ?_; exact (HR1.out.cell 0 (by decide)).trans (by rw [HVv.out]; rfl))
           | (guard_target = gL 87; refine step_get rfl 5 _ rfl b1 0 rfl Tryz.underlying5 rfl (.int .u8 v) ?_ ?_; exact (HR1.out.cell 0 (by decide)).trans (by rw [HVv.out]; rfl)))
         go_roundw
         case rel => exact ⟨k + 1, by have := Hlt.out; omega, by go_num, HE.out, HR1.out, HB.out⟩
         case measure => simp [intOf]; have := Hlt.out; omega
        ·obtain ⟨rfl, rfl⟩ := hkg2 (beq_iff_eq.1 g8)
         go_wp2_with (first
           | (guard_target = gL 63; refine step_get rfl 5 _ rfl b1 0 rfl Tryz.underlying5 rfl (.int .u8 v) ?_ ?_; exact (HR1.out.cell 0 (by decide)).trans (by rw [HVv.out]; rfl))
           | (guard_target = gL 65; refine step_get rfl 5 _ rfl b1 78 rfl Tryz.underlying5 rfl (.int .u8 1) ?_ ?_; exact (HR1.out.cell 78 (by decide)).trans (by rw [HTu.out]; rfl))
           | (guard_target = gL 73; refine step_get rfl 5 _ rfl b1 78 rfl Tryz.underlying5 rfl (.int .u8 1) ?_ ?_; exact (HR1.out.cell 78 (by decide)).trans (by rw [HTu.out]; rfl))
           | (go_at_call 14; refine (royalI HRy.out _ HV.out (by decide) (HT.out.on HB.out).var).mono ?_; rintro e w3 ⟨rfl, hb⟩; have HR5 := H_ (HR5.out.later hb); have HR1 := H_ (HR1.out.later hb); have HE := H_ (HE.out.later hb); have HB := H_ (below_on HB.out hb); clear hb)
           | (guard_target = gL 5; refine step_load rfl _ rfl b5 rfl q HR5.out ?_)
           | (go_at_call 15; guard_target = Go.Calls _ _ #[_, Go.Value.int _ 1] _ _; refine (checkK HCa.out _ HW.out (by decide) (HT.out.on HB.out)).mono ?_; rintro e w3 ⟨rfl, hb⟩; have HR5 := H_ (HR5.out.later hb); have HR1 := H_ (HR1.out.later hb); have HE := H_ (HE.out.later hb); have HB := H_ (below_on HB.out hb); clear hb)
           | (go_at_call 15; guard_target = Go.Calls _ _ #[_, Go.Value.int _ 0] _ _; refine (checkK HCb.out _ HW.out (by decide) (HT.out.on HB.out)).mono ?_; rintro e w3 ⟨rfl, hb⟩; have HR5 := H_ (HR5.out.later hb); have HR1 := H_ (HR1.out.later hb); have HE := H_ (HE.out.later hb); have HB := H_ (below_on HB.out hb); clear hb)
           | (guard_target = gL 77; refine step_get rfl 5 _ rfl b1 0 rfl Tryz.underlying5 rfl (.int .u8 v) ?_ ?_; exact (HR1.out.cell 0 (by decide)).trans (by rw [HVv.out]; rfl))
           | (guard_target = gL 87; refine step_get rfl 5 _ rfl b1 0 rfl Tryz.underlying5 rfl (.int .u8 v) ?_ ?_; exact (HR1.out.cell 0 (by decide)).trans (by rw [HVv.out]; rfl)))
         go_roundw
         case rel => exact ⟨k + 1, by have := Hlt.out; omega, by go_num, HE.out, HR1.out, HB.out⟩
         case measure => simp [intOf]; have := Hlt.out; omega
       ·obtain ⟨rfl, hk3⟩ := hkg1 rfl
        cases ka
        ·clear hk3
         cases g8 : (v == 8)
         ·clear hkg2
          go_wp2_with (first
            | (guard_target = gL 63; refine step_get rfl 5 _ rfl b1 0 rfl Tryz.underlying5 rfl (.int .u8 v) ?_ ?_; exact (HR1.out.cell 0 (by decide)).trans (by rw [HVv.out]; rfl))
            | (guard_target = gL 65; refine step_get rfl 5 _ rfl b1 78 rfl Tryz.underlying5 rfl (.int .u8 1) ?_ ?_; exact (HR1.out.cell 78 (by decide)).trans (by rw [HTu.out]; rfl))
            | (guard_target = gL 73; refine step_get rfl 5 _ rfl b1 78 rfl Tryz.underlying5 rfl (.int .u8 1) ?_ ?_; exact (HR1.out.cell 78 (by decide)).trans (by rw [HTu.out]; rfl))
            | (go_at_call 14; refine (royalI HRy.out _ HV.out (by decide) (HT.out.on HB.out).var).mono ?_; rintro e w3 ⟨rfl, hb⟩; have HR5 := H_ (HR5.out.later hb); have HR1 := H_ (HR1.out.later hb); have HE := H_ (HE.out.later hb); have HB := H_ (below_on HB.out hb); clear hb)
            | (guard_target = gL 5; refine step_load rfl _ rfl b5 rfl q HR5.out ?_)
            | (go_at_call 15; guard_target = Go.Calls _ _ #[_, Go.Value.int _ 1] _ _; refine (checkK HCa.out _ HW.out (by decide) (HT.out.on HB.out)).mono ?_; rintro e w3 ⟨rfl, hb⟩; have HR5 := H_ (HR5.out.later hb); have HR1 := H_ (HR1.out.later hb); have HE := H_ (HE.out.later hb); have HB := H_ (below_on HB.out hb); clear hb)
            | (guard_target = gL 77; refine step_get rfl 5 _ rfl b1 0 rfl Tryz.underlying5 rfl (.int .u8 v) ?_ ?_; exact (HR1.out.cell 0 (by decide)).trans (by rw [HVv.out]; rfl))
            | (guard_target = gL 87; refine step_get rfl 5 _ rfl b1 0 rfl Tryz.underlying5 rfl (.int .u8 v) ?_ ?_; exact (HR1.out.cell 0 (by decide)).trans (by rw [HVv.out]; rfl)))
          go_roundw
          case rel => exact ⟨k + 1, by have := Hlt.out; omega, by go_num, HE.out, HR1.out, HB.out⟩
          case measure => simp [intOf]; have := Hlt.out; omega
         ·have hz := hkg2 (beq_iff_eq.1 g8)
          have hz2 : kb = false := by first | exact hz.1 | exact hz.2
          subst hz2
          clear hz hkg2
          go_wp2_with (first
            | (guard_target = gL 63; refine step_get rfl 5 _ rfl b1 0 rfl Tryz.underlying5 rfl (.int .u8 v) ?_ ?_; exact (HR1.out.cell 0 (by decide)).trans (by rw [HVv.out]; rfl))
            | (guard_target = gL 65; refine step_get rfl 5 _ rfl b1 78 rfl Tryz.underlying5 rfl (.int .u8 1) ?_ ?_; exact (HR1.out.cell 78 (by decide)).trans (by rw [HTu.out]; rfl))
            | (guard_target = gL 73; refine step_get rfl 5 _ rfl b1 78 rfl Tryz.underlying5 rfl (.int .u8 1) ?_ ?_; exact (HR1.out.cell 78 (by decide)).trans (by rw [HTu.out]; rfl))
            | (go_at_call 14; refine (royalI HRy.out _ HV.out (by decide) (HT.out.on HB.out).var).mono ?_; rintro e w3 ⟨rfl, hb⟩; have HR5 := H_ (HR5.out.later hb); have HR1 := H_ (HR1.out.later hb); have HE := H_ (HE.out.later hb); have HB := H_ (below_on HB.out hb); clear hb)
            | (guard_target = gL 5; refine step_load rfl _ rfl b5 rfl q HR5.out ?_)
            | (go_at_call 15; guard_target = Go.Calls _ _ #[_, Go.Value.int _ 1] _ _; refine (checkK HCa.out _ HW.out (by decide) (HT.out.on HB.out)).mono ?_; rintro e w3 ⟨rfl, hb⟩; have HR5 := H_ (HR5.out.later hb); have HR1 := H_ (HR1.out.later hb); have HE := H_ (HE.out.later hb); have HB := H_ (below_on HB.out hb); clear hb)
            | (go_at_call 15; guard_target = Go.Calls _ _ #[_, Go.Value.int _ 0] _ _; refine (checkK HCb.out _ HW.out (by decide) (HT.out.on HB.out)).mono ?_; rintro e w3 ⟨rfl, hb⟩; have HR5 := H_ (HR5.out.later hb); have HR1 := H_ (HR1.out.later hb); have HE := H_ (HE.out.later hb); have HB := H_ (below_on HB.out hb); clear hb)
            | (guard_target = gL 77; refine step_get rfl 5 _ rfl b1 0 rfl Tryz.underlying5 rfl (.int .u8 v) ?_ ?_; exact (HR1.out.cell 0 (by decide)).trans (by rw [HVv.out]; rfl))
            | (guard_target = gL 87; refine step_get rfl 5 _ rfl b1 0 rfl Tryz.underlying5 rfl (.int .u8 v) ?_ ?_; exact (HR1.out.cell 0 (by decide)).trans (by rw [HVv.out]; rfl)))
          go_roundw
          case rel => exact ⟨k + 1, by have := Hlt.out; omega, by go_num, HE.out, HR1.out, HB.out⟩
          case measure => simp [intOf]; have := Hlt.out; omega
        ·obtain ⟨hp3, rfl⟩ := hk3 rfl
         subst hp3
         clear hkg2
         go_wp2_with (first
           | (guard_target = gL 63; refine step_get rfl 5 _ rfl b1 0 rfl Tryz.underlying5 rfl (.int .u8 3) ?_ ?_; exact (HR1.out.cell 0 (by decide)).trans (by rw [HVv.out]; rfl))
           | (guard_target = gL 65; refine step_get rfl 5 _ rfl b1 78 rfl Tryz.underlying5 rfl (.int .u8 1) ?_ ?_; exact (HR1.out.cell 78 (by decide)).trans (by rw [HTu.out]; rfl))
           | (guard_target = gL 73; refine step_get rfl 5 _ rfl b1 78 rfl Tryz.underlying5 rfl (.int .u8 1) ?_ ?_; exact (HR1.out.cell 78 (by decide)).trans (by rw [HTu.out]; rfl))
           | (go_at_call 14; refine (royalI HRy.out _ HV.out (by decide) (HT.out.on HB.out).var).mono ?_; rintro e w3 ⟨rfl, hb⟩; have HR5 := H_ (HR5.out.later hb); have HR1 := H_ (HR1.out.later hb); have HE := H_ (HE.out.later hb); have HB := H_ (below_on HB.out hb); clear hb)
           | (guard_target = gL 5; refine step_load rfl _ rfl b5 rfl q HR5.out ?_)
           | (go_at_call 15; guard_target = Go.Calls _ _ #[_, Go.Value.int _ 1] _ _; refine (checkK HCa.out _ HW.out (by decide) (HT.out.on HB.out)).mono ?_; rintro e w3 ⟨rfl, hb⟩; have HR5 := H_ (HR5.out.later hb); have HR1 := H_ (HR1.out.later hb); have HE := H_ (HE.out.later hb); have HB := H_ (below_on HB.out hb); clear hb)
           | (guard_target = gL 77; refine step_get rfl 5 _ rfl b1 0 rfl Tryz.underlying5 rfl (.int .u8 3) ?_ ?_; exact (HR1.out.cell 0 (by decide)).trans (by rw [HVv.out]; rfl))
           | (guard_target = gL 87; refine step_get rfl 5 _ rfl b1 0 rfl Tryz.underlying5 rfl (.int .u8 3) ?_ ?_; exact (HR1.out.cell 0 (by decide)).trans (by rw [HVv.out]; rfl)))
         go_roundw
         case rel => exact ⟨k + 1, by have := Hlt.out; omega, by go_num, HE.out, HR1.out, HB.out⟩
         case measure => simp [intOf]; have := Hlt.out; omega
   ·go_wp2_with (first
     | (go_at_call 11; refine (lg_awake _ (HT.out.on HB.out) (HK.out.on HB.out)).mono ?_; rintro e w3 ⟨rfl, hb⟩; have HB := H_ (below_on HB.out hb); clear hb))
    go_ret
    exact ⟨rfl, HB.out⟩
theorem walk_2 (p : Nat → Int) (w0 : WfP p) (h0 : p 78 ≠ 0) (h1 : p 78 ≠ 1) (w : World) (hD : TabDb w) (hL : TabLead w) (hV : TabVar w) (hKn : TabKn w) (hG : TabGl w) : Calls Tryz.prog 4 #[.agg (posA p)] w fun e w' => e = .returned (.bool true) ∧ Below w.heap.size w w' := by
 have HT := H_ (show CsT w from ⟨hD, hL, hV, hG⟩)
 have HK := H_ hKn
 have HP := H_ w0
 have HL := H_ (show lsL p = [] from List.eq_nil_iff_forall_not_mem.2 fun m hm => by
  rcases (mov_78 w0 (ls_wel hm).1).2 with h | h
  ·exact h0 h
  ·exact h1 h)
 clear hD hL hV hKn hG w0 h0 h1
 have HB := H_ (Below.refl w.heap.size w)
 go_enter Tryz.func4, Tryz.ntmps4
 go_wp2_with (first
   | (guard_target = gB 1; refine step_box rfl _ rfl p rfl ?_; intro b1 w1 N R; have HG1 := H_ (nA HB.out N); have HB := H_ (below_on HB.out N.below); have HR1 := H_ R; clear N R)
   | (guard_target = gL 1; refine step_load rfl _ rfl b1 rfl p HR1.out ?_))
 refine (lg_lawful p _ HP.out).mono ?_; rintro e w3 ⟨b, rfl, hb⟩; have HR1 := H_ (HR1.out.later hb); have HB := H_ (below_on HB.out hb); clear hb
 cases b
 ·go_wp2_with (first
   | (go_at_call 11; refine (lg_awake _ (HT.out.on HB.out) (HK.out.on HB.out)).mono ?_; rintro e w3 ⟨rfl, hb⟩; have HB := H_ (below_on HB.out hb); clear hb))
  go_ret
  exact ⟨rfl, HB.out⟩
 ·go_wp2_with (first
   | (guard_target = gL 1; refine step_load rfl _ rfl b1 rfl p HR1.out ?_)
   | (go_at_call 9; refine (lg_list p _ HP.out (HT.out.on HB.out)).mono ?_; rintro e w3 ⟨v, rfl, hv, hb⟩; rw [HL.out] at hv; obtain ⟨a3, c3, rfl, hE⟩ := mvs_of hv; have HR1 := H_ (HR1.out.later hb); have HB := H_ (below_on HB.out hb); clear hb hv hE))
  go_loopw [4] (fun i wr => i = .int .i64 0 ∧ Below w.heap.size w wr) (fun i _ => 1)
  case atStart => exact ⟨rfl, HB.out⟩
  case round =>
   clear HB HR1
   obtain ⟨rfl, hb⟩ := hrel
   have HB := H_ hb
   clear hb
   go_wp2_with (first
    | (go_at_call 11; refine (lg_awake _ (HT.out.on HB.out) (HK.out.on HB.out)).mono ?_; rintro e w3 ⟨rfl, hb⟩; have HB := H_ (below_on HB.out hb); clear hb))
   go_ret
   exact ⟨rfl, HB.out⟩
theorem walk (p : Nat → Int) (w0 : WfP p) (w : World) (hD : TabDb w) (hL : TabLead w) (hV : TabVar w) (hKn : TabKn w) (hG : TabGl w) : Calls Tryz.prog 4 #[.agg (posA p)] w fun e w' => e = .returned (.bool true) ∧ Below w.heap.size w w' := by
 by_cases h0 : p 78 = 0
 ·exact walk_0 p w0 h0 w hD hL hV hKn hG
 ·by_cases h1 : p 78 = 1
  ·exact walk_1 p w0 h1 w hD hL hV hKn hG
  ·exact walk_2 p w0 h0 h1 w hD hL hV hKn hG
end Go.Proofs.YteblmnbagbdiiaaGreatDoor.legalKings
