/-
 The walk of LegalPart.
-/
import Derived.Test.YteblmnbagbdiiaaGreatDoorLgX
import Derived.Deep.DeepCutAuto
import Derived.WalkKit
import Derived.OpenShut
set_option maxRecDepth 100000
set_option maxHeartbeats 16000000
namespace Go.Proofs.YteblmnbagbdiiaaGreatDoor.legalPart
open Go.RowKit
set_option linter.unusedVariables false
set_option linter.unusedSimpArgs false
theorem walk (p : Nat → Int) (w0 : WfP p) (w : World) (hD : TabDb w) (hL : TabLead w) (hV : TabVar w) (hKn : TabKn w) (hG : TabGl w) : Calls Tryz.prog 5 #[.agg (posA p)] w fun e w' => e = .returned (.bool true) ∧ Below w.heap.size w w' := by
 have HT := H_ (show CsT w from ⟨hD, hL, hV, hG⟩)
 have HK := H_ hKn
 have HP := H_ w0
 have HV := H_ (AtR.of w0).var
 have HTu := H_ (AtR.of w0).turn
 obtain ⟨⟨s, y⟩, hr⟩ : ∃ r, wonZ p = r := ⟨_, rfl⟩
 have hgo := go_is hr
 have hnil := fun h => list_won hr h
 have HWo := H_ hr
 obtain ⟨won, hw⟩ : ∃ b, (s != 0) = b := ⟨_, rfl⟩
 have hgo : rsB (s, y) (0, 0) = !won := by rw [hgo, ← hw]
 have hfl := ls_filter p
 have HNil := H_ (show won = true → lsL p = [] from fun h => hnil (by rw [h] at hw; exact bne_iff_ne.1 hw))
 have HGo := H_ (show rsB (wonZ p) (0, 0) = !won by rw [hr]; exact hgo)
 obtain ⟨L, hL0⟩ : ∃ L, lsL p = L := ⟨_, rfl⟩
 obtain ⟨Am, hA0⟩ : ∃ Am, afL p = Am := ⟨_, rfl⟩
 have HLm := H_ (show L.length ≤ 1000000 by rw [← hL0]; exact ls_len p)
 have HAm := H_ (show Am.length ≤ 1000000 by rw [← hA0]; exact af_len p)
 have HFl := H_ (show L = Am.filter (fmL p) by rw [← hL0, ← hA0]; exact hfl)
 have HAf := H_ (show ∀ m, m ∈ Am → FitV m by intro m h; rw [← hA0] at h; exact af_fit w0 h)
 have HLf := H_ (show ∀ m, m ∈ L → FitV m by intro m h; rw [← hL0] at h; exact ls_fit w0 h)
 have HL := H_ hL0
 have HA := H_ hA0
 obtain ⟨fo, hfo⟩ : ∃ fo, forB p L = fo := ⟨_, rfl⟩
 have HFo := H_ hfo
 clear hD hL hV hKn hG w0 hr hgo hnil hfl hL0 hA0 hfo
 have HB := H_ (Below.refl w.heap.size w)
 go_enter Tryz.func5, Tryz.ntmps5
 go_wp2_with (first
   | (guard_target = gB 1; refine step_box rfl _ rfl p rfl ?_; intro b1 w1 N R; have HG1 := H_ (nA HB.out N); have HB := H_ (below_on HB.out N.below); have HR1 := H_ R; clear N R)
   | (guard_target = gL 1; refine step_load rfl _ rfl b1 rfl p HR1.out ?_))
 refine (lg_lawful p _ HP.out).mono ?_; rintro e w3 ⟨b, rfl, hb⟩; have HR1 := H_ (HR1.out.later hb); have HB := H_ (below_on HB.out hb); clear hb
 cases b
 ·go_wp2_with (first
   | (go_at_call 11; refine (lg_awake _ (HT.out.on HB.out) (HK.out.on HB.out)).mono ?_; rintro e w3 ⟨rfl, hb⟩; have HB := H_ (below_on HB.out hb); clear hb))
  go_ret
  exact ⟨rfl, HB.out⟩
 ·go_upto_region 6 with (first
   | (guard_target = gL 1; refine step_load rfl _ rfl b1 rfl p HR1.out ?_)
   | (go_at_call 9; refine (lg_list p _ HP.out (HT.out.on HB.out)).mono ?_; rintro e w3 ⟨v, rfl, hv, hb⟩; rw [HL.out] at hv; obtain ⟨a3, c3, rfl, hE⟩ := mvs_of hv; have HE3 := H_ hE; have HR1 := H_ (HR1.out.later hb); have HB := H_ (below_on HB.out hb); clear hb hv hE)
   | (go_at_call 16; refine (all_after p _ HP.out (HT.out.on HB.out)).mono ?_; rintro e w3 ⟨v, rfl, hv, hb⟩; rw [HA.out] at hv; obtain ⟨a4, c4, rfl, hE⟩ := mvs_of hv; have HE4 := H_ hE; have HR1 := H_ (HR1.out.later hb); have HE3 := H_ (HE3.out.later hb); have HB := H_ (below_on HB.out hb); clear hb hv hE)
   | (go_at_call 17; refine (lg_Won p _ HP.out (HT.out.on HB.out)).mono ?_; rw [HWo.out]; rintro e w3 ⟨rfl, hb⟩; have HR1 := H_ (HR1.out.later hb); have HE3 := H_ (HE3.out.later hb); have HE4 := H_ (HE4.out.later hb); have HB := H_ (below_on HB.out hb); clear hb)
   | (refine step_field rfl 44 _ 0 rfl (rsA (s, y)) rfl Tryz.underlying44 rfl Tryz.underlying5 rfl (.int .u8 s) rfl ?_))
  clear hw
  go_cut [6] (fun s6 wx => s6 = .bool fo ∧ Row wx b1 p ∧ Mvs L a3 wx ∧ Mvs Am a4 wx ∧ Below w.heap.size w wx)
  case first =>
   cases g4 : (p 0 == 4)
   ·have hf0 : fo = false := by rw [← HFo.out]; unfold forB; rw [g4]; rfl
    subst hf0
    refine late_begin 16 (by kernel_rfl) ?_
    refine lw 0 rfl ?_
    simp only [Act.put, pa, pb, pc]
    refine lv 1 rfl ⟨.int .u8 (p 0), fun w' hl => (run_get 5 _ rfl b1 0 rfl Tryz.underlying5 rfl (.int .u8 (p 0)) ((HR1.out.later hl).cell 0 (by decide))), ?_⟩
    simp only [Act.put, pa, pb, pc]
    refine lw 2 rfl ?_
    simp only [Act.put, pa, pb, pc]
    refine lw 3 rfl ?_
    simp only [Act.put, pa, pb, pc]
    refine lo 4 rfl ?_
    simp only [Act.put, pa, pb, pc]
    refine lo 5 rfl ?_
    simp only [Act.put, pa, pb, pc]
    refine lo 6 rfl ?_
    simp only [Act.put, pa, pb, pc]
    refine lw 7 rfl ?_
    simp only [Act.put, pa, pb, pc]
    refine lw 8 rfl ?_
    simp only [Act.put, pa, pb, pc]
    refine lo 9 rfl ?_
    simp only [Act.put, pa, pb, pc]
    refine lo 10 rfl ?_
    simp only [Act.put, pa, pb, pc]
    refine lo 11 rfl ?_
    simp only [Act.put, pa, pb, pc]
    refine lo 12 rfl ?_
    simp only [Act.put, pa, pb, pc]
    refine lo 13 rfl ?_
    simp only [Act.put, pa, pb, pc]
    refine lw 14 rfl ?_
    simp only [Act.put, pa, pb, pc]
    refine lw 15 rfl ?_
    simp only [Act.put, pa, pb, pc]
    refine late_end (by kernel_rfl) (fun wn hl => ?_)
    have HR1 := H_ (HR1.out.later hl); have HE3 := H_ (HE3.out.later hl); have HE4 := H_ (HE4.out.later hl); have HB := H_ (below_on HB.out hl); clear hl
    go_wp2_with fail
    go_meet
    case rel => exact ⟨rfl, HR1.out, HE3.out, HE4.out, HB.out⟩
   ·rcases L with _ | ⟨m0, L⟩
    ·have hf0 : fo = false := by rw [← HFo.out]; unfold forB; rw [g4]; rfl
     subst hf0
     have gl : decide ((0 : Int) < (([] : List Mv).length : Int)) = false := by decide
     refine late_begin 16 (by kernel_rfl) ?_
     refine lw 0 rfl ?_
     simp only [Act.put, pa, pb, pc]
     refine lv 1 rfl ⟨.int .u8 (p 0), fun w' hl => (run_get 5 _ rfl b1 0 rfl Tryz.underlying5 rfl (.int .u8 (p 0)) ((HR1.out.later hl).cell 0 (by decide))), ?_⟩
     simp only [Act.put, pa, pb, pc]
     refine lw 2 rfl ?_
     simp only [Act.put, pa, pb, pc]
     refine lw 3 rfl ?_
     simp only [Act.put, pa, pb, pc]
     refine lw 4 rfl ?_
     simp only [Act.put, pa, pb, pc]
     refine lw 5 rfl ?_
     simp only [Act.put, pa, pb, pc]
     refine lw 6 rfl ?_
     simp only [Act.put, pa, pb, pc]
     refine lw 7 rfl ?_
     simp only [Act.put, pa, pb, pc]
     refine lw 8 rfl ?_
     simp only [Act.put, pa, pb, pc]
     refine lo 9 rfl ?_
     simp only [Act.put, pa, pb, pc]
     refine lo 10 rfl ?_
     simp only [Act.put, pa, pb, pc]
     refine lo 11 rfl ?_
     simp only [Act.put, pa, pb, pc]
     refine lo 12 rfl ?_
     simp only [Act.put, pa, pb, pc]
     refine lo 13 rfl ?_
     simp only [Act.put, pa, pb, pc]
     refine lw 14 rfl ?_
     simp only [Act.put, pa, pb, pc]
     refine lw 15 rfl ?_
     simp only [Act.put, pa, pb, pc]
     refine late_end (by kernel_rfl) (fun wn hl => ?_)
     have HR1 := H_ (HR1.out.later hl); have HE3 := H_ (HE3.out.later hl); have HE4 := H_ (HE4.out.later hl); have HB := H_ (below_on HB.out hl); clear hl
     go_wp2_with fail
     go_meet
     case rel => exact ⟨rfl, HR1.out, HE3.out, HE4.out, HB.out⟩
    ·obtain ⟨t0, ht0⟩ : ∃ t, (takZ p m0 != -1) = t := ⟨_, rfl⟩
     have HTk0 := H_ ht0
     have hf0 : fo = t0 := by rw [← HFo.out, ← ht0]; unfold forB; rw [g4]; rfl
     subst hf0
     have HX0 := H_ (show (m0 :: L)[0]? = some m0 from rfl)
     have HFi0 := H_ (HLf.out m0 (by simp))
     obtain ⟨g3, rfl, _⟩ := HE3.out.at HX0.out
     have gl : decide ((0 : Int) < (((m0 :: L).length : Nat) : Int)) = true := decide_eq_true (by simp)
     have gl2 : (0 : Int) < (((m0 :: L).length : Nat) : Int) := by simp
     clear ht0
     refine late_begin 16 (by kernel_rfl) ?_
     refine lw 0 rfl ?_
     simp only [Act.put, pa, pb, pc]
     refine lv 1 rfl ⟨.int .u8 (p 0), fun w' hl => (run_get 5 _ rfl b1 0 rfl Tryz.underlying5 rfl (.int .u8 (p 0)) ((HR1.out.later hl).cell 0 (by decide))), ?_⟩
     simp only [Act.put, pa, pb, pc]
     refine lw 2 rfl ?_
     simp only [Act.put, pa, pb, pc]
     refine lw 3 rfl ?_
     simp only [Act.put, pa, pb, pc]
     refine lw 4 rfl ?_
     simp only [Act.put, pa, pb, pc]
     refine lw 5 rfl ?_
     simp only [Act.put, pa, pb, pc]
     refine lw 6 rfl ?_
     simp only [Act.put, pa, pb, pc]
     refine lw 7 rfl ?_
     simp only [Act.put, pa, pb, pc]
     refine lw 8 rfl ?_
     simp only [Act.put, pa, pb, pc]
     refine lv 9 rfl ⟨.agg (posA p), fun w' hl => (run_load _ rfl _ rfl p (HR1.out.later hl)), ?_⟩
     simp only [Act.put, pa, pb, pc]
     refine lw 10 rfl ?_
     simp only [Act.put, pa, pb, pc]
     refine lv 11 rfl ⟨.pointer (some ⟨g3, 0, none⟩), fun w' hl => ?_, ?_⟩
     ·(go_simp <;> (intro hbad; omega))
     simp only [Act.put, pa, pb, pc]
     refine lv 12 rfl ⟨.agg (mvA m0), fun w' hl => (run_mvK _ rfl g3 0 _ rfl (by first | omega | (simp; omega)) m0 ((HE3.out.later hl).get HX0.out)), ?_⟩
     simp only [Act.put, pa, pb, pc]
     refine l1 13 rfl fun wn hl K hK => ?_
     have HR1 := H_ (HR1.out.later hl); have HE3 := H_ (HE3.out.later hl); have HE4 := H_ (HE4.out.later hl); have HB := H_ (below_on HB.out hl); clear hl
     refine we ?_
     refine (takesK HTk0.out _ (PsR.of HP.out) HFi0.out (HT.out.on HB.out).ps).mono ?_; rintro e wm ⟨rfl, hb⟩; refine ⟨_, rfl, ?_⟩
     refine hK.out _ _ hb ?_
     have HR1 := H_ (HR1.out.later hb); have HE3 := H_ (HE3.out.later hb); have HE4 := H_ (HE4.out.later hb); have HB := H_ (below_on HB.out hb); clear hb
     clear hK K
     simp only [Act.put, pa, pb, pc]
     refine lw 14 rfl ?_
     simp only [Act.put, pa, pb, pc]
     refine lw 15 rfl ?_
     simp only [Act.put, pa, pb, pc]
     refine late_end (by kernel_rfl) (fun wn hl => ?_)
     have HR1 := H_ (HR1.out.later hl); have HE3 := H_ (HE3.out.later hl); have HE4 := H_ (HE4.out.later hl); have HB := H_ (below_on HB.out hl); clear hl
     go_wp2_with fail
     go_meet
     case rel => exact ⟨rfl, HR1.out, HE3.out, HE4.out, HB.out⟩
  case rest =>
   clear HR1 HE3 HE4 HB
   obtain ⟨rfl, hr1, he3, he4, hb⟩ := hcut
   have HR1 := H_ hr1
   have HE3 := H_ he3
   have HE4 := H_ he4
   have HB := H_ hb
   clear hr1 he3 he4 hb
   go_wp2_with fail
   go_loopw [7, 8, 9] (fun s7 s8 _ wr => ∃ i : Nat, i ≤ Am.length ∧ s8 = .int .i64 (i : Int) ∧ s7 = .int .i64 ((((Am.take i).filter (fmL p)).length : Nat) : Int) ∧ Row wr b1 p ∧ Mvs L a3 wr ∧ Mvs Am a4 wr ∧ Below w.heap.size w wr) (fun _ s8 _ _ => Am.length - (intOf s8).toNat)
   case atStart => exact ⟨0, by omega, rfl, rfl, HR1.out, HE3.out, HE4.out, HB.out⟩
   case round =>
    clear HR1 HE3 HE4 HB
    obtain ⟨i, hi, rfl, rfl, hr1, he3, he4, hb⟩ := hrel
    have HR1 := H_ hr1
    have HE3 := H_ he3
    have HE4 := H_ he4
    have HB := H_ hb
    clear hr1 he3 he4 hb
    have hle := ptr_le (fmL p) Am i
    rw [← HFl.out] at hle
    obtain ⟨n, hn⟩ : ∃ n, ((Am.take i).filter (fmL p)).length = n := ⟨_, rfl⟩
    rw [hn] at hle ⊢
    have HNn := H_ hn
    have HLe := H_ hle
    have hn1 : (n : Int) ≤ 1000000 := by have := HLm.out; omega
    clear hn hle
    by_cases hlt : i < Am.length
    ·obtain ⟨x, hx⟩ : ∃ x, Am[i]? = some x := ⟨_, List.getElem?_eq_getElem hlt⟩
     obtain ⟨g4, rfl, _⟩ := HE4.out.at hx
     have HX := H_ hx
     have HFi := H_ (HAf.out x (List.mem_of_getElem? hx))
     have HSu := H_ (ptr_succ (f := fmL p) hx)
     have hyes := fun h => ptr_yes (f := fmL p) hx h
     rw [← HFl.out, HNn.out] at hyes
     have hi1 : (i : Int) < 1000000 := by have := HAm.out; omega
     have Hlt := H_ hlt
     have hlt : (i : Int) < (Am.length : Int) := by omega
     obtain ⟨f, hf⟩ : ∃ f, fmL p x = f := ⟨_, rfl⟩
     have HF := H_ hf
     obtain ⟨wl, hwl⟩ : ∃ b, welL p x = b := ⟨_, rfl⟩
     have HWl := H_ hwl
     obtain ⟨tk, htk⟩ : ∃ b, (takZ p x != -1) = b := ⟨_, rfl⟩
     have HTk := H_ htk
     have HYes := H_ hyes
     clear hx hf hwl htk hyes
     go_upto_region 11 with fail
     go_cut [57] (fun s57 wx => s57 = .bool f ∧ Row wx b1 p ∧ Mvs L a3 wx ∧ Mvs Am (some ⟨g4, 0, none⟩) wx ∧ Below w.heap.size w wx)
     case first =>
      cases f
      ·by_cases hnl : n < L.length
       ·obtain ⟨y', hy⟩ : ∃ y, L[n]? = some y := ⟨_, List.getElem?_eq_getElem hnl⟩
        obtain ⟨g3, rfl, _⟩ := HE3.out.at hy
        have HXn := H_ hy
        have HFy := H_ (HLf.out y' (List.mem_of_getElem? hy))
        have HNe := H_ (show mvE y' x = false by
         cases e : mvE y' x
         ·rfl
         ·have e2 := mvE_true.1 e
          have hm := List.mem_of_getElem? hy
          rw [HFl.out, e2] at hm
          have := (List.mem_filter.1 hm).2
          rw [HF.out] at this; cases this)
        have gn : (n : Int) < (L.length : Int) := by omega
        clear hy hnl
        refine late_begin 15 (by kernel_rfl) ?_
        refine lw 0 rfl ?_
        simp only [Act.put, pa, pb, pc]
        refine lw 1 rfl ?_
        simp only [Act.put, pa, pb, pc]
        refine lw 2 rfl ?_
        simp only [Act.put, pa, pb, pc]
        refine lw 3 rfl ?_
        simp only [Act.put, pa, pb, pc]
        refine lw 4 rfl ?_
        simp only [Act.put, pa, pb, pc]
        refine lw 5 rfl ?_
        simp only [Act.put, pa, pb, pc]
        refine lw 6 rfl ?_
        simp only [Act.put, pa, pb, pc]
        refine lv 7 rfl ⟨.pointer (some ⟨g3, n * 5, none⟩), fun w' hl => ?_, ?_⟩
        ·(go_simp <;> (intro hbad; omega))
        simp only [Act.put, pa, pb, pc]
        refine lv 8 rfl ⟨.agg (mvA y'), fun w' hl => (run_mvK _ rfl g3 n _ rfl (by first | omega | (simp; omega)) y' ((HE3.out.later hl).get HXn.out)), ?_⟩
        simp only [Act.put, pa, pb, pc]
        refine lw 9 rfl ?_
        simp only [Act.put, pa, pb, pc]
        refine lw 10 rfl ?_
        simp only [Act.put, pa, pb, pc]
        refine lv 11 rfl ⟨.pointer (some ⟨g4, i * 5, none⟩), fun w' hl => ?_, ?_⟩
        ·(go_simp <;> (intro hbad; omega))
        simp only [Act.put, pa, pb, pc]
        refine lv 12 rfl ⟨.agg (mvA x), fun w' hl => (run_mvK _ rfl g4 i _ rfl (by first | omega | (simp; omega)) x ((HE4.out.later hl).get HX.out)), ?_⟩
        simp only [Act.put, pa, pb, pc]
        refine lv 13 rfl ⟨.bool false, fun w' hl => (run_mvQ _ _ rfl y' x rfl rfl HFy.out HFi.out false HNe.out), ?_⟩
        simp only [Act.put, pa, pb, pc]
        refine lw 14 rfl ?_
        simp only [Act.put, pa, pb, pc]
        refine late_end (by kernel_rfl) (fun wn hl => ?_)
        have HR1 := H_ (HR1.out.later hl); have HE3 := H_ (HE3.out.later hl); have HE4 := H_ (HE4.out.later hl); have HB := H_ (below_on HB.out hl); clear hl
        go_wp2_with fail
        go_meet
        case rel => exact ⟨rfl, HR1.out, HE3.out, HE4.out, HB.out⟩
       ·have gn : ¬ ((n : Int) < (L.length : Int)) := by omega
        clear hnl
        refine late_begin 15 (by kernel_rfl) ?_
        refine lw 0 rfl ?_
        simp only [Act.put, pa, pb, pc]
        refine lw 1 rfl ?_
        simp only [Act.put, pa, pb, pc]
        refine lw 2 rfl ?_
        simp only [Act.put, pa, pb, pc]
        refine lw 3 rfl ?_
        simp only [Act.put, pa, pb, pc]
        refine lw 4 rfl ?_
        simp only [Act.put, pa, pb, pc]
        refine lo 5 rfl ?_
        simp only [Act.put, pa, pb, pc]
        refine lo 6 rfl ?_
        simp only [Act.put, pa, pb, pc]
        refine lo 7 rfl ?_
        simp only [Act.put, pa, pb, pc]
        refine lo 8 rfl ?_
        simp only [Act.put, pa, pb, pc]
        refine lo 9 rfl ?_
        simp only [Act.put, pa, pb, pc]
        refine lo 10 rfl ?_
        simp only [Act.put, pa, pb, pc]
        refine lo 11 rfl ?_
        simp only [Act.put, pa, pb, pc]
        refine lo 12 rfl ?_
        simp only [Act.put, pa, pb, pc]
        refine lo 13 rfl ?_
        simp only [Act.put, pa, pb, pc]
        refine lw 14 rfl ?_
        simp only [Act.put, pa, pb, pc]
        refine late_end (by kernel_rfl) (fun wn hl => ?_)
        have HR1 := H_ (HR1.out.later hl); have HE3 := H_ (HE3.out.later hl); have HE4 := H_ (HE4.out.later hl); have HB := H_ (below_on HB.out hl); clear hl
        go_wp2_with fail
        go_meet
        case rel => exact ⟨rfl, HR1.out, HE3.out, HE4.out, HB.out⟩
      ·have hy := HYes.out HF.out
       obtain ⟨g3, rfl, _⟩ := HE3.out.at hy
       have HXn := H_ hy
       have gn : (n : Int) < (L.length : Int) := by have := (List.getElem?_eq_some_iff.1 hy).1; omega
       clear hy
       refine late_begin 15 (by kernel_rfl) ?_
       refine lw 0 rfl ?_
       simp only [Act.put, pa, pb, pc]
       refine lw 1 rfl ?_
       simp only [Act.put, pa, pb, pc]
       refine lw 2 rfl ?_
       simp only [Act.put, pa, pb, pc]
       refine lw 3 rfl ?_
       simp only [Act.put, pa, pb, pc]
       refine lw 4 rfl ?_
       simp only [Act.put, pa, pb, pc]
       refine lw 5 rfl ?_
       simp only [Act.put, pa, pb, pc]
       refine lw 6 rfl ?_
       simp only [Act.put, pa, pb, pc]
       refine lv 7 rfl ⟨.pointer (some ⟨g3, n * 5, none⟩), fun w' hl => ?_, ?_⟩
       ·(go_simp <;> (intro hbad; omega))
       simp only [Act.put, pa, pb, pc]
       refine lv 8 rfl ⟨.agg (mvA x), fun w' hl => (run_mvK _ rfl g3 n _ rfl (by first | omega | (simp; omega)) x ((HE3.out.later hl).get HXn.out)), ?_⟩
       simp only [Act.put, pa, pb, pc]
       refine lw 9 rfl ?_
       simp only [Act.put, pa, pb, pc]
       refine lw 10 rfl ?_
       simp only [Act.put, pa, pb, pc]
       refine lv 11 rfl ⟨.pointer (some ⟨g4, i * 5, none⟩), fun w' hl => ?_, ?_⟩
       ·(go_simp <;> (intro hbad; omega))
       simp only [Act.put, pa, pb, pc]
       refine lv 12 rfl ⟨.agg (mvA x), fun w' hl => (run_mvK _ rfl g4 i _ rfl (by first | omega | (simp; omega)) x ((HE4.out.later hl).get HX.out)), ?_⟩
       simp only [Act.put, pa, pb, pc]
       refine lv 13 rfl ⟨.bool true, fun w' hl => (run_mvQ _ _ rfl x x rfl rfl HFi.out HFi.out true (mvE_true.2 rfl)), ?_⟩
       simp only [Act.put, pa, pb, pc]
       refine lw 14 rfl ?_
       simp only [Act.put, pa, pb, pc]
       refine late_end (by kernel_rfl) (fun wn hl => ?_)
       have HR1 := H_ (HR1.out.later hl); have HE3 := H_ (HE3.out.later hl); have HE4 := H_ (HE4.out.later hl); have HB := H_ (below_on HB.out hl); clear hl
       go_wp2_with fail
       go_meet
       case rel => exact ⟨rfl, HR1.out, HE3.out, HE4.out, HB.out⟩
     case rest =>
      clear HR1 HE3 HE4 HB
      obtain ⟨rfl, hr1, he3, he4, hb⟩ := hcut
      have HR1 := H_ hr1
      have HE3 := H_ he3
      have HE4 := H_ he4
      have HB := H_ hb
      clear hr1 he3 he4 hb
      cases f
      ·have HNx := H_ (show ((Am.take (i + 1)).filter (fmL p)).length = n by rw [HSu.out, HF.out, HNn.out]; rfl)
       go_upto_region 15 with fail
       go_cut [9] (fun s9 wx => ∃ k, s9 = .bool k ∧ Row wx b1 p ∧ Mvs L a3 wx ∧ Mvs Am (some ⟨g4, 0, none⟩) wx ∧ Below w.heap.size w wx)
       case first =>
        obtain ⟨r, hr⟩ : ∃ r, ryB (p 0).toNat (p 78).toNat = r := ⟨_, rfl⟩
        have HRy := H_ hr
        clear hr
        cases r
        ·go_wp2_with (first
          | (guard_target = gL 79; refine gU rfl 5 _ rfl Tryz.underlying5 HR1.out 0 (by decide) rfl rfl ?_)
          | (guard_target = gL 81; refine gU rfl 5 _ rfl Tryz.underlying5 HR1.out 78 (by decide) rfl rfl ?_)
          | (go_at_call 14; refine (royalI HRy.out _ HV.out HTu.out.1 (HT.out.on HB.out).var).mono ?_; rintro e w3 ⟨rfl, hb⟩; have HR1 := H_ (HR1.out.later hb); have HE3 := H_ (HE3.out.later hb); have HE4 := H_ (HE4.out.later hb); have HB := H_ (below_on HB.out hb); clear hb)
          | (guard_target = gL 1; refine step_load rfl _ rfl b1 rfl p HR1.out ?_)
          | (go_at_call 20; refine (lg_has p _).mono ?_; rintro e w3 ⟨kh, rfl, hb⟩; have HR1 := H_ (HR1.out.later hb); have HE3 := H_ (HE3.out.later hb); have HE4 := H_ (HE4.out.later hb); have HB := H_ (below_on HB.out hb); clear hb))
         go_meet
         case rel => exact ⟨_, rfl, HR1.out, HE3.out, HE4.out, HB.out⟩
        ·go_wp2_with (first
          | (guard_target = gL 79; refine gU rfl 5 _ rfl Tryz.underlying5 HR1.out 0 (by decide) rfl rfl ?_)
          | (guard_target = gL 81; refine gU rfl 5 _ rfl Tryz.underlying5 HR1.out 78 (by decide) rfl rfl ?_)
          | (go_at_call 14; refine (royalI HRy.out _ HV.out HTu.out.1 (HT.out.on HB.out).var).mono ?_; rintro e w3 ⟨rfl, hb⟩; have HR1 := H_ (HR1.out.later hb); have HE3 := H_ (HE3.out.later hb); have HE4 := H_ (HE4.out.later hb); have HB := H_ (below_on HB.out hb); clear hb)
          | (guard_target = gL 1; refine step_load rfl _ rfl b1 rfl p HR1.out ?_)
          | (go_at_call 20; refine (lg_has p _).mono ?_; rintro e w3 ⟨kh, rfl, hb⟩; have HR1 := H_ (HR1.out.later hb); have HE3 := H_ (HE3.out.later hb); have HE4 := H_ (HE4.out.later hb); have HB := H_ (below_on HB.out hb); clear hb))
         go_meet
         case rel => exact ⟨_, rfl, HR1.out, HE3.out, HE4.out, HB.out⟩
       case rest =>
        clear HR1 HE3 HE4 HB
        obtain ⟨kx, rfl, hr1, he3, he4, hb⟩ := hcut
        have HR1 := H_ hr1
        have HE3 := H_ he3
        have HE4 := H_ he4
        have HB := H_ hb
        clear hr1 he3 he4 hb
        go_wp2_with fail
        cases wl
        ·skip
         refine late_begin 26 (by kernel_rfl) ?_
         refine lv 0 rfl ⟨.agg (posA p), fun w' hl => (run_load _ rfl _ rfl p (HR1.out.later hl)), ?_⟩
         simp only [Act.put, pa, pb, pc]
         refine lw 1 rfl ?_
         simp only [Act.put, pa, pb, pc]
         refine lw 2 rfl ?_
         simp only [Act.put, pa, pb, pc]
         refine lv 3 rfl ⟨.pointer (some ⟨g4, i * 5, none⟩), fun w' hl => ?_, ?_⟩
         ·(go_simp <;> (intro hbad; omega))
         simp only [Act.put, pa, pb, pc]
         refine lv 4 rfl ⟨.agg (mvA x), fun w' hl => (run_mvK _ rfl g4 i _ rfl (by first | omega | (simp; omega)) x ((HE4.out.later hl).get HX.out)), ?_⟩
         simp only [Act.put, pa, pb, pc]
         refine l1 5 rfl fun wn hl K hK => ?_
         have HR1 := H_ (HR1.out.later hl); have HE3 := H_ (HE3.out.later hl); have HE4 := H_ (HE4.out.later hl); have HB := H_ (below_on HB.out hl); clear hl
         refine we ?_
         refine (wellK HWl.out _ HP.out HFi.out (HT.out.on HB.out)).mono ?_; rintro e wm ⟨rfl, hb⟩; refine ⟨_, rfl, ?_⟩
         refine hK.out _ _ hb ?_
         have HR1 := H_ (HR1.out.later hb); have HE3 := H_ (HE3.out.later hb); have HE4 := H_ (HE4.out.later hb); have HB := H_ (below_on HB.out hb); clear hb
         clear hK K
         simp only [Act.put, pa, pb, pc]
         refine lw 6 rfl ?_
         simp only [Act.put, pa, pb, pc]
         refine lo 7 rfl ?_
         simp only [Act.put, pa, pb, pc]
         refine lo 8 rfl ?_
         simp only [Act.put, pa, pb, pc]
         refine lw 9 rfl ?_
         simp only [Act.put, pa, pb, pc]
         refine lw 10 rfl ?_
         simp only [Act.put, pa, pb, pc]
         refine lo 11 rfl ?_
         simp only [Act.put, pa, pb, pc]
         refine lo 12 rfl ?_
         simp only [Act.put, pa, pb, pc]
         refine lw 13 rfl ?_
         simp only [Act.put, pa, pb, pc]
         refine lw 14 rfl ?_
         simp only [Act.put, pa, pb, pc]
         refine lo 15 rfl ?_
         simp only [Act.put, pa, pb, pc]
         refine lo 16 rfl ?_
         simp only [Act.put, pa, pb, pc]
         refine lo 17 rfl ?_
         simp only [Act.put, pa, pb, pc]
         refine lo 18 rfl ?_
         simp only [Act.put, pa, pb, pc]
         refine lo 19 rfl ?_
         simp only [Act.put, pa, pb, pc]
         refine lo 20 rfl ?_
         simp only [Act.put, pa, pb, pc]
         refine lo 21 rfl ?_
         simp only [Act.put, pa, pb, pc]
         refine lo 22 rfl ?_
         simp only [Act.put, pa, pb, pc]
         refine lo 23 rfl ?_
         simp only [Act.put, pa, pb, pc]
         refine lo 24 rfl ?_
         simp only [Act.put, pa, pb, pc]
         refine lw 25 rfl ?_
         simp only [Act.put, pa, pb, pc]
         refine late_end (by kernel_rfl) (fun wn hl => ?_)
         have HR1 := H_ (HR1.out.later hl); have HE3 := H_ (HE3.out.later hl); have HE4 := H_ (HE4.out.later hl); have HB := H_ (below_on HB.out hl); clear hl
         go_wp2_with fail
         go_roundw
         case rel => exact ⟨i + 1, by have := Hlt.out; omega, by go_num, by rw [HNx.out], HR1.out, HE3.out, HE4.out, HB.out⟩
         case measure => simp [intOf]; have := Hlt.out; omega
        ·cases won
         ·have hfn : forB p L = true ∧ tk = false := by
           have hwan : wanL p x = false := by
            have := HF.out
            unfold fmL at this
            rw [HGo.out] at this
            exact this
           have h9 := for_not HGo.out HWl.out hwan
           rw [HL.out, HTk.out] at h9
           exact h9
          obtain ⟨hfo1, rfl⟩ := hfn
          have hfo2 : fo = true := by rw [← HFo.out]; exact hfo1
          subst hfo2
          clear hfo1
          cases kx
          ·skip
           refine late_begin 26 (by kernel_rfl) ?_
           refine lv 0 rfl ⟨.agg (posA p), fun w' hl => (run_load _ rfl _ rfl p (HR1.out.later hl)), ?_⟩
           simp only [Act.put, pa, pb, pc]
           refine lw 1 rfl ?_
           simp only [Act.put, pa, pb, pc]
           refine lw 2 rfl ?_
           simp only [Act.put, pa, pb, pc]
           refine lv 3 rfl ⟨.pointer (some ⟨g4, i * 5, none⟩), fun w' hl => ?_, ?_⟩
           ·(go_simp <;> (intro hbad; omega))
           simp only [Act.put, pa, pb, pc]
           refine lv 4 rfl ⟨.agg (mvA x), fun w' hl => (run_mvK _ rfl g4 i _ rfl (by first | omega | (simp; omega)) x ((HE4.out.later hl).get HX.out)), ?_⟩
           simp only [Act.put, pa, pb, pc]
           refine l1 5 rfl fun wn hl K hK => ?_
           have HR1 := H_ (HR1.out.later hl); have HE3 := H_ (HE3.out.later hl); have HE4 := H_ (HE4.out.later hl); have HB := H_ (below_on HB.out hl); clear hl
           refine we ?_
           refine (wellK HWl.out _ HP.out HFi.out (HT.out.on HB.out)).mono ?_; rintro e wm ⟨rfl, hb⟩; refine ⟨_, rfl, ?_⟩
           refine hK.out _ _ hb ?_
           have HR1 := H_ (HR1.out.later hb); have HE3 := H_ (HE3.out.later hb); have HE4 := H_ (HE4.out.later hb); have HB := H_ (below_on HB.out hb); clear hb
           clear hK K
           simp only [Act.put, pa, pb, pc]
           refine lw 6 rfl ?_
           simp only [Act.put, pa, pb, pc]
           refine lw 7 rfl ?_
           simp only [Act.put, pa, pb, pc]
           refine lw 8 rfl ?_
           simp only [Act.put, pa, pb, pc]
           refine lw 9 rfl ?_
           simp only [Act.put, pa, pb, pc]
           refine lw 10 rfl ?_
           simp only [Act.put, pa, pb, pc]
           refine lw 11 rfl ?_
           simp only [Act.put, pa, pb, pc]
           refine lw 12 rfl ?_
           simp only [Act.put, pa, pb, pc]
           refine lw 13 rfl ?_
           simp only [Act.put, pa, pb, pc]
           refine lw 14 rfl ?_
           simp only [Act.put, pa, pb, pc]
           refine lw 15 rfl ?_
           simp only [Act.put, pa, pb, pc]
           refine lw 16 rfl ?_
           simp only [Act.put, pa, pb, pc]
           refine lw 17 rfl ?_
           simp only [Act.put, pa, pb, pc]
           refine lv 18 rfl ⟨.agg (posA p), fun w' hl => (run_load _ rfl _ rfl p (HR1.out.later hl)), ?_⟩
           simp only [Act.put, pa, pb, pc]
           refine lw 19 rfl ?_
           simp only [Act.put, pa, pb, pc]
           refine lw 20 rfl ?_
           simp only [Act.put, pa, pb, pc]
           refine lv 21 rfl ⟨.pointer (some ⟨g4, i * 5, none⟩), fun w' hl => ?_, ?_⟩
           ·(go_simp <;> (intro hbad; omega))
           simp only [Act.put, pa, pb, pc]
           refine lv 22 rfl ⟨.agg (mvA x), fun w' hl => (run_mvK _ rfl g4 i _ rfl (by first | omega | (simp; omega)) x ((HE4.out.later hl).get HX.out)), ?_⟩
           simp only [Act.put, pa, pb, pc]
           refine l1 23 rfl fun wn hl K hK => ?_
           have HR1 := H_ (HR1.out.later hl); have HE3 := H_ (HE3.out.later hl); have HE4 := H_ (HE4.out.later hl); have HB := H_ (below_on HB.out hl); clear hl
           refine we ?_
           refine (takesK HTk.out _ (PsR.of HP.out) HFi.out (HT.out.on HB.out).ps).mono ?_; rintro e wm ⟨rfl, hb⟩; refine ⟨_, rfl, ?_⟩
           refine hK.out _ _ hb ?_
           have HR1 := H_ (HR1.out.later hb); have HE3 := H_ (HE3.out.later hb); have HE4 := H_ (HE4.out.later hb); have HB := H_ (below_on HB.out hb); clear hb
           clear hK K
           simp only [Act.put, pa, pb, pc]
           refine lw 24 rfl ?_
           simp only [Act.put, pa, pb, pc]
           refine lw 25 rfl ?_
           simp only [Act.put, pa, pb, pc]
           refine late_end (by kernel_rfl) (fun wn hl => ?_)
           have HR1 := H_ (HR1.out.later hl); have HE3 := H_ (HE3.out.later hl); have HE4 := H_ (HE4.out.later hl); have HB := H_ (below_on HB.out hl); clear hl
           go_wp2_with fail
           go_roundw
           case rel => exact ⟨i + 1, by have := Hlt.out; omega, by go_num, by rw [HNx.out], HR1.out, HE3.out, HE4.out, HB.out⟩
           case measure => simp [intOf]; have := Hlt.out; omega
          ·skip
           refine late_begin 26 (by kernel_rfl) ?_
           refine lv 0 rfl ⟨.agg (posA p), fun w' hl => (run_load _ rfl _ rfl p (HR1.out.later hl)), ?_⟩
           simp only [Act.put, pa, pb, pc]
           refine lw 1 rfl ?_
           simp only [Act.put, pa, pb, pc]
           refine lw 2 rfl ?_
           simp only [Act.put, pa, pb, pc]
           refine lv 3 rfl ⟨.pointer (some ⟨g4, i * 5, none⟩), fun w' hl => ?_, ?_⟩
           ·(go_simp <;> (intro hbad; omega))
           simp only [Act.put, pa, pb, pc]
           refine lv 4 rfl ⟨.agg (mvA x), fun w' hl => (run_mvK _ rfl g4 i _ rfl (by first | omega | (simp; omega)) x ((HE4.out.later hl).get HX.out)), ?_⟩
           simp only [Act.put, pa, pb, pc]
           refine l1 5 rfl fun wn hl K hK => ?_
           have HR1 := H_ (HR1.out.later hl); have HE3 := H_ (HE3.out.later hl); have HE4 := H_ (HE4.out.later hl); have HB := H_ (below_on HB.out hl); clear hl
           refine we ?_
           refine (wellK HWl.out _ HP.out HFi.out (HT.out.on HB.out)).mono ?_; rintro e wm ⟨rfl, hb⟩; refine ⟨_, rfl, ?_⟩
           refine hK.out _ _ hb ?_
           have HR1 := H_ (HR1.out.later hb); have HE3 := H_ (HE3.out.later hb); have HE4 := H_ (HE4.out.later hb); have HB := H_ (below_on HB.out hb); clear hb
           clear hK K
           simp only [Act.put, pa, pb, pc]
           refine lw 6 rfl ?_
           simp only [Act.put, pa, pb, pc]
           refine lw 7 rfl ?_
           simp only [Act.put, pa, pb, pc]
           refine lw 8 rfl ?_
           simp only [Act.put, pa, pb, pc]
           refine lw 9 rfl ?_
           simp only [Act.put, pa, pb, pc]
           refine lw 10 rfl ?_
           simp only [Act.put, pa, pb, pc]
           refine lw 11 rfl ?_
           simp only [Act.put, pa, pb, pc]
           refine lw 12 rfl ?_
           simp only [Act.put, pa, pb, pc]
           refine lw 13 rfl ?_
           simp only [Act.put, pa, pb, pc]
           refine lw 14 rfl ?_
           simp only [Act.put, pa, pb, pc]
           refine lo 15 rfl ?_
           simp only [Act.put, pa, pb, pc]
           refine lo 16 rfl ?_
           simp only [Act.put, pa, pb, pc]
           refine lo 17 rfl ?_
           simp only [Act.put, pa, pb, pc]
           refine lo 18 rfl ?_
           simp only [Act.put, pa, pb, pc]
           refine lo 19 rfl ?_
           simp only [Act.put, pa, pb, pc]
           refine lo 20 rfl ?_
           simp only [Act.put, pa, pb, pc]
           refine lo 21 rfl ?_
           simp only [Act.put, pa, pb, pc]
           refine lo 22 rfl ?_
           simp only [Act.put, pa, pb, pc]
           refine lo 23 rfl ?_
           simp only [Act.put, pa, pb, pc]
           refine lo 24 rfl ?_
           simp only [Act.put, pa, pb, pc]
           refine lw 25 rfl ?_
           simp only [Act.put, pa, pb, pc]
           refine late_end (by kernel_rfl) (fun wn hl => ?_)
           have HR1 := H_ (HR1.out.later hl); have HE3 := H_ (HE3.out.later hl); have HE4 := H_ (HE4.out.later hl); have HB := H_ (below_on HB.out hl); clear hl
           go_wp2_with fail
           go_roundw
           case rel => exact ⟨i + 1, by have := Hlt.out; omega, by go_num, by rw [HNx.out], HR1.out, HE3.out, HE4.out, HB.out⟩
           case measure => simp [intOf]; have := Hlt.out; omega
         ·skip
          refine late_begin 26 (by kernel_rfl) ?_
          refine lv 0 rfl ⟨.agg (posA p), fun w' hl => (run_load _ rfl _ rfl p (HR1.out.later hl)), ?_⟩
          simp only [Act.put, pa, pb, pc]
          refine lw 1 rfl ?_
          simp only [Act.put, pa, pb, pc]
          refine lw 2 rfl ?_
          simp only [Act.put, pa, pb, pc]
          refine lv 3 rfl ⟨.pointer (some ⟨g4, i * 5, none⟩), fun w' hl => ?_, ?_⟩
          ·(go_simp <;> (intro hbad; omega))
          simp only [Act.put, pa, pb, pc]
          refine lv 4 rfl ⟨.agg (mvA x), fun w' hl => (run_mvK _ rfl g4 i _ rfl (by first | omega | (simp; omega)) x ((HE4.out.later hl).get HX.out)), ?_⟩
          simp only [Act.put, pa, pb, pc]
          refine l1 5 rfl fun wn hl K hK => ?_
          have HR1 := H_ (HR1.out.later hl); have HE3 := H_ (HE3.out.later hl); have HE4 := H_ (HE4.out.later hl); have HB := H_ (below_on HB.out hl); clear hl
          refine we ?_
          refine (wellK HWl.out _ HP.out HFi.out (HT.out.on HB.out)).mono ?_; rintro e wm ⟨rfl, hb⟩; refine ⟨_, rfl, ?_⟩
          refine hK.out _ _ hb ?_
          have HR1 := H_ (HR1.out.later hb); have HE3 := H_ (HE3.out.later hb); have HE4 := H_ (HE4.out.later hb); have HB := H_ (below_on HB.out hb); clear hb
          clear hK K
          simp only [Act.put, pa, pb, pc]
          refine lw 6 rfl ?_
          simp only [Act.put, pa, pb, pc]
          refine lw 7 rfl ?_
          simp only [Act.put, pa, pb, pc]
          refine lw 8 rfl ?_
          simp only [Act.put, pa, pb, pc]
          refine lw 9 rfl ?_
          simp only [Act.put, pa, pb, pc]
          refine lw 10 rfl ?_
          simp only [Act.put, pa, pb, pc]
          refine lo 11 rfl ?_
          simp only [Act.put, pa, pb, pc]
          refine lo 12 rfl ?_
          simp only [Act.put, pa, pb, pc]
          refine lw 13 rfl ?_
          simp only [Act.put, pa, pb, pc]
          refine lw 14 rfl ?_
          simp only [Act.put, pa, pb, pc]
          refine lo 15 rfl ?_
          simp only [Act.put, pa, pb, pc]
          refine lo 16 rfl ?_
          simp only [Act.put, pa, pb, pc]
          refine lo 17 rfl ?_
          simp only [Act.put, pa, pb, pc]
          refine lo 18 rfl ?_
          simp only [Act.put, pa, pb, pc]
          refine lo 19 rfl ?_
          simp only [Act.put, pa, pb, pc]
          refine lo 20 rfl ?_
          simp only [Act.put, pa, pb, pc]
          refine lo 21 rfl ?_
          simp only [Act.put, pa, pb, pc]
          refine lo 22 rfl ?_
          simp only [Act.put, pa, pb, pc]
          refine lo 23 rfl ?_
          simp only [Act.put, pa, pb, pc]
          refine lo 24 rfl ?_
          simp only [Act.put, pa, pb, pc]
          refine lw 25 rfl ?_
          simp only [Act.put, pa, pb, pc]
          refine late_end (by kernel_rfl) (fun wn hl => ?_)
          have HR1 := H_ (HR1.out.later hl); have HE3 := H_ (HE3.out.later hl); have HE4 := H_ (HE4.out.later hl); have HB := H_ (below_on HB.out hl); clear hl
          go_wp2_with fail
          go_roundw
          case rel => exact ⟨i + 1, by have := Hlt.out; omega, by go_num, by rw [HNx.out], HR1.out, HE3.out, HE4.out, HB.out⟩
          case measure => simp [intOf]; have := Hlt.out; omega
      ·have HNx := H_ (show ((Am.take (i + 1)).filter (fmL p)).length = n + 1 by rw [HSu.out, HF.out, HNn.out]; rfl)
       have hmem : x ∈ lsL p := by rw [HL.out]; exact List.mem_of_getElem? (HYes.out HF.out)
       have hwl1 : wl = true := by rw [← HWl.out]; unfold welL; rw [(ls_wel hmem).1, (ls_wel hmem).2]; rfl
       subst hwl1
       have HTf := H_ (show fo = true → tk = true from fun h => by rw [← HTk.out]; exact for_tak (by rw [HL.out, HFo.out, h]) hmem)
       clear hmem
       go_wp2_with fail
       cases fo
       ·skip
        refine late_begin 19 (by kernel_rfl) ?_
        refine lv 0 rfl ⟨.agg (posA p), fun w' hl => (run_load _ rfl _ rfl p (HR1.out.later hl)), ?_⟩
        simp only [Act.put, pa, pb, pc]
        refine lw 1 rfl ?_
        simp only [Act.put, pa, pb, pc]
        refine lw 2 rfl ?_
        simp only [Act.put, pa, pb, pc]
        refine lv 3 rfl ⟨.pointer (some ⟨g4, i * 5, none⟩), fun w' hl => ?_, ?_⟩
        ·(go_simp <;> (intro hbad; omega))
        simp only [Act.put, pa, pb, pc]
        refine lv 4 rfl ⟨.agg (mvA x), fun w' hl => (run_mvK _ rfl g4 i _ rfl (by first | omega | (simp; omega)) x ((HE4.out.later hl).get HX.out)), ?_⟩
        simp only [Act.put, pa, pb, pc]
        refine l1 5 rfl fun wn hl K hK => ?_
        have HR1 := H_ (HR1.out.later hl); have HE3 := H_ (HE3.out.later hl); have HE4 := H_ (HE4.out.later hl); have HB := H_ (below_on HB.out hl); clear hl
        refine we ?_
        refine (wellK HWl.out _ HP.out HFi.out (HT.out.on HB.out)).mono ?_; rintro e wm ⟨rfl, hb⟩; refine ⟨_, rfl, ?_⟩
        refine hK.out _ _ hb ?_
        have HR1 := H_ (HR1.out.later hb); have HE3 := H_ (HE3.out.later hb); have HE4 := H_ (HE4.out.later hb); have HB := H_ (below_on HB.out hb); clear hb
        clear hK K
        simp only [Act.put, pa, pb, pc]
        refine lw 6 rfl ?_
        simp only [Act.put, pa, pb, pc]
        refine lw 7 rfl ?_
        simp only [Act.put, pa, pb, pc]
        refine lw 8 rfl ?_
        simp only [Act.put, pa, pb, pc]
        refine lw 9 rfl ?_
        simp only [Act.put, pa, pb, pc]
        refine lo 10 rfl ?_
        simp only [Act.put, pa, pb, pc]
        refine lo 11 rfl ?_
        simp only [Act.put, pa, pb, pc]
        refine lo 12 rfl ?_
        simp only [Act.put, pa, pb, pc]
        refine lo 13 rfl ?_
        simp only [Act.put, pa, pb, pc]
        refine lo 14 rfl ?_
        simp only [Act.put, pa, pb, pc]
        refine lo 15 rfl ?_
        simp only [Act.put, pa, pb, pc]
        refine lo 16 rfl ?_
        simp only [Act.put, pa, pb, pc]
        refine lw 17 rfl ?_
        simp only [Act.put, pa, pb, pc]
        refine lw 18 rfl ?_
        simp only [Act.put, pa, pb, pc]
        refine late_end (by kernel_rfl) (fun wn hl => ?_)
        have HR1 := H_ (HR1.out.later hl); have HE3 := H_ (HE3.out.later hl); have HE4 := H_ (HE4.out.later hl); have HB := H_ (below_on HB.out hl); clear hl
        go_wp2_with fail
        go_roundw
        case rel => exact ⟨i + 1, by have := Hlt.out; omega, by go_num, by rw [HNx.out]; go_num, HR1.out, HE3.out, HE4.out, HB.out⟩
        case measure => simp [intOf]; have := Hlt.out; omega
       ·have htk1 := HTf.out rfl
        subst htk1
        refine late_begin 19 (by kernel_rfl) ?_
        refine lv 0 rfl ⟨.agg (posA p), fun w' hl => (run_load _ rfl _ rfl p (HR1.out.later hl)), ?_⟩
        simp only [Act.put, pa, pb, pc]
        refine lw 1 rfl ?_
        simp only [Act.put, pa, pb, pc]
        refine lw 2 rfl ?_
        simp only [Act.put, pa, pb, pc]
        refine lv 3 rfl ⟨.pointer (some ⟨g4, i * 5, none⟩), fun w' hl => ?_, ?_⟩
        ·(go_simp <;> (intro hbad; omega))
        simp only [Act.put, pa, pb, pc]
        refine lv 4 rfl ⟨.agg (mvA x), fun w' hl => (run_mvK _ rfl g4 i _ rfl (by first | omega | (simp; omega)) x ((HE4.out.later hl).get HX.out)), ?_⟩
        simp only [Act.put, pa, pb, pc]
        refine l1 5 rfl fun wn hl K hK => ?_
        have HR1 := H_ (HR1.out.later hl); have HE3 := H_ (HE3.out.later hl); have HE4 := H_ (HE4.out.later hl); have HB := H_ (below_on HB.out hl); clear hl
        refine we ?_
        refine (wellK HWl.out _ HP.out HFi.out (HT.out.on HB.out)).mono ?_; rintro e wm ⟨rfl, hb⟩; refine ⟨_, rfl, ?_⟩
        refine hK.out _ _ hb ?_
        have HR1 := H_ (HR1.out.later hb); have HE3 := H_ (HE3.out.later hb); have HE4 := H_ (HE4.out.later hb); have HB := H_ (below_on HB.out hb); clear hb
        clear hK K
        simp only [Act.put, pa, pb, pc]
        refine lw 6 rfl ?_
        simp only [Act.put, pa, pb, pc]
        refine lw 7 rfl ?_
        simp only [Act.put, pa, pb, pc]
        refine lw 8 rfl ?_
        simp only [Act.put, pa, pb, pc]
        refine lw 9 rfl ?_
        simp only [Act.put, pa, pb, pc]
        refine lv 10 rfl ⟨.agg (posA p), fun w' hl => (run_load _ rfl _ rfl p (HR1.out.later hl)), ?_⟩
        simp only [Act.put, pa, pb, pc]
        refine lw 11 rfl ?_
        simp only [Act.put, pa, pb, pc]
        refine lw 12 rfl ?_
        simp only [Act.put, pa, pb, pc]
        refine lv 13 rfl ⟨.pointer (some ⟨g4, i * 5, none⟩), fun w' hl => ?_, ?_⟩
        ·(go_simp <;> (intro hbad; omega))
        simp only [Act.put, pa, pb, pc]
        refine lv 14 rfl ⟨.agg (mvA x), fun w' hl => (run_mvK _ rfl g4 i _ rfl (by first | omega | (simp; omega)) x ((HE4.out.later hl).get HX.out)), ?_⟩
        simp only [Act.put, pa, pb, pc]
        refine l1 15 rfl fun wn hl K hK => ?_
        have HR1 := H_ (HR1.out.later hl); have HE3 := H_ (HE3.out.later hl); have HE4 := H_ (HE4.out.later hl); have HB := H_ (below_on HB.out hl); clear hl
        refine we ?_
        refine (takesK HTk.out _ (PsR.of HP.out) HFi.out (HT.out.on HB.out).ps).mono ?_; rintro e wm ⟨rfl, hb⟩; refine ⟨_, rfl, ?_⟩
        refine hK.out _ _ hb ?_
        have HR1 := H_ (HR1.out.later hb); have HE3 := H_ (HE3.out.later hb); have HE4 := H_ (HE4.out.later hb); have HB := H_ (below_on HB.out hb); clear hb
        clear hK K
        simp only [Act.put, pa, pb, pc]
        refine lw 16 rfl ?_
        simp only [Act.put, pa, pb, pc]
        refine lw 17 rfl ?_
        simp only [Act.put, pa, pb, pc]
        refine lw 18 rfl ?_
        simp only [Act.put, pa, pb, pc]
        refine late_end (by kernel_rfl) (fun wn hl => ?_)
        have HR1 := H_ (HR1.out.later hl); have HE3 := H_ (HE3.out.later hl); have HE4 := H_ (HE4.out.later hl); have HB := H_ (below_on HB.out hl); clear hl
        go_wp2_with fail
        go_roundw
        case rel => exact ⟨i + 1, by have := Hlt.out; omega, by go_num, by rw [HNx.out]; go_num, HR1.out, HE3.out, HE4.out, HB.out⟩
        case measure => simp [intOf]; have := Hlt.out; omega
    ·obtain rfl : i = Am.length := by omega
     have hnL : n = L.length := by rw [← HNn.out, List.take_length, ← HFl.out]
     subst hnL
     cases won
     ·go_wp2_with (first
       | (go_at_call 11; refine (lg_awake _ (HT.out.on HB.out) (HK.out.on HB.out)).mono ?_; rintro e w3 ⟨rfl, hb⟩; have HB := H_ (below_on HB.out hb); clear hb))
      go_ret
      exact ⟨rfl, HB.out⟩
     ·have hl0 := HNil.out rfl
      rw [HL.out] at hl0
      subst hl0
      go_wp2_with (first
       | (go_at_call 11; refine (lg_awake _ (HT.out.on HB.out) (HK.out.on HB.out)).mono ?_; rintro e w3 ⟨rfl, hb⟩; have HB := H_ (below_on HB.out hb); clear hb))
      go_ret
      exact ⟨rfl, HB.out⟩
end Go.Proofs.YteblmnbagbdiiaaGreatDoor.legalPart
