/-
 The walk of LegalClocks.
-/
import Derived.Test.YteblmnbagbdiiaaGreatDoorLgGrE
import Derived.Test.YteblmnbagbdiiaaGreatDoorLgV
import Derived.WalkKit
import Derived.OpenShut
set_option maxRecDepth 100000
set_option maxHeartbeats 8000000
namespace Go.Proofs.YteblmnbagbdiiaaGreatDoor.legalClocks
open Go.RowKit
set_option linter.unusedVariables false
set_option linter.unusedSimpArgs false
theorem listK {p : Nat → Int} {L : List Mv} (e : lsL p = L) (w : World) (hp : WfP p) (hT : CsT w) : Calls Tryz.prog 9 #[.agg (posA p)] w (MvL (lsL p) w) := lg_list p w hp hT
theorem wonzK {p : Nat → Int} {r : Int × Int} (e : wonZ p = r) (w : World) (hp : WfP p) (hT : CsT w) : Calls Tryz.prog 17 #[.agg (posA p)] w (ResL r w) := e ▸ lg_Won p w hp hT
theorem run_rsn {o : Oper} {a : Act} {w : World} (x y : Operand) (ho : o.op = .binOp .neq 44 x y 44) (m n : Int × Int) (hx : a.eval x = .agg (rsA m)) (hy : a.eval y = .agg (rsA n)) (hm : FitRs m) (hn : FitRs n) (b : Bool) (hb : rsB m n = b) :
  (execOp a.eval o).run Tryz.prog w = .ok (.value (.bool (!b))) w := by
 have hr : (binOp .neq 44 (.agg (rsA m)) (.agg (rsA n))).run Tryz.prog w = .ok (.bool (!b)) w := by
  rw [run_neq_struct, run_rseq hm hn, hb]; rfl
 unfold execOp
 simp only [ho, hx, hy, Sem.run_bind, run_eqGuard_agg w _ _ _ _ _ _ guardRs, Result.andThen_ok, hr]
 rfl
theorem walk (p : Nat → Int) (half full : Int) (w0 : WfP p) (w1 : (Lit.int .i64 half).wf = true) (w2 : (Lit.int .i64 full).wf = true) (w : World) (hD : TabDb w) (hL : TabLead w) (hV : TabVar w) (hKn : TabKn w) (hG : TabGl w) : Calls Tryz.prog 6 #[.agg (posA p), .int .i64 half, .int .i64 full] w fun e w' => e = .returned (.bool true) ∧ Below w.heap.size w w' := by
 have HT := H_ (show CsT w from ⟨hD, hL, hV, hG⟩)
 have HK := H_ hKn
 have HP := H_ w0
 have hwq : WfP (upd (upd p 86 half) 87 full) := (w0.up 86 half w1).up 87 full w2
 have hag : Agc p (upd (upd p 86 half) 87 full) := fun i hi => (upd_other _ _ _ _ (by omega)).trans (upd_other _ _ _ _ (by omega))
 have hls := hag.ls w0
 have hwo := hag.won w0
 obtain ⟨q, hq⟩ : ∃ q, upd (upd p 86 half) 87 full = q := ⟨_, rfl⟩
 have HQq := H_ hq
 rw [hq] at hwq hls hwo
 have HQ := H_ hwq
 have hfr := fit_won p
 obtain ⟨r, hr⟩ : ∃ r, wonZ p = r := ⟨_, rfl⟩
 rw [hr] at hwo hfr
 have HWo := H_ hr
 have HWq := H_ hwo
 have HFr := H_ hfr
 obtain ⟨L, hL0⟩ : ∃ L, lsL p = L := ⟨_, rfl⟩
 have HLn := H_ (show L.length ≤ 1000000 by rw [← hL0]; exact ls_len p)
 have HMem := H_ (show ∀ m, m ∈ L → FitV m by intro m h; rw [← hL0] at h; exact ls_fit w0 h)
 rw [hL0] at hls
 have HL := H_ hL0
 have HLq := H_ hls
 clear hD hL hV hKn hG w0 w1 w2 hwq hag hls hwo hfr hr hq hL0
 have HB := H_ (Below.refl w.heap.size w)
 go_enter Tryz.func6, Tryz.ntmps6
 go_wp2_with (first
   | (guard_target = gB 3; refine step_box rfl _ rfl p rfl ?_; intro b3 w1 N R; have HG3 := H_ (nA HB.out N); have HB := H_ (below_on HB.out N.below); have HR3 := H_ R; clear N R)
   | (guard_target = gL 3; refine step_load rfl _ rfl b3 rfl p HR3.out ?_))
 refine (lg_lawful p _ HP.out).mono ?_; rintro e w3 ⟨b, rfl, hb⟩; have HR3 := H_ (HR3.out.later hb); have HB := H_ (below_on HB.out hb); clear hb
 cases b
 ·go_wp2_with (first
   | (go_at_call 11; refine (lg_awake _ (HT.out.on HB.out) (HK.out.on HB.out)).mono ?_; rintro e w3 ⟨rfl, hb⟩; have HB := H_ (below_on HB.out hb); clear hb))
  go_ret
  exact ⟨rfl, HB.out⟩
 ·go_wp2_with (first
   | (guard_target = gL 3; refine step_load rfl _ rfl b3 rfl p HR3.out ?_)
   | (guard_target = gA 7; refine step_alloc (op := ⟨some 7, _, _, _, _, _⟩) rfl rfl ?_; intro b7 wn N R; have HG7 := H_ (nA HB.out N); have HD37 := H_ (show b3 ≠ b7 by have := HR3.out.lt; have := N.at_; omega); have HR3 := H_ (HR3.out.later N.below); have HR7 := H_ R; have HB := H_ (below_on HB.out N.below); clear N R)
   | (guard_target = gS 7; refine step_store (op := ⟨none, .store _ (.tmp 7) _, _, _, _, _⟩) rfl _ _ rfl b7 rfl zeroP p rfl HR7.out ?_; intro wn U R; have HR3 := H_ (HR3.out.apart U HD37.out); have HR7 := H_ R; have HB := H_ (HB.out.trans (U.below HG7.out)); clear U R)
   | (guard_target = gS 17; refine step_cell (op := ⟨none, .store _ (.tmp 17) _, _, _, _, _⟩) rfl 3 _ _ rfl b7 86 rfl .i64 half rfl _ HR7.out (by decide) rfl sizeI ?_; intro wn U R; have HR3 := H_ (HR3.out.apart U HD37.out); have HR7 := H_ R; have HB := H_ (HB.out.trans (U.below HG7.out)); clear U R)
   | (guard_target = gS 19; refine step_cell (op := ⟨none, .store _ (.tmp 19) _, _, _, _, _⟩) rfl 3 _ _ rfl b7 87 rfl .i64 full rfl _ HR7.out (by decide) rfl sizeI ?_; intro wn U R; have HR3 := H_ (HR3.out.apart U HD37.out); have HR7 := H_ R; have HB := H_ (HB.out.trans (U.below HG7.out)); clear U R))
  have HR7 := H_ (show Row _ b7 q from HQq.out ▸ HR7.out)
  refine late_begin 6 (by kernel_rfl) ?_
  refine lv 0 rfl ⟨.agg (posA p), fun w' hl => (run_load _ rfl _ rfl p (HR3.out.later hl)), ?_⟩
  simp only [Act.put, pa, pb, pc]
  refine lv 2 rfl ⟨.agg (posA q), fun w' hl => (run_load _ rfl _ rfl q (HR7.out.later hl)), ?_⟩
  simp only [Act.put, pa, pb, pc]
  refine l1 1 rfl fun wn hl K hK => ?_
  have HR3 := H_ (HR3.out.later hl); have HR7 := H_ (HR7.out.later hl); have HB := H_ (below_on HB.out hl); clear hl
  refine we ?_
  refine (lg_list p _ HP.out (HT.out.on HB.out)).mono ?_; rintro e wm ⟨v, rfl, hv, hb⟩; refine ⟨_, rfl, ?_⟩
  rw [HL.out] at hv; obtain ⟨a8, c8, rfl, hE⟩ := mvs_of hv; have HE8n := H_ hE; clear hv hE
  refine hK.out _ _ hb ?_
  have HR3 := H_ (HR3.out.later hb); have HR7 := H_ (HR7.out.later hb); have HB := H_ (below_on HB.out hb); clear hb
  have HE8 := HE8n; clear HE8n
  clear hK K
  simp only [Act.put, pa, pb, pc]
  refine l1 3 rfl fun wn hl K hK => ?_
  have HR3 := H_ (HR3.out.later hl); have HR7 := H_ (HR7.out.later hl); have HE8 := H_ (HE8.out.later hl); have HB := H_ (below_on HB.out hl); clear hl
  refine we ?_
  refine (listK HLq.out _ HQ.out (HT.out.on HB.out)).mono ?_; rintro e wm ⟨v, rfl, hv, hb⟩; refine ⟨_, rfl, ?_⟩
  rw [HLq.out] at hv; obtain ⟨a9, c9, rfl, hE⟩ := mvs_of hv; have HE9n := H_ hE; clear hv hE
  refine hK.out _ _ hb ?_
  have HR3 := H_ (HR3.out.later hb); have HR7 := H_ (HR7.out.later hb); have HE8 := H_ (HE8.out.later hb); have HB := H_ (below_on HB.out hb); clear hb
  have HE9 := HE9n; clear HE9n
  clear hK K
  simp only [Act.put, pa, pb, pc]
  refine lw 4 rfl ?_
  simp only [Act.put, pa, pb, pc]
  refine lw 5 rfl ?_
  simp only [Act.put, pa, pb, pc]
  refine late_end (by kernel_rfl) (fun wn hl => ?_)
  have HR3 := H_ (HR3.out.later hl); have HR7 := H_ (HR7.out.later hl); have HE8 := H_ (HE8.out.later hl); have HE9 := H_ (HE9.out.later hl); have HB := H_ (below_on HB.out hl); clear hl
  go_wp2_with fail
  refine late_begin 12 (by kernel_rfl) ?_
  refine lv 0 rfl ⟨.agg (posA p), fun w' hl => (run_load _ rfl _ rfl p (HR3.out.later hl)), ?_⟩
  simp only [Act.put, pa, pb, pc]
  refine lv 2 rfl ⟨.agg (posA q), fun w' hl => (run_load _ rfl _ rfl q (HR7.out.later hl)), ?_⟩
  simp only [Act.put, pa, pb, pc]
  refine l1 1 rfl fun wn hl K hK => ?_
  have HR3 := H_ (HR3.out.later hl); have HR7 := H_ (HR7.out.later hl); have HE8 := H_ (HE8.out.later hl); have HE9 := H_ (HE9.out.later hl); have HB := H_ (below_on HB.out hl); clear hl
  refine we ?_
  refine (wonzK HWo.out _ HP.out (HT.out.on HB.out)).mono ?_; rintro e wm ⟨rfl, hb⟩; refine ⟨_, rfl, ?_⟩
  refine hK.out _ _ hb ?_
  have HR3 := H_ (HR3.out.later hb); have HR7 := H_ (HR7.out.later hb); have HE8 := H_ (HE8.out.later hb); have HE9 := H_ (HE9.out.later hb); have HB := H_ (below_on HB.out hb); clear hb
  clear hK K
  simp only [Act.put, pa, pb, pc]
  refine l1 3 rfl fun wn hl K hK => ?_
  have HR3 := H_ (HR3.out.later hl); have HR7 := H_ (HR7.out.later hl); have HE8 := H_ (HE8.out.later hl); have HE9 := H_ (HE9.out.later hl); have HB := H_ (below_on HB.out hl); clear hl
  refine we ?_
  refine (wonzK HWq.out _ HQ.out (HT.out.on HB.out)).mono ?_; rintro e wm ⟨rfl, hb⟩; refine ⟨_, rfl, ?_⟩
  refine hK.out _ _ hb ?_
  have HR3 := H_ (HR3.out.later hb); have HR7 := H_ (HR7.out.later hb); have HE8 := H_ (HE8.out.later hb); have HE9 := H_ (HE9.out.later hb); have HB := H_ (below_on HB.out hb); clear hb
  clear hK K
  simp only [Act.put, pa, pb, pc]
  refine lv 4 rfl ⟨.bool false, fun w' hl => (run_rsn _ _ rfl r r rfl rfl HFr.out HFr.out true (rsB_true.2 rfl)), ?_⟩
  simp only [Act.put, pa, pb, pc]
  refine lw 5 rfl ?_
  simp only [Act.put, pa, pb, pc]
  refine lw 6 rfl ?_
  simp only [Act.put, pa, pb, pc]
  refine lw 7 rfl ?_
  simp only [Act.put, pa, pb, pc]
  refine lw 8 rfl ?_
  simp only [Act.put, pa, pb, pc]
  refine lw 9 rfl ?_
  simp only [Act.put, pa, pb, pc]
  refine lv 10 rfl ⟨.bool false, fun w' hl => ?_, ?_⟩
  ·(go_simp; try simp)
  simp only [Act.put, pa, pb, pc]
  refine lw 11 rfl ?_
  simp only [Act.put, pa, pb, pc]
  refine late_end (by kernel_rfl) (fun wn hl => ?_)
  have HR3 := H_ (HR3.out.later hl); have HR7 := H_ (HR7.out.later hl); have HE8 := H_ (HE8.out.later hl); have HE9 := H_ (HE9.out.later hl); have HB := H_ (below_on HB.out hl); clear hl
  go_wp2_with fail
  go_loopw [10] (fun i wr => ∃ k : Nat, k ≤ L.length ∧ i = .int .i64 (k : Int) ∧ Mvs L a8 wr ∧ Mvs L a9 wr ∧ Below w.heap.size w wr) (fun i _ => L.length - (intOf i).toNat)
  case atStart => exact ⟨0, by omega, rfl, HE8.out, HE9.out, HB.out⟩
  case round =>
   clear HE8 HE9 HB HR3 HR7
   obtain ⟨k, hk, rfl, he8, he9, hb⟩ := hrel
   have HE8 := H_ he8
   have HE9 := H_ he9
   have HB := H_ hb
   clear he8 he9 hb
   by_cases hlt : k < L.length
   ·obtain ⟨m, hm⟩ : ∃ m, L[k]? = some m := ⟨_, List.getElem?_eq_getElem hlt⟩
    obtain ⟨g8, rfl, _⟩ := HE8.out.at hm
    obtain ⟨g9, rfl, _⟩ := HE9.out.at hm
    have HX := H_ hm
    have HFit := H_ (HMem.out m (List.mem_of_getElem? hm))
    have hw1 : (k : Int) < 1000000 := by have := HLn.out; omega
    have Hlt := H_ hlt
    have hlt : (k : Int) < (L.length : Int) := by omega
    clear hm
    go_wp2_with fail
    refine late_begin 9 (by kernel_rfl) ?_
    refine lw 0 rfl ?_
    simp only [Act.put, pa, pb, pc]
    refine lw 1 rfl ?_
    simp only [Act.put, pa, pb, pc]
    refine lv 2 rfl ⟨.pointer (some ⟨g8, k * 5, none⟩), fun w' hl => ?_, ?_⟩
    ·(go_simp <;> (intro hbad; omega))
    simp only [Act.put, pa, pb, pc]
    refine lv 3 rfl ⟨.agg (mvA m), fun w' hl => (run_mvK _ rfl g8 k _ rfl (by first | omega | (simp; omega)) m ((HE8.out.later hl).get HX.out)), ?_⟩
    simp only [Act.put, pa, pb, pc]
    refine lw 4 rfl ?_
    simp only [Act.put, pa, pb, pc]
    refine lw 5 rfl ?_
    simp only [Act.put, pa, pb, pc]
    refine lv 6 rfl ⟨.pointer (some ⟨g9, k * 5, none⟩), fun w' hl => ?_, ?_⟩
    ·(go_simp <;> (intro hbad; omega))
    simp only [Act.put, pa, pb, pc]
    refine lv 7 rfl ⟨.agg (mvA m), fun w' hl => (run_mvK _ rfl g9 k _ rfl (by first | omega | (simp; omega)) m ((HE9.out.later hl).get HX.out)), ?_⟩
    simp only [Act.put, pa, pb, pc]
    refine lv 8 rfl ⟨.bool false, fun w' hl => (run_mvN _ _ rfl m m rfl rfl HFit.out HFit.out true (mvE_true.2 rfl)), ?_⟩
    simp only [Act.put, pa, pb, pc]
    refine late_end (by kernel_rfl) (fun wn hl => ?_)
    have HE8 := H_ (HE8.out.later hl); have HE9 := H_ (HE9.out.later hl); have HB := H_ (below_on HB.out hl); clear hl
    go_wp2_with fail
    go_roundw
    case rel => exact ⟨k + 1, by have := Hlt.out; omega, by go_num, HE8.out, HE9.out, HB.out⟩
    case measure => simp [intOf]; have := Hlt.out; omega
   ·go_wp2_with (first
     | (go_at_call 11; refine (lg_awake _ (HT.out.on HB.out) (HK.out.on HB.out)).mono ?_; rintro e w3 ⟨rfl, hb⟩; have HB := H_ (below_on HB.out hb); clear hb))
    go_ret
    exact ⟨rfl, HB.out⟩
end Go.Proofs.YteblmnbagbdiiaaGreatDoor.legalClocks
