/-
 Several texts in one: AfM, AfK, AfN, AfO.
-/
import Derived.Test.YteblmnbagbdiiaaGreatDoorAfGrC
import Derived.Test.YteblmnbagbdiiaaGreatDoorAfGrD
import Derived.Test.YteblmnbagbdiiaaGreatDoorVaBaseE
import Derived.Test.YteblmnbagbdiiaaGreatDoorAfBaseK
/-
 Layer 16: what a move leaves of the board: which cells its steps leave as they were.
-/
set_option maxRecDepth 100000
set_option maxHeartbeats 4000000
namespace Go.Proofs.YteblmnbagbdiiaaGreatDoor
open Go.RowKit
set_option linter.unusedVariables false
set_option linter.unusedSimpArgs false

theorem tur_bd {p : Nat → Int} {j : Nat} (h : j < 78) : turA p j = p j := by
 unfold turA
 cases ((p 0 == 5) && chkB (upd p 78 (oth (p 78))) (oth (p 78)))
 ·exact upd_other _ _ _ _ (by omega)
 ·exact (upd_other _ _ _ _ (by omega)).trans (upd_other _ _ _ _ (by omega))
theorem tak_bd {p : Nat → Int} {c k : Int} {j : Nat} (h : j < 65) : takP p c k j = p j := by
 unfold takP
 cases helC p c k == 0
 ·exact upd_other _ _ _ _ (by unfold pkJ; omega)
 ·rfl
end Go.Proofs.YteblmnbagbdiiaaGreatDoor
/-
 Layer 16: contracts of the change's steps and of after's Move.
-/
namespace Go.Proofs.YteblmnbagbdiiaaGreatDoor
open Go.RowKit Go.Shelf
set_option linter.unusedVariables false
set_option linter.unusedSimpArgs false
attribute [local go_sem] Oper.semAt_some

def stpsA (b : Nat) : Array Value := #[.func (.func 64) #[.pointer (some ⟨b, 0, none⟩)] #[], .func (.func 65) #[.pointer (some ⟨b, 0, none⟩)] #[], .func (.func 66) #[.pointer (some ⟨b, 0, none⟩)] #[], .func (.func 67) #[.pointer (some ⟨b, 0, none⟩)] #[], .func (.func 68) #[.pointer (some ⟨b, 0, none⟩)] #[], .func (.func 69) #[.pointer (some ⟨b, 0, none⟩)] #[], .func (.func 70) #[.pointer (some ⟨b, 0, none⟩)] #[]]
theorem af_steps (b : Nat) (w : World) : Calls Tryz.prog 29 #[.pointer (some ⟨b, 0, none⟩)] w (fun e w' => e = .returned (.agg (stpsA b)) ∧ Below w.heap.size w w') := by
 go_enter Tryz.func29, Tryz.ntmps29
 go_wp2_with fail
 refine bodyPost_ret (v := .agg (stpsA b)) (results_blk (n := 7) rfl _ _ w.heap.size (stpsA b) rfl (heap_alloc_new w _) Tryz.underlying55 rfl (by kernel_rfl) rfl) rfl ⟨rfl, box_below _ _⟩
theorem sizeFn : (Tryz.prog.info? 1).map (·.size) = some 1 := by kernel_rfl
theorem row_keptA {w w' : World} {b c : Nat} {p : Nat → Int} (h : Row w c p) (k : Kept (fun k => k = b) w w') (hx : c ≠ b) : Row w' c p := k.obj (show w.heap[c]? = _ from h) hx
theorem aft_of {w w' : World} {b : Nat} (hT : CsT w) (hB : Below w.heap.size w w') (hg : w.heap.size ≤ b) (hl : b < w'.heap.size) : AfT b w' := ⟨hl, fun w2 h => hT.on (hB.trans (h.mono hg))⟩
theorem contK {L : List Mv} {m : Mv} {x : Bool} (e : (L.any fun n => mvE m n) = x) (a : Option Addr) (c : Nat) (w : World) (hn : L.length ≤ 1000000) (hv : ∀ (i : Nat) (m : Mv), L[i]? = some m → FitV m) (hm : FitV m) (h1 : Mvs L a w) :
  Calls Tryz.prog 26 #[.slice a L.length c, .agg (mvA m)] w (BoL x w) := e ▸ contains_any L a c m w hn hv hm h1
theorem begK {p : Nat → Int} {m : Mv} {c : Ch} (e : begA p m = c) (w : World) (hp : WfP p) (hm : FitV m) (hT : CsT w) : Calls Tryz.prog 28 #[.agg (posA p), .agg (mvA m)] w (BegL p c w) := e ▸ af_begun p m w hp hm hT
theorem move_any (p : Nat → Int) (m : Mv) (w : World) (hp : WfP p) (hm : FitV m) (hT : CsT w) : Calls Tryz.prog 13 #[.agg (posA p), .agg (mvA m)] w (TakL (movP p m) (movB p m) w) := by
 have HP := H_ hp
 have HT := H_ hT
 have HM := H_ hm
 have hch := chR_of hp (m := m)
 have HLen := H_ (sor_len p m)
 have HFit := H_ (sor_fit hp m)
 clear hp hT hm
 unfold movP
 unfold movB at hch ⊢
 obtain ⟨L, hL⟩ : ∃ L, sorL p m = L := ⟨_, rfl⟩
 have HSo := H_ hL
 rw [hL] at hch HLen HFit ⊢
 obtain ⟨x, hx⟩ : ∃ x, (L.any fun n => mvE m n) = x := ⟨_, rfl⟩
 have HAny := H_ hx
 rw [hx] at hch ⊢
 clear hL hx
 have HB := H_ (Below.refl w.heap.size w)
 cases x
 ·show Calls _ _ _ _ (TakL p false w)
  clear hch
  go_enter Tryz.func13, Tryz.ntmps13
  go_wp2_with (first
   | (guard_target = gB 2; refine step_box rfl _ rfl p rfl ?_; intro b2 w1 N R; have HG2 := H_ (nA HB.out N); have HB := H_ (below_on HB.out N.below); have HR2 := H_ R; clear N R)
   | (guard_target = gB 3; refine blk_box rfl 40 _ rfl (mvA m) rfl ?_; intro b3 w1 N R; have HG3 := H_ (nA HB.out N); have HR2 := H_ (HR2.out.later N.below); have HB := H_ (below_on HB.out N.below); have HR3 := H_ R; clear N R)
   | (guard_target = gA 4; refine step_alloc rfl rfl ?_; intro b4 wn N R; have HG4 := H_ (nA HB.out N); have HR2 := H_ (HR2.out.later N.below); have HR3 := H_ (HR3.out.later N.below); have HB := H_ (below_on HB.out N.below); have HR4 := H_ R; clear N R))
  refine late_begin 6 (by kernel_rfl) ?_
  refine lv 0 rfl ⟨_, fun w' hl => (run_load _ rfl _ rfl (p) (HR2.out.later hl)), ?_⟩
  simp only [Act.put, pa, pb, pc]
  refine lv 1 rfl ⟨.agg (mvA m), fun w' hl => (run_blk 40 _ rfl b3 rfl (mvA m) (HR3.out.later hl) _ Tryz.underlying40 rfl sizeMv), ?_⟩
  simp only [Act.put, pa, pb, pc]
  refine lv 3 rfl ⟨.agg (mvA m), fun w' hl => (run_blk 40 _ rfl b3 rfl (mvA m) (HR3.out.later hl) _ Tryz.underlying40 rfl sizeMv), ?_⟩
  simp only [Act.put, pa, pb, pc]
  refine l1 2 rfl fun wn hl K hK => ?_
  have HR2 := H_ (HR2.out.later hl); have HR3 := H_ (HR3.out.later hl); have HR4 := H_ (HR4.out.later hl); have HB := H_ (below_on HB.out hl); clear hl
  refine we ?_
  refine (sort_any p m _ HP.out HM.out (HT.out.on HB.out)).mono ?_; rintro e wm ⟨v, rfl, hv, hb⟩; refine ⟨_, rfl, ?_⟩
  rw [HSo.out] at hv; obtain ⟨a7, c7, rfl, hE⟩ := mvs_of hv; have HLn := H_ hE; clear hv hE
  refine hK.out _ _ hb ?_
  have HR2 := H_ (HR2.out.later hb); have HR3 := H_ (HR3.out.later hb); have HR4 := H_ (HR4.out.later hb); have HB := H_ (below_on HB.out hb); clear hb
  have HL := HLn; clear HLn
  clear hK K
  simp only [Act.put, pa, pb, pc]
  refine l1 4 rfl fun wn hl K hK => ?_
  have HR2 := H_ (HR2.out.later hl); have HR3 := H_ (HR3.out.later hl); have HR4 := H_ (HR4.out.later hl); have HL := H_ (HL.out.later hl); have HB := H_ (below_on HB.out hl); clear hl
  refine we ?_
  refine (contK HAny.out a7 c7 _ HLen.out HFit.out HM.out HL.out).mono ?_; rintro e wm ⟨rfl, hb⟩; refine ⟨_, rfl, ?_⟩
  refine hK.out _ _ hb ?_
  have HR2 := H_ (HR2.out.later hb); have HR3 := H_ (HR3.out.later hb); have HR4 := H_ (HR4.out.later hb); have HL := H_ (HL.out.later hb); have HB := H_ (below_on HB.out hb); clear hb
  clear hK K
  simp only [Act.put, pa, pb, pc]
  refine lw 5 rfl ?_
  simp only [Act.put, pa, pb, pc]
  refine late_end (by kernel_rfl) (fun wn hl => ?_)
  have HR2 := H_ (HR2.out.later hl); have HR3 := H_ (HR3.out.later hl); have HR4 := H_ (HR4.out.later hl); have HL := H_ (HL.out.later hl); have HB := H_ (below_on HB.out hl); clear hl
  go_wp2_with (first
   | (guard_target = gL 2; refine step_load rfl _ rfl b2 rfl p HR2.out ?_)
   | (guard_target = gS 4; refine step_store rfl _ _ rfl b4 rfl zeroP (p) rfl HR4.out ?_; intro wn U R; have HR4 := H_ R; have HB := H_ (HB.out.trans (U.below HG4.out)); clear U R))
  refine bodyPost_ret (results_two rfl _ _ _ p (.bool false) rfl rfl HR4.out) rfl ⟨rfl, HB.out⟩
 ·show Calls _ _ _ _ (TakL (stpA p (begA p m)) true w)
  have hR := hch rfl
  clear hch
  unfold stpA
  obtain ⟨c, hc0⟩ : ∃ c, begA p m = c := ⟨_, rfl⟩
  have HC0 := H_ hc0
  rw [hc0] at hR ⊢
  clear hc0
  have H0 := H_ hR
  clear hR
  have H0n := H0.out.men
  obtain ⟨p1, e1⟩ : ∃ q, menA p c = q := ⟨_, rfl⟩
  rw [e1] at H0n ⊢
  have H1 := H_ H0n
  have E1 := H_ e1
  clear e1 H0n
  have H1n := H1.out.poc
  obtain ⟨p2, e2⟩ : ∃ q, pocA p1 c = q := ⟨_, rfl⟩
  rw [e2] at H1n ⊢
  have H2 := H_ H1n
  have E2 := H_ e2
  clear e2 H1n
  have H2n := H2.out.bla
  obtain ⟨p3, e3⟩ : ∃ q, blaA p2 c = q := ⟨_, rfl⟩
  rw [e3] at H2n ⊢
  have H3 := H_ H2n
  have E3 := H_ e3
  clear e3 H2n
  have H3n := H3.out.rig
  obtain ⟨p4, e4⟩ : ∃ q, rigA p3 c = q := ⟨_, rfl⟩
  rw [e4] at H3n ⊢
  have H4 := H_ H3n
  have E4 := H_ e4
  clear e4 H3n
  have H4n := H4.out.pas
  obtain ⟨p5, e5⟩ : ∃ q, pasA p4 c = q := ⟨_, rfl⟩
  rw [e5] at H4n ⊢
  have H5 := H_ H4n
  have E5 := H_ e5
  clear e5 H4n
  have H5n := H5.out.clo
  obtain ⟨p6, e6⟩ : ∃ q, cloA p5 c = q := ⟨_, rfl⟩
  rw [e6] at H5n ⊢
  have H6 := H_ H5n
  have E6 := H_ e6
  clear e6 H5n
  obtain ⟨p7, e7⟩ : ∃ q, turA p6 = q := ⟨_, rfl⟩
  rw [e7]
  have E7 := H_ e7
  clear e7
  go_enter Tryz.func13, Tryz.ntmps13
  go_wp2_with (first
   | (guard_target = gB 2; refine step_box rfl _ rfl p rfl ?_; intro b2 w1 N R; have HG2 := H_ (nA HB.out N); have HB := H_ (below_on HB.out N.below); have HR2 := H_ R; clear N R)
   | (guard_target = gB 3; refine blk_box rfl 40 _ rfl (mvA m) rfl ?_; intro b3 w1 N R; have HG3 := H_ (nA HB.out N); have HR2 := H_ (HR2.out.later N.below); have HB := H_ (below_on HB.out N.below); have HR3 := H_ R; clear N R)
   | (guard_target = gA 4; refine step_alloc rfl rfl ?_; intro b4 wn N R; have HG4 := H_ (nA HB.out N); have HR2 := H_ (HR2.out.later N.below); have HR3 := H_ (HR3.out.later N.below); have HB := H_ (below_on HB.out N.below); have HR4 := H_ R; clear N R))
  refine late_begin 6 (by kernel_rfl) ?_
  refine lv 0 rfl ⟨_, fun w' hl => (run_load _ rfl _ rfl (p) (HR2.out.later hl)), ?_⟩
  simp only [Act.put, pa, pb, pc]
  refine lv 1 rfl ⟨.agg (mvA m), fun w' hl => (run_blk 40 _ rfl b3 rfl (mvA m) (HR3.out.later hl) _ Tryz.underlying40 rfl sizeMv), ?_⟩
  simp only [Act.put, pa, pb, pc]
  refine lv 3 rfl ⟨.agg (mvA m), fun w' hl => (run_blk 40 _ rfl b3 rfl (mvA m) (HR3.out.later hl) _ Tryz.underlying40 rfl sizeMv), ?_⟩
  simp only [Act.put, pa, pb, pc]
  refine l1 2 rfl fun wn hl K hK => ?_
  have HR2 := H_ (HR2.out.later hl); have HR3 := H_ (HR3.out.later hl); have HR4 := H_ (HR4.out.later hl); have HB := H_ (below_on HB.out hl); clear hl
  refine we ?_
  refine (sort_any p m _ HP.out HM.out (HT.out.on HB.out)).mono ?_; rintro e wm ⟨v, rfl, hv, hb⟩; refine ⟨_, rfl, ?_⟩
  rw [HSo.out] at hv; obtain ⟨a7, c7, rfl, hE⟩ := mvs_of hv; have HLn := H_ hE; clear hv hE
  refine hK.out _ _ hb ?_
  have HR2 := H_ (HR2.out.later hb); have HR3 := H_ (HR3.out.later hb); have HR4 := H_ (HR4.out.later hb); have HB := H_ (below_on HB.out hb); clear hb
  have HL := HLn; clear HLn
  clear hK K
  simp only [Act.put, pa, pb, pc]
  refine l1 4 rfl fun wn hl K hK => ?_
  have HR2 := H_ (HR2.out.later hl); have HR3 := H_ (HR3.out.later hl); have HR4 := H_ (HR4.out.later hl); have HL := H_ (HL.out.later hl); have HB := H_ (below_on HB.out hl); clear hl
  refine we ?_
  refine (contK HAny.out a7 c7 _ HLen.out HFit.out HM.out HL.out).mono ?_; rintro e wm ⟨rfl, hb⟩; refine ⟨_, rfl, ?_⟩
  refine hK.out _ _ hb ?_
  have HR2 := H_ (HR2.out.later hb); have HR3 := H_ (HR3.out.later hb); have HR4 := H_ (HR4.out.later hb); have HL := H_ (HL.out.later hb); have HB := H_ (below_on HB.out hb); clear hb
  clear hK K
  simp only [Act.put, pa, pb, pc]
  refine lw 5 rfl ?_
  simp only [Act.put, pa, pb, pc]
  refine late_end (by kernel_rfl) (fun wn hl => ?_)
  have HR2 := H_ (HR2.out.later hl); have HR3 := H_ (HR3.out.later hl); have HR4 := H_ (HR4.out.later hl); have HL := H_ (HL.out.later hl); have HB := H_ (below_on HB.out hl); clear hl
  go_wp2_with (first
   | (guard_target = gL 2; refine step_load rfl _ rfl b2 rfl p HR2.out ?_)
   | (guard_target = gL 3; refine blk_load rfl 40 _ rfl b3 rfl (mvA m) HR3.out _ Tryz.underlying40 rfl sizeMv ?_)
   | (go_at_call 28; refine (begK HC0.out _ HP.out HM.out (HT.out.on HB.out)).mono ?_; rintro e w5 ⟨b, rfl, hg, hc, hb⟩; have HGb := H_ (show w.heap.size ≤ b by have := HB.out.size; omega); have HN4 := H_ (show b4 ≠ b by have := HR4.out.lt; omega); have HR4 := H_ (HR4.out.later hb); have HC := H_ hc; have HB := H_ (below_on HB.out hb); clear hg hc hb)
   | (go_at_call 29; refine (af_steps b _).mono ?_; rintro e w6 ⟨rfl, hb⟩; have HR4 := H_ (HR4.out.later hb); have HC := H_ (HC.out.later hb); have HB := H_ (below_on HB.out hb); clear hb))
  go_loopw [21] (fun i wr => (i = .int .i64 0 ∧ CH wr b p c ∨ i = .int .i64 1 ∧ CH wr b p1 c ∨ i = .int .i64 2 ∧ CH wr b p2 c ∨ i = .int .i64 3 ∧ CH wr b p3 c ∨ i = .int .i64 4 ∧ CH wr b p4 c ∨ i = .int .i64 5 ∧ CH wr b p5 c ∨ i = .int .i64 6 ∧ CH wr b p6 c ∨ i = .int .i64 7 ∧ CH wr b p7 c) ∧ Row wr b4 zeroP ∧ Below w.heap.size w wr) (fun i _ => 7 - (intOf i).toNat)
  case atStart => exact ⟨Or.inl ⟨rfl, HC.out⟩, HR4.out, HB.out⟩
  case round =>
   clear HC HB HR4
   obtain ⟨hrel, hr4, hb⟩ := hrel
   have HR4 := H_ hr4
   have HB := H_ hb
   clear hr4 hb
   rcases hrel with ⟨rfl, hc⟩ | ⟨rfl, hc⟩ | ⟨rfl, hc⟩ | ⟨rfl, hc⟩ | ⟨rfl, hc⟩ | ⟨rfl, hc⟩ | ⟨rfl, hc⟩ | ⟨rfl, hc⟩
   ·have HC := H_ hc
    clear hc
    go_wp2_with (first
     | (guard_target = gI 23; refine step_index (op := ⟨some 23, .index _ _ _, _, _, _, _⟩) rfl 55 1 _ _ rfl 7 (stpsA b) rfl .i64 0 rfl (by decide) Tryz.underlying55 Tryz.underlying1 rfl sizeFn (.func (.func 64) #[.pointer (some ⟨b, 0, none⟩)] #[]) rfl ?_)
     | (go_at_call 64; refine (af_men b _ c _ HC.out H0.out (aft_of HT.out HB.out HGb.out HC.out.lt)).mono ?_; rintro e w7 ⟨⟨v, rfl⟩, hc, hk⟩; have HR4 := H_ (row_keptA HR4.out hk HN4.out); have HB := H_ (HB.out.trans (hk.below (fun _ e => by have := HGb.out; omega) HB.out.size)); have HC := H_ hc; clear hc hk))
    go_roundw
    case rel => exact ⟨Or.inr (Or.inl ⟨by go_num, by rw [← E1.out]; exact HC.out⟩), HR4.out, HB.out⟩
    case measure => simp [intOf]
   ·have HC := H_ hc
    clear hc
    go_wp2_with (first
     | (guard_target = gI 23; refine step_index (op := ⟨some 23, .index _ _ _, _, _, _, _⟩) rfl 55 1 _ _ rfl 7 (stpsA b) rfl .i64 1 rfl (by decide) Tryz.underlying55 Tryz.underlying1 rfl sizeFn (.func (.func 65) #[.pointer (some ⟨b, 0, none⟩)] #[]) rfl ?_)
     | (go_at_call 65; refine (af_pocket b _ c _ HC.out H1.out (aft_of HT.out HB.out HGb.out HC.out.lt)).mono ?_; rintro e w7 ⟨⟨v, rfl⟩, hc, hk⟩; have HR4 := H_ (row_keptA HR4.out hk HN4.out); have HB := H_ (HB.out.trans (hk.below (fun _ e => by have := HGb.out; omega) HB.out.size)); have HC := H_ hc; clear hc hk))
    go_roundw
    case rel => exact ⟨Or.inr (Or.inr (Or.inl ⟨by go_num, by rw [← E2.out]; exact HC.out⟩)), HR4.out, HB.out⟩
    case measure => simp [intOf]
   ·have HC := H_ hc
    clear hc
    go_wp2_with (first
     | (guard_target = gI 23; refine step_index (op := ⟨some 23, .index _ _ _, _, _, _, _⟩) rfl 55 1 _ _ rfl 7 (stpsA b) rfl .i64 2 rfl (by decide) Tryz.underlying55 Tryz.underlying1 rfl sizeFn (.func (.func 66) #[.pointer (some ⟨b, 0, none⟩)] #[]) rfl ?_)
     | (go_at_call 66; refine (af_blast b _ c _ HC.out H2.out (aft_of HT.out HB.out HGb.out HC.out.lt)).mono ?_; rintro e w7 ⟨⟨v, rfl⟩, hc, hk⟩; have HR4 := H_ (row_keptA HR4.out hk HN4.out); have HB := H_ (HB.out.trans (hk.below (fun _ e => by have := HGb.out; omega) HB.out.size)); have HC := H_ hc; clear hc hk))
    go_roundw
    case rel => exact ⟨Or.inr (Or.inr (Or.inr (Or.inl ⟨by go_num, by rw [← E3.out]; exact HC.out⟩))), HR4.out, HB.out⟩
    case measure => simp [intOf]
   ·have HC := H_ hc
    clear hc
    go_wp2_with (first
     | (guard_target = gI 23; refine step_index (op := ⟨some 23, .index _ _ _, _, _, _, _⟩) rfl 55 1 _ _ rfl 7 (stpsA b) rfl .i64 3 rfl (by decide) Tryz.underlying55 Tryz.underlying1 rfl sizeFn (.func (.func 67) #[.pointer (some ⟨b, 0, none⟩)] #[]) rfl ?_)
     | (go_at_call 67; refine (af_rights b _ c _ HC.out H3.out (aft_of HT.out HB.out HGb.out HC.out.lt)).mono ?_; rintro e w7 ⟨⟨v, rfl⟩, hc, hk⟩; have HR4 := H_ (row_keptA HR4.out hk HN4.out); have HB := H_ (HB.out.trans (hk.below (fun _ e => by have := HGb.out; omega) HB.out.size)); have HC := H_ hc; clear hc hk))
    go_roundw
    case rel => exact ⟨Or.inr (Or.inr (Or.inr (Or.inr (Or.inl ⟨by go_num, by rw [← E4.out]; exact HC.out⟩)))), HR4.out, HB.out⟩
    case measure => simp [intOf]
   ·have HC := H_ hc
    clear hc
    go_wp2_with (first
     | (guard_target = gI 23; refine step_index (op := ⟨some 23, .index _ _ _, _, _, _, _⟩) rfl 55 1 _ _ rfl 7 (stpsA b) rfl .i64 4 rfl (by decide) Tryz.underlying55 Tryz.underlying1 rfl sizeFn (.func (.func 68) #[.pointer (some ⟨b, 0, none⟩)] #[]) rfl ?_)
     | (go_at_call 68; refine (af_pass b _ c _ HC.out H4.out (aft_of HT.out HB.out HGb.out HC.out.lt)).mono ?_; rintro e w7 ⟨⟨v, rfl⟩, hc, hk⟩; have HR4 := H_ (row_keptA HR4.out hk HN4.out); have HB := H_ (HB.out.trans (hk.below (fun _ e => by have := HGb.out; omega) HB.out.size)); have HC := H_ hc; clear hc hk))
    go_roundw
    case rel => exact ⟨Or.inr (Or.inr (Or.inr (Or.inr (Or.inr (Or.inl ⟨by go_num, by rw [← E5.out]; exact HC.out⟩))))), HR4.out, HB.out⟩
    case measure => simp [intOf]
   ·have HC := H_ hc
    clear hc
    go_wp2_with (first
     | (guard_target = gI 23; refine step_index (op := ⟨some 23, .index _ _ _, _, _, _, _⟩) rfl 55 1 _ _ rfl 7 (stpsA b) rfl .i64 5 rfl (by decide) Tryz.underlying55 Tryz.underlying1 rfl sizeFn (.func (.func 69) #[.pointer (some ⟨b, 0, none⟩)] #[]) rfl ?_)
     | (go_at_call 69; refine (af_clocks b _ c _ HC.out H5.out).mono ?_; rintro e w7 ⟨⟨v, rfl⟩, hc, hk⟩; have HR4 := H_ (row_keptA HR4.out hk HN4.out); have HB := H_ (HB.out.trans (hk.below (fun _ e => by have := HGb.out; omega) HB.out.size)); have HC := H_ hc; clear hc hk))
    go_roundw
    case rel => exact ⟨Or.inr (Or.inr (Or.inr (Or.inr (Or.inr (Or.inr (Or.inl ⟨by go_num, by rw [← E6.out]; exact HC.out⟩)))))), HR4.out, HB.out⟩
    case measure => simp [intOf]
   ·have HC := H_ hc
    clear hc
    go_wp2_with (first
     | (guard_target = gI 23; refine step_index (op := ⟨some 23, .index _ _ _, _, _, _, _⟩) rfl 55 1 _ _ rfl 7 (stpsA b) rfl .i64 6 rfl (by decide) Tryz.underlying55 Tryz.underlying1 rfl sizeFn (.func (.func 70) #[.pointer (some ⟨b, 0, none⟩)] #[]) rfl ?_)
     | (go_at_call 70; refine (af_turn b _ c _ HC.out H6.out (aft_of HT.out HB.out HGb.out HC.out.lt)).mono ?_; rintro e w7 ⟨⟨v, rfl⟩, hc, hk⟩; have HR4 := H_ (row_keptA HR4.out hk HN4.out); have HB := H_ (HB.out.trans (hk.below (fun _ e => by have := HGb.out; omega) HB.out.size)); have HC := H_ hc; clear hc hk))
    go_roundw
    case rel => exact ⟨Or.inr (Or.inr (Or.inr (Or.inr (Or.inr (Or.inr (Or.inr ⟨by go_num, by rw [← E7.out]; exact HC.out⟩)))))), HR4.out, HB.out⟩
    case measure => simp [intOf]
   ·have HC := H_ hc
    clear hc
    go_wp2_with (first
     | (refine ch_load rfl _ rfl rfl HC.out ?_)
     | (guard_target = gS 4; refine step_store rfl _ _ rfl b4 rfl zeroP (p7) rfl HR4.out ?_; intro wn U R; have HR4 := H_ R; have HB := H_ (HB.out.trans (U.below HG4.out)); clear U R))
    refine bodyPost_ret (results_two rfl _ _ _ p7 (.bool true) rfl rfl HR4.out) rfl ⟨rfl, HB.out⟩
end Go.Proofs.YteblmnbagbdiiaaGreatDoor
/-
 Layer 16: the positions that the laws' 'awake' looks at.
-/
namespace Go.Proofs.YteblmnbagbdiiaaGreatDoor
open Go.RowKit
set_option linter.unusedVariables false
set_option linter.unusedSimpArgs false

end Go.Proofs.YteblmnbagbdiiaaGreatDoor
/-
 Layer 16: the laws' awake.
-/
namespace Go.Proofs.YteblmnbagbdiiaaGreatDoor
open Go.RowKit Go.Shelf
set_option linter.unusedVariables false
set_option linter.unusedSimpArgs false
attribute [local go_sem] Oper.semAt_some

section laws
variable {ops : Array Oper} {rest : List Oper} {op : Oper} {a : Act} {w : World} {Q : Exit → Act → World → Prop}
end laws
def wfN (p : Nat → Int) : Bool := (List.range 88).all fun i => (Lit.int (kAt i) (p i)).wf
theorem wf_ofN {p : Nat → Int} (h : wfN p = true) : WfP p := fun i hi => List.all_eq_true.1 h i (List.mem_range.2 hi)
end Go.Proofs.YteblmnbagbdiiaaGreatDoor
