/-
 Several texts in one: AfM, AfK, AfN, AfO.
-/
import Derived.Test.YtidgfadbdgheiaaGreatDoorAfGrC
import Derived.Test.YtidgfadbdgheiaaGreatDoorAfGrD
import Derived.Test.YtidgfadbdgheiaaGreatDoorVaBaseE
import Derived.Test.YtidgfadbdgheiaaGreatDoorAfBaseK
/-
 Layer 16: what a move leaves of the board: which cells its steps leave as they were.
-/
set_option maxRecDepth 100000
set_option maxHeartbeats 8000000
namespace Go.Proofs.YtidgfadbdgheiaaGreatDoor
open Go.RowKit
set_option linter.unusedVariables false
set_option linter.unusedSimpArgs false

end Go.Proofs.YtidgfadbdgheiaaGreatDoor
/-
 Layer 16: contracts of the change's steps and of after's Move.
-/
namespace Go.Proofs.YtidgfadbdgheiaaGreatDoor
open Go.RowKit Go.Shelf
set_option linter.unusedVariables false
set_option linter.unusedSimpArgs false
attribute [local go_sem] Oper.semAt_some

def stpsA (b : Nat) : Array Value := #[.func (.func 69) #[.pointer (some ⟨b, 0, none⟩)] #[], .func (.func 70) #[.pointer (some ⟨b, 0, none⟩)] #[], .func (.func 71) #[.pointer (some ⟨b, 0, none⟩)] #[], .func (.func 72) #[.pointer (some ⟨b, 0, none⟩)] #[], .func (.func 73) #[.pointer (some ⟨b, 0, none⟩)] #[], .func (.func 74) #[.pointer (some ⟨b, 0, none⟩)] #[], .func (.func 75) #[.pointer (some ⟨b, 0, none⟩)] #[]]
theorem af_steps (b : Nat) (w : World) : Calls Tryz.prog 33 #[.pointer (some ⟨b, 0, none⟩)] w (fun e w' => e = .returned (.agg (stpsA b)) ∧ Below w.heap.size w w') := by
 go_enter Tryz.func33, Tryz.ntmps33
 go_wp2_with fail
 refine bodyPost_ret (v := .agg (stpsA b)) (results_blk (n := 7) rfl _ _ w.heap.size (stpsA b) rfl (heap_alloc_new w _) Tryz.underlying58 rfl (by kernel_rfl) rfl) rfl ⟨rfl, box_below _ _⟩
theorem sizeFn : (Tryz.prog.info? 1).map (·.size) = some 1 := by kernel_rfl
theorem row_keptA {w w' : World} {b c : Nat} {p : Nat → Int} (h : Row w c p) (k : Kept (fun k => k = b) w w') (hx : c ≠ b) : Row w' c p := k.obj (show w.heap[c]? = _ from h) hx
theorem aft_of {w w' : World} {b : Nat} (hT : CsT w) (hB : Below w.heap.size w w') (hg : w.heap.size ≤ b) (hl : b < w'.heap.size) : AfT b w' := ⟨hl, fun w2 h => hT.on (hB.trans (h.mono hg))⟩
theorem contK {L : List Mv} {m : Mv} {x : Bool} (e : (L.any fun n => mvE m n) = x) (a : Option Addr) (c : Nat) (w : World) (hn : L.length ≤ 1000000) (hv : ∀ (i : Nat) (m : Mv), L[i]? = some m → FitV m) (hm : FitV m) (h1 : Mvs L a w) :
  Calls Tryz.prog 30 #[.slice a L.length c, .agg (mvA m)] w (BoL x w) := e ▸ contains_any L a c m w hn hv hm h1
theorem begK {p : Nat → Int} {m : Mv} {c : Ch} (e : begA p m = c) (w : World) (hp : WfP p) (hm : FitV m) (hT : CsT w) : Calls Tryz.prog 32 #[.agg (posA p), .agg (mvA m)] w (BegL p c w) := e ▸ af_begun p m w hp hm hT
theorem move_any (p : Nat → Int) (m : Mv) (w : World) (hp : WfP p) (hm : FitV m) (hT : CsT w) : Calls Tryz.prog 13 #[.agg (posA p), .agg (mvA m)] w (TakL (movP p m) (movB p m) w) := by
 have HP := H_ hp
 have HT := H_ hT
 have HM := H_ hm
 have hch := chR_of hp (m := m)
 have HLen := H_ (sor_len p m)
 have HFit := H_ (sor_fit hp m)
 clear hp hT hm
 unfold movP
 unfold movB at hch ⊢
 obtain ⟨L, hL⟩ : ∃ L, sorL p m = L := ⟨_, rfl⟩
 have HSo := H_ hL
 rw [hL] at hch HLen HFit ⊢
 obtain ⟨x, hx⟩ : ∃ x, (L.any fun n => mvE m n) = x := ⟨_, rfl⟩
 have HAny := H_ hx
 rw [hx] at hch ⊢
 clear hL hx
 have HB := H_ (Below.refl w.heap.size w)
 cases x
 ·show Calls _ _ _ _ (TakL p false w)
  clear hch
  go_enter Tryz.func13, Tryz.ntmps13
  go_wp2_with (first
   | (guard_target = gB 2; refine step_box rfl _ rfl p rfl ?_; intro b2 w1 N R; have HG2 := H_ (nA HB.out N); have HB := H_ (below_on HB.out N.below); have HR2 := H_ R; clear N R)
   | (guard_target = gB 3; refine blk_box rfl 40 _ rfl (mvA m) rfl ?_; intro b3 w1 N R; have HG3 := H_ (nA HB.out N); have HR2 := H_ (HR2.out.later N.below); have HB := H_ (below_on HB.out N.below); have HR3 := H_ R; clear N R)
   | (guard_target = gA 4; refine step_alloc rfl rfl ?_; intro b4 wn N R; have HG4 := H_ (nA HB.out N); have HR2 := H_ (HR2.out.later N.below); have HR3 := H_ (HR3.out.later N.below); have HB := H_ (below_on HB.out N.below); have HR4 := H_ R; clear N R))
  refine late_begin 6 (by kernel_rfl) ?_
  refine lv 0 rfl ⟨_, fun w' hl => (run_load _ rfl _ rfl (p) (HR2.out.later hl)), ?_⟩
  simp only [Act.put, pa, pb, pc]
  refine lv 1 rfl ⟨.agg (mvA m), fun w' hl => (run_blk 40 _ rfl b3 rfl (mvA m) (HR3.out.later hl) _ Tryz.underlying40 rfl sizeMv), ?_⟩
  simp only [Act.put, pa, pb, pc]
  refine lv 3 rfl ⟨.agg (mvA m), fun w' hl => (run_blk 40 _ rfl b3 rfl (mvA m) (HR3.out.later hl) _ Tryz.underlying40 rfl sizeMv), ?_⟩
  simp only [Act.put, pa, pb, pc]
  refine l1 2 rfl fun wn hl K hK => ?_
  have HR2 := H_ (HR2.out.later hl); have HR3 := H_ (HR3.out.later hl); have HR4 := H_ (HR4.out.later hl); have HB := H_ (below_on HB.out hl); clear hl
  refine we ?_
  refine (sort_any p m _ HP.out HM.out (HT.out.on HB.out)).mono ?_; rintro e wm ⟨v, rfl, hv, hb⟩; refine ⟨_, rfl, ?_⟩
  rw [HSo.out] at hv; obtain ⟨a7, c7, rfl, hE⟩ := mvs_of hv; have HLn := H_ hE; clear hv hE
  refine hK.out _ _ hb ?_
  have HR2 := H_ (HR2.out.later hb); have HR3 := H_ (HR3.out.later hb); have HR4 := H_ (HR4.out.later hb); have HB := H_ (below_on HB.out hb); clear hb
  have HL := HLn; clear HLn
  clear hK K
  simp only [Act.put, pa, pb, pc]
  refine l1 4 rfl fun wn hl K hK => ?_
  have HR2 := H_ (HR2.out.later hl); have HR3 := H_ (HR3.out.later hl); have HR4 := H_ (HR4.out.later hl); have HL := H_ (HL.out.later hl); have HB := H_ (below_on HB.out hl); clear hl
  refine we ?_
  refine (contK HAny.out a7 c7 _ HLen.out HFit.out HM.out HL.out).mono ?_; rintro e wm ⟨rfl, hb⟩; refine ⟨_, rfl, ?_⟩
  refine hK.out _ _ hb ?_
  have HR2 := H_ (HR2.out.later hb); have HR3 := H_ (HR3.out.later hb); have HR4 := H_ (HR4.out.later hb); have HL := H_ (HL.out.later hb); have HB := H_ (below_on HB.out hb); clear hb
  clear hK K
  simp only [Act.put, pa, pb, pc]
  refine lw 5 rfl ?_
  simp only [Act.put, pa, pb, pc]
  refine late_end (by kernel_rfl) (fun wn hl => ?_)
  have HR2 := H_ (HR2.out.later hl); have HR3 := H_ (HR3.out.later hl); have HR4 := H_ (HR4.out.later hl); have HL := H_ (HL.out.later hl); have HB := H_ (below_on HB.out hl); clear hl
  go_wp2_with (first
   | (guard_target = gL 2; refine step_load rfl _ rfl b2 rfl p HR2.out ?_)
   | (guard_target = gS 4; refine step_store rfl _ _ rfl b4 rfl zeroP (p) rfl HR4.out ?_; intro wn U R; have HR4 := H_ R; have HB := H_ (HB.out.trans (U.below HG4.out)); clear U R))
  refine bodyPost_ret (results_two rfl _ _ _ p (.bool false) rfl rfl HR4.out) rfl ⟨rfl, HB.out⟩
 ·show Calls _ _ _ _ (TakL (stpA p (begA p m)) true w)
  have hR := hch rfl
  clear hch
  unfold stpA
  obtain ⟨c, hc0⟩ : ∃ c, begA p m = c := ⟨_, rfl⟩
  have HC0 := H_ hc0
  rw [hc0] at hR ⊢
  clear hc0
  have H0 := H_ hR
  clear hR
  have H0n := H0.out.men
  obtain ⟨p1, e1⟩ : ∃ q, menA p c = q := ⟨_, rfl⟩
  rw [e1] at H0n ⊢
  have H1 := H_ H0n
  have E1 := H_ e1
  clear e1 H0n
  have H1n := H1.out.poc
  obtain ⟨p2, e2⟩ : ∃ q, pocA p1 c = q := ⟨_, rfl⟩
  rw [e2] at H1n ⊢
  have H2 := H_ H1n
  have E2 := H_ e2
  clear e2 H1n
  have H2n := H2.out.bla
  obtain ⟨p3, e3⟩ : ∃ q, blaA p2 c = q := ⟨_, rfl⟩
  rw [e3] at H2n ⊢
  have H3 := H_ H2n
  have E3 := H_ e3
  clear e3 H2n
  have H3n := H3.out.rig
  obtain ⟨p4, e4⟩ : ∃ q, rigA p3 c = q := ⟨_, rfl⟩
  rw [e4] at H3n ⊢
  have H4 := H_ H3n
  have E4 := H_ e4
  clear e4 H3n
  have H4n := H4.out.pas
  obtain ⟨p5, e5⟩ : ∃ q, pasA p4 c = q := ⟨_, rfl⟩
  rw [e5] at H4n ⊢
  have H5 := H_ H4n
  have E5 := H_ e5
  clear e5 H4n
  have H5n := H5.out.clo
  obtain ⟨p6, e6⟩ : ∃ q, cloA p5 c = q := ⟨_, rfl⟩
  rw [e6] at H5n ⊢
  have H6 := H_ H5n
  have E6 := H_ e6
  clear e6 H5n
  obtain ⟨p7, e7⟩ : ∃ q, turA p6 = q := ⟨_, rfl⟩
  rw [e7]
  have E7 := H_ e7
  clear e7
  go_enter Tryz.func13, Tryz.ntmps13
  go_wp2_with (first
   | (guard_target = gB 2; refine step_box rfl _ rfl p rfl ?_; intro b2 w1 N R; have HG2 := H_ (nA HB.out N); have HB := H_ (below_on HB.out N.below); have HR2 := H_ R; clear N R)
   | (guard_target = gB 3; refine blk_box rfl 40 _ rfl (mvA m) rfl ?_; intro b3 w1 N R; have HG3 := H_ (nA HB.out N); have HR2 := H_ (HR2.out.later N.below); have HB := H_ (below_on HB.out N.below); have HR3 := H_ R; clear N R)
   | (guard_target = gA 4; refine step_alloc rfl rfl ?_; intro b4 wn N R; have HG4 := H_ (nA HB.out N); have HR2 := H_ (HR2.out.later N.below); have HR3 := H_ (HR3.out.later N.below); have HB := H_ (below_on HB.out N.below); have HR4 := H_ R; clear N R))
  refine late_begin 6 (by kernel_rfl) ?_
  refine lv 0 rfl ⟨_, fun w' hl => (run_load _ rfl _ rfl (p) (HR2.out.later hl)), ?_⟩
  simp only [Act.put, pa, pb, pc]
  refine lv 1 rfl ⟨.agg (mvA m), fun w' hl => (run_blk 40 _ rfl b3 rfl (mvA m) (HR3.out.later hl) _ Tryz.underlying40 rfl sizeMv), ?_⟩
  simp only [Act.put, pa, pb, pc]
  refine lv 3 rfl ⟨.agg (mvA m), fun w' hl => (run_blk 40 _ rfl b3 rfl (mvA m) (HR3.out.later hl) _ Tryz.underlying40 rfl sizeMv), ?_⟩
  simp only [Act.put, pa, pb, pc]
  refine l1 2 rfl fun wn hl K hK => ?_
  have HR2 := H_ (HR2.out.later hl); have HR3 := H_ (HR3.out.later hl); have HR4 := H_ (HR4.out.later hl); have HB := H_ (below_on HB.out hl); clear hl
  refine we ?_
  refine (sort_any p m _ HP.out HM.out (HT.out.on HB.out)).mono ?_; rintro e wm ⟨v, rfl, hv, hb⟩; refine ⟨_, rfl, ?_⟩
  rw [HSo.out] at hv; obtain ⟨a7, c7, rfl, hE⟩ := mvs_of hv; have HLn := H_ hE; clear hv hE
  refine hK.out _ _ hb ?_
  have HR2 := H_ (HR2.out.later hb); have HR3 := H_ (HR3.out.later hb); have HR4 := H_ (HR4.out.later hb); have HB := H_ (below_on HB.out hb); clear hb
  have HL := HLn; clear HLn
  clear hK K
  simp only [Act.put, pa, pb, pc]
  refine l1 4 rfl fun wn hl K hK => ?_
  have HR2 := H_ (HR2.out.later hl); have HR3 := H_ (HR3.out.later hl); have HR4 := H_ (HR4.out.later hl); have HL := H_ (HL.out.later hl); have HB := H_ (below_on HB.out hl); clear hl
  refine we ?_
  refine (contK HAny.out a7 c7 _ HLen.out HFit.out HM.out HL.out).mono ?_; rintro e wm ⟨rfl, hb⟩; refine ⟨_, rfl, ?_⟩
  refine hK.out _ _ hb ?_
  have HR2 := H_ (HR2.out.later hb); have HR3 := H_ (HR3.out.later hb); have HR4 := H_ (HR4.out.later hb); have HL := H_ (HL.out.later hb); have HB := H_ (below_on HB.out hb); clear hb
  clear hK K
  simp only [Act.put, pa, pb, pc]
  refine lw 5 rfl ?_
  simp only [Act.put, pa, pb, pc]
  refine late_end (by kernel_rfl) (fun wn hl => ?_)
  have HR2 := H_ (HR2.out.later hl); have HR3 := H_ (HR3.out.later hl); have HR4 := H_ (HR4.out.later hl); have HL := H_ (HL.out.later hl); have HB := H_ (below_on HB.out hl); clear hl
  go_wp2_with (first
   | (guard_target = gL 2; refine step_load rfl _ rfl b2 rfl p HR2.out ?_)
   | (guard_target = gL 3; refine blk_load rfl 40 _ rfl b3 rfl (mvA m) HR3.out _ Tryz.underlying40 rfl sizeMv ?_)
   | (go_at_call 32; refine (begK HC0.out _ HP.out HM.out (HT.out.on HB.out)).mono ?_; rintro e w5 ⟨b, rfl, hg, hc, hb⟩; have HGb := H_ (show w.heap.size ≤ b by have := HB.out.size; omega); have HN4 := H_ (show b4 ≠ b by have := HR4.out.lt; omega); have HR4 := H_ (HR4.out.later hb); have HC := H_ hc; have HB := H_ (below_on HB.out hb); clear hg hc hb)
   | (go_at_call 33; refine (af_steps b _).mono ?_; rintro e w6 ⟨rfl, hb⟩; have HR4 := H_ (HR4.out.later hb); have HC := H_ (HC.out.later hb); have HB := H_ (below_on HB.out hb); clear hb))
  go_loopw [21] (fun i wr => (i = .int .i64 0 ∧ CH wr b p c ∨ i = .int .i64 1 ∧ CH wr b p1 c ∨ i = .int .i64 2 ∧ CH wr b p2 c ∨ i = .int .i64 3 ∧ CH wr b p3 c ∨ i = .int .i64 4 ∧ CH wr b p4 c ∨ i = .int .i64 5 ∧ CH wr b p5 c ∨ i = .int .i64 6 ∧ CH wr b p6 c ∨ i = .int .i64 7 ∧ CH wr b p7 c) ∧ Row wr b4 zeroP ∧ Below w.heap.size w wr) (fun i _ => 7 - (intOf i).toNat)
  case atStart => exact ⟨Or.inl ⟨rfl, HC.out⟩, HR4.out, HB.out⟩
  case round =>
   clear HC HB HR4
   obtain ⟨hrel, hr4, hb⟩ := hrel
   have HR4 := H_ hr4
   have HB := H_ hb
   clear hr4 hb
   rcases hrel with ⟨rfl, hc⟩ | ⟨rfl, hc⟩ | ⟨rfl, hc⟩ | ⟨rfl, hc⟩ | ⟨rfl, hc⟩ | ⟨rfl, hc⟩ | ⟨rfl, hc⟩ | ⟨rfl, hc⟩
   ·have HC := H_ hc
    clear hc
    go_wp2_with (first
     | (guard_target = gI 23; refine step_index (op := ⟨some 23, .index _ _ _, _, _, _, _⟩) rfl 58 1 _ _ rfl 7 (stpsA b) rfl .i64 0 rfl (by decide) Tryz.underlying58 Tryz.underlying1 rfl sizeFn (.func (.func 69) #[.pointer (some ⟨b, 0, none⟩)] #[]) rfl ?_)
     | (go_at_call 69; refine (af_men b _ c _ HC.out H0.out (aft_of HT.out HB.out HGb.out HC.out.lt)).mono ?_; rintro e w7 ⟨⟨v, rfl⟩, hc, hk⟩; have HR4 := H_ (row_keptA HR4.out hk HN4.out); have HB := H_ (HB.out.trans (hk.below (fun _ e => by have := HGb.out; omega) HB.out.size)); have HC := H_ hc; clear hc hk))
    go_roundw
    case rel => exact ⟨Or.inr (Or.inl ⟨by go_num, by rw [← E1.out]; exact HC.out⟩), HR4.out, HB.out⟩
    case measure => simp [intOf]
   ·have HC := H_ hc
    clear hc
    go_wp2_with (first
     | (guard_target = gI 23; refine step_index (op := ⟨some 23, .index _ _ _, _, _, _, _⟩) rfl 58 1 _ _ rfl 7 (stpsA b) rfl .i64 1 rfl (by decide) Tryz.underlying58 Tryz.underlying1 rfl sizeFn (.func (.func 70) #[.pointer (some ⟨b, 0, none⟩)] #[]) rfl ?_)
     | (go_at_call 70; refine (af_pocket b _ c _ HC.out H1.out (aft_of HT.out HB.out HGb.out HC.out.lt)).mono ?_; rintro e w7 ⟨⟨v, rfl⟩, hc, hk⟩; have HR4 := H_ (row_keptA HR4.out hk HN4.out); have HB := H_ (HB.out.trans (hk.below (fun _ e => by have := HGb.out; omega) HB.out.size)); have HC := H_ hc; clear hc hk))
    go_roundw
    case rel => exact ⟨Or.inr (Or.inr (Or.inl ⟨by go_num, by rw [← E2.out]; exact HC.out⟩)), HR4.out, HB.out⟩
    case measure => simp [intOf]
   ·have HC := H_ hc
    clear hc
    go_wp2_with (first
     | (guard_target = gI 23; refine step_index (op := ⟨some 23, .index _ _ _, _, _, _, _⟩) rfl 58 1 _ _ rfl 7 (stpsA b) rfl .i64 2 rfl (by decide) Tryz.underlying58 Tryz.underlying1 rfl sizeFn (.func (.func 71) #[.pointer (some ⟨b, 0, none⟩)] #[]) rfl ?_)
     | (go_at_call 71; refine (af_blast b _ c _ HC.out H2.out (aft_of HT.out HB.out HGb.out HC.out.lt)).mono ?_; rintro e w7 ⟨⟨v, rfl⟩, hc, hk⟩; have HR4 := H_ (row_keptA HR4.out hk HN4.out); have HB := H_ (HB.out.trans (hk.below (fun _ e => by have := HGb.out; omega) HB.out.size)); have HC := H_ hc; clear hc hk))
    go_roundw
    case rel => exact ⟨Or.inr (Or.inr (Or.inr (Or.inl ⟨by go_num, by rw [← E3.out]; exact HC.out⟩))), HR4.out, HB.out⟩
    case measure => simp [intOf]
   ·have HC := H_ hc
    clear hc
    go_wp2_with (first
     | (guard_target = gI 23; refine step_index (op := ⟨some 23, .index _ _ _, _, _, _, _⟩) rfl 58 1 _ _ rfl 7 (stpsA b) rfl .i64 3 rfl (by decide) Tryz.underlying58 Tryz.underlying1 rfl sizeFn (.func (.func 72) #[.pointer (some ⟨b, 0, none⟩)] #[]) rfl ?_)
     | (go_at_call 72; refine (af_rights b _ c _ HC.out H3.out (aft_of HT.out HB.out HGb.out HC.out.lt)).mono ?_; rintro e w7 ⟨⟨v, rfl⟩, hc, hk⟩; have HR4 := H_ (row_keptA HR4.out hk HN4.out); have HB := H_ (HB.out.trans (hk.below (fun _ e => by have := HGb.out; omega) HB.out.size)); have HC := H_ hc; clear hc hk))
    go_roundw
    case rel => exact ⟨Or.inr (Or.inr (Or.inr (Or.inr (Or.inl ⟨by go_num, by rw [← E4.out]; exact HC.out⟩)))), HR4.out, HB.out⟩
    case measure => simp [intOf]
   ·have HC := H_ hc
    clear hc
    go_wp2_with (first
     | (guard_target = gI 23; refine step_index (op := ⟨some 23, .index _ _ _, _, _, _, _⟩) rfl 58 1 _ _ rfl 7 (stpsA b) rfl .i64 4 rfl (by decide) Tryz.underlying58 Tryz.underlying1 rfl sizeFn (.func (.func 73) #[.pointer (some ⟨b, 0, none⟩)] #[]) rfl ?_)
     | (go_at_call 73; refine (af_pass b _ c _ HC.out H4.out (aft_of HT.out HB.out HGb.out HC.out.lt)).mono ?_; rintro e w7 ⟨⟨v, rfl⟩, hc, hk⟩; have HR4 := H_ (row_keptA HR4.out hk HN4.out); have HB := H_ (HB.out.trans (hk.below (fun _ e => by have := HGb.out; omega) HB.out.size)); have HC := H_ hc; clear hc hk))
    go_roundw
    case rel => exact ⟨Or.inr (Or.inr (Or.inr (Or.inr (Or.inr (Or.inl ⟨by go_num, by rw [← E5.out]; exact HC.out⟩))))), HR4.out, HB.out⟩
    case measure => simp [intOf]
   ·have HC := H_ hc
    clear hc
    go_wp2_with (first
     | (guard_target = gI 23; refine step_index (op := ⟨some 23, .index _ _ _, _, _, _, _⟩) rfl 58 1 _ _ rfl 7 (stpsA b) rfl .i64 5 rfl (by decide) Tryz.underlying58 Tryz.underlying1 rfl sizeFn (.func (.func 74) #[.pointer (some ⟨b, 0, none⟩)] #[]) rfl ?_)
     | (go_at_call 74; refine (af_clocks b _ c _ HC.out H5.out).mono ?_; rintro e w7 ⟨⟨v, rfl⟩, hc, hk⟩; have HR4 := H_ (row_keptA HR4.out hk HN4.out); have HB := H_ (HB.out.trans (hk.below (fun _ e => by have := HGb.out; omega) HB.out.size)); have HC := H_ hc; clear hc hk))
    go_roundw
    case rel => exact ⟨Or.inr (Or.inr (Or.inr (Or.inr (Or.inr (Or.inr (Or.inl ⟨by go_num, by rw [← E6.out]; exact HC.out⟩)))))), HR4.out, HB.out⟩
    case measure => simp [intOf]
   ·have HC := H_ hc
    clear hc
    go_wp2_with (first
     | (guard_target = gI 23; refine step_index (op := ⟨some 23, .index _ _ _, _, _, _, _⟩) rfl 58 1 _ _ rfl 7 (stpsA b) rfl .i64 6 rfl (by decide) Tryz.underlying58 Tryz.underlying1 rfl sizeFn (.func (.func 75) #[.pointer (some ⟨b, 0, none⟩)] #[]) rfl ?_)
     | (go_at_call 75; refine (af_turn b _ c _ HC.out H6.out (aft_of HT.out HB.out HGb.out HC.out.lt)).mono ?_; rintro e w7 ⟨⟨v, rfl⟩, hc, hk⟩; have HR4 := H_ (row_keptA HR4.out hk HN4.out); have HB := H_ (HB.out.trans (hk.below (fun _ e => by have := HGb.out; omega) HB.out.size)); have HC := H_ hc; clear hc hk))
    go_roundw
    case rel => exact ⟨Or.inr (Or.inr (Or.inr (Or.inr (Or.inr (Or.inr (Or.inr ⟨by go_num, by rw [← E7.out]; exact HC.out⟩)))))), HR4.out, HB.out⟩
    case measure => simp [intOf]
   ·have HC := H_ hc
    clear hc
    go_wp2_with (first
     | (refine ch_load rfl _ rfl rfl HC.out ?_)
     | (guard_target = gS 4; refine step_store rfl _ _ rfl b4 rfl zeroP (p7) rfl HR4.out ?_; intro wn U R; have HR4 := H_ R; have HB := H_ (HB.out.trans (U.below HG4.out)); clear U R))
    refine bodyPost_ret (results_two rfl _ _ _ p7 (.bool true) rfl rfl HR4.out) rfl ⟨rfl, HB.out⟩
end Go.Proofs.YtidgfadbdgheiaaGreatDoor
/-
 Layer 16: the positions that the laws' 'awake' looks at.
-/
namespace Go.Proofs.YtidgfadbdgheiaaGreatDoor
open Go.RowKit
set_option linter.unusedVariables false
set_option linter.unusedSimpArgs false

def afP_ : Nat → Int := startP 0
def afR_ : Nat → Int := upd (upd (upd (upd (upd zeroP 78 1) 83 (-1)) 87 1) 37 1) 52 9
def afT_ : Nat → Int := upd (upd (upd (upd (upd (upd (upd (upd zeroP 79 7) 80 (-1)) 81 (-1)) 82 (-1)) 83 (-1)) 87 1) 5 6) 8 4
def afV_ : Nat → Int := upd (upd (upd (upd (upd (upd (upd (upd zeroP 0 3) 83 (-1)) 87 1) 4 5) 52 9) 61 14) 59 11) 51 9
def afm1 : Mv := ⟨12, 28, 0, 0, false⟩
def afm2 : Mv := ⟨51, 35, 0, 0, false⟩
def afm3 : Mv := ⟨4, 7, 0, 0, true⟩
def afm4 : Mv := ⟨3, 51, 0, 0, false⟩
theorem b1_ : movB afP_ afm1 = true := by decide +kernel
theorem b2_ : movB afR_ afm2 = true := by decide +kernel
theorem b3_ : movB afT_ afm3 = true := by decide +kernel
theorem b4_ : movB afV_ afm4 = true := by decide +kernel
theorem f1_29 : movP afP_ afm1 29 = 1 := by decide +kernel
theorem f1_13 : movP afP_ afm1 13 = 0 := by decide +kernel
theorem f1_78 : movP afP_ afm1 78 = 1 := by decide +kernel
theorem f1_83 : movP afP_ afm1 83 = -1 := by decide +kernel
theorem f1_86 : movP afP_ afm1 86 = 0 := by decide +kernel
theorem f1_87 : movP afP_ afm1 87 = 1 := by decide +kernel
theorem f2_83 : movP afR_ afm2 83 = 43 := by decide +kernel
theorem f2_87 : movP afR_ afm2 87 = 2 := by decide +kernel
theorem f3_7 : movP afT_ afm3 7 = 6 := by decide +kernel
theorem f3_6 : movP afT_ afm3 6 = 4 := by decide +kernel
theorem f3_5 : movP afT_ afm3 5 = 0 := by decide +kernel
theorem f3_8 : movP afT_ afm3 8 = 0 := by decide +kernel
theorem f3_79 : movP afT_ afm3 79 = -1 := by decide +kernel
theorem f3_80 : movP afT_ afm3 80 = -1 := by decide +kernel
theorem f4_52 : movP afV_ afm4 52 = 0 := by decide +kernel
theorem f4_4 : movP afV_ afm4 4 = 0 := by decide +kernel
theorem f4_61 : movP afV_ afm4 61 = 0 := by decide +kernel
theorem f4_59 : movP afV_ afm4 59 = 0 := by decide +kernel
theorem f4_51 : movP afV_ afm4 51 = 9 := by decide +kernel
end Go.Proofs.YtidgfadbdgheiaaGreatDoor
/-
 Layer 16: the laws' awake.
-/
namespace Go.Proofs.YtidgfadbdgheiaaGreatDoor
open Go.RowKit Go.Shelf
set_option linter.unusedVariables false
set_option linter.unusedSimpArgs false
attribute [local go_sem] Oper.semAt_some

theorem same_aggA {T : TypeId} {m : Nat} {cs : Array Value} (hk : Tryz.prog.keyTypeAt m T = true) (hm : m ≤ 10000) (hf : (Value.agg cs).formed Tryz.prog T = true) (hl : (Tryz.prog.keyLits m T cs.toList).isSome = true) (w : World) :
  (binOp .eql T (.agg cs) (.agg cs)).run Tryz.prog w = .ok (.bool true) w ∧ (binOp .neq T (.agg cs) (.agg cs)).run Tryz.prog w = .ok (.bool false) w := by
 obtain ⟨la, hl⟩ := Option.isSome_iff_exists.1 hl
 obtain ⟨r, hr, hi⟩ := run_equalIn_deep (10000 - m) m T hk w m m (.agg cs) (.agg cs) la la hf hf hl hl
 rw [show 10000 - m + m = 10000 by omega] at hr
 have e : r = true := hi.2 rfl
 subst e
 exact ⟨by rw [run_eql_struct, hr]; rfl, by rw [run_neq_struct, hr]; rfl⟩
section laws
variable {ops : Array Oper} {rest : List Oper} {op : Oper} {a : Act} {w : World} {Q : Exit → Act → World → Prop}
theorem step_eqlB (hw : Region.wanted op (yielded ops a.tmps) = true) (T : TypeId) (x y : Operand) (ho : op.op = .binOp .eql T x y T) (cs : Array Value) (hx : a.eval x = .agg cs) (hy : a.eval y = .agg cs) (hg : Tryz.prog.eqGuardType Tryz.prog.depth T = false)
  (m : Nat) (hk : Tryz.prog.keyTypeAt m T = true) (hm : m ≤ 10000) (hf : (Value.agg cs).formed Tryz.prog T = true) (hl : (Tryz.prog.keyLits m T cs.toList).isSome = true)
  (h : wpList Tryz.prog ops Q rest (a.put op.dst (.bool true)) w) : wpList Tryz.prog ops Q (op :: rest) a w :=
 wpList_want hw fun K hK => by
  have hk' := hK _ _ h
  unfold Oper.wp execOp
  simp only [ho, hx, hy, Sem.run_bind, run_eqGuard_agg w _ _ _ _ _ _ hg, Result.andThen_ok, (same_aggA hk hm hf hl w).1]
  exact hk'
end laws
theorem moveK {p q : Nat → Int} {m : Mv} (e : movP p m = q) (h : movB p m = true) (w : World) (hp : WfP p) (hm : FitV m) (hT : CsT w) : Calls Tryz.prog 13 #[.agg (posA p), .agg (mvA m)] w (TakL q true w) := e ▸ h ▸ move_any p m w hp hm hT
theorem startK (w : World) (hT : TabVar w) (hK : TabKn w) : Calls Tryz.prog 23 #[.int .u8 0] w (PosB afP_ true w) := start_of w 0 (by decide) (by decide) (by decide) (by decide) hT
def wfN (p : Nat → Int) : Bool := (List.range 88).all fun i => (Lit.int (kAt i) (p i)).wf
theorem wf_ofN {p : Nat → Int} (h : wfN p = true) : WfP p := fun i hi => List.all_eq_true.1 h i (List.mem_range.2 hi)
theorem wfA1 : WfP afP_ := wf_ofN (by decide +kernel)
theorem wfA2 : WfP afR_ := wf_ofN (by decide +kernel)
theorem wfA3 : WfP afT_ := wf_ofN (by decide +kernel)
theorem wfA4 : WfP afV_ := wf_ofN (by decide +kernel)
theorem fitA1 : FitV afm1 := ⟨by decide, by decide, by decide, by decide⟩
theorem fitA2 : FitV afm2 := ⟨by decide, by decide, by decide, by decide⟩
theorem fitA3 : FitV afm3 := ⟨by decide, by decide, by decide, by decide⟩
theorem fitA4 : FitV afm4 := ⟨by decide, by decide, by decide, by decide⟩
theorem pairA : (partL (movP afT_ afm3) 79 2).toArray = #[.int .i8 (-1), .int .i8 (-1)] := by
 have e : partL (movP afT_ afm3) 79 2 = [.int .i8 (movP afT_ afm3 79), .int .i8 (movP afT_ afm3 80)] := rfl
 rw [e, f3_79, f3_80]
theorem af_awake (w : World) (hT : CsT w) (hK : TabKn w) : Calls Tryz.prog 9 #[] w (BoL true w) := by
 have HT := H_ hT
 have HK := H_ hK
 clear hT hK
 have HB := H_ (Below.refl w.heap.size w)
 go_enter Tryz.func9, Tryz.ntmps9
 go_wp2_with (first
  | (go_at_call 23; refine (startK _ (HT.out.on HB.out).var (HK.out.on HB.out)).mono ?_; rintro e w3 ⟨rfl, hb⟩; have HB := H_ (below_on HB.out hb); clear hb)
  | (guard_target = gA 1; refine step_alloc (op := ⟨some 1, _, _, _, _, _⟩) rfl rfl ?_; intro b1 wn N R; have HG1 := H_ (nA HB.out N); have HR1 := H_ R; have HB := H_ (below_on HB.out N.below); clear N R)
  | (guard_target = gS 1; refine step_store (op := ⟨none, .store _ (.tmp 1) _, _, _, _, _⟩) rfl _ _ rfl b1 rfl (zeroP) (afP_) rfl HR1.out ?_; intro wn U R; have HR1 := H_ R; have HB := H_ (HB.out.trans (U.below HG1.out)); clear U R)
  | (guard_target = gL2 19 1; refine step_load (op := ⟨some 19, .load _ (.tmp 1), _, _, _, _⟩) rfl _ rfl b1 rfl (afP_) HR1.out ?_)
  | (guard_target = gD 20; refine step_build (op := ⟨some 20, .build _ _, _, _, _, _⟩) rfl 40 _ rfl (mvA afm1) (by kernel_rfl) ?_)
  | (go_at_call 13; guard_target = Go.Calls _ _ #[_, Go.Value.agg (mvA afm1)] _ _; refine (moveK rfl b1_ _ wfA1 fitA1 (HT.out.on HB.out)).mono ?_; rintro e w3 ⟨rfl, hb⟩; have HR1 := H_ (HR1.out.later hb); have HB := H_ (below_on HB.out hb); clear hb)
  | (guard_target = gA 3; refine step_alloc (op := ⟨some 3, _, _, _, _, _⟩) rfl rfl ?_; intro b3 wn N R; have HG3 := H_ (nA HB.out N); have HD1_3 := H_ (show b1 ≠ b3 by have := HR1.out.lt; have := N.at_; omega); have HR1 := H_ (HR1.out.later N.below); have HR3 := H_ R; have HB := H_ (below_on HB.out N.below); clear N R)
  | (guard_target = gS 3; refine step_store (op := ⟨none, .store _ (.tmp 3) _, _, _, _, _⟩) rfl _ _ rfl b3 rfl (zeroP) (movP afP_ afm1) rfl HR3.out ?_; intro wn U R; have HR1 := H_ (HR1.out.apart U HD1_3.out); have HR3 := H_ R; have HB := H_ (HB.out.trans (U.below HG3.out)); clear U R)
  | (guard_target = gD 24; refine step_build (op := ⟨some 24, .build _ _, _, _, _, _⟩) rfl 31 _ rfl (posA (upd (upd (upd zeroP 78 1) 83 (-1)) 87 1)) (by kernel_rfl) ?_)
  | (guard_target = gA 5; refine step_alloc (op := ⟨some 5, _, _, _, _, _⟩) rfl rfl ?_; intro b5 wn N R; have HG5 := H_ (nA HB.out N); have HD1_5 := H_ (show b1 ≠ b5 by have := HR1.out.lt; have := N.at_; omega); have HR1 := H_ (HR1.out.later N.below); have HD3_5 := H_ (show b3 ≠ b5 by have := HR3.out.lt; have := N.at_; omega); have HR3 := H_ (HR3.out.later N.below); have HR5 := H_ R; have HB := H_ (below_on HB.out N.below); clear N R)
  | (guard_target = gS 5; refine step_store (op := ⟨none, .store _ (.tmp 5) _, _, _, _, _⟩) rfl _ _ rfl b5 rfl (zeroP) (upd (upd (upd zeroP 78 1) 83 (-1)) 87 1) rfl HR5.out ?_; intro wn U R; have HR1 := H_ (HR1.out.apart U HD1_5.out); have HR3 := H_ (HR3.out.apart U HD3_5.out); have HR5 := H_ R; have HB := H_ (HB.out.trans (U.below HG5.out)); clear U R)
  | (guard_target = gS 26; refine step_cell (op := ⟨none, .store _ (.tmp 26) _, _, _, _, _⟩) rfl 5 _ _ rfl b5 37 rfl .u8 1 rfl _ HR5.out (by decide) rfl size5 ?_; intro wn U R; have HR1 := H_ (HR1.out.apart U HD1_5.out); have HR3 := H_ (HR3.out.apart U HD3_5.out); have HR5 := H_ R; have HB := H_ (HB.out.trans (U.below HG5.out)); clear U R)
  | (guard_target = gS 28; refine step_cell (op := ⟨none, .store _ (.tmp 28) _, _, _, _, _⟩) rfl 5 _ _ rfl b5 52 rfl .u8 9 rfl _ HR5.out (by decide) rfl size5 ?_; intro wn U R; have HR1 := H_ (HR1.out.apart U HD1_5.out); have HR3 := H_ (HR3.out.apart U HD3_5.out); have HR5 := H_ R; have HB := H_ (HB.out.trans (U.below HG5.out)); clear U R)
  | (guard_target = gL2 30 5; refine step_load (op := ⟨some 30, .load _ (.tmp 5), _, _, _, _⟩) rfl _ rfl b5 rfl (afR_) HR5.out ?_)
  | (guard_target = gD 31; refine step_build (op := ⟨some 31, .build _ _, _, _, _, _⟩) rfl 40 _ rfl (mvA afm2) (by kernel_rfl) ?_)
  | (go_at_call 13; guard_target = Go.Calls _ _ #[_, Go.Value.agg (mvA afm2)] _ _; refine (moveK rfl b2_ _ wfA2 fitA2 (HT.out.on HB.out)).mono ?_; rintro e w3 ⟨rfl, hb⟩; have HR1 := H_ (HR1.out.later hb); have HR3 := H_ (HR3.out.later hb); have HR5 := H_ (HR5.out.later hb); have HB := H_ (below_on HB.out hb); clear hb)
  | (guard_target = gA 6; refine step_alloc (op := ⟨some 6, _, _, _, _, _⟩) rfl rfl ?_; intro b6 wn N R; have HG6 := H_ (nA HB.out N); have HD1_6 := H_ (show b1 ≠ b6 by have := HR1.out.lt; have := N.at_; omega); have HR1 := H_ (HR1.out.later N.below); have HD3_6 := H_ (show b3 ≠ b6 by have := HR3.out.lt; have := N.at_; omega); have HR3 := H_ (HR3.out.later N.below); have HD5_6 := H_ (show b5 ≠ b6 by have := HR5.out.lt; have := N.at_; omega); have HR5 := H_ (HR5.out.later N.below); have HR6 := H_ R; have HB := H_ (below_on HB.out N.below); clear N R)
  | (guard_target = gS 6; refine step_store (op := ⟨none, .store _ (.tmp 6) _, _, _, _, _⟩) rfl _ _ rfl b6 rfl (zeroP) (movP afR_ afm2) rfl HR6.out ?_; intro wn U R; have HR1 := H_ (HR1.out.apart U HD1_6.out); have HR3 := H_ (HR3.out.apart U HD3_6.out); have HR5 := H_ (HR5.out.apart U HD5_6.out); have HR6 := H_ R; have HB := H_ (HB.out.trans (U.below HG6.out)); clear U R)
  | (guard_target = gD 38; refine step_build (op := ⟨some 38, .build _ _, _, _, _, _⟩) rfl 31 _ rfl (posA (upd (upd (upd (upd (upd (upd zeroP 79 7) 80 (-1)) 81 (-1)) 82 (-1)) 83 (-1)) 87 1)) (by kernel_rfl) ?_)
  | (guard_target = gA 8; refine step_alloc (op := ⟨some 8, _, _, _, _, _⟩) rfl rfl ?_; intro b8 wn N R; have HG8 := H_ (nA HB.out N); have HD1_8 := H_ (show b1 ≠ b8 by have := HR1.out.lt; have := N.at_; omega); have HR1 := H_ (HR1.out.later N.below); have HD3_8 := H_ (show b3 ≠ b8 by have := HR3.out.lt; have := N.at_; omega); have HR3 := H_ (HR3.out.later N.below); have HD5_8 := H_ (show b5 ≠ b8 by have := HR5.out.lt; have := N.at_; omega); have HR5 := H_ (HR5.out.later N.below); have HD6_8 := H_ (show b6 ≠ b8 by have := HR6.out.lt; have := N.at_; omega); have HR6 := H_ (HR6.out.later N.below); have HR8 := H_ R; have HB := H_ (below_on HB.out N.below); clear N R)
  | (guard_target = gS 8; refine step_store (op := ⟨none, .store _ (.tmp 8) _, _, _, _, _⟩) rfl _ _ rfl b8 rfl (zeroP) (upd (upd (upd (upd (upd (upd zeroP 79 7) 80 (-1)) 81 (-1)) 82 (-1)) 83 (-1)) 87 1) rfl HR8.out ?_; intro wn U R; have HR1 := H_ (HR1.out.apart U HD1_8.out); have HR3 := H_ (HR3.out.apart U HD3_8.out); have HR5 := H_ (HR5.out.apart U HD5_8.out); have HR6 := H_ (HR6.out.apart U HD6_8.out); have HR8 := H_ R; have HB := H_ (HB.out.trans (U.below HG8.out)); clear U R)
  | (guard_target = gS 40; refine step_cell (op := ⟨none, .store _ (.tmp 40) _, _, _, _, _⟩) rfl 5 _ _ rfl b8 5 rfl .u8 6 rfl _ HR8.out (by decide) rfl size5 ?_; intro wn U R; have HR1 := H_ (HR1.out.apart U HD1_8.out); have HR3 := H_ (HR3.out.apart U HD3_8.out); have HR5 := H_ (HR5.out.apart U HD5_8.out); have HR6 := H_ (HR6.out.apart U HD6_8.out); have HR8 := H_ R; have HB := H_ (HB.out.trans (U.below HG8.out)); clear U R)
  | (guard_target = gS 42; refine step_cell (op := ⟨none, .store _ (.tmp 42) _, _, _, _, _⟩) rfl 5 _ _ rfl b8 8 rfl .u8 4 rfl _ HR8.out (by decide) rfl size5 ?_; intro wn U R; have HR1 := H_ (HR1.out.apart U HD1_8.out); have HR3 := H_ (HR3.out.apart U HD3_8.out); have HR5 := H_ (HR5.out.apart U HD5_8.out); have HR6 := H_ (HR6.out.apart U HD6_8.out); have HR8 := H_ R; have HB := H_ (HB.out.trans (U.below HG8.out)); clear U R)
  | (guard_target = gL2 44 8; refine step_load (op := ⟨some 44, .load _ (.tmp 8), _, _, _, _⟩) rfl _ rfl b8 rfl (afT_) HR8.out ?_)
  | (guard_target = gD 45; refine step_build (op := ⟨some 45, .build _ _, _, _, _, _⟩) rfl 40 _ rfl (mvA afm3) (by kernel_rfl) ?_)
  | (go_at_call 13; guard_target = Go.Calls _ _ #[_, Go.Value.agg (mvA afm3)] _ _; refine (moveK rfl b3_ _ wfA3 fitA3 (HT.out.on HB.out)).mono ?_; rintro e w3 ⟨rfl, hb⟩; have HR1 := H_ (HR1.out.later hb); have HR3 := H_ (HR3.out.later hb); have HR5 := H_ (HR5.out.later hb); have HR6 := H_ (HR6.out.later hb); have HR8 := H_ (HR8.out.later hb); have HB := H_ (below_on HB.out hb); clear hb)
  | (guard_target = gA 9; refine step_alloc (op := ⟨some 9, _, _, _, _, _⟩) rfl rfl ?_; intro b9 wn N R; have HG9 := H_ (nA HB.out N); have HD1_9 := H_ (show b1 ≠ b9 by have := HR1.out.lt; have := N.at_; omega); have HR1 := H_ (HR1.out.later N.below); have HD3_9 := H_ (show b3 ≠ b9 by have := HR3.out.lt; have := N.at_; omega); have HR3 := H_ (HR3.out.later N.below); have HD5_9 := H_ (show b5 ≠ b9 by have := HR5.out.lt; have := N.at_; omega); have HR5 := H_ (HR5.out.later N.below); have HD6_9 := H_ (show b6 ≠ b9 by have := HR6.out.lt; have := N.at_; omega); have HR6 := H_ (HR6.out.later N.below); have HD8_9 := H_ (show b8 ≠ b9 by have := HR8.out.lt; have := N.at_; omega); have HR8 := H_ (HR8.out.later N.below); have HR9 := H_ R; have HB := H_ (below_on HB.out N.below); clear N R)
  | (guard_target = gS 9; refine step_store (op := ⟨none, .store _ (.tmp 9) _, _, _, _, _⟩) rfl _ _ rfl b9 rfl (zeroP) (movP afT_ afm3) rfl HR9.out ?_; intro wn U R; have HR1 := H_ (HR1.out.apart U HD1_9.out); have HR3 := H_ (HR3.out.apart U HD3_9.out); have HR5 := H_ (HR5.out.apart U HD5_9.out); have HR6 := H_ (HR6.out.apart U HD6_9.out); have HR8 := H_ (HR8.out.apart U HD8_9.out); have HR9 := H_ R; have HB := H_ (HB.out.trans (U.below HG9.out)); clear U R)
  | (guard_target = gD 49; refine step_build (op := ⟨some 49, .build _ _, _, _, _, _⟩) rfl 31 _ rfl (posA (upd (upd (upd zeroP 0 3) 83 (-1)) 87 1)) (by kernel_rfl) ?_)
  | (guard_target = gA 11; refine step_alloc (op := ⟨some 11, _, _, _, _, _⟩) rfl rfl ?_; intro b11 wn N R; have HG11 := H_ (nA HB.out N); have HD1_11 := H_ (show b1 ≠ b11 by have := HR1.out.lt; have := N.at_; omega); have HR1 := H_ (HR1.out.later N.below); have HD3_11 := H_ (show b3 ≠ b11 by have := HR3.out.lt; have := N.at_; omega); have HR3 := H_ (HR3.out.later N.below); have HD5_11 := H_ (show b5 ≠ b11 by have := HR5.out.lt; have := N.at_; omega); have HR5 := H_ (HR5.out.later N.below); have HD6_11 := H_ (show b6 ≠ b11 by have := HR6.out.lt; have := N.at_; omega); have HR6 := H_ (HR6.out.later N.below); have HD8_11 := H_ (show b8 ≠ b11 by have := HR8.out.lt; have := N.at_; omega); have HR8 := H_ (HR8.out.later N.below); have HD9_11 := H_ (show b9 ≠ b11 by have := HR9.out.lt; have := N.at_; omega); have HR9 := H_ (HR9.out.later N.below); have HR11 := H_ R; have HB := H_ (below_on HB.out N.below); clear N R)
  | (guard_target = gS 11; refine step_store (op := ⟨none, .store _ (.tmp 11) _, _, _, _, _⟩) rfl _ _ rfl b11 rfl (zeroP) (upd (upd (upd zeroP 0 3) 83 (-1)) 87 1) rfl HR11.out ?_; intro wn U R; have HR1 := H_ (HR1.out.apart U HD1_11.out); have HR3 := H_ (HR3.out.apart U HD3_11.out); have HR5 := H_ (HR5.out.apart U HD5_11.out); have HR6 := H_ (HR6.out.apart U HD6_11.out); have HR8 := H_ (HR8.out.apart U HD8_11.out); have HR9 := H_ (HR9.out.apart U HD9_11.out); have HR11 := H_ R; have HB := H_ (HB.out.trans (U.below HG11.out)); clear U R)
  | (guard_target = gS 51; refine step_cell (op := ⟨none, .store _ (.tmp 51) _, _, _, _, _⟩) rfl 5 _ _ rfl b11 4 rfl .u8 5 rfl _ HR11.out (by decide) rfl size5 ?_; intro wn U R; have HR1 := H_ (HR1.out.apart U HD1_11.out); have HR3 := H_ (HR3.out.apart U HD3_11.out); have HR5 := H_ (HR5.out.apart U HD5_11.out); have HR6 := H_ (HR6.out.apart U HD6_11.out); have HR8 := H_ (HR8.out.apart U HD8_11.out); have HR9 := H_ (HR9.out.apart U HD9_11.out); have HR11 := H_ R; have HB := H_ (HB.out.trans (U.below HG11.out)); clear U R)
  | (guard_target = gS 53; refine step_cell (op := ⟨none, .store _ (.tmp 53) _, _, _, _, _⟩) rfl 5 _ _ rfl b11 52 rfl .u8 9 rfl _ HR11.out (by decide) rfl size5 ?_; intro wn U R; have HR1 := H_ (HR1.out.apart U HD1_11.out); have HR3 := H_ (HR3.out.apart U HD3_11.out); have HR5 := H_ (HR5.out.apart U HD5_11.out); have HR6 := H_ (HR6.out.apart U HD6_11.out); have HR8 := H_ (HR8.out.apart U HD8_11.out); have HR9 := H_ (HR9.out.apart U HD9_11.out); have HR11 := H_ R; have HB := H_ (HB.out.trans (U.below HG11.out)); clear U R)
  | (guard_target = gS 55; refine step_cell (op := ⟨none, .store _ (.tmp 55) _, _, _, _, _⟩) rfl 5 _ _ rfl b11 61 rfl .u8 14 rfl _ HR11.out (by decide) rfl size5 ?_; intro wn U R; have HR1 := H_ (HR1.out.apart U HD1_11.out); have HR3 := H_ (HR3.out.apart U HD3_11.out); have HR5 := H_ (HR5.out.apart U HD5_11.out); have HR6 := H_ (HR6.out.apart U HD6_11.out); have HR8 := H_ (HR8.out.apart U HD8_11.out); have HR9 := H_ (HR9.out.apart U HD9_11.out); have HR11 := H_ R; have HB := H_ (HB.out.trans (U.below HG11.out)); clear U R)
  | (guard_target = gS 57; refine step_cell (op := ⟨none, .store _ (.tmp 57) _, _, _, _, _⟩) rfl 5 _ _ rfl b11 59 rfl .u8 11 rfl _ HR11.out (by decide) rfl size5 ?_; intro wn U R; have HR1 := H_ (HR1.out.apart U HD1_11.out); have HR3 := H_ (HR3.out.apart U HD3_11.out); have HR5 := H_ (HR5.out.apart U HD5_11.out); have HR6 := H_ (HR6.out.apart U HD6_11.out); have HR8 := H_ (HR8.out.apart U HD8_11.out); have HR9 := H_ (HR9.out.apart U HD9_11.out); have HR11 := H_ R; have HB := H_ (HB.out.trans (U.below HG11.out)); clear U R)
  | (guard_target = gS 59; refine step_cell (op := ⟨none, .store _ (.tmp 59) _, _, _, _, _⟩) rfl 5 _ _ rfl b11 51 rfl .u8 9 rfl _ HR11.out (by decide) rfl size5 ?_; intro wn U R; have HR1 := H_ (HR1.out.apart U HD1_11.out); have HR3 := H_ (HR3.out.apart U HD3_11.out); have HR5 := H_ (HR5.out.apart U HD5_11.out); have HR6 := H_ (HR6.out.apart U HD6_11.out); have HR8 := H_ (HR8.out.apart U HD8_11.out); have HR9 := H_ (HR9.out.apart U HD9_11.out); have HR11 := H_ R; have HB := H_ (HB.out.trans (U.below HG11.out)); clear U R)
  | (guard_target = gL2 61 11; refine step_load (op := ⟨some 61, .load _ (.tmp 11), _, _, _, _⟩) rfl _ rfl b11 rfl (afV_) HR11.out ?_)
  | (guard_target = gD 62; refine step_build (op := ⟨some 62, .build _ _, _, _, _, _⟩) rfl 40 _ rfl (mvA afm4) (by kernel_rfl) ?_)
  | (go_at_call 13; guard_target = Go.Calls _ _ #[_, Go.Value.agg (mvA afm4)] _ _; refine (moveK rfl b4_ _ wfA4 fitA4 (HT.out.on HB.out)).mono ?_; rintro e w3 ⟨rfl, hb⟩; have HR1 := H_ (HR1.out.later hb); have HR3 := H_ (HR3.out.later hb); have HR5 := H_ (HR5.out.later hb); have HR6 := H_ (HR6.out.later hb); have HR8 := H_ (HR8.out.later hb); have HR9 := H_ (HR9.out.later hb); have HR11 := H_ (HR11.out.later hb); have HB := H_ (below_on HB.out hb); clear hb)
  | (guard_target = gA 12; refine step_alloc (op := ⟨some 12, _, _, _, _, _⟩) rfl rfl ?_; intro b12 wn N R; have HG12 := H_ (nA HB.out N); have HD1_12 := H_ (show b1 ≠ b12 by have := HR1.out.lt; have := N.at_; omega); have HR1 := H_ (HR1.out.later N.below); have HD3_12 := H_ (show b3 ≠ b12 by have := HR3.out.lt; have := N.at_; omega); have HR3 := H_ (HR3.out.later N.below); have HD5_12 := H_ (show b5 ≠ b12 by have := HR5.out.lt; have := N.at_; omega); have HR5 := H_ (HR5.out.later N.below); have HD6_12 := H_ (show b6 ≠ b12 by have := HR6.out.lt; have := N.at_; omega); have HR6 := H_ (HR6.out.later N.below); have HD8_12 := H_ (show b8 ≠ b12 by have := HR8.out.lt; have := N.at_; omega); have HR8 := H_ (HR8.out.later N.below); have HD9_12 := H_ (show b9 ≠ b12 by have := HR9.out.lt; have := N.at_; omega); have HR9 := H_ (HR9.out.later N.below); have HD11_12 := H_ (show b11 ≠ b12 by have := HR11.out.lt; have := N.at_; omega); have HR11 := H_ (HR11.out.later N.below); have HR12 := H_ R; have HB := H_ (below_on HB.out N.below); clear N R)
  | (guard_target = gS 12; refine step_store (op := ⟨none, .store _ (.tmp 12) _, _, _, _, _⟩) rfl _ _ rfl b12 rfl (zeroP) (movP afV_ afm4) rfl HR12.out ?_; intro wn U R; have HR1 := H_ (HR1.out.apart U HD1_12.out); have HR3 := H_ (HR3.out.apart U HD3_12.out); have HR5 := H_ (HR5.out.apart U HD5_12.out); have HR6 := H_ (HR6.out.apart U HD6_12.out); have HR8 := H_ (HR8.out.apart U HD8_12.out); have HR9 := H_ (HR9.out.apart U HD9_12.out); have HR11 := H_ (HR11.out.apart U HD11_12.out); have HR12 := H_ R; have HB := H_ (HB.out.trans (U.below HG12.out)); clear U R)
  | (guard_target = gL2 71 70; refine step_get (op := ⟨some 71, .load _ (.tmp 70), _, _, _, _⟩) rfl 5 _ rfl b3 29 rfl Tryz.underlying5 rfl (.int .u8 1) ((HR3.out.cell 29 (by decide)).trans (by rw [f1_29]; rfl)) ?_)
  | (guard_target = gL2 77 76; refine step_get (op := ⟨some 77, .load _ (.tmp 76), _, _, _, _⟩) rfl 5 _ rfl b3 13 rfl Tryz.underlying5 rfl (.int .u8 0) ((HR3.out.cell 13 (by decide)).trans (by rw [f1_13]; rfl)) ?_)
  | (guard_target = gL2 82 81; refine step_get (op := ⟨some 82, .load _ (.tmp 81), _, _, _, _⟩) rfl 5 _ rfl b3 78 rfl Tryz.underlying5 rfl (.int .u8 1) ((HR3.out.cell 78 (by decide)).trans (by rw [f1_78]; rfl)) ?_)
  | (guard_target = gL2 87 86; refine step_get (op := ⟨some 87, .load _ (.tmp 86), _, _, _, _⟩) rfl 26 _ rfl b3 83 rfl Tryz.underlying26 rfl (.int .i8 (-1)) ((HR3.out.cell 83 (by decide)).trans (by rw [f1_83]; rfl)) ?_)
  | (guard_target = gL2 92 91; refine step_get (op := ⟨some 92, .load _ (.tmp 91), _, _, _, _⟩) rfl 3 _ rfl b3 86 rfl Tryz.underlying3 rfl (.int .i64 0) ((HR3.out.cell 86 (by decide)).trans (by rw [f1_86]; rfl)) ?_)
  | (guard_target = gL2 97 96; refine step_get (op := ⟨some 97, .load _ (.tmp 96), _, _, _, _⟩) rfl 3 _ rfl b3 87 rfl Tryz.underlying3 rfl (.int .i64 1) ((HR3.out.cell 87 (by decide)).trans (by rw [f1_87]; rfl)) ?_)
  | (guard_target = gL2 102 101; refine step_get (op := ⟨some 102, .load _ (.tmp 101), _, _, _, _⟩) rfl 26 _ rfl b6 83 rfl Tryz.underlying26 rfl (.int .i8 43) ((HR6.out.cell 83 (by decide)).trans (by rw [f2_83]; rfl)) ?_)
  | (guard_target = gL2 107 106; refine step_get (op := ⟨some 107, .load _ (.tmp 106), _, _, _, _⟩) rfl 3 _ rfl b6 87 rfl Tryz.underlying3 rfl (.int .i64 2) ((HR6.out.cell 87 (by decide)).trans (by rw [f2_87]; rfl)) ?_)
  | (guard_target = gL2 112 111; refine step_get (op := ⟨some 112, .load _ (.tmp 111), _, _, _, _⟩) rfl 5 _ rfl b9 7 rfl Tryz.underlying5 rfl (.int .u8 6) ((HR9.out.cell 7 (by decide)).trans (by rw [f3_7]; rfl)) ?_)
  | (guard_target = gL2 117 116; refine step_get (op := ⟨some 117, .load _ (.tmp 116), _, _, _, _⟩) rfl 5 _ rfl b9 6 rfl Tryz.underlying5 rfl (.int .u8 4) ((HR9.out.cell 6 (by decide)).trans (by rw [f3_6]; rfl)) ?_)
  | (guard_target = gL2 123 122; refine step_get (op := ⟨some 123, .load _ (.tmp 122), _, _, _, _⟩) rfl 5 _ rfl b9 5 rfl Tryz.underlying5 rfl (.int .u8 0) ((HR9.out.cell 5 (by decide)).trans (by rw [f3_5]; rfl)) ?_)
  | (guard_target = gL2 129 128; refine step_get (op := ⟨some 129, .load _ (.tmp 128), _, _, _, _⟩) rfl 5 _ rfl b9 8 rfl Tryz.underlying5 rfl (.int .u8 0) ((HR9.out.cell 8 (by decide)).trans (by rw [f3_8]; rfl)) ?_)
  | (guard_target = gL2 135 134; refine step_read (op := ⟨some 135, .load _ (.tmp 134), _, _, _, _⟩) rfl 27 _ rfl b9 79 2 rfl (movP afT_ afm3) HR9.out (by decide) _ Tryz.underlying27 rfl sizePr ?_; rw [pairA])
  | (guard_target = Go.wpList _ _ _ ((⟨some 137, .binOp _ _ _ _ _, _, _, _, _⟩ : Go.Oper) :: _) _ _; refine step_eqlB (op := ⟨some 137, .binOp _ _ _ _ _, _, _, _, _⟩) rfl 27 _ _ rfl #[.int .i8 (-1), .int .i8 (-1)] rfl rfl (by kernel_rfl) 2 (by kernel_rfl) (by decide) (by kernel_rfl) (by kernel_rfl) ?_)
  | (guard_target = gL2 142 141; refine step_get (op := ⟨some 142, .load _ (.tmp 141), _, _, _, _⟩) rfl 5 _ rfl b12 52 rfl Tryz.underlying5 rfl (.int .u8 0) ((HR12.out.cell 52 (by decide)).trans (by rw [f4_52]; rfl)) ?_)
  | (guard_target = gL2 148 147; refine step_get (op := ⟨some 148, .load _ (.tmp 147), _, _, _, _⟩) rfl 5 _ rfl b12 4 rfl Tryz.underlying5 rfl (.int .u8 0) ((HR12.out.cell 4 (by decide)).trans (by rw [f4_4]; rfl)) ?_)
  | (guard_target = gL2 154 153; refine step_get (op := ⟨some 154, .load _ (.tmp 153), _, _, _, _⟩) rfl 5 _ rfl b12 61 rfl Tryz.underlying5 rfl (.int .u8 0) ((HR12.out.cell 61 (by decide)).trans (by rw [f4_61]; rfl)) ?_)
  | (guard_target = gL2 160 159; refine step_get (op := ⟨some 160, .load _ (.tmp 159), _, _, _, _⟩) rfl 5 _ rfl b12 59 rfl Tryz.underlying5 rfl (.int .u8 0) ((HR12.out.cell 59 (by decide)).trans (by rw [f4_59]; rfl)) ?_)
  | (guard_target = gL2 166 165; refine step_get (op := ⟨some 166, .load _ (.tmp 165), _, _, _, _⟩) rfl 5 _ rfl b12 51 rfl Tryz.underlying5 rfl (.int .u8 9) ((HR12.out.cell 51 (by decide)).trans (by rw [f4_51]; rfl)) ?_))
 go_ret
 exact ⟨rfl, HB.out⟩
end Go.Proofs.YtidgfadbdgheiaaGreatDoor
