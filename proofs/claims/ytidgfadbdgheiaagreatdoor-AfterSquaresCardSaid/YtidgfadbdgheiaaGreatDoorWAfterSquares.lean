/-
 The walk of AfterSquares.
-/
import Derived.Test.YtidgfadbdgheiaaGreatDoorAfGrG
import Derived.Deep.DeepCutAuto
import Derived.WalkKit
import Derived.OpenShut
namespace Go.Proofs.YtidgfadbdgheiaaGreatDoor.afterSquares
open Go.RowKit
set_option linter.unusedVariables false
set_option linter.unusedSimpArgs false
set_option maxRecDepth 100000 in
set_option maxHeartbeats 60000000 in
theorem walk (p : Nat → Int) (w0 : WfP p) (w : World) (hD : TabDb w) (hL : TabLead w) (hV : TabVar w) (hKn : TabKn w) (hG : TabGl w) : Calls Tryz.prog 5 #[.agg (posA p)] w fun e w' => e = .returned (.bool true) ∧ Below w.heap.size w w' := by
 have HT := Lib.hid (show CsT w from ⟨hD, hL, hV, hG⟩)
 have HK := Lib.hid hKn
 have HP := Lib.hid w0
 obtain ⟨b, hb⟩ : ∃ b, lawA p = b := ⟨_, rfl⟩
 have HLw := Lib.hid hb
 obtain ⟨L, hL0⟩ : ∃ L, afL p = L := ⟨_, rfl⟩
 have HL := Lib.hid hL0
 have HLn := Lib.hid (show L.length ≤ 1000000 by rw [← hL0]; exact af_len p)
 have HMem := Lib.hid (show ∀ m, m ∈ L → m ∈ afL p by rw [hL0]; exact fun m h => h)
 clear hD hL hV hKn hG w0 hb hL0
 have HB := Lib.hid (Below.refl w.heap.size w)
 cases b
 ·go_enter Tryz.func5, Tryz.ntmps5
  go_wp2_with (first
   | (guard_target = Go.wpList _ _ _ ((⟨some 1, .box _ _, _, _, _, _⟩ : Go.Oper) :: _) _ _; refine step_box rfl _ rfl p rfl ?_; intro b1 w1 N R; have HG1 := Lib.hid (show w.heap.size ≤ b1 by have := HB.out.size; have := N.at_; omega); have HB := Lib.hid (below_on HB.out N.below); have HR1 := Lib.hid R; clear N R)
   | (guard_target = Go.wpList _ _ _ ((⟨some _, .load _ (.tmp 1), _, _, _, _⟩ : Go.Oper) :: _) _ _; refine step_load rfl _ rfl b1 rfl p HR1.out ?_)
   | (go_at_call 12; refine (lawK HLw.out _ (PsR.of HP.out)).mono ?_; rintro e w3 ⟨rfl, hb⟩; have HR1 := Lib.hid (HR1.out.later hb); have HB := Lib.hid (below_on HB.out hb); clear hb)
   | (go_at_call 9; refine (af_awake _ (HT.out.on HB.out) (HK.out.on HB.out)).mono ?_; rintro e w3 ⟨rfl, hb⟩; have HB := Lib.hid (below_on HB.out hb); clear hb))
  go_ret
  exact ⟨rfl, HB.out⟩
 ·go_enter Tryz.func5, Tryz.ntmps5
  go_wp2_with (first
   | (guard_target = Go.wpList _ _ _ ((⟨some 1, .box _ _, _, _, _, _⟩ : Go.Oper) :: _) _ _; refine step_box rfl _ rfl p rfl ?_; intro b1 w1 N R; have HG1 := Lib.hid (show w.heap.size ≤ b1 by have := HB.out.size; have := N.at_; omega); have HB := Lib.hid (below_on HB.out N.below); have HR1 := Lib.hid R; clear N R)
   | (guard_target = Go.wpList _ _ _ ((⟨some _, .load _ (.tmp 1), _, _, _, _⟩ : Go.Oper) :: _) _ _; refine step_load rfl _ rfl b1 rfl p HR1.out ?_)
   | (go_at_call 12; refine (lawK HLw.out _ (PsR.of HP.out)).mono ?_; rintro e w3 ⟨rfl, hb⟩; have HR1 := Lib.hid (HR1.out.later hb); have HB := Lib.hid (below_on HB.out hb); clear hb)
   | (go_at_call 7; refine (all_after p _ HP.out (HT.out.on HB.out)).mono ?_; rintro e w3 ⟨v, rfl, hv, hb⟩; rw [HL.out] at hv; obtain ⟨a3, c3, rfl, hE⟩ := mvs_of hv; have HE := Lib.hid hE; have HR1 := Lib.hid (HR1.out.later hb); have HB := Lib.hid (below_on HB.out hb); clear hb hv hE))
  go_loopw [4] (fun i wr => ∃ k : Nat, k ≤ L.length ∧ i = .int .i64 (k : Int) ∧ Mvs L a3 wr ∧ Row wr b1 p ∧ Below w.heap.size w wr) (fun i _ => L.length - (intOf i).toNat)
  case atStart => exact ⟨0, by omega, rfl, HE.out, HR1.out, HB.out⟩
  case round =>
   clear HE HR1 HB
   obtain ⟨k, hk, rfl, he, hr1, hb⟩ := hrel
   have HE := Lib.hid he
   have HR1 := Lib.hid hr1
   have HB := Lib.hid hb
   clear he hr1 hb
   by_cases hlt : k < L.length
   ·obtain ⟨m, hm⟩ : ∃ m, L[k]? = some m := ⟨_, List.getElem?_eq_getElem hlt⟩
    obtain ⟨g, rfl, _⟩ := HE.out.at hm
    have HX := Lib.hid hm
    have hmem := HMem.out m (List.mem_of_getElem? hm)
    have HFit := Lib.hid (af_fit HP.out hmem)
    have hmb := af_mov HP.out hmem
    have HMb := Lib.hid hmb
    have hch := chR_of HP.out hmb
    have HCh := Lib.hid hch
    have hw1 : (k : Int) < 1000000 := by have := HLn.out; omega
    have hK64 := hch.k
    obtain ⟨f, hf⟩ := Int.eq_ofNat_of_zero_le hch.f.1
    obtain ⟨t, ht⟩ := Int.eq_ofNat_of_zero_le hch.t.1
    have hf : m.f = (f : Int) := hf
    have ht : m.t = (t : Int) := ht
    have hf64 : (f : Int) < 64 := by rw [← hf]; exact hch.f.2
    have ht64 : (t : Int) < 64 := by rw [← ht]; exact hch.t.2
    have HMf := Lib.hid hf
    have HMt := Lib.hid ht
    obtain ⟨v, hv⟩ := Int.eq_ofNat_of_zero_le (HP.out.dr.var.1)
    have HPv := Lib.hid hv
    obtain ⟨q, hq⟩ : ∃ q, movP p m = q := ⟨_, rfl⟩
    have HQ := Lib.hid hq
    obtain ⟨kt, hkt⟩ : ∃ kt, takZ p m = kt := ⟨_, rfl⟩
    have HKt := Lib.hid hkt
    have hkr : -1 ≤ kt ∧ kt < 64 := by rw [← hkt]; exact hK64
    obtain ⟨K, hgK⟩ : ∃ K, gKA p m = K := ⟨_, rfl⟩
    obtain ⟨R, hgR⟩ : ∃ R, gRA p m = R := ⟨_, rfl⟩
    obtain ⟨ok, hgO⟩ : ∃ ok, m.ca = ok := ⟨_, rfl⟩
    have HgK := Lib.hid hgK
    have HgR := Lib.hid hgR
    have HgO := Lib.hid hgO
    clear hm hmem hmb hch hK64 hf ht hv hq hkt hgK hgR hgO
    go_wp2_with (first
     | (guard_target = Go.wpList _ _ _ ((⟨some 30, .load _ _, _, _, _, _⟩ : Go.Oper) :: _) _ _; refine step_mvI (op := ⟨some 30, .load _ _, _, _, _, _⟩) rfl _ rfl g k _ rfl (by first | omega | (simp; omega)) m (HE.out.get HX.out) ?_)
     | (guard_target = Go.wpList _ _ _ ((⟨some 5, .alloc _, _, _, _, _⟩ : Go.Oper) :: _) _ _; refine blk_alloc (op := ⟨some 5, .alloc _, _, _, _, _⟩) rfl 40 rfl (mvA mv0) zeroMv ?_; intro b5 wn N R; have HG5 := Lib.hid (show w.heap.size ≤ b5 by have := HB.out.size; have := N.at_; omega); have HD15 := Lib.hid (show b1 ≠ b5 by have := HR1.out.lt; have := N.at_; omega); have HDg5 := Lib.hid (show g ≠ b5 by have := HE.out.lt HX.out; have := N.at_; omega); have HR1 := Lib.hid (HR1.out.later N.below); have HE := Lib.hid (HE.out.later N.below); have HB := Lib.hid (below_on HB.out N.below); have HR5 := Lib.hid R; clear N R)
     | (guard_target = Go.wpList _ _ _ ((⟨none, .store _ (.tmp 5) _, _, _, _, _⟩ : Go.Oper) :: _) _ _; refine blk_store (op := ⟨none, .store _ (.tmp 5) _, _, _, _, _⟩) rfl 40 _ _ rfl b5 rfl (mvA mv0) (mvA m) rfl HR5.out rfl (mv_one _) sizeMv ?_; intro wn U R; have HR1 := Lib.hid (HR1.out.apart U HD15.out); have HE := Lib.hid (HE.out.upd U HDg5.out); have HR5 := Lib.hid R; have HB := Lib.hid (HB.out.trans (U.below HG5.out)); clear U R)
     | (guard_target = Go.wpList _ _ _ ((⟨some _, .load _ (.tmp 1), _, _, _, _⟩ : Go.Oper) :: _) _ _; refine step_load rfl _ rfl b1 rfl p HR1.out ?_)
     | (guard_target = Go.wpList _ _ _ ((⟨some _, .load _ (.tmp 5), _, _, _, _⟩ : Go.Oper) :: _) _ _; refine blk_load rfl 40 _ rfl b5 rfl (mvA m) HR5.out _ Tryz.underlying40 rfl sizeMv ?_)
     | (go_at_call 13; refine (moveK HQ.out HMb.out _ HP.out HFit.out (HT.out.on HB.out)).mono ?_; rintro e w3 ⟨rfl, hb⟩; have HR1 := Lib.hid (HR1.out.later hb); have HE := Lib.hid (HE.out.later hb); have HR5 := Lib.hid (HR5.out.later hb); have HB := Lib.hid (below_on HB.out hb); clear hb)
     | (guard_target = Go.wpList _ _ _ ((⟨some 6, .alloc _, _, _, _, _⟩ : Go.Oper) :: _) _ _; refine step_alloc (op := ⟨some 6, _, _, _, _, _⟩) rfl rfl ?_; intro b6 wn N R; have HG6 := Lib.hid (show w.heap.size ≤ b6 by have := HB.out.size; have := N.at_; omega); have HD16 := Lib.hid (show b1 ≠ b6 by have := HR1.out.lt; have := N.at_; omega); have HD56 := Lib.hid (show b5 ≠ b6 by have := Blk.lt HR5.out; have := N.at_; omega); have HDg6 := Lib.hid (show g ≠ b6 by have := HE.out.lt HX.out; have := N.at_; omega); have HR1 := Lib.hid (HR1.out.later N.below); have HE := Lib.hid (HE.out.later N.below); have HR5 := Lib.hid (HR5.out.later N.below); have HB := Lib.hid (below_on HB.out N.below); have HR6 := Lib.hid R; clear N R)
     | (guard_target = Go.wpList _ _ _ ((⟨none, .store _ (.tmp 6) _, _, _, _, _⟩ : Go.Oper) :: _) _ _; refine step_store (op := ⟨none, .store _ (.tmp 6) _, _, _, _, _⟩) rfl _ _ rfl b6 rfl zeroP q rfl HR6.out ?_; intro wn U R; have HR1 := Lib.hid (HR1.out.apart U HD16.out); have HE := Lib.hid (HE.out.upd U HDg6.out); have HR5 := Lib.hid (HR5.out.apart U HD56.out); have HR6 := Lib.hid R; have HB := Lib.hid (HB.out.trans (U.below HG6.out)); clear U R)
     | (go_at_call 14; refine (takenK HKt.out _ (PsR.of HP.out) HFit.out (HT.out.on HB.out).ps).mono ?_; rintro e w3 ⟨rfl, hb⟩; have HR1 := Lib.hid (HR1.out.later hb); have HE := Lib.hid (HE.out.later hb); have HR5 := Lib.hid (HR5.out.later hb); have HR6 := Lib.hid (HR6.out.later hb); have HB := Lib.hid (below_on HB.out hb); clear hb)
     | (go_at_call 15; refine (goalsA HgK.out HgR.out HgO.out _ HFit.out HCh.out (HT.out.on HB.out).gl).mono ?_; rintro e w3 ⟨rfl, hb⟩; have HR1 := Lib.hid (HR1.out.later hb); have HE := Lib.hid (HE.out.later hb); have HR5 := Lib.hid (HR5.out.later hb); have HR6 := Lib.hid (HR6.out.later hb); have HB := Lib.hid (below_on HB.out hb); clear hb))
    go_loopw [12] (fun s wr => ∃ j : Nat, j ≤ 64 ∧ s = .int .i64 (j : Int) ∧ Mvs L (some ⟨g, 0, none⟩) wr ∧ Row wr b1 p ∧ Blk wr b5 40 (mvA m) ∧ Row wr b6 q ∧ Below w.heap.size w wr) (fun s _ => 64 - (intOf s).toNat)
    case atStart => exact ⟨0, by omega, rfl, HE.out, HR1.out, HR5.out, HR6.out, HB.out⟩
    case round =>
     clear HE HR1 HR5 HR6 HB
     obtain ⟨j, hj, rfl, he, hr1, hr5, hr6, hb⟩ := hrel
     have HE := Lib.hid he
     have HR1 := Lib.hid hr1
     have HR5 := Lib.hid hr5
     have HR6 := Lib.hid hr6
     have HB := Lib.hid hb
     clear he hr1 hr5 hr6 hb
     by_cases hj64 : j < 64
     ·have hji : (j : Int) < 64 := by omega
      have HI := Lib.hid (show 1 + j < 88 by omega)
      obtain ⟨x, hx⟩ := Int.eq_ofNat_of_zero_le (HP.out.dr.bd j hj64).1
      have HPx := Lib.hid (show some (Value.int (kAt (1 + j)) (p (1 + j))) = some (.int .u8 (x : Int)) by rw [hx, kAt_board (Nat.zero_le _) hj64])
      have HSame := Lib.hid (fun hn => nam_same HP.out HMb.out HPv.out hx HMf.out HMt.out hj64 HKt.out HgK.out HgR.out HgO.out hn)
      clear hx
      go_upto_region 14 with fail
      go_cut [13] (fun s13 wx => s13 = .bool (nearB j t) ∧ wx = wr)
      case first =>
       by_cases e0 : j = t
       ·have e0i : ((j : Int) != (t : Int)) = false := by rw [e0]; simp
        have HN := Lib.hid (show nearB j t = false by unfold nearB; rw [e0]; simp)
        clear e0
        go_wp2_with (first
         | (guard_target = Go.wpList _ _ _ ((⟨some 53, .load _ _, _, _, _, _⟩ : Go.Oper) :: _) _ _; refine step_get (op := ⟨some 53, .load _ _, _, _, _, _⟩) rfl 26 _ rfl b5 1 rfl Tryz.underlying26 rfl (.int .i8 (t : Int)) ((Blk.cell HR5.out 1).trans (by rw [show (mvA m)[1]? = some (.int .i8 m.t) from rfl, HMt.out])) ?_))
        go_meet
        case rel => exact ⟨by rw [HN.out], rfl⟩
       ·have e0i : ((j : Int) != (t : Int)) = true := bne_iff_ne.2 (by omega)
        by_cases e1 : (j : Int) % 8 - (t : Int) % 8 ≤ 1
        ·by_cases e2 : (t : Int) % 8 - (j : Int) % 8 ≤ 1
         ·by_cases e3 : (j : Int) / 8 - (t : Int) / 8 ≤ 1
          ·by_cases e4 : (t : Int) / 8 - (j : Int) / 8 ≤ 1
           ·have HN := Lib.hid (near_yes e0 e1 e2 e3 e4)
            have c1 : decide ((j : Int) % 8 - (t : Int) % 8 ≤ 1) = true := decide_eq_true e1; have c2 : decide ((t : Int) % 8 - (j : Int) % 8 ≤ 1) = true := decide_eq_true e2; have c3 : decide ((j : Int) / 8 - (t : Int) / 8 ≤ 1) = true := decide_eq_true e3; have c4 : decide ((t : Int) / 8 - (j : Int) / 8 ≤ 1) = true := decide_eq_true e4; clear e0 e1 e2 e3 e4
            go_wp2_with (first
             | (guard_target = Go.wpList _ _ _ ((⟨some 53, .load _ _, _, _, _, _⟩ : Go.Oper) :: _) _ _; refine step_get (op := ⟨some 53, .load _ _, _, _, _, _⟩) rfl 26 _ rfl b5 1 rfl Tryz.underlying26 rfl (.int .i8 (t : Int)) ((Blk.cell HR5.out 1).trans (by rw [show (mvA m)[1]? = some (.int .i8 m.t) from rfl, HMt.out])) ?_)
             | (guard_target = Go.wpList _ _ _ ((⟨some 60, .load _ _, _, _, _, _⟩ : Go.Oper) :: _) _ _; refine step_get (op := ⟨some 60, .load _ _, _, _, _, _⟩) rfl 26 _ rfl b5 1 rfl Tryz.underlying26 rfl (.int .i8 (t : Int)) ((Blk.cell HR5.out 1).trans (by rw [show (mvA m)[1]? = some (.int .i8 m.t) from rfl, HMt.out])) ?_)
             | (guard_target = Go.wpList _ _ _ ((⟨some 68, .load _ _, _, _, _, _⟩ : Go.Oper) :: _) _ _; refine step_get (op := ⟨some 68, .load _ _, _, _, _, _⟩) rfl 26 _ rfl b5 1 rfl Tryz.underlying26 rfl (.int .i8 (t : Int)) ((Blk.cell HR5.out 1).trans (by rw [show (mvA m)[1]? = some (.int .i8 m.t) from rfl, HMt.out])) ?_)
             | (guard_target = Go.wpList _ _ _ ((⟨some 80, .load _ _, _, _, _, _⟩ : Go.Oper) :: _) _ _; refine step_get (op := ⟨some 80, .load _ _, _, _, _, _⟩) rfl 26 _ rfl b5 1 rfl Tryz.underlying26 rfl (.int .i8 (t : Int)) ((Blk.cell HR5.out 1).trans (by rw [show (mvA m)[1]? = some (.int .i8 m.t) from rfl, HMt.out])) ?_)
             | (guard_target = Go.wpList _ _ _ ((⟨some 88, .load _ _, _, _, _, _⟩ : Go.Oper) :: _) _ _; refine step_get (op := ⟨some 88, .load _ _, _, _, _, _⟩) rfl 26 _ rfl b5 1 rfl Tryz.underlying26 rfl (.int .i8 (t : Int)) ((Blk.cell HR5.out 1).trans (by rw [show (mvA m)[1]? = some (.int .i8 m.t) from rfl, HMt.out])) ?_))
            go_meet
            case rel => exact ⟨by rw [HN.out], rfl⟩
           ·have HN := Lib.hid (near_no4 (j := j) (t := t) e4)
            have c1 : decide ((j : Int) % 8 - (t : Int) % 8 ≤ 1) = true := decide_eq_true e1; have c2 : decide ((t : Int) % 8 - (j : Int) % 8 ≤ 1) = true := decide_eq_true e2; have c3 : decide ((j : Int) / 8 - (t : Int) / 8 ≤ 1) = true := decide_eq_true e3; have c4 : decide ((t : Int) / 8 - (j : Int) / 8 ≤ 1) = false := decide_eq_false e4; clear e0 e1 e2 e3 e4
            go_wp2_with (first
             | (guard_target = Go.wpList _ _ _ ((⟨some 53, .load _ _, _, _, _, _⟩ : Go.Oper) :: _) _ _; refine step_get (op := ⟨some 53, .load _ _, _, _, _, _⟩) rfl 26 _ rfl b5 1 rfl Tryz.underlying26 rfl (.int .i8 (t : Int)) ((Blk.cell HR5.out 1).trans (by rw [show (mvA m)[1]? = some (.int .i8 m.t) from rfl, HMt.out])) ?_)
             | (guard_target = Go.wpList _ _ _ ((⟨some 60, .load _ _, _, _, _, _⟩ : Go.Oper) :: _) _ _; refine step_get (op := ⟨some 60, .load _ _, _, _, _, _⟩) rfl 26 _ rfl b5 1 rfl Tryz.underlying26 rfl (.int .i8 (t : Int)) ((Blk.cell HR5.out 1).trans (by rw [show (mvA m)[1]? = some (.int .i8 m.t) from rfl, HMt.out])) ?_)
             | (guard_target = Go.wpList _ _ _ ((⟨some 68, .load _ _, _, _, _, _⟩ : Go.Oper) :: _) _ _; refine step_get (op := ⟨some 68, .load _ _, _, _, _, _⟩) rfl 26 _ rfl b5 1 rfl Tryz.underlying26 rfl (.int .i8 (t : Int)) ((Blk.cell HR5.out 1).trans (by rw [show (mvA m)[1]? = some (.int .i8 m.t) from rfl, HMt.out])) ?_)
             | (guard_target = Go.wpList _ _ _ ((⟨some 80, .load _ _, _, _, _, _⟩ : Go.Oper) :: _) _ _; refine step_get (op := ⟨some 80, .load _ _, _, _, _, _⟩) rfl 26 _ rfl b5 1 rfl Tryz.underlying26 rfl (.int .i8 (t : Int)) ((Blk.cell HR5.out 1).trans (by rw [show (mvA m)[1]? = some (.int .i8 m.t) from rfl, HMt.out])) ?_)
             | (guard_target = Go.wpList _ _ _ ((⟨some 88, .load _ _, _, _, _, _⟩ : Go.Oper) :: _) _ _; refine step_get (op := ⟨some 88, .load _ _, _, _, _, _⟩) rfl 26 _ rfl b5 1 rfl Tryz.underlying26 rfl (.int .i8 (t : Int)) ((Blk.cell HR5.out 1).trans (by rw [show (mvA m)[1]? = some (.int .i8 m.t) from rfl, HMt.out])) ?_))
            go_meet
            case rel => exact ⟨by rw [HN.out], rfl⟩
          ·have HN := Lib.hid (near_no3 (j := j) (t := t) e3)
           have c1 : decide ((j : Int) % 8 - (t : Int) % 8 ≤ 1) = true := decide_eq_true e1; have c2 : decide ((t : Int) % 8 - (j : Int) % 8 ≤ 1) = true := decide_eq_true e2; have c3 : decide ((j : Int) / 8 - (t : Int) / 8 ≤ 1) = false := decide_eq_false e3; clear e0 e1 e2 e3
           go_wp2_with (first
            | (guard_target = Go.wpList _ _ _ ((⟨some 53, .load _ _, _, _, _, _⟩ : Go.Oper) :: _) _ _; refine step_get (op := ⟨some 53, .load _ _, _, _, _, _⟩) rfl 26 _ rfl b5 1 rfl Tryz.underlying26 rfl (.int .i8 (t : Int)) ((Blk.cell HR5.out 1).trans (by rw [show (mvA m)[1]? = some (.int .i8 m.t) from rfl, HMt.out])) ?_)
            | (guard_target = Go.wpList _ _ _ ((⟨some 60, .load _ _, _, _, _, _⟩ : Go.Oper) :: _) _ _; refine step_get (op := ⟨some 60, .load _ _, _, _, _, _⟩) rfl 26 _ rfl b5 1 rfl Tryz.underlying26 rfl (.int .i8 (t : Int)) ((Blk.cell HR5.out 1).trans (by rw [show (mvA m)[1]? = some (.int .i8 m.t) from rfl, HMt.out])) ?_)
            | (guard_target = Go.wpList _ _ _ ((⟨some 68, .load _ _, _, _, _, _⟩ : Go.Oper) :: _) _ _; refine step_get (op := ⟨some 68, .load _ _, _, _, _, _⟩) rfl 26 _ rfl b5 1 rfl Tryz.underlying26 rfl (.int .i8 (t : Int)) ((Blk.cell HR5.out 1).trans (by rw [show (mvA m)[1]? = some (.int .i8 m.t) from rfl, HMt.out])) ?_)
            | (guard_target = Go.wpList _ _ _ ((⟨some 80, .load _ _, _, _, _, _⟩ : Go.Oper) :: _) _ _; refine step_get (op := ⟨some 80, .load _ _, _, _, _, _⟩) rfl 26 _ rfl b5 1 rfl Tryz.underlying26 rfl (.int .i8 (t : Int)) ((Blk.cell HR5.out 1).trans (by rw [show (mvA m)[1]? = some (.int .i8 m.t) from rfl, HMt.out])) ?_))
           go_meet
           case rel => exact ⟨by rw [HN.out], rfl⟩
         ·have HN := Lib.hid (near_no2 (j := j) (t := t) e2)
          have c1 : decide ((j : Int) % 8 - (t : Int) % 8 ≤ 1) = true := decide_eq_true e1; have c2 : decide ((t : Int) % 8 - (j : Int) % 8 ≤ 1) = false := decide_eq_false e2; clear e0 e1 e2
          go_wp2_with (first
           | (guard_target = Go.wpList _ _ _ ((⟨some 53, .load _ _, _, _, _, _⟩ : Go.Oper) :: _) _ _; refine step_get (op := ⟨some 53, .load _ _, _, _, _, _⟩) rfl 26 _ rfl b5 1 rfl Tryz.underlying26 rfl (.int .i8 (t : Int)) ((Blk.cell HR5.out 1).trans (by rw [show (mvA m)[1]? = some (.int .i8 m.t) from rfl, HMt.out])) ?_)
           | (guard_target = Go.wpList _ _ _ ((⟨some 60, .load _ _, _, _, _, _⟩ : Go.Oper) :: _) _ _; refine step_get (op := ⟨some 60, .load _ _, _, _, _, _⟩) rfl 26 _ rfl b5 1 rfl Tryz.underlying26 rfl (.int .i8 (t : Int)) ((Blk.cell HR5.out 1).trans (by rw [show (mvA m)[1]? = some (.int .i8 m.t) from rfl, HMt.out])) ?_)
           | (guard_target = Go.wpList _ _ _ ((⟨some 68, .load _ _, _, _, _, _⟩ : Go.Oper) :: _) _ _; refine step_get (op := ⟨some 68, .load _ _, _, _, _, _⟩) rfl 26 _ rfl b5 1 rfl Tryz.underlying26 rfl (.int .i8 (t : Int)) ((Blk.cell HR5.out 1).trans (by rw [show (mvA m)[1]? = some (.int .i8 m.t) from rfl, HMt.out])) ?_))
          go_meet
          case rel => exact ⟨by rw [HN.out], rfl⟩
        ·have HN := Lib.hid (near_no1 (j := j) (t := t) e1)
         have c1 : decide ((j : Int) % 8 - (t : Int) % 8 ≤ 1) = false := decide_eq_false e1; clear e0 e1
         go_wp2_with (first
          | (guard_target = Go.wpList _ _ _ ((⟨some 53, .load _ _, _, _, _, _⟩ : Go.Oper) :: _) _ _; refine step_get (op := ⟨some 53, .load _ _, _, _, _, _⟩) rfl 26 _ rfl b5 1 rfl Tryz.underlying26 rfl (.int .i8 (t : Int)) ((Blk.cell HR5.out 1).trans (by rw [show (mvA m)[1]? = some (.int .i8 m.t) from rfl, HMt.out])) ?_)
          | (guard_target = Go.wpList _ _ _ ((⟨some 60, .load _ _, _, _, _, _⟩ : Go.Oper) :: _) _ _; refine step_get (op := ⟨some 60, .load _ _, _, _, _, _⟩) rfl 26 _ rfl b5 1 rfl Tryz.underlying26 rfl (.int .i8 (t : Int)) ((Blk.cell HR5.out 1).trans (by rw [show (mvA m)[1]? = some (.int .i8 m.t) from rfl, HMt.out])) ?_))
         go_meet
         case rel => exact ⟨by rw [HN.out], rfl⟩
      case rest =>
       obtain ⟨rfl, rfl⟩ := hcut
       obtain ⟨nb, hnb⟩ : ∃ nb, nearB j t = nb := ⟨_, rfl⟩
       have HNb := Lib.hid hnb
       rw [hnb]
       clear hnb
       go_upto_region 15 with fail
       go_cut [14] (fun s14 wx => s14 = .bool (namB v x f t j kt K R ok) ∧ wx = wc)
       case first =>
        by_cases h1 : j = f
        ·have HM := Lib.hid (show namB v x f t j kt K R ok = true by simp [namB, h1])
         have c1 : ((j : Int) == (f : Int)) = true := beq_iff_eq.2 (by omega)
         clear h1
         go_wp2_with (first
          | (guard_target = Go.wpList _ _ _ ((⟨some 98, .load _ _, _, _, _, _⟩ : Go.Oper) :: _) _ _; refine step_get (op := ⟨some 98, .load _ _, _, _, _, _⟩) rfl 26 _ rfl b5 0 rfl Tryz.underlying26 rfl (.int .i8 (f : Int)) ((Blk.cell HR5.out 0).trans (by rw [show (mvA m)[0]? = some (.int .i8 m.f) from rfl, HMf.out])) ?_))
         go_meet
         case rel => exact ⟨by rw [HM.out], rfl⟩
        ·by_cases h2 : j = t
         ·have HM := Lib.hid (show namB v x f t j kt K R ok = true by simp [namB, h1, h2])
          have c1 : ((j : Int) == (f : Int)) = false := beq_eq_false_iff_ne.2 (by omega)
          have c2 : ((j : Int) == (t : Int)) = true := beq_iff_eq.2 (by omega)
          clear h1 h2
          go_wp2_with (first
           | (guard_target = Go.wpList _ _ _ ((⟨some 98, .load _ _, _, _, _, _⟩ : Go.Oper) :: _) _ _; refine step_get (op := ⟨some 98, .load _ _, _, _, _, _⟩) rfl 26 _ rfl b5 0 rfl Tryz.underlying26 rfl (.int .i8 (f : Int)) ((Blk.cell HR5.out 0).trans (by rw [show (mvA m)[0]? = some (.int .i8 m.f) from rfl, HMf.out])) ?_)
           | (guard_target = Go.wpList _ _ _ ((⟨some 104, .load _ _, _, _, _, _⟩ : Go.Oper) :: _) _ _; refine step_get (op := ⟨some 104, .load _ _, _, _, _, _⟩) rfl 26 _ rfl b5 1 rfl Tryz.underlying26 rfl (.int .i8 (t : Int)) ((Blk.cell HR5.out 1).trans (by rw [show (mvA m)[1]? = some (.int .i8 m.t) from rfl, HMt.out])) ?_))
          go_meet
          case rel => exact ⟨by rw [HM.out], rfl⟩
         ·by_cases h3 : (j : Int) = kt
          ·have HM := Lib.hid (show namB v x f t j kt K R ok = true by simp [namB, h1, h2, h3])
           have c1 : ((j : Int) == (f : Int)) = false := beq_eq_false_iff_ne.2 (by omega)
           have c2 : ((j : Int) == (t : Int)) = false := beq_eq_false_iff_ne.2 (by omega)
           have c3 : ((j : Int) == kt) = true := beq_iff_eq.2 (by omega)
           clear h1 h2 h3
           go_wp2_with (first
            | (guard_target = Go.wpList _ _ _ ((⟨some 98, .load _ _, _, _, _, _⟩ : Go.Oper) :: _) _ _; refine step_get (op := ⟨some 98, .load _ _, _, _, _, _⟩) rfl 26 _ rfl b5 0 rfl Tryz.underlying26 rfl (.int .i8 (f : Int)) ((Blk.cell HR5.out 0).trans (by rw [show (mvA m)[0]? = some (.int .i8 m.f) from rfl, HMf.out])) ?_)
            | (guard_target = Go.wpList _ _ _ ((⟨some 104, .load _ _, _, _, _, _⟩ : Go.Oper) :: _) _ _; refine step_get (op := ⟨some 104, .load _ _, _, _, _, _⟩) rfl 26 _ rfl b5 1 rfl Tryz.underlying26 rfl (.int .i8 (t : Int)) ((Blk.cell HR5.out 1).trans (by rw [show (mvA m)[1]? = some (.int .i8 m.t) from rfl, HMt.out])) ?_))
           go_meet
           case rel => exact ⟨by rw [HM.out], rfl⟩
          ·cases ok
           ·by_cases h6 : v = 3
            ·by_cases h7 : 0 ≤ kt
             ·cases nb
              ·have HM := Lib.hid (show namB v x f t j kt K R false = false by simp [namB, h1, h2, h3, h6, h7, HNb.out])
               have c1 : ((j : Int) == (f : Int)) = false := beq_eq_false_iff_ne.2 (by omega)
               have c2 : ((j : Int) == (t : Int)) = false := beq_eq_false_iff_ne.2 (by omega)
               have c3 : ((j : Int) == kt) = false := beq_eq_false_iff_ne.2 (by omega)
               have c6 : ((v : Int) == 3) = true := beq_iff_eq.2 (by omega)
               have c7 : decide (0 ≤ kt) = true := decide_eq_true h7
               clear h1 h2 h3 h6 h7
               go_wp2_with (first
                | (guard_target = Go.wpList _ _ _ ((⟨some 98, .load _ _, _, _, _, _⟩ : Go.Oper) :: _) _ _; refine step_get (op := ⟨some 98, .load _ _, _, _, _, _⟩) rfl 26 _ rfl b5 0 rfl Tryz.underlying26 rfl (.int .i8 (f : Int)) ((Blk.cell HR5.out 0).trans (by rw [show (mvA m)[0]? = some (.int .i8 m.f) from rfl, HMf.out])) ?_)
                | (guard_target = Go.wpList _ _ _ ((⟨some 104, .load _ _, _, _, _, _⟩ : Go.Oper) :: _) _ _; refine step_get (op := ⟨some 104, .load _ _, _, _, _, _⟩) rfl 26 _ rfl b5 1 rfl Tryz.underlying26 rfl (.int .i8 (t : Int)) ((Blk.cell HR5.out 1).trans (by rw [show (mvA m)[1]? = some (.int .i8 m.t) from rfl, HMt.out])) ?_)
                | (guard_target = Go.wpList _ _ _ ((⟨some 128, .load _ _, _, _, _, _⟩ : Go.Oper) :: _) _ _; refine step_get (op := ⟨some 128, .load _ _, _, _, _, _⟩) rfl 5 _ rfl b1 0 rfl Tryz.underlying5 rfl (.int .u8 (v : Int)) ((HR1.out.cell 0 (by decide)).trans (by rw [HPv.out]; rfl)) ?_))
               go_meet
               case rel => exact ⟨by rw [HM.out], rfl⟩
              ·by_cases h8 : x % 8 = 1
               ·have HM := Lib.hid (show namB v x f t j kt K R false = false by simp [namB, h1, h2, h3, h6, h7, h8, HNb.out])
                have c1 : ((j : Int) == (f : Int)) = false := beq_eq_false_iff_ne.2 (by omega)
                have c2 : ((j : Int) == (t : Int)) = false := beq_eq_false_iff_ne.2 (by omega)
                have c3 : ((j : Int) == kt) = false := beq_eq_false_iff_ne.2 (by omega)
                have c6 : ((v : Int) == 3) = true := beq_iff_eq.2 (by omega)
                have c7 : decide (0 ≤ kt) = true := decide_eq_true h7
                have c8 : ((x : Int) % 8 != 1) = false := by rw [show (x : Int) % 8 = 1 by omega]; rfl
                clear h1 h2 h3 h6 h7 h8
                go_wp2_with (first
                 | (guard_target = Go.wpList _ _ _ ((⟨some 98, .load _ _, _, _, _, _⟩ : Go.Oper) :: _) _ _; refine step_get (op := ⟨some 98, .load _ _, _, _, _, _⟩) rfl 26 _ rfl b5 0 rfl Tryz.underlying26 rfl (.int .i8 (f : Int)) ((Blk.cell HR5.out 0).trans (by rw [show (mvA m)[0]? = some (.int .i8 m.f) from rfl, HMf.out])) ?_)
                 | (guard_target = Go.wpList _ _ _ ((⟨some 104, .load _ _, _, _, _, _⟩ : Go.Oper) :: _) _ _; refine step_get (op := ⟨some 104, .load _ _, _, _, _, _⟩) rfl 26 _ rfl b5 1 rfl Tryz.underlying26 rfl (.int .i8 (t : Int)) ((Blk.cell HR5.out 1).trans (by rw [show (mvA m)[1]? = some (.int .i8 m.t) from rfl, HMt.out])) ?_)
                 | (guard_target = Go.wpList _ _ _ ((⟨some 128, .load _ _, _, _, _, _⟩ : Go.Oper) :: _) _ _; refine step_get (op := ⟨some 128, .load _ _, _, _, _, _⟩) rfl 5 _ rfl b1 0 rfl Tryz.underlying5 rfl (.int .u8 (v : Int)) ((HR1.out.cell 0 (by decide)).trans (by rw [HPv.out]; rfl)) ?_)
                 | (guard_target = Go.wpList _ _ _ ((⟨some 141, .load _ _, _, _, _, _⟩ : Go.Oper) :: _) _ _; refine step_get (op := ⟨some 141, .load _ _, _, _, _, _⟩) rfl 5 _ rfl b1 (1 + j) rfl Tryz.underlying5 rfl (.int .u8 (x : Int)) ((HR1.out.cell (1 + j) HI.out).trans HPx.out) ?_))
                go_meet
                case rel => exact ⟨by rw [HM.out], rfl⟩
               ·have HM := Lib.hid (show namB v x f t j kt K R false = true by simp [namB, h1, h2, h3, h6, h7, h8, HNb.out])
                have c1 : ((j : Int) == (f : Int)) = false := beq_eq_false_iff_ne.2 (by omega)
                have c2 : ((j : Int) == (t : Int)) = false := beq_eq_false_iff_ne.2 (by omega)
                have c3 : ((j : Int) == kt) = false := beq_eq_false_iff_ne.2 (by omega)
                have c6 : ((v : Int) == 3) = true := beq_iff_eq.2 (by omega)
                have c7 : decide (0 ≤ kt) = true := decide_eq_true h7
                have c8 : ((x : Int) % 8 != 1) = true := bne_iff_ne.2 (by omega)
                clear h1 h2 h3 h6 h7 h8
                go_wp2_with (first
                 | (guard_target = Go.wpList _ _ _ ((⟨some 98, .load _ _, _, _, _, _⟩ : Go.Oper) :: _) _ _; refine step_get (op := ⟨some 98, .load _ _, _, _, _, _⟩) rfl 26 _ rfl b5 0 rfl Tryz.underlying26 rfl (.int .i8 (f : Int)) ((Blk.cell HR5.out 0).trans (by rw [show (mvA m)[0]? = some (.int .i8 m.f) from rfl, HMf.out])) ?_)
                 | (guard_target = Go.wpList _ _ _ ((⟨some 104, .load _ _, _, _, _, _⟩ : Go.Oper) :: _) _ _; refine step_get (op := ⟨some 104, .load _ _, _, _, _, _⟩) rfl 26 _ rfl b5 1 rfl Tryz.underlying26 rfl (.int .i8 (t : Int)) ((Blk.cell HR5.out 1).trans (by rw [show (mvA m)[1]? = some (.int .i8 m.t) from rfl, HMt.out])) ?_)
                 | (guard_target = Go.wpList _ _ _ ((⟨some 128, .load _ _, _, _, _, _⟩ : Go.Oper) :: _) _ _; refine step_get (op := ⟨some 128, .load _ _, _, _, _, _⟩) rfl 5 _ rfl b1 0 rfl Tryz.underlying5 rfl (.int .u8 (v : Int)) ((HR1.out.cell 0 (by decide)).trans (by rw [HPv.out]; rfl)) ?_)
                 | (guard_target = Go.wpList _ _ _ ((⟨some 141, .load _ _, _, _, _, _⟩ : Go.Oper) :: _) _ _; refine step_get (op := ⟨some 141, .load _ _, _, _, _, _⟩) rfl 5 _ rfl b1 (1 + j) rfl Tryz.underlying5 rfl (.int .u8 (x : Int)) ((HR1.out.cell (1 + j) HI.out).trans HPx.out) ?_))
                go_meet
                case rel => exact ⟨by rw [HM.out], rfl⟩
             ·have HM := Lib.hid (show namB v x f t j kt K R false = false by simp [namB, h1, h2, h3, h6, h7])
              have c1 : ((j : Int) == (f : Int)) = false := beq_eq_false_iff_ne.2 (by omega)
              have c2 : ((j : Int) == (t : Int)) = false := beq_eq_false_iff_ne.2 (by omega)
              have c3 : ((j : Int) == kt) = false := beq_eq_false_iff_ne.2 (by omega)
              have c6 : ((v : Int) == 3) = true := beq_iff_eq.2 (by omega)
              have c7 : decide (0 ≤ kt) = false := decide_eq_false h7
              clear h1 h2 h3 h6 h7
              go_wp2_with (first
               | (guard_target = Go.wpList _ _ _ ((⟨some 98, .load _ _, _, _, _, _⟩ : Go.Oper) :: _) _ _; refine step_get (op := ⟨some 98, .load _ _, _, _, _, _⟩) rfl 26 _ rfl b5 0 rfl Tryz.underlying26 rfl (.int .i8 (f : Int)) ((Blk.cell HR5.out 0).trans (by rw [show (mvA m)[0]? = some (.int .i8 m.f) from rfl, HMf.out])) ?_)
               | (guard_target = Go.wpList _ _ _ ((⟨some 104, .load _ _, _, _, _, _⟩ : Go.Oper) :: _) _ _; refine step_get (op := ⟨some 104, .load _ _, _, _, _, _⟩) rfl 26 _ rfl b5 1 rfl Tryz.underlying26 rfl (.int .i8 (t : Int)) ((Blk.cell HR5.out 1).trans (by rw [show (mvA m)[1]? = some (.int .i8 m.t) from rfl, HMt.out])) ?_)
               | (guard_target = Go.wpList _ _ _ ((⟨some 128, .load _ _, _, _, _, _⟩ : Go.Oper) :: _) _ _; refine step_get (op := ⟨some 128, .load _ _, _, _, _, _⟩) rfl 5 _ rfl b1 0 rfl Tryz.underlying5 rfl (.int .u8 (v : Int)) ((HR1.out.cell 0 (by decide)).trans (by rw [HPv.out]; rfl)) ?_))
              go_meet
              case rel => exact ⟨by rw [HM.out], rfl⟩
            ·have HM := Lib.hid (show namB v x f t j kt K R false = false by simp [namB, h1, h2, h3, h6])
             have c1 : ((j : Int) == (f : Int)) = false := beq_eq_false_iff_ne.2 (by omega)
             have c2 : ((j : Int) == (t : Int)) = false := beq_eq_false_iff_ne.2 (by omega)
             have c3 : ((j : Int) == kt) = false := beq_eq_false_iff_ne.2 (by omega)
             have c6 : ((v : Int) == 3) = false := beq_eq_false_iff_ne.2 (by omega)
             clear h1 h2 h3 h6
             go_wp2_with (first
              | (guard_target = Go.wpList _ _ _ ((⟨some 98, .load _ _, _, _, _, _⟩ : Go.Oper) :: _) _ _; refine step_get (op := ⟨some 98, .load _ _, _, _, _, _⟩) rfl 26 _ rfl b5 0 rfl Tryz.underlying26 rfl (.int .i8 (f : Int)) ((Blk.cell HR5.out 0).trans (by rw [show (mvA m)[0]? = some (.int .i8 m.f) from rfl, HMf.out])) ?_)
              | (guard_target = Go.wpList _ _ _ ((⟨some 104, .load _ _, _, _, _, _⟩ : Go.Oper) :: _) _ _; refine step_get (op := ⟨some 104, .load _ _, _, _, _, _⟩) rfl 26 _ rfl b5 1 rfl Tryz.underlying26 rfl (.int .i8 (t : Int)) ((Blk.cell HR5.out 1).trans (by rw [show (mvA m)[1]? = some (.int .i8 m.t) from rfl, HMt.out])) ?_)
              | (guard_target = Go.wpList _ _ _ ((⟨some 128, .load _ _, _, _, _, _⟩ : Go.Oper) :: _) _ _; refine step_get (op := ⟨some 128, .load _ _, _, _, _, _⟩) rfl 5 _ rfl b1 0 rfl Tryz.underlying5 rfl (.int .u8 (v : Int)) ((HR1.out.cell 0 (by decide)).trans (by rw [HPv.out]; rfl)) ?_))
             go_meet
             case rel => exact ⟨by rw [HM.out], rfl⟩
           ·by_cases h4 : (j : Int) = K
            ·have HM := Lib.hid (show namB v x f t j kt K R true = true by simp [namB, h1, h2, h3, h4])
             have c1 : ((j : Int) == (f : Int)) = false := beq_eq_false_iff_ne.2 (by omega)
             have c2 : ((j : Int) == (t : Int)) = false := beq_eq_false_iff_ne.2 (by omega)
             have c3 : ((j : Int) == kt) = false := beq_eq_false_iff_ne.2 (by omega)
             have c4 : ((j : Int) == K) = true := beq_iff_eq.2 (by omega)
             clear h1 h2 h3 h4
             go_wp2_with (first
              | (guard_target = Go.wpList _ _ _ ((⟨some 98, .load _ _, _, _, _, _⟩ : Go.Oper) :: _) _ _; refine step_get (op := ⟨some 98, .load _ _, _, _, _, _⟩) rfl 26 _ rfl b5 0 rfl Tryz.underlying26 rfl (.int .i8 (f : Int)) ((Blk.cell HR5.out 0).trans (by rw [show (mvA m)[0]? = some (.int .i8 m.f) from rfl, HMf.out])) ?_)
              | (guard_target = Go.wpList _ _ _ ((⟨some 104, .load _ _, _, _, _, _⟩ : Go.Oper) :: _) _ _; refine step_get (op := ⟨some 104, .load _ _, _, _, _, _⟩) rfl 26 _ rfl b5 1 rfl Tryz.underlying26 rfl (.int .i8 (t : Int)) ((Blk.cell HR5.out 1).trans (by rw [show (mvA m)[1]? = some (.int .i8 m.t) from rfl, HMt.out])) ?_))
             go_meet
             case rel => exact ⟨by rw [HM.out], rfl⟩
            ·by_cases h5 : (j : Int) = R
             ·have HM := Lib.hid (show namB v x f t j kt K R true = true by simp [namB, h1, h2, h3, h4, h5])
              have c1 : ((j : Int) == (f : Int)) = false := beq_eq_false_iff_ne.2 (by omega)
              have c2 : ((j : Int) == (t : Int)) = false := beq_eq_false_iff_ne.2 (by omega)
              have c3 : ((j : Int) == kt) = false := beq_eq_false_iff_ne.2 (by omega)
              have c4 : ((j : Int) == K) = false := beq_eq_false_iff_ne.2 (by omega)
              have c5 : ((j : Int) == R) = true := beq_iff_eq.2 (by omega)
              clear h1 h2 h3 h4 h5
              go_wp2_with (first
               | (guard_target = Go.wpList _ _ _ ((⟨some 98, .load _ _, _, _, _, _⟩ : Go.Oper) :: _) _ _; refine step_get (op := ⟨some 98, .load _ _, _, _, _, _⟩) rfl 26 _ rfl b5 0 rfl Tryz.underlying26 rfl (.int .i8 (f : Int)) ((Blk.cell HR5.out 0).trans (by rw [show (mvA m)[0]? = some (.int .i8 m.f) from rfl, HMf.out])) ?_)
               | (guard_target = Go.wpList _ _ _ ((⟨some 104, .load _ _, _, _, _, _⟩ : Go.Oper) :: _) _ _; refine step_get (op := ⟨some 104, .load _ _, _, _, _, _⟩) rfl 26 _ rfl b5 1 rfl Tryz.underlying26 rfl (.int .i8 (t : Int)) ((Blk.cell HR5.out 1).trans (by rw [show (mvA m)[1]? = some (.int .i8 m.t) from rfl, HMt.out])) ?_))
              go_meet
              case rel => exact ⟨by rw [HM.out], rfl⟩
             ·by_cases h6 : v = 3
              ·by_cases h7 : 0 ≤ kt
               ·cases nb
                ·have HM := Lib.hid (show namB v x f t j kt K R true = false by simp [namB, h1, h2, h3, h4, h5, h6, h7, HNb.out])
                 have c1 : ((j : Int) == (f : Int)) = false := beq_eq_false_iff_ne.2 (by omega)
                 have c2 : ((j : Int) == (t : Int)) = false := beq_eq_false_iff_ne.2 (by omega)
                 have c3 : ((j : Int) == kt) = false := beq_eq_false_iff_ne.2 (by omega)
                 have c4 : ((j : Int) == K) = false := beq_eq_false_iff_ne.2 (by omega)
                 have c5 : ((j : Int) == R) = false := beq_eq_false_iff_ne.2 (by omega)
                 have c6 : ((v : Int) == 3) = true := beq_iff_eq.2 (by omega)
                 have c7 : decide (0 ≤ kt) = true := decide_eq_true h7
                 clear h1 h2 h3 h4 h5 h6 h7
                 go_wp2_with (first
                  | (guard_target = Go.wpList _ _ _ ((⟨some 98, .load _ _, _, _, _, _⟩ : Go.Oper) :: _) _ _; refine step_get (op := ⟨some 98, .load _ _, _, _, _, _⟩) rfl 26 _ rfl b5 0 rfl Tryz.underlying26 rfl (.int .i8 (f : Int)) ((Blk.cell HR5.out 0).trans (by rw [show (mvA m)[0]? = some (.int .i8 m.f) from rfl, HMf.out])) ?_)
                  | (guard_target = Go.wpList _ _ _ ((⟨some 104, .load _ _, _, _, _, _⟩ : Go.Oper) :: _) _ _; refine step_get (op := ⟨some 104, .load _ _, _, _, _, _⟩) rfl 26 _ rfl b5 1 rfl Tryz.underlying26 rfl (.int .i8 (t : Int)) ((Blk.cell HR5.out 1).trans (by rw [show (mvA m)[1]? = some (.int .i8 m.t) from rfl, HMt.out])) ?_)
                  | (guard_target = Go.wpList _ _ _ ((⟨some 128, .load _ _, _, _, _, _⟩ : Go.Oper) :: _) _ _; refine step_get (op := ⟨some 128, .load _ _, _, _, _, _⟩) rfl 5 _ rfl b1 0 rfl Tryz.underlying5 rfl (.int .u8 (v : Int)) ((HR1.out.cell 0 (by decide)).trans (by rw [HPv.out]; rfl)) ?_))
                 go_meet
                 case rel => exact ⟨by rw [HM.out], rfl⟩
                ·by_cases h8 : x % 8 = 1
                 ·have HM := Lib.hid (show namB v x f t j kt K R true = false by simp [namB, h1, h2, h3, h4, h5, h6, h7, h8, HNb.out])
                  have c1 : ((j : Int) == (f : Int)) = false := beq_eq_false_iff_ne.2 (by omega)
                  have c2 : ((j : Int) == (t : Int)) = false := beq_eq_false_iff_ne.2 (by omega)
                  have c3 : ((j : Int) == kt) = false := beq_eq_false_iff_ne.2 (by omega)
                  have c4 : ((j : Int) == K) = false := beq_eq_false_iff_ne.2 (by omega)
                  have c5 : ((j : Int) == R) = false := beq_eq_false_iff_ne.2 (by omega)
                  have c6 : ((v : Int) == 3) = true := beq_iff_eq.2 (by omega)
                  have c7 : decide (0 ≤ kt) = true := decide_eq_true h7
                  have c8 : ((x : Int) % 8 != 1) = false := by rw [show (x : Int) % 8 = 1 by omega]; rfl
                  clear h1 h2 h3 h4 h5 h6 h7 h8
                  go_wp2_with (first
                   | (guard_target = Go.wpList _ _ _ ((⟨some 98, .load _ _, _, _, _, _⟩ : Go.Oper) :: _) _ _; refine step_get (op := ⟨some 98, .load _ _, _, _, _, _⟩) rfl 26 _ rfl b5 0 rfl Tryz.underlying26 rfl (.int .i8 (f : Int)) ((Blk.cell HR5.out 0).trans (by rw [show (mvA m)[0]? = some (.int .i8 m.f) from rfl, HMf.out])) ?_)
                   | (guard_target = Go.wpList _ _ _ ((⟨some 104, .load _ _, _, _, _, _⟩ : Go.Oper) :: _) _ _; refine step_get (op := ⟨some 104, .load _ _, _, _, _, _⟩) rfl 26 _ rfl b5 1 rfl Tryz.underlying26 rfl (.int .i8 (t : Int)) ((Blk.cell HR5.out 1).trans (by rw [show (mvA m)[1]? = some (.int .i8 m.t) from rfl, HMt.out])) ?_)
                   | (guard_target = Go.wpList _ _ _ ((⟨some 128, .load _ _, _, _, _, _⟩ : Go.Oper) :: _) _ _; refine step_get (op := ⟨some 128, .load _ _, _, _, _, _⟩) rfl 5 _ rfl b1 0 rfl Tryz.underlying5 rfl (.int .u8 (v : Int)) ((HR1.out.cell 0 (by decide)).trans (by rw [HPv.out]; rfl)) ?_)
                   | (guard_target = Go.wpList _ _ _ ((⟨some 141, .load _ _, _, _, _, _⟩ : Go.Oper) :: _) _ _; refine step_get (op := ⟨some 141, .load _ _, _, _, _, _⟩) rfl 5 _ rfl b1 (1 + j) rfl Tryz.underlying5 rfl (.int .u8 (x : Int)) ((HR1.out.cell (1 + j) HI.out).trans HPx.out) ?_))
                  go_meet
                  case rel => exact ⟨by rw [HM.out], rfl⟩
                 ·have HM := Lib.hid (show namB v x f t j kt K R true = true by simp [namB, h1, h2, h3, h4, h5, h6, h7, h8, HNb.out])
                  have c1 : ((j : Int) == (f : Int)) = false := beq_eq_false_iff_ne.2 (by omega)
                  have c2 : ((j : Int) == (t : Int)) = false := beq_eq_false_iff_ne.2 (by omega)
                  have c3 : ((j : Int) == kt) = false := beq_eq_false_iff_ne.2 (by omega)
                  have c4 : ((j : Int) == K) = false := beq_eq_false_iff_ne.2 (by omega)
                  have c5 : ((j : Int) == R) = false := beq_eq_false_iff_ne.2 (by omega)
                  have c6 : ((v : Int) == 3) = true := beq_iff_eq.2 (by omega)
                  have c7 : decide (0 ≤ kt) = true := decide_eq_true h7
                  have c8 : ((x : Int) % 8 != 1) = true := bne_iff_ne.2 (by omega)
                  clear h1 h2 h3 h4 h5 h6 h7 h8
                  go_wp2_with (first
                   | (guard_target = Go.wpList _ _ _ ((⟨some 98, .load _ _, _, _, _, _⟩ : Go.Oper) :: _) _ _; refine step_get (op := ⟨some 98, .load _ _, _, _, _, _⟩) rfl 26 _ rfl b5 0 rfl Tryz.underlying26 rfl (.int .i8 (f : Int)) ((Blk.cell HR5.out 0).trans (by rw [show (mvA m)[0]? = some (.int .i8 m.f) from rfl, HMf.out])) ?_)
                   | (guard_target = Go.wpList _ _ _ ((⟨some 104, .load _ _, _, _, _, _⟩ : Go.Oper) :: _) _ _; refine step_get (op := ⟨some 104, .load _ _, _, _, _, _⟩) rfl 26 _ rfl b5 1 rfl Tryz.underlying26 rfl (.int .i8 (t : Int)) ((Blk.cell HR5.out 1).trans (by rw [show (mvA m)[1]? = some (.int .i8 m.t) from rfl, HMt.out])) ?_)
                   | (guard_target = Go.wpList _ _ _ ((⟨some 128, .load _ _, _, _, _, _⟩ : Go.Oper) :: _) _ _; refine step_get (op := ⟨some 128, .load _ _, _, _, _, _⟩) rfl 5 _ rfl b1 0 rfl Tryz.underlying5 rfl (.int .u8 (v : Int)) ((HR1.out.cell 0 (by decide)).trans (by rw [HPv.out]; rfl)) ?_)
                   | (guard_target = Go.wpList _ _ _ ((⟨some 141, .load _ _, _, _, _, _⟩ : Go.Oper) :: _) _ _; refine step_get (op := ⟨some 141, .load _ _, _, _, _, _⟩) rfl 5 _ rfl b1 (1 + j) rfl Tryz.underlying5 rfl (.int .u8 (x : Int)) ((HR1.out.cell (1 + j) HI.out).trans HPx.out) ?_))
                  go_meet
                  case rel => exact ⟨by rw [HM.out], rfl⟩
               ·have HM := Lib.hid (show namB v x f t j kt K R true = false by simp [namB, h1, h2, h3, h4, h5, h6, h7])
                have c1 : ((j : Int) == (f : Int)) = false := beq_eq_false_iff_ne.2 (by omega)
                have c2 : ((j : Int) == (t : Int)) = false := beq_eq_false_iff_ne.2 (by omega)
                have c3 : ((j : Int) == kt) = false := beq_eq_false_iff_ne.2 (by omega)
                have c4 : ((j : Int) == K) = false := beq_eq_false_iff_ne.2 (by omega)
                have c5 : ((j : Int) == R) = false := beq_eq_false_iff_ne.2 (by omega)
                have c6 : ((v : Int) == 3) = true := beq_iff_eq.2 (by omega)
                have c7 : decide (0 ≤ kt) = false := decide_eq_false h7
                clear h1 h2 h3 h4 h5 h6 h7
                go_wp2_with (first
                 | (guard_target = Go.wpList _ _ _ ((⟨some 98, .load _ _, _, _, _, _⟩ : Go.Oper) :: _) _ _; refine step_get (op := ⟨some 98, .load _ _, _, _, _, _⟩) rfl 26 _ rfl b5 0 rfl Tryz.underlying26 rfl (.int .i8 (f : Int)) ((Blk.cell HR5.out 0).trans (by rw [show (mvA m)[0]? = some (.int .i8 m.f) from rfl, HMf.out])) ?_)
                 | (guard_target = Go.wpList _ _ _ ((⟨some 104, .load _ _, _, _, _, _⟩ : Go.Oper) :: _) _ _; refine step_get (op := ⟨some 104, .load _ _, _, _, _, _⟩) rfl 26 _ rfl b5 1 rfl Tryz.underlying26 rfl (.int .i8 (t : Int)) ((Blk.cell HR5.out 1).trans (by rw [show (mvA m)[1]? = some (.int .i8 m.t) from rfl, HMt.out])) ?_)
                 | (guard_target = Go.wpList _ _ _ ((⟨some 128, .load _ _, _, _, _, _⟩ : Go.Oper) :: _) _ _; refine step_get (op := ⟨some 128, .load _ _, _, _, _, _⟩) rfl 5 _ rfl b1 0 rfl Tryz.underlying5 rfl (.int .u8 (v : Int)) ((HR1.out.cell 0 (by decide)).trans (by rw [HPv.out]; rfl)) ?_))
                go_meet
                case rel => exact ⟨by rw [HM.out], rfl⟩
              ·have HM := Lib.hid (show namB v x f t j kt K R true = false by simp [namB, h1, h2, h3, h4, h5, h6])
               have c1 : ((j : Int) == (f : Int)) = false := beq_eq_false_iff_ne.2 (by omega)
               have c2 : ((j : Int) == (t : Int)) = false := beq_eq_false_iff_ne.2 (by omega)
               have c3 : ((j : Int) == kt) = false := beq_eq_false_iff_ne.2 (by omega)
               have c4 : ((j : Int) == K) = false := beq_eq_false_iff_ne.2 (by omega)
               have c5 : ((j : Int) == R) = false := beq_eq_false_iff_ne.2 (by omega)
               have c6 : ((v : Int) == 3) = false := beq_eq_false_iff_ne.2 (by omega)
               clear h1 h2 h3 h4 h5 h6
               go_wp2_with (first
                | (guard_target = Go.wpList _ _ _ ((⟨some 98, .load _ _, _, _, _, _⟩ : Go.Oper) :: _) _ _; refine step_get (op := ⟨some 98, .load _ _, _, _, _, _⟩) rfl 26 _ rfl b5 0 rfl Tryz.underlying26 rfl (.int .i8 (f : Int)) ((Blk.cell HR5.out 0).trans (by rw [show (mvA m)[0]? = some (.int .i8 m.f) from rfl, HMf.out])) ?_)
                | (guard_target = Go.wpList _ _ _ ((⟨some 104, .load _ _, _, _, _, _⟩ : Go.Oper) :: _) _ _; refine step_get (op := ⟨some 104, .load _ _, _, _, _, _⟩) rfl 26 _ rfl b5 1 rfl Tryz.underlying26 rfl (.int .i8 (t : Int)) ((Blk.cell HR5.out 1).trans (by rw [show (mvA m)[1]? = some (.int .i8 m.t) from rfl, HMt.out])) ?_)
                | (guard_target = Go.wpList _ _ _ ((⟨some 128, .load _ _, _, _, _, _⟩ : Go.Oper) :: _) _ _; refine step_get (op := ⟨some 128, .load _ _, _, _, _, _⟩) rfl 5 _ rfl b1 0 rfl Tryz.underlying5 rfl (.int .u8 (v : Int)) ((HR1.out.cell 0 (by decide)).trans (by rw [HPv.out]; rfl)) ?_))
               go_meet
               case rel => exact ⟨by rw [HM.out], rfl⟩
       case rest =>
        obtain ⟨rfl, rfl⟩ := hcut
        cases hnm : namB v x f t j kt K R ok
        ·have HQx := Lib.hid (show some (Value.int (kAt (1 + j)) (q (1 + j))) = some (.int .u8 (x : Int)) by rw [← HQ.out, HSame.out hnm]; exact HPx.out)
         clear hnm
         go_wp2_with fail
         refine late_begin 13 (by kernel_rfl) ?_
         refine ltk 0 (by kernel_rfl) (fun _ _ d _ _ h => by cases d <;> exact h) (fun o ho => ?_)
         simp only [qa, qb, qc, qd] at ho; subst ho
         apply Exists.intro
         refine ⟨Or.inl ⟨by kernel_rfl, fun w' hl => Or.inl ?_⟩, ?_⟩
         ·(go_simp; try with_reducible rfl)
         simp only [Act.put, pa, pb, pc]
         refine ltk 1 (by kernel_rfl) (fun _ _ d _ _ h => by cases d <;> exact h) (fun o ho => ?_)
         simp only [qa, qb, qc, qd] at ho; subst ho
         apply Exists.intro
         refine ⟨Or.inl ⟨by kernel_rfl, fun w' hl => Or.inl ?_⟩, ?_⟩
         ·(go_simp; try with_reducible rfl)
         simp only [Act.put, pa, pb, pc]
         refine ltk 2 (by kernel_rfl) (fun _ _ d _ _ h => by cases d <;> exact h) (fun o ho => ?_)
         simp only [qa, qb, qc, qd] at ho; subst ho
         apply Exists.intro
         refine ⟨Or.inl ⟨by kernel_rfl, fun w' hl => Or.inl ?_⟩, ?_⟩
         ·(go_simp; try with_reducible rfl)
         simp only [Act.put, pa, pb, pc]
         refine ltk 3 (by kernel_rfl) (fun _ _ d _ _ h => by cases d <;> exact h) (fun o ho => ?_)
         simp only [qa, qb, qc, qd] at ho; subst ho
         apply Exists.intro
         refine ⟨Or.inl ⟨by kernel_rfl, fun w' hl => Or.inl ?_⟩, ?_⟩
         ·(go_simp; try with_reducible rfl)
         simp only [Act.put, pa, pb, pc]
         refine ltk 4 (by kernel_rfl) (fun _ _ d _ _ h => by cases d <;> exact h) (fun o ho => ?_)
         simp only [qa, qb, qc, qd] at ho; subst ho
         apply Exists.intro
         refine ⟨Or.inl ⟨by kernel_rfl, fun w' hl => Or.inl ?_⟩, ?_⟩
         ·(go_simp; try with_reducible rfl)
         simp only [Act.put, pa, pb, pc]
         refine ltk 5 (by kernel_rfl) (fun _ _ d _ _ h => by cases d <;> exact h) (fun o ho => ?_)
         simp only [qa, qb, qc, qd] at ho; subst ho
         refine ⟨.pointer (some ⟨b6, 1 + j, none⟩), Or.inl ⟨by kernel_rfl, fun w' hl => Or.inl ?_⟩, ?_⟩
         ·(go_simp; try omega)
         simp only [Act.put, pa, pb, pc]
         refine ltk 6 (by kernel_rfl) (fun _ _ d _ _ h => by cases d <;> exact h) (fun o ho => ?_)
         simp only [qa, qb, qc, qd] at ho; subst ho
         refine ⟨.int .u8 (x : Int), Or.inl ⟨by kernel_rfl, fun w' hl => Or.inl (run_get 5 _ rfl b6 (1 + j) rfl Tryz.underlying5 rfl (.int .u8 (x : Int)) (((HR6.out.later hl).cell (1 + j) HI.out).trans HQx.out))⟩, ?_⟩
         simp only [Act.put, pa, pb, pc]
         refine ltk 7 (by kernel_rfl) (fun _ _ d _ _ h => by cases d <;> exact h) (fun o ho => ?_)
         simp only [qa, qb, qc, qd] at ho; subst ho
         apply Exists.intro
         refine ⟨Or.inl ⟨by kernel_rfl, fun w' hl => Or.inl ?_⟩, ?_⟩
         ·(go_simp; try with_reducible rfl)
         simp only [Act.put, pa, pb, pc]
         refine ltk 8 (by kernel_rfl) (fun _ _ d _ _ h => by cases d <;> exact h) (fun o ho => ?_)
         simp only [qa, qb, qc, qd] at ho; subst ho
         apply Exists.intro
         refine ⟨Or.inl ⟨by kernel_rfl, fun w' hl => Or.inl ?_⟩, ?_⟩
         ·(go_simp; try with_reducible rfl)
         simp only [Act.put, pa, pb, pc]
         refine ltk 9 (by kernel_rfl) (fun _ _ d _ _ h => by cases d <;> exact h) (fun o ho => ?_)
         simp only [qa, qb, qc, qd] at ho; subst ho
         refine ⟨.pointer (some ⟨b1, 1 + j, none⟩), Or.inl ⟨by kernel_rfl, fun w' hl => Or.inl ?_⟩, ?_⟩
         ·(go_simp; try omega)
         simp only [Act.put, pa, pb, pc]
         refine ltk 10 (by kernel_rfl) (fun _ _ d _ _ h => by cases d <;> exact h) (fun o ho => ?_)
         simp only [qa, qb, qc, qd] at ho; subst ho
         refine ⟨.int .u8 (x : Int), Or.inl ⟨by kernel_rfl, fun w' hl => Or.inl (run_get 5 _ rfl b1 (1 + j) rfl Tryz.underlying5 rfl (.int .u8 (x : Int)) (((HR1.out.later hl).cell (1 + j) HI.out).trans HPx.out))⟩, ?_⟩
         simp only [Act.put, pa, pb, pc]
         refine ltk 11 (by kernel_rfl) (fun _ _ d _ _ h => by cases d <;> exact h) (fun o ho => ?_)
         simp only [qa, qb, qc, qd] at ho; subst ho
         refine ⟨.bool false, Or.inl ⟨by kernel_rfl, fun w' hl => Or.inl ?_⟩, ?_⟩
         ·(go_simp; try simp)
         simp only [Act.put, pa, pb, pc]
         refine ltk 12 (by kernel_rfl) (fun _ _ d _ _ h => by cases d <;> exact h) (fun o ho => ?_)
         simp only [qa, qb, qc, qd] at ho; subst ho
         apply Exists.intro
         refine ⟨Or.inl ⟨by kernel_rfl, fun w' hl => Or.inl ?_⟩, ?_⟩
         ·(go_simp; try with_reducible rfl)
         simp only [Act.put, pa, pb, pc]
         refine late_end (by kernel_rfl) (fun wn hl => ?_)
         have HR1 := Lib.hid (HR1.out.later hl); have HE := Lib.hid (HE.out.later hl); have HR5 := Lib.hid (HR5.out.later hl); have HR6 := Lib.hid (HR6.out.later hl); have HB := Lib.hid (below_on HB.out hl); clear hl
         go_wp2_with fail
         go_roundw
         case rel => exact ⟨j + 1, by omega, by go_num, HE.out, HR1.out, HR5.out, HR6.out, HB.out⟩
         case measure => simp [intOf]; omega
        ·clear hnm
         go_wp2_with fail
         refine late_begin 13 (by kernel_rfl) ?_
         refine ltk 0 (by kernel_rfl) (fun _ _ d _ _ h => by cases d <;> exact h) (fun o ho => ?_)
         simp only [qa, qb, qc, qd] at ho; subst ho
         apply Exists.intro
         refine ⟨Or.inl ⟨by kernel_rfl, fun w' hl => Or.inl ?_⟩, ?_⟩
         ·(go_simp; try with_reducible rfl)
         simp only [Act.put, pa, pb, pc]
         refine ltk 1 (by kernel_rfl) (fun _ _ d _ _ h => by cases d <;> exact h) (fun o ho => ?_)
         simp only [qa, qb, qc, qd] at ho; subst ho
         apply Exists.intro
         refine ⟨Or.inl ⟨by kernel_rfl, fun w' hl => Or.inl ?_⟩, ?_⟩
         ·(go_simp; try with_reducible rfl)
         simp only [Act.put, pa, pb, pc]
         refine ltk 2 (by kernel_rfl) (fun _ _ d _ _ h => by cases d <;> exact h) (fun o ho => ?_)
         simp only [qa, qb, qc, qd] at ho; subst ho
         apply Exists.intro
         refine ⟨Or.inl ⟨by kernel_rfl, fun w' hl => Or.inl ?_⟩, ?_⟩
         ·(go_simp; try with_reducible rfl)
         simp only [Act.put, pa, pb, pc]
         refine ltk 3 (by kernel_rfl) (fun _ _ d _ _ h => by cases d <;> exact h) (fun o ho => ?_)
         simp only [qa, qb, qc, qd] at ho; subst ho
         refine ⟨_, Or.inr ⟨by kernel_rfl, rfl⟩, ?_⟩
         simp only [Act.put, pa, pb, pc]
         refine ltk 4 (by kernel_rfl) (fun _ _ d _ _ h => by cases d <;> exact h) (fun o ho => ?_)
         simp only [qa, qb, qc, qd] at ho; subst ho
         refine ⟨_, Or.inr ⟨by kernel_rfl, rfl⟩, ?_⟩
         simp only [Act.put, pa, pb, pc]
         refine ltk 5 (by kernel_rfl) (fun _ _ d _ _ h => by cases d <;> exact h) (fun o ho => ?_)
         simp only [qa, qb, qc, qd] at ho; subst ho
         refine ⟨_, Or.inr ⟨by kernel_rfl, rfl⟩, ?_⟩
         simp only [Act.put, pa, pb, pc]
         refine ltk 6 (by kernel_rfl) (fun _ _ d _ _ h => by cases d <;> exact h) (fun o ho => ?_)
         simp only [qa, qb, qc, qd] at ho; subst ho
         refine ⟨_, Or.inr ⟨by kernel_rfl, rfl⟩, ?_⟩
         simp only [Act.put, pa, pb, pc]
         refine ltk 7 (by kernel_rfl) (fun _ _ d _ _ h => by cases d <;> exact h) (fun o ho => ?_)
         simp only [qa, qb, qc, qd] at ho; subst ho
         refine ⟨_, Or.inr ⟨by kernel_rfl, rfl⟩, ?_⟩
         simp only [Act.put, pa, pb, pc]
         refine ltk 8 (by kernel_rfl) (fun _ _ d _ _ h => by cases d <;> exact h) (fun o ho => ?_)
         simp only [qa, qb, qc, qd] at ho; subst ho
         refine ⟨_, Or.inr ⟨by kernel_rfl, rfl⟩, ?_⟩
         simp only [Act.put, pa, pb, pc]
         refine ltk 9 (by kernel_rfl) (fun _ _ d _ _ h => by cases d <;> exact h) (fun o ho => ?_)
         simp only [qa, qb, qc, qd] at ho; subst ho
         refine ⟨_, Or.inr ⟨by kernel_rfl, rfl⟩, ?_⟩
         simp only [Act.put, pa, pb, pc]
         refine ltk 10 (by kernel_rfl) (fun _ _ d _ _ h => by cases d <;> exact h) (fun o ho => ?_)
         simp only [qa, qb, qc, qd] at ho; subst ho
         refine ⟨_, Or.inr ⟨by kernel_rfl, rfl⟩, ?_⟩
         simp only [Act.put, pa, pb, pc]
         refine ltk 11 (by kernel_rfl) (fun _ _ d _ _ h => by cases d <;> exact h) (fun o ho => ?_)
         simp only [qa, qb, qc, qd] at ho; subst ho
         refine ⟨_, Or.inr ⟨by kernel_rfl, rfl⟩, ?_⟩
         simp only [Act.put, pa, pb, pc]
         refine ltk 12 (by kernel_rfl) (fun _ _ d _ _ h => by cases d <;> exact h) (fun o ho => ?_)
         simp only [qa, qb, qc, qd] at ho; subst ho
         apply Exists.intro
         refine ⟨Or.inl ⟨by kernel_rfl, fun w' hl => Or.inl ?_⟩, ?_⟩
         ·(go_simp; try with_reducible rfl)
         simp only [Act.put, pa, pb, pc]
         refine late_end (by kernel_rfl) (fun wn hl => ?_)
         have HR1 := Lib.hid (HR1.out.later hl); have HE := Lib.hid (HE.out.later hl); have HR5 := Lib.hid (HR5.out.later hl); have HR6 := Lib.hid (HR6.out.later hl); have HB := Lib.hid (below_on HB.out hl); clear hl
         go_wp2_with fail
         go_roundw
         case rel => exact ⟨j + 1, by omega, by go_num, HE.out, HR1.out, HR5.out, HR6.out, HB.out⟩
         case measure => simp [intOf]; omega
     ·obtain rfl : j = 64 := by omega
      go_wp2_with fail
      go_roundw
      case rel => exact ⟨k + 1, by omega, by go_num, HE.out, HR1.out, HB.out⟩
      case measure => simp [intOf]; omega
   ·obtain rfl : k = L.length := by omega
    go_wp2_with (go_at_call 9; refine (af_awake _ (HT.out.on HB.out) (HK.out.on HB.out)).mono ?_; rintro e w3 ⟨rfl, hb⟩; have HB := Lib.hid (below_on HB.out hb); clear hb)
    go_ret
    exact ⟨rfl, HB.out⟩
end Go.Proofs.YtidgfadbdgheiaaGreatDoor.afterSquares
