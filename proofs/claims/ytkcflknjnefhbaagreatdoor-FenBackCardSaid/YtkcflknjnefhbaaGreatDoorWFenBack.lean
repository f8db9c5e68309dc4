/-
  The walk of FenBack.
-/
import Derived.Test.YtkcflknjnefhbaaGreatDoorRdBackA
import Derived.Test.YtkcflknjnefhbaaGreatDoorFnBad
import Derived.Test.YtkcflknjnefhbaaGreatDoorFpBaseB
import Derived.Test.YtkcflknjnefhbaaGreatDoorRdBaseA
import Derived.Test.YtkcflknjnefhbaaGreatDoorRuCmp
import Derived.WalkKit
import Derived.OpenShut
namespace Go.Proofs.YtkcflknjnefhbaaGreatDoor.fenBack
open Go.RowKit
set_option linter.unusedVariables false
set_option linter.unusedSimpArgs false
theorem step_cmpn {ops : Array Oper} {rest : List Oper} {op : Oper} {a : Act} {w : World} {Q : Exit → Act → World → Prop} (hw : Region.wanted op (yielded ops a.tmps) = true) (x y : Operand) (ho : op.op = .binOp .neq 31 x y 31) (p q : Nat → Int) (hx : a.eval x = .agg (posA p)) (hy : a.eval y = .agg (posA q)) (hp : WfP p) (he : posA p = posA q)
    (h : wpList Tryz.prog ops Q rest (a.put op.dst (.bool false)) w) : wpList Tryz.prog ops Q (op :: rest) a w :=
  wpList_want hw fun K hK => by
    have hk := hK _ _ h
    have hr := run_neq (o := op) (a := a) (w := w) x y ho p q hx hy hp he
    unfold Oper.wp
    rw [hr]
    exact hk
theorem wf_zero : WfP zeroP := WfP.zero
set_option maxRecDepth 100000 in
set_option maxHeartbeats 4000000 in
theorem back_long (p : Nat → Int) (v : Int) (l : List UInt8) (w : World) (hl : 5000 < l.length) (hM : TabMx w) (hT : TabErr w) (hC : TabCorn w) (hV : TabVar w) (hP : TabPow w) (hK : TabKn w) :
    Calls Tryz.prog 4 #[.agg (posA p), .int .u8 v, .string (bz l)] w (BoL true w) := by
  have HM := Lib.hid hM
  have HT := Lib.hid hT
  have HC := Lib.hid hC
  have HV := Lib.hid hV
  have HP := Lib.hid hP
  have HK := Lib.hid hK
  obtain ⟨x, hx⟩ : ∃ x, bz l = x := ⟨_, rfl⟩
  have hs : x.size = l.length := by rw [← hx, bz_size]
  rw [hx]
  have g : decide ((5000 : Int) < (x.size : Int)) = true := decide_eq_true (by omega)
  clear hM hT hC hV hP hK hx hs hl
  go_enter Tryz.func4, Tryz.ntmps4
  go_wp2_with (first
    | (refine step_box rfl _ rfl p rfl ?_; intro b0 w1 N R; have HB := Lib.hid N.below; clear N R)
    | (go_at_call 11; refine (fawake_any _ (HM.out.on HB.out) (HT.out.on HB.out) (HC.out.on HB.out) (HV.out.on HB.out) (HP.out.on HB.out) (HK.out.on HB.out)).mono ?_; rintro e w2 ⟨rfl, hb⟩; have HB := Lib.hid (HB.out.trans (hb.mono HB.out.size)); clear hb))
  exact bodyPost_ret (results_tmp rfl _ _ _) rfl ⟨rfl, HB.out⟩
set_option maxRecDepth 100000 in
set_option maxHeartbeats 4000000 in
theorem back_00 (p : Nat → Int) (v : Int) (l : List UInt8) (w : World) (hl : l.length ≤ 5000) (hF : FitF p) (hW : WfP p) (hz : ∀ i, 88 ≤ i → p i = 0) (hv : 0 ≤ v ∧ v ≤ 255) (hs : (fenL p).isEmpty = true) (hq : parO v l = none) (hM : TabMx w) (hT : TabErr w) (hC : TabCorn w) (hV : TabVar w) (hP : TabPow w) (hK : TabKn w) :
    Calls Tryz.prog 4 #[.agg (posA p), .int .u8 v, .string (bz l)] w (BoL true w) := by
  have HM := Lib.hid hM
  have HT := Lib.hid hT
  have HC := Lib.hid hC
  have HV := Lib.hid hV
  have HP := Lib.hid hP
  have HK := Lib.hid hK
  have HF := Lib.hid hF
  have HW := Lib.hid hW
  have HVr := Lib.hid hv
  have HO2 := Lib.hid hq
  obtain ⟨n, hn⟩ : ∃ n, parN v l = n := ⟨_, rfl⟩
  have HN := Lib.hid hn
  have hn0 : (n != 0) = true := by
    rw [← hn]; unfold parN
    cases decide (9 ≤ v)
    · cases decide (200 < l.length) <;> rfl
    · rfl
  clear hn
  obtain ⟨s, hs0⟩ : ∃ s, fenL p = s := ⟨_, rfl⟩
  have hlen : s.length ≤ 200 := by
    rw [← hs0]; unfold fenL
    cases hc : (wrB p && decide ((fenT6 p).length ≤ 200))
    · exact Nat.zero_le _
    · rw [Bool.and_eq_true, decide_eq_true_eq] at hc; exact hc.2
  rw [hs0] at hs
  have HS := Lib.hid (show bz (fenL p) = bz s by rw [hs0])
  have HX := Lib.hid (show bz s = bz s from rfl)
  obtain ⟨y, hy⟩ : ∃ y, bz s = y := ⟨_, rfl⟩
  obtain ⟨x, hx⟩ : ∃ x, bz l = x := ⟨_, rfl⟩
  have hxs : x.size = l.length := by rw [← hx, bz_size]
  have hys : y.size = s.length := by rw [← hy, bz_size]
  have hye : y.toList.isEmpty = true := by rw [← hy, bz_toList]; exact hs
  rw [hy] at HS
  have HY := Lib.hid hy
  have HXl := Lib.hid hx
  rw [hx]
  have g1 : decide ((5000 : Int) < (x.size : Int)) = false := decide_eq_false (by omega)
  have g2 : decide ((200 : Int) < (y.size : Int)) = false := decide_eq_false (by omega)
  clear hM hT hC hV hP hK hF hW hs0 hx hy hxs hys hs hlen hl hz hv HX
  go_enter Tryz.func4, Tryz.ntmps4
  go_wp2_with (first
    | (refine step_box rfl _ rfl p rfl ?_; intro b0 w1 N R; have HG0 := Lib.hid (show w.heap.size ≤ b0 from Nat.le_of_eq N.at_.symm); have HB := Lib.hid N.below; have HR := Lib.hid R; clear N R)
    | (go_at_call 11; refine (fawake_any _ (HM.out.on HB.out) (HT.out.on HB.out) (HC.out.on HB.out) (HV.out.on HB.out) (HP.out.on HB.out) (HK.out.on HB.out)).mono ?_; rintro e w2 ⟨rfl, hb⟩; have HR := Lib.hid (HR.out.later hb); have HB := Lib.hid (HB.out.trans (hb.mono HB.out.size)); clear hb)
    | (refine step_load rfl _ rfl b0 rfl p ?_ ?_; exact HR.out)
    | (go_at_call 12; refine (print_any p _ HF.out (HV.out.on HB.out) (HC.out.on HB.out) (HP.out.on HB.out)).mono ?_; rintro e w3 ⟨rfl, hb⟩; rw [HS.out]; have HR := Lib.hid (HR.out.later hb); have HB := Lib.hid (HB.out.trans (hb.mono HB.out.size)); clear hb; have hc0 : w3.cell? ⟨b0, 0, none⟩ = some (.int .u8 (p 0)) := (by rw [HR.out.cell 0 (by decide)]; rfl)))
  rw [← HXl.out]
  refine (fparse_any v l _ HVr.out (HM.out.on HB.out) (HT.out.on HB.out) (HC.out.on HB.out) (HV.out.on HB.out) (HP.out.on HB.out)).mono ?_; rintro e w7 ⟨rfl, hb⟩; rw [HO2.out, HN.out, RdO, HXl.out]; have HB := Lib.hid (HB.out.trans (hb.mono HB.out.size)); clear hb
  go_wp2_with (first
    | (refine step_alloc rfl rfl ?_; intro b2 w8 N R; have HG2 := Lib.hid (show w.heap.size ≤ b2 by rw [N.at_]; exact HB.out.size); have HR2 := Lib.hid R; have HB := Lib.hid (HB.out.trans (N.below.mono HB.out.size)); clear N R)
    | (refine step_store rfl _ _ rfl b2 rfl zeroP zeroP rfl ?_ ?_; exact HR2.out; intro w9 U R; have HR2 := Lib.hid R; have HB := Lib.hid (HB.out.trans (U.below HG2.out)); clear U R)
    | (refine step_load rfl _ rfl b2 rfl zeroP ?_ ?_; exact HR2.out)
    | (refine step_build rfl 31 _ rfl (posA zeroP) (by kernel_rfl) ?_)
    | (refine step_cmp rfl _ _ rfl zeroP zeroP rfl rfl ?_ ?_ true ?_ ?_; exact wf_zero; exact wf_zero; exact ⟨fun _ => rfl, fun _ => rfl⟩))
  exact bodyPost_ret (results_tmp rfl _ _ _) rfl ⟨by simp, HB.out⟩
set_option maxRecDepth 100000 in
set_option maxHeartbeats 4000000 in
theorem back_01 (p : Nat → Int) (v : Int) (l : List UInt8) (w : World) (hl : l.length ≤ 5000) (hF : FitF p) (hW : WfP p) (hz : ∀ i, 88 ≤ i → p i = 0) (hv : 0 ≤ v ∧ v ≤ 255) (hs : (fenL p).isEmpty = true) (q2 : Nat → Int) (hq : parO v l = some q2) (hM : TabMx w) (hT : TabErr w) (hC : TabCorn w) (hV : TabVar w) (hP : TabPow w) (hK : TabKn w) :
    Calls Tryz.prog 4 #[.agg (posA p), .int .u8 v, .string (bz l)] w (BoL true w) := by
  have HM := Lib.hid hM
  have HT := Lib.hid hT
  have HC := Lib.hid hC
  have HV := Lib.hid hV
  have HP := Lib.hid hP
  have HK := Lib.hid hK
  have HF := Lib.hid hF
  have HW := Lib.hid hW
  have HVr := Lib.hid hv
  obtain ⟨v9, l200, hall⟩ := parO_some hq
  obtain ⟨hfq, hq0⟩ := rdAll_inv hv (Nat.le_trans hl (by decide)) hall
  have htx := rdAll_text hall
  have HFq := Lib.hid hfq
  have HTx := Lib.hid htx
  have HQ0 := Lib.hid hq0
  have HO2 := Lib.hid hq
  clear v9 l200 hall hfq hq0 htx
  obtain ⟨s, hs0⟩ : ∃ s, fenL p = s := ⟨_, rfl⟩
  have hlen : s.length ≤ 200 := by
    rw [← hs0]; unfold fenL
    cases hc : (wrB p && decide ((fenT6 p).length ≤ 200))
    · exact Nat.zero_le _
    · rw [Bool.and_eq_true, decide_eq_true_eq] at hc; exact hc.2
  rw [hs0] at hs
  have HS := Lib.hid (show bz (fenL p) = bz s by rw [hs0])
  have HX := Lib.hid (show bz s = bz s from rfl)
  obtain ⟨y, hy⟩ : ∃ y, bz s = y := ⟨_, rfl⟩
  obtain ⟨x, hx⟩ : ∃ x, bz l = x := ⟨_, rfl⟩
  have hxs : x.size = l.length := by rw [← hx, bz_size]
  have hys : y.size = s.length := by rw [← hy, bz_size]
  have hye : y.toList.isEmpty = true := by rw [← hy, bz_toList]; exact hs
  rw [hy] at HS
  have HY := Lib.hid hy
  have HXl := Lib.hid hx
  rw [hx]
  have g1 : decide ((5000 : Int) < (x.size : Int)) = false := decide_eq_false (by omega)
  have g2 : decide ((200 : Int) < (y.size : Int)) = false := decide_eq_false (by omega)
  clear hM hT hC hV hP hK hF hW hs0 hx hy hxs hys hs hlen hl hz hv HX
  go_enter Tryz.func4, Tryz.ntmps4
  go_wp2_with (first
    | (refine step_box rfl _ rfl p rfl ?_; intro b0 w1 N R; have HG0 := Lib.hid (show w.heap.size ≤ b0 from Nat.le_of_eq N.at_.symm); have HB := Lib.hid N.below; have HR := Lib.hid R; clear N R)
    | (go_at_call 11; refine (fawake_any _ (HM.out.on HB.out) (HT.out.on HB.out) (HC.out.on HB.out) (HV.out.on HB.out) (HP.out.on HB.out) (HK.out.on HB.out)).mono ?_; rintro e w2 ⟨rfl, hb⟩; have HR := Lib.hid (HR.out.later hb); have HB := Lib.hid (HB.out.trans (hb.mono HB.out.size)); clear hb)
    | (refine step_load rfl _ rfl b0 rfl p ?_ ?_; exact HR.out)
    | (go_at_call 12; refine (print_any p _ HF.out (HV.out.on HB.out) (HC.out.on HB.out) (HP.out.on HB.out)).mono ?_; rintro e w3 ⟨rfl, hb⟩; rw [HS.out]; have HR := Lib.hid (HR.out.later hb); have HB := Lib.hid (HB.out.trans (hb.mono HB.out.size)); clear hb; have hc0 : w3.cell? ⟨b0, 0, none⟩ = some (.int .u8 (p 0)) := (by rw [HR.out.cell 0 (by decide)]; rfl)))
  rw [← HXl.out]
  refine (fparse_any v l _ HVr.out (HM.out.on HB.out) (HT.out.on HB.out) (HC.out.on HB.out) (HV.out.on HB.out) (HP.out.on HB.out)).mono ?_; rintro e w7 ⟨rfl, hb⟩; rw [HO2.out, RdO, HXl.out]; have HB := Lib.hid (HB.out.trans (hb.mono HB.out.size)); clear hb
  go_wp2_with (first
    | (refine step_alloc rfl rfl ?_; intro b2 w8 N R; have HG2 := Lib.hid (show w.heap.size ≤ b2 by rw [N.at_]; exact HB.out.size); have HR2 := Lib.hid R; have HB := Lib.hid (HB.out.trans (N.below.mono HB.out.size)); clear N R)
    | (refine step_store rfl _ _ rfl b2 rfl zeroP q2 rfl ?_ ?_; exact HR2.out; intro w9 U R; have HR2 := Lib.hid R; have HB := Lib.hid (HB.out.trans (U.below HG2.out)); have hc0 : w9.cell? ⟨b2, 0, none⟩ = some (.int .u8 v) := (by rw [HR2.out.cell 0 (by decide), HQ0.out]; rfl); clear U R)
    | (refine step_load rfl _ rfl b2 rfl q2 ?_ ?_; exact HR2.out)
    | (go_at_call 12; refine (print_any q2 _ HFq.out (HV.out.on HB.out) (HC.out.on HB.out) (HP.out.on HB.out)).mono ?_; rintro e w10 ⟨rfl, hb⟩; rw [HTx.out, HXl.out]; have HB := Lib.hid (HB.out.trans (hb.mono HB.out.size)); clear hb))
  exact bodyPost_ret (results_tmp rfl _ _ _) rfl ⟨by simp, HB.out⟩
set_option maxRecDepth 100000 in
set_option maxHeartbeats 4000000 in
theorem back_10 (p : Nat → Int) (v : Int) (l : List UInt8) (w : World) (hl : l.length ≤ 5000) (hF : FitF p) (hW : WfP p) (hz : ∀ i, 88 ≤ i → p i = 0) (hv : 0 ≤ v ∧ v ≤ 255) (hs : (fenL p).isEmpty = false) (hq : parO v l = none) (hM : TabMx w) (hT : TabErr w) (hC : TabCorn w) (hV : TabVar w) (hP : TabPow w) (hK : TabKn w) :
    Calls Tryz.prog 4 #[.agg (posA p), .int .u8 v, .string (bz l)] w (BoL true w) := by
  have HM := Lib.hid hM
  have HT := Lib.hid hT
  have HC := Lib.hid hC
  have HV := Lib.hid hV
  have HP := Lib.hid hP
  have HK := Lib.hid hK
  have HF := Lib.hid hF
  have HW := Lib.hid hW
  have HVr := Lib.hid hv
  have HO1 := Lib.hid (parO_back hF hz (fun e => by rw [e] at hs; cases hs))
  have HO2 := Lib.hid hq
  obtain ⟨n, hn⟩ : ∃ n, parN v l = n := ⟨_, rfl⟩
  have HN := Lib.hid hn
  have hn0 : (n != 0) = true := by
    rw [← hn]; unfold parN
    cases decide (9 ≤ v)
    · cases decide (200 < l.length) <;> rfl
    · rfl
  clear hn
  obtain ⟨s, hs0⟩ : ∃ s, fenL p = s := ⟨_, rfl⟩
  have hlen : s.length ≤ 200 := by
    rw [← hs0]; unfold fenL
    cases hc : (wrB p && decide ((fenT6 p).length ≤ 200))
    · exact Nat.zero_le _
    · rw [Bool.and_eq_true, decide_eq_true_eq] at hc; exact hc.2
  rw [hs0] at hs HO1
  have HS := Lib.hid (show bz (fenL p) = bz s by rw [hs0])
  have HX := Lib.hid (show bz s = bz s from rfl)
  obtain ⟨y, hy⟩ : ∃ y, bz s = y := ⟨_, rfl⟩
  obtain ⟨x, hx⟩ : ∃ x, bz l = x := ⟨_, rfl⟩
  have hxs : x.size = l.length := by rw [← hx, bz_size]
  have hys : y.size = s.length := by rw [← hy, bz_size]
  have hye : y.toList.isEmpty = false := by rw [← hy, bz_toList]; exact hs
  rw [hy] at HS
  have HY := Lib.hid hy
  have HXl := Lib.hid hx
  rw [hx]
  have g1 : decide ((5000 : Int) < (x.size : Int)) = false := decide_eq_false (by omega)
  have g2 : decide ((200 : Int) < (y.size : Int)) = false := decide_eq_false (by omega)
  clear hM hT hC hV hP hK hF hW hs0 hx hy hxs hys hs hlen hl hz hv HX
  go_enter Tryz.func4, Tryz.ntmps4
  go_wp2_with (first
    | (refine step_box rfl _ rfl p rfl ?_; intro b0 w1 N R; have HG0 := Lib.hid (show w.heap.size ≤ b0 from Nat.le_of_eq N.at_.symm); have HB := Lib.hid N.below; have HR := Lib.hid R; clear N R)
    | (go_at_call 11; refine (fawake_any _ (HM.out.on HB.out) (HT.out.on HB.out) (HC.out.on HB.out) (HV.out.on HB.out) (HP.out.on HB.out) (HK.out.on HB.out)).mono ?_; rintro e w2 ⟨rfl, hb⟩; have HR := Lib.hid (HR.out.later hb); have HB := Lib.hid (HB.out.trans (hb.mono HB.out.size)); clear hb)
    | (refine step_load rfl _ rfl b0 rfl p ?_ ?_; exact HR.out)
    | (go_at_call 12; refine (print_any p _ HF.out (HV.out.on HB.out) (HC.out.on HB.out) (HP.out.on HB.out)).mono ?_; rintro e w3 ⟨rfl, hb⟩; rw [HS.out]; have HR := Lib.hid (HR.out.later hb); have HB := Lib.hid (HB.out.trans (hb.mono HB.out.size)); clear hb; have hc0 : w3.cell? ⟨b0, 0, none⟩ = some (.int .u8 (p 0)) := (by rw [HR.out.cell 0 (by decide)]; rfl)))
  rw [← HY.out]
  refine (fparse_any (p 0) s _ HF.out.var (HM.out.on HB.out) (HT.out.on HB.out) (HC.out.on HB.out) (HV.out.on HB.out) (HP.out.on HB.out)).mono ?_; rintro e w4 ⟨rfl, hb⟩; rw [HO1.out, RdO, HY.out]; have HR := Lib.hid (HR.out.later hb); have HB := Lib.hid (HB.out.trans (hb.mono HB.out.size)); clear hb
  have HL0 := Lib.hid HR.out.lt
  go_wp2_with (first
    | (refine step_alloc rfl rfl ?_; intro b1 w5 N R; have HG1 := Lib.hid (show w.heap.size ≤ b1 by rw [N.at_]; exact HB.out.size); have HD1 := Lib.hid (show b0 ≠ b1 by rw [N.at_]; exact Nat.ne_of_lt HL0.out); have HR := Lib.hid (HR.out.later N.below); have HR1 := Lib.hid R; have HB := Lib.hid (HB.out.trans (N.below.mono HB.out.size)); clear N R)
    | (refine step_store rfl _ _ rfl b1 rfl zeroP p rfl ?_ ?_; exact HR1.out; intro w6 U R; have HR1 := Lib.hid R; have HR := Lib.hid (HR.out.apart U HD1.out); have HB := Lib.hid (HB.out.trans (U.below HG1.out)); clear U R)
    | (refine step_load rfl _ rfl b1 rfl p ?_ ?_; exact HR1.out)
    | (refine step_load rfl _ rfl b0 rfl p ?_ ?_; exact HR.out)
    | (refine step_cmpn rfl _ _ rfl p p rfl rfl ?_ ?_ ?_; exact HW.out; rfl))
  rw [← HXl.out]
  refine (fparse_any v l _ HVr.out (HM.out.on HB.out) (HT.out.on HB.out) (HC.out.on HB.out) (HV.out.on HB.out) (HP.out.on HB.out)).mono ?_; rintro e w7 ⟨rfl, hb⟩; rw [HO2.out, HN.out, RdO, HXl.out]; have HB := Lib.hid (HB.out.trans (hb.mono HB.out.size)); clear hb
  go_wp2_with (first
    | (refine step_alloc rfl rfl ?_; intro b2 w8 N R; have HG2 := Lib.hid (show w.heap.size ≤ b2 by rw [N.at_]; exact HB.out.size); have HR2 := Lib.hid R; have HB := Lib.hid (HB.out.trans (N.below.mono HB.out.size)); clear N R)
    | (refine step_store rfl _ _ rfl b2 rfl zeroP zeroP rfl ?_ ?_; exact HR2.out; intro w9 U R; have HR2 := Lib.hid R; have HB := Lib.hid (HB.out.trans (U.below HG2.out)); clear U R)
    | (refine step_load rfl _ rfl b2 rfl zeroP ?_ ?_; exact HR2.out)
    | (refine step_build rfl 31 _ rfl (posA zeroP) (by kernel_rfl) ?_)
    | (refine step_cmp rfl _ _ rfl zeroP zeroP rfl rfl ?_ ?_ true ?_ ?_; exact wf_zero; exact wf_zero; exact ⟨fun _ => rfl, fun _ => rfl⟩))
  exact bodyPost_ret (results_tmp rfl _ _ _) rfl ⟨by simp, HB.out⟩
set_option maxRecDepth 100000 in
set_option maxHeartbeats 4000000 in
theorem back_11 (p : Nat → Int) (v : Int) (l : List UInt8) (w : World) (hl : l.length ≤ 5000) (hF : FitF p) (hW : WfP p) (hz : ∀ i, 88 ≤ i → p i = 0) (hv : 0 ≤ v ∧ v ≤ 255) (hs : (fenL p).isEmpty = false) (q2 : Nat → Int) (hq : parO v l = some q2) (hM : TabMx w) (hT : TabErr w) (hC : TabCorn w) (hV : TabVar w) (hP : TabPow w) (hK : TabKn w) :
    Calls Tryz.prog 4 #[.agg (posA p), .int .u8 v, .string (bz l)] w (BoL true w) := by
  have HM := Lib.hid hM
  have HT := Lib.hid hT
  have HC := Lib.hid hC
  have HV := Lib.hid hV
  have HP := Lib.hid hP
  have HK := Lib.hid hK
  have HF := Lib.hid hF
  have HW := Lib.hid hW
  have HVr := Lib.hid hv
  have HO1 := Lib.hid (parO_back hF hz (fun e => by rw [e] at hs; cases hs))
  obtain ⟨v9, l200, hall⟩ := parO_some hq
  obtain ⟨hfq, hq0⟩ := rdAll_inv hv (Nat.le_trans hl (by decide)) hall
  have htx := rdAll_text hall
  have HFq := Lib.hid hfq
  have HTx := Lib.hid htx
  have HQ0 := Lib.hid hq0
  have HO2 := Lib.hid hq
  clear v9 l200 hall hfq hq0 htx
  obtain ⟨s, hs0⟩ : ∃ s, fenL p = s := ⟨_, rfl⟩
  have hlen : s.length ≤ 200 := by
    rw [← hs0]; unfold fenL
    cases hc : (wrB p && decide ((fenT6 p).length ≤ 200))
    · exact Nat.zero_le _
    · rw [Bool.and_eq_true, decide_eq_true_eq] at hc; exact hc.2
  rw [hs0] at hs HO1
  have HS := Lib.hid (show bz (fenL p) = bz s by rw [hs0])
  have HX := Lib.hid (show bz s = bz s from rfl)
  obtain ⟨y, hy⟩ : ∃ y, bz s = y := ⟨_, rfl⟩
  obtain ⟨x, hx⟩ : ∃ x, bz l = x := ⟨_, rfl⟩
  have hxs : x.size = l.length := by rw [← hx, bz_size]
  have hys : y.size = s.length := by rw [← hy, bz_size]
  have hye : y.toList.isEmpty = false := by rw [← hy, bz_toList]; exact hs
  rw [hy] at HS
  have HY := Lib.hid hy
  have HXl := Lib.hid hx
  rw [hx]
  have g1 : decide ((5000 : Int) < (x.size : Int)) = false := decide_eq_false (by omega)
  have g2 : decide ((200 : Int) < (y.size : Int)) = false := decide_eq_false (by omega)
  clear hM hT hC hV hP hK hF hW hs0 hx hy hxs hys hs hlen hl hz hv HX
  go_enter Tryz.func4, Tryz.ntmps4
  go_wp2_with (first
    | (refine step_box rfl _ rfl p rfl ?_; intro b0 w1 N R; have HG0 := Lib.hid (show w.heap.size ≤ b0 from Nat.le_of_eq N.at_.symm); have HB := Lib.hid N.below; have HR := Lib.hid R; clear N R)
    | (go_at_call 11; refine (fawake_any _ (HM.out.on HB.out) (HT.out.on HB.out) (HC.out.on HB.out) (HV.out.on HB.out) (HP.out.on HB.out) (HK.out.on HB.out)).mono ?_; rintro e w2 ⟨rfl, hb⟩; have HR := Lib.hid (HR.out.later hb); have HB := Lib.hid (HB.out.trans (hb.mono HB.out.size)); clear hb)
    | (refine step_load rfl _ rfl b0 rfl p ?_ ?_; exact HR.out)
    | (go_at_call 12; refine (print_any p _ HF.out (HV.out.on HB.out) (HC.out.on HB.out) (HP.out.on HB.out)).mono ?_; rintro e w3 ⟨rfl, hb⟩; rw [HS.out]; have HR := Lib.hid (HR.out.later hb); have HB := Lib.hid (HB.out.trans (hb.mono HB.out.size)); clear hb; have hc0 : w3.cell? ⟨b0, 0, none⟩ = some (.int .u8 (p 0)) := (by rw [HR.out.cell 0 (by decide)]; rfl)))
  rw [← HY.out]
  refine (fparse_any (p 0) s _ HF.out.var (HM.out.on HB.out) (HT.out.on HB.out) (HC.out.on HB.out) (HV.out.on HB.out) (HP.out.on HB.out)).mono ?_; rintro e w4 ⟨rfl, hb⟩; rw [HO1.out, RdO, HY.out]; have HR := Lib.hid (HR.out.later hb); have HB := Lib.hid (HB.out.trans (hb.mono HB.out.size)); clear hb
  have HL0 := Lib.hid HR.out.lt
  go_wp2_with (first
    | (refine step_alloc rfl rfl ?_; intro b1 w5 N R; have HG1 := Lib.hid (show w.heap.size ≤ b1 by rw [N.at_]; exact HB.out.size); have HD1 := Lib.hid (show b0 ≠ b1 by rw [N.at_]; exact Nat.ne_of_lt HL0.out); have HR := Lib.hid (HR.out.later N.below); have HR1 := Lib.hid R; have HB := Lib.hid (HB.out.trans (N.below.mono HB.out.size)); clear N R)
    | (refine step_store rfl _ _ rfl b1 rfl zeroP p rfl ?_ ?_; exact HR1.out; intro w6 U R; have HR1 := Lib.hid R; have HR := Lib.hid (HR.out.apart U HD1.out); have HB := Lib.hid (HB.out.trans (U.below HG1.out)); clear U R)
    | (refine step_load rfl _ rfl b1 rfl p ?_ ?_; exact HR1.out)
    | (refine step_load rfl _ rfl b0 rfl p ?_ ?_; exact HR.out)
    | (refine step_cmpn rfl _ _ rfl p p rfl rfl ?_ ?_ ?_; exact HW.out; rfl))
  rw [← HXl.out]
  refine (fparse_any v l _ HVr.out (HM.out.on HB.out) (HT.out.on HB.out) (HC.out.on HB.out) (HV.out.on HB.out) (HP.out.on HB.out)).mono ?_; rintro e w7 ⟨rfl, hb⟩; rw [HO2.out, RdO, HXl.out]; have HB := Lib.hid (HB.out.trans (hb.mono HB.out.size)); clear hb
  go_wp2_with (first
    | (refine step_alloc rfl rfl ?_; intro b2 w8 N R; have HG2 := Lib.hid (show w.heap.size ≤ b2 by rw [N.at_]; exact HB.out.size); have HR2 := Lib.hid R; have HB := Lib.hid (HB.out.trans (N.below.mono HB.out.size)); clear N R)
    | (refine step_store rfl _ _ rfl b2 rfl zeroP q2 rfl ?_ ?_; exact HR2.out; intro w9 U R; have HR2 := Lib.hid R; have HB := Lib.hid (HB.out.trans (U.below HG2.out)); have hc0 : w9.cell? ⟨b2, 0, none⟩ = some (.int .u8 v) := (by rw [HR2.out.cell 0 (by decide), HQ0.out]; rfl); clear U R)
    | (refine step_load rfl _ rfl b2 rfl q2 ?_ ?_; exact HR2.out)
    | (go_at_call 12; refine (print_any q2 _ HFq.out (HV.out.on HB.out) (HC.out.on HB.out) (HP.out.on HB.out)).mono ?_; rintro e w10 ⟨rfl, hb⟩; rw [HTx.out, HXl.out]; have HB := Lib.hid (HB.out.trans (hb.mono HB.out.size)); clear hb))
  exact bodyPost_ret (results_tmp rfl _ _ _) rfl ⟨by simp, HB.out⟩
theorem walk (p0 : Nat → Int) (v : Int) (t : ByteArray) (hw : WfP p0) (hv : (Lit.int .u8 v).wf = true) (_ht : t.size ≤ maxLen) (w : World) (hP : TabPow w) (hEr : TabErrR w) (hEs : TabErrS w) (hV : TabVar w) (hK : TabKn w) (hC : TabCorn w) (hM : TabMx w) :
    Calls Tryz.prog 4 #[.agg (posA p0), .int .u8 v, .string t] w fun e w' => e = .returned (.bool true) ∧ Below w.heap.size w w' := by
  have hT : TabErr w := ⟨hEs, hEr⟩
  rw [← posA_cut p0, ← bz_of t]
  have hF := (FitF.of hw).cut
  have hW : WfP (cutP p0) := fun i hi => by rw [cutP_at hi]; exact hw i hi
  have hz : ∀ i, 88 ≤ i → cutP p0 i = 0 := fun i hi => cutP_far i hi
  have hv := u8_rng hv
  generalize cutP p0 = p at hF hW hz ⊢
  generalize t.data.toList = l
  by_cases hl : 5000 < l.length
  · exact back_long p v l w hl hM hT hC hV hP hK
  · have hl : l.length ≤ 5000 := by omega
    cases hq : parO v l with
    | none =>
      cases hs : (fenL p).isEmpty
      · exact back_10 p v l w hl hF hW hz hv hs hq hM hT hC hV hP hK
      · exact back_00 p v l w hl hF hW hz hv hs hq hM hT hC hV hP hK
    | some q =>
      cases hs : (fenL p).isEmpty
      · exact back_11 p v l w hl hF hW hz hv hs q hq hM hT hC hV hP hK
      · exact back_01 p v l w hl hF hW hz hv hs q hq hM hT hC hV hP hK
end Go.Proofs.YtkcflknjnefhbaaGreatDoor.fenBack
