/-
  The walk of MovesParse.
-/
import Derived.Test.YtnogmogmlilpiaaDoorMvU
import Derived.Test.YtnogmogmlilpiaaDoorMvEq
import Derived.Test.YtnogmogmlilpiaaDoorMvLaid
import Derived.WalkKit
import Derived.OpenShut
namespace Go.Proofs.YtnogmogmlilpiaaDoor.movesParse
open Go.RowKit
set_option linter.unusedVariables false
set_option linter.unusedSimpArgs false
set_option maxRecDepth 100000 in
set_option maxHeartbeats 1000000 in
theorem par_long (p : Nat → Int) (l : List UInt8) (w : World) (hp : FitM p) (hG : TabGo w) (hM : TabMv w) (hl : 5000 < l.length) : Calls Tryd.prog 3 #[.agg (posA p), .string (bz l)] w (BoL true w) := by
  have HG := Lib.hid hG
  have HMx := Lib.hid hM
  have HB := Lib.hid (Below.refl w.heap.size w)
  have HFp := Lib.hid hp
  have HOnce := Lib.hid trivial
  obtain ⟨t, ht⟩ : ∃ t, bz l = t := ⟨_, rfl⟩
  have HT := Lib.hid ht
  have hts : t.size = l.length := by rw [← ht, bz_size]
  have g0 : decide ((5000 : Int) < (t.size : Int)) = true := decide_eq_true (by omega)
  rw [ht]
  clear hG hM hp ht hts hl
  go_enter Tryd.func3, Tryd.ntmps3
  go_wp2_with (first
      | (refine step_box rfl _ rfl p rfl ?_; intro b0 w1 N R; have HB := Lib.hid (HB.out.trans (N.below.mono HB.out.size)); have HR := Lib.hid R; clear N R))
  exact bodyPost_ret (results_tmp rfl _ _ _) rfl ⟨rfl, HB.out⟩
set_option maxRecDepth 100000 in
set_option maxHeartbeats 1000000 in
theorem par_all (p : Nat → Int) (l : List UInt8) (w : World) (hp : FitM p) (hG : TabGo w) (hM : TabMv w) (hl : l.length ≤ 5000) : Calls Tryd.prog 3 #[.agg (posA p), .string (bz l)] w (BoL true w) := by
  have HG := Lib.hid hG
  have HMx := Lib.hid hM
  have HB := Lib.hid (Below.refl w.heap.size w)
  have HFp := Lib.hid hp
  have HOnce := Lib.hid trivial
  obtain ⟨t, ht⟩ : ∃ t, bz l = t := ⟨_, rfl⟩
  have HT := Lib.hid ht
  have hts : t.size = l.length := by rw [← ht, bz_size]
  have g0 : decide ((5000 : Int) < (t.size : Int)) = false := decide_eq_false (by omega)
  have HL := Lib.hid (show l.length ≤ 10000 by omega)
  obtain ⟨v, hv⟩ : ∃ v, pmO (mvP p l) = v := ⟨_, rfl⟩
  obtain ⟨n, hn⟩ : ∃ n, enO p (mvP p l) = n := ⟨_, rfl⟩
  have HFv := Lib.hid (show FitV v by
    rw [← hv]
    cases h : mvP p l with
    | none => exact ⟨⟨by show (-128 : Int) ≤ 0; decide, by show (0 : Int) ≤ 127; decide⟩, ⟨by show (-128 : Int) ≤ 0; decide, by show (0 : Int) ≤ 127; decide⟩, ⟨by show (0 : Int) ≤ 0; decide, by show (0 : Int) ≤ 255; decide⟩, ⟨by show (0 : Int) ≤ 0; decide, by show (0 : Int) ≤ 255; decide⟩⟩
    | some m => exact mvP_fit hp h)
  have HP := Lib.hid hv
  have HE := Lib.hid hn
  have wn : IntKind.i64.wrap n = n := IntWalk.i64_in n (by
    rw [← hn]
    cases h : mvP p l with
    | none =>
      show -9223372036854775808 ≤ (bif smB p then (5 : Int) else 2) ∧ (bif smB p then (5 : Int) else 2) ≤ 9223372036854775807
      cases smB p
      · exact ⟨by decide, by decide⟩
      · exact ⟨by decide, by decide⟩
    | some m => exact ⟨by show (-9223372036854775808 : Int) ≤ 0; decide, by show (0 : Int) ≤ 9223372036854775807; decide⟩)
  rw [ht]
  clear hG hM hp ht hts hl hv hn
  go_enter Tryd.func3, Tryd.ntmps3
  go_wp2_with (first
      | (refine step_box rfl _ rfl p rfl ?_; intro b0 w1 N R; have HB := Lib.hid (HB.out.trans (N.below.mono HB.out.size)); have HR := Lib.hid R; clear N R)
      | (refine step_load rfl _ rfl b0 rfl p ?_ ?_; exact HR.out)
      | (go_at_call 4; rw [← HT.out]; refine (mvParse_any p l _ HL.out HFp.out (HG.out.on HB.out) (HMx.out.on HB.out)).mono ?_; rintro e w5 ⟨rfl, hb⟩; rw [HP.out, HE.out, HT.out]; have HR := Lib.hid (HR.out.later hb); have HB := Lib.hid (below_on HB.out hb); clear hb)
      | (go_at_call 5; rw [← HT.out]; refine (rParse_any p l _ HFp.out).mono ?_; rintro e w5 ⟨rfl, hb⟩; rw [HP.out, HE.out, HT.out]; have HR := Lib.hid (HR.out.later hb); have HQ := Lib.hid (HQ.out.later hb); have HB := Lib.hid (below_on HB.out hb); clear hb)
      | (clear HOnce; refine blk_alloc rfl 33 rfl (mvA mv0) zeroMv ?_; intro b5 w6 N R; have HGb5 := Lib.hid (show w.heap.size ≤ b5 by rw [N.at_]; exact HB.out.size); have HDHRb5 := Lib.hid (show b0 ≠ b5 by rw [N.at_]; exact Nat.ne_of_lt HR.out.lt); have HR := Lib.hid (HR.out.later N.below); have HB := Lib.hid (HB.out.trans (N.below.mono HB.out.size)); have HQ := Lib.hid R; clear N R)
      | (refine blk_alloc rfl 33 rfl (mvA mv0) zeroMv ?_; intro b7 w6 N R; have HGb7 := Lib.hid (show w.heap.size ≤ b7 by rw [N.at_]; exact HB.out.size); have HDHRb7 := Lib.hid (show b0 ≠ b7 by rw [N.at_]; exact Nat.ne_of_lt HR.out.lt); have HR := Lib.hid (HR.out.later N.below); have HDHQb7 := Lib.hid (show b5 ≠ b7 by rw [N.at_]; exact Nat.ne_of_lt HQ.out.lt); have HQ := Lib.hid (HQ.out.later N.below); have HB := Lib.hid (HB.out.trans (N.below.mono HB.out.size)); have HV := Lib.hid R; clear N R)
      | (refine blk_store rfl 33 _ _ rfl b5 rfl (mvA mv0) (mvA v) rfl ?_ rfl (mv_one _) sizeMv ?_; exact HQ.out; intro w7 U R; have HR := Lib.hid (HR.out.apart U HDHRb5.out); have HB := Lib.hid (HB.out.trans (U.below HGb5.out)); have HQ := Lib.hid R; clear U R)
      | (refine blk_store rfl 33 _ _ rfl b7 rfl (mvA mv0) (mvA v) rfl ?_ rfl (mv_one _) sizeMv ?_; exact HV.out; intro w7 U R; have HR := Lib.hid (HR.out.apart U HDHRb7.out); have HQ := Lib.hid (HQ.out.apart U HDHQb7.out); have HB := Lib.hid (HB.out.trans (U.below HGb7.out)); have HV := Lib.hid R; clear U R)
      | (refine blk_load rfl 33 _ rfl b5 rfl (mvA v) ?_ _ Tryd.underlying33 rfl sizeMv ?_; exact HQ.out)
      | (refine blk_load rfl 33 _ rfl b7 rfl (mvA v) ?_ _ Tryd.underlying33 rfl sizeMv ?_; exact HV.out)
      | (refine step_mv rfl _ _ rfl v v rfl rfl HFv.out HFv.out true (mvE_true.2 rfl) ?_))
  exact bodyPost_ret (results_tmp rfl _ _ _) rfl ⟨by simp, HB.out⟩
theorem walk (p : Nat → Int) (t : ByteArray) (hw : WfP p) (_ht : t.size ≤ maxLen) (w : World) (hG : TabGo w) (hM : TabMv w) :
    Calls Tryd.prog 3 #[.agg (posA p), .string t] w fun e w' => e = .returned (.bool true) ∧ Below w.heap.size w w' := by
  rw [← bz_of t]
  generalize t.data.toList = l
  by_cases hl : l.length ≤ 5000
  · exact par_all p l w (FitM.of hw) hG hM hl
  · exact par_long p l w (FitM.of hw) hG hM (by omega)
end Go.Proofs.YtnogmogmlilpiaaDoor.movesParse
