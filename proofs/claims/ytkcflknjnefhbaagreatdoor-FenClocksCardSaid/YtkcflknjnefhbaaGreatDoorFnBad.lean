/-
  FenBad's walk (layer 10), begun: a position that can't be written. Still to do: one that can (four ways more; each Parse wants a go_wp2_with of its own, for an arm of another text runs away).
-/
import Derived.Test.YtkcflknjnefhbaaGreatDoorFnBadM
import Derived.Test.YtkcflknjnefhbaaGreatDoorFnAw
namespace Go.Proofs.YtkcflknjnefhbaaGreatDoor
open Go.RowKit
set_option linter.unusedVariables false
set_option linter.unusedSimpArgs false

def pqO : Option (Nat → Int) → Nat → Int
  | some q => q
  | none => zeroP
def pnO (n : Int) : Option (Nat → Int) → Int
  | some _ => 0
  | none => n
theorem RdO_eq (n : Int) (o : Option (Nat → Int)) : RdO n o = #[.agg (posA (pqO o)), .int .i64 (pnO n o)] := by cases o <;> rfl
set_option maxRecDepth 100000 in
set_option maxHeartbeats 4000000 in
/-- A position that can't be written. -/
theorem bad_none (p : Nat → Int) (v b : Int) (hv : 0 ≤ v ∧ v ≤ 255) (hb : 0 ≤ b ∧ b ≤ 255) (w : World) (hF : FitF p) (hM : TabMx w) (hT : TabErr w) (hC : TabCorn w) (hV : TabVar w) (hP : TabPow w) (hK : TabKn w) (he : (fenL p).isEmpty = true) :
    Calls Tryz.prog 8 #[.agg (posA p), .int .u8 v, .int .u8 b] w (BoL true w) := by
  have HF := Lib.hid hF
  have HM := Lib.hid hM
  have HT := Lib.hid hT
  have HC := Lib.hid hC
  have HV := Lib.hid hV
  have HP := Lib.hid hP
  have HK := Lib.hid hK
  have HVr := Lib.hid hv
  obtain ⟨s, hs⟩ : ∃ s, fenL p = s := ⟨_, rfl⟩
  rw [hs] at he
  have HS := Lib.hid hs
  obtain ⟨q1, hq1⟩ : ∃ q, pqO (parO v s) = q := ⟨_, rfl⟩
  obtain ⟨n1, hn1⟩ : ∃ n, pnO (parN v s) (parO v s) = n := ⟨_, rfl⟩
  have HR1 := Lib.hid (show RdO (parN v s) (parO v s) = #[.agg (posA q1), .int .i64 n1] by rw [RdO_eq, hq1, hn1])
  have h92 : 9 ≤ v → n1 = 2 := fun h => by
    rw [← hn1]; unfold parO parN; rw [decide_eq_true h]; rfl
  clear hF hM hT hC hV hP hK hs hq1 hn1
  obtain ⟨v0, v1⟩ := hv
  have hz : (bz s).toList.isEmpty = true := by rw [bz_toList]; exact he
  by_cases h9 : 9 ≤ v
  · obtain rfl := h92 h9
    clear h92 he
    go_enter Tryz.func8, Tryz.ntmps8
    go_wp2_with (first
      | (refine step_box rfl _ rfl p rfl ?_; intro b0 w1 N R; have HG0 := Lib.hid (Nat.le_of_eq N.at_.symm); have HB := Lib.hid N.below; have HR := Lib.hid R; clear N R)
      | (go_at_call 11; refine (fawake_any _ (HM.out.on HB.out) (HT.out.on HB.out) (HC.out.on HB.out) (HV.out.on HB.out) (HP.out.on HB.out) (HK.out.on HB.out)).mono ?_; rintro e w2 ⟨rfl, hb⟩; have HR := Lib.hid (HR.out.later hb); have HB := Lib.hid (HB.out.trans (hb.mono HB.out.size)); clear hb)
      | (refine step_load rfl _ rfl b0 rfl p ?_ ?_; exact HR.out)
      | (go_at_call 12; refine (print_any p _ HF.out (HV.out.on HB.out) (HC.out.on HB.out) (HP.out.on HB.out)).mono ?_; rintro e w3 ⟨rfl, hb⟩; rw [HS.out]; have HR := Lib.hid (HR.out.later hb); have HB := Lib.hid (HB.out.trans (hb.mono HB.out.size)); clear hb)
      | (go_at_call 9; refine (fparse_any v s _ HVr.out (HM.out.on HB.out) (HT.out.on HB.out) (HC.out.on HB.out) (HV.out.on HB.out) (HP.out.on HB.out)).mono ?_; rintro e w4 ⟨rfl, hb⟩; rw [HR1.out]; have HR := Lib.hid (HR.out.later hb); have HB := Lib.hid (HB.out.trans (hb.mono HB.out.size)); clear hb)
      | (refine step_alloc rfl rfl ?_; intro b1 w5 N R; have HG1 := Lib.hid (show w.heap.size ≤ b1 by rw [N.at_]; exact HB.out.size); have HR := Lib.hid (HR.out.later N.below); have HR1 := Lib.hid R; have HB := Lib.hid (HB.out.trans (N.below.mono HB.out.size)); clear N R)
      | (refine step_store rfl _ _ rfl b1 rfl zeroP q1 rfl ?_ ?_; exact HR1.out; intro w6 U R; have HB := Lib.hid (HB.out.trans (U.below HG1.out)); clear U R))
    exact bodyPost_ret (results_tmp rfl _ _ _) rfl ⟨rfl, HB.out⟩
  · have g9 : v < 9 := by omega
    clear h92 he h9
    go_enter Tryz.func8, Tryz.ntmps8
    go_wp2_with (first
      | (refine step_box rfl _ rfl p rfl ?_; intro b0 w1 N R; have HG0 := Lib.hid (Nat.le_of_eq N.at_.symm); have HB := Lib.hid N.below; have HR := Lib.hid R; clear N R)
      | (go_at_call 11; refine (fawake_any _ (HM.out.on HB.out) (HT.out.on HB.out) (HC.out.on HB.out) (HV.out.on HB.out) (HP.out.on HB.out) (HK.out.on HB.out)).mono ?_; rintro e w2 ⟨rfl, hb⟩; have HR := Lib.hid (HR.out.later hb); have HB := Lib.hid (HB.out.trans (hb.mono HB.out.size)); clear hb)
      | (refine step_load rfl _ rfl b0 rfl p ?_ ?_; exact HR.out)
      | (go_at_call 12; refine (print_any p _ HF.out (HV.out.on HB.out) (HC.out.on HB.out) (HP.out.on HB.out)).mono ?_; rintro e w3 ⟨rfl, hb⟩; rw [HS.out]; have HR := Lib.hid (HR.out.later hb); have HB := Lib.hid (HB.out.trans (hb.mono HB.out.size)); clear hb)
      | (go_at_call 9; refine (fparse_any v s _ HVr.out (HM.out.on HB.out) (HT.out.on HB.out) (HC.out.on HB.out) (HV.out.on HB.out) (HP.out.on HB.out)).mono ?_; rintro e w4 ⟨rfl, hb⟩; rw [HR1.out]; have HR := Lib.hid (HR.out.later hb); have HB := Lib.hid (HB.out.trans (hb.mono HB.out.size)); clear hb)
      | (refine step_alloc rfl rfl ?_; intro b1 w5 N R; have HG1 := Lib.hid (show w.heap.size ≤ b1 by rw [N.at_]; exact HB.out.size); have HR := Lib.hid (HR.out.later N.below); have HR1 := Lib.hid R; have HB := Lib.hid (HB.out.trans (N.below.mono HB.out.size)); clear N R)
      | (refine step_store rfl _ _ rfl b1 rfl zeroP q1 rfl ?_ ?_; exact HR1.out; intro w6 U R; have HB := Lib.hid (HB.out.trans (U.below HG1.out)); clear U R))
    exact bodyPost_ret (results_tmp rfl _ _ _) rfl ⟨rfl, HB.out⟩
end Go.Proofs.YtkcflknjnefhbaaGreatDoor
