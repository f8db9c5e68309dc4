/-
  The walk of ValidFirst.
-/
import Derived.Test.YtomelpgfccainaaGreatDoorVaI
import Derived.Test.YtomelpgfccainaaGreatDoorVaJ
import Derived.IntWalk
import Derived.WalkKit
import Derived.OpenShut
namespace Go.Proofs.YtomelpgfccainaaGreatDoor.validFirst
open Go.RowKit
set_option linter.unusedVariables false
set_option linter.unusedSimpArgs false
theorem num_of (a : Int) : ∃ n : Nat, n < 960 ∧ wrap64 ((IntKind.u64.wrap a).tmod 960) = (n : Int) := by
  have h : 0 ≤ IntKind.u64.wrap a := by
    simp [IntKind.wrap, IntKind.bits, IntKind.signed]; omega
  rw [Int.tmod_eq_emod_of_nonneg h]
  exact ⟨(IntKind.u64.wrap a % 960).toNat, by omega, by rw [IntWalk.wrap64_in _ (by omega)]; omega⟩
set_option maxRecDepth 100000 in
set_option maxHeartbeats 1000000 in
theorem first_any (k v n : Nat) (a : Int) (w : World) (hk : k < 256) (hv : k % 9 = v) (hn : n < 960) (ea : wrap64 ((IntKind.u64.wrap a).tmod 960) = (n : Int)) (hT : TabVar w) (hK : TabKn w) (hD : TabDb w) (hL : TabLead w) (hU : TabUs w) :
    Calls Tryz.prog 5 #[.int .u8 (k : Int), .int .i64 a] w fun e w' => e = .returned (.bool true) ∧ Below w.heap.size w w' := by
  have HT := Lib.hid hT
  have HK := Lib.hid hK
  have HD := Lib.hid hD
  have HL := Lib.hid hL
  have HU := Lib.hid hU
  have hv9 : v < 9 := by omega
  have HV9 := Lib.hid (show decide (v < 9) = true from decide_eq_true hv9)
  obtain ⟨p, hp⟩ : ∃ p, startP v = p := ⟨_, rfl⟩
  obtain ⟨q, hq⟩ : ∃ q, posN n = q := ⟨_, rfl⟩
  have Hp := Lib.hid hp
  have Hq := Lib.hid hq
  have K1 := Lib.hid (show hdZ (wrL p) = 0 by rw [← hp]; exact start_may v hv9)
  have K2 := Lib.hid (show hdZ (wrL q) = 0 by rw [← hq]; exact posN_may n hn)
  have F1 := Lib.hid (show FitP p by rw [← hp]; exact FitP.of (wf_start v))
  have F2 := Lib.hid (show FitP q by rw [← hq]; exact FitP.of (wf_posN n hn))
  have HB := Lib.hid (Below.refl w.heap.size w)
  clear hT hK hD hL hU hp hq
  go_enter Tryz.func5, Tryz.ntmps5
  go_wp2_with fail
  rw [show ((k : Int) % 9) = (v : Int) by omega]
  refine (start_any v _ (by omega) (HT.out.on HB.out) (HK.out.on HB.out)).mono ?_; rintro e w1 ⟨rfl, hb⟩; have HB := Lib.hid (below_on HB.out hb); clear hb
  rw [Hp.out, HV9.out]
  go_wp2_with (first
    | (refine step_alloc (op := ⟨some 5, _, _, _, _, _⟩) rfl rfl ?_; intro b5 wn N R; have HG5 := Lib.hid (show w.heap.size ≤ b5 by have := N.at_; have := HB.out.size; omega); have HR5 := Lib.hid R; have HB := Lib.hid (below_on HB.out N.below); clear N R)
    | (refine step_store rfl _ _ rfl b5 rfl zeroP p rfl ?_ ?_; exact HR5.out; intro w2 U R; have HR5 := Lib.hid R; have HB := Lib.hid (HB.out.trans (U.below HG5.out)); clear U R))
  rw [ea]
  clear ea
  refine (start960_any n _ hn (HT.out.on HB.out) (HK.out.on HB.out)).mono ?_; rintro e wn ⟨rfl, hb⟩; have HR5 := Lib.hid (HR5.out.later hb); have HB := Lib.hid (below_on HB.out hb); clear hb
  rw [Hq.out]
  go_wp2_with (first
    | (refine step_alloc (op := ⟨some 7, _, _, _, _, _⟩) rfl rfl ?_; intro b7 wn N R; have HG7 := Lib.hid (show w.heap.size ≤ b7 by have := N.at_; have := HB.out.size; omega); have HD57 := Lib.hid (show b5 ≠ b7 by have := N.at_; have := HR5.out.lt; omega); have HR5 := Lib.hid (HR5.out.later N.below); have HR7 := Lib.hid R; have HB := Lib.hid (below_on HB.out N.below); clear N R)
    | (refine step_store rfl _ _ rfl b7 rfl zeroP q rfl ?_ ?_; exact HR7.out; intro w2 U R; have HR5 := Lib.hid (HR5.out.apart U HD57.out); have HR7 := Lib.hid R; have HB := Lib.hid (HB.out.trans (U.below HG7.out)); clear U R)
    | (refine step_load rfl _ rfl b5 rfl p HR5.out ?_)
    | (refine step_load rfl _ rfl b7 rfl q HR7.out ?_)
    | (go_at_call 11; refine (va_awake _ (HT.out.on HB.out) (HK.out.on HB.out) (HD.out.next HB.out) (HL.out.next HB.out) (HU.out.on HB.out)).mono ?_; rintro e w3 ⟨rfl, hb⟩; have HB := Lib.hid (below_on HB.out hb); clear hb)
    | (go_at_call 10; refine (vcheck_k K1.out _ F1.out (HT.out.on HB.out) (HD.out.next HB.out) (HL.out.next HB.out) (HU.out.on HB.out)).mono ?_; clear K1 F1; rintro e w3 ⟨rfl, hb⟩; have HR5 := Lib.hid (HR5.out.later hb); have HR7 := Lib.hid (HR7.out.later hb); have HB := Lib.hid (below_on HB.out hb); clear hb)
    | (go_at_call 10; refine (vcheck_k K2.out _ F2.out (HT.out.on HB.out) (HD.out.next HB.out) (HL.out.next HB.out) (HU.out.on HB.out)).mono ?_; rintro e w3 ⟨rfl, hb⟩; have HR5 := Lib.hid (HR5.out.later hb); have HR7 := Lib.hid (HR7.out.later hb); have HB := Lib.hid (below_on HB.out hb); clear hb))
  go_ret
  exact ⟨rfl, HB.out⟩
theorem walk (a0 a1 : Int) (w0 : (Lit.int .u8 a0).wf = true) (w1 : (Lit.int .i64 a1).wf = true) (w : World) (hD : TabDb w) (hL : TabLead w) (hT : TabVar w) (hK : TabKn w) (hU : TabUs w) :
    Calls Tryz.prog 5 #[.int .u8 a0, .int .i64 a1] w fun e w' => e = .returned (.bool true) ∧ Below w.heap.size w w' := by
  obtain ⟨k, hk, rfl⟩ := u8_of w0
  obtain ⟨n, hn, ea⟩ := num_of a1
  exact first_any k (k % 9) n a1 w hk rfl hn ea hT hK hD hL hU
end Go.Proofs.YtomelpgfccainaaGreatDoor.validFirst
