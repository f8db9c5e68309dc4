/-
  The walk of AttackBoth.
-/
import Derived.Test.YtlhepfighelijaaDoorAtLaw
import Derived.WalkKit
import Derived.OpenShut
namespace Go.Proofs.YtlhepfighelijaaDoor.attackBoth
open Go.RowKit
set_option linter.unusedVariables false
set_option linter.unusedSimpArgs false
set_option maxRecDepth 100000 in
set_option maxHeartbeats 4000000 in
theorem walk (p : Nat → Int) (a1 a2 : Int) (hp : WfP p) (w1 : (Lit.int .i64 a1).wf = true) (w2 : (Lit.int .i64 a2).wf = true) (w : World) (hD : TabDb w) (hL : TabLead w) (hT : TabVar w) :
    Calls Tryd.prog 6 #[.agg (posA p), .int .i64 a1, .int .i64 a2] w fun e w' => e = .returned (.bool true) ∧ Below w.heap.size w w' := by
  have HP := Lib.hid (AtR.of hp)
  have HD := Lib.hid hD
  have HL := Lib.hid hL
  have HT := Lib.hid hT
  obtain ⟨a, ha, ea⟩ := sq64 a1
  obtain ⟨b, hb, eb⟩ := sq64 a2
  have HA := Lib.hid ha
  have HBb := Lib.hid hb
  clear hp hD hL hT w1 w2
  cases gl : lawB p 64
  · have Hgl := Lib.hid gl
    clear gl
    go_enter Tryd.func6, Tryd.ntmps6
    go_wp2_with (first | (refine step_box rfl _ rfl p rfl ?_; intro b1 w1 N R; have HB := Lib.hid N.below; have HR1 := Lib.hid R; clear N R) | (refine step_load (by rfl) _ rfl _ rfl p HR1.out ?_))
    refine (lawful_any p _ HP.out.bd).mono ?_; rintro e wn ⟨rfl, hb9⟩; rw [Hgl.out]; have HB := Lib.hid (below_on HB.out hb9); clear hb9
    go_wp2_with fail
    refine (at_awake _ (HD.out.next HB.out) (HL.out.next HB.out) (HT.out.on HB.out)).mono ?_; rintro e wn ⟨rfl, hb9⟩; have HB := Lib.hid (below_on HB.out hb9); clear hb9
    go_wp2_with fail
    go_ret
    exact ⟨rfl, HB.out⟩
  · have Hgl := Lib.hid gl
    obtain ⟨x, HX⟩ : ∃ x, Hid (p (1 + a) = x) := ⟨_, Lib.hid rfl⟩
    have hlx := lawB_at gl a ha
    rw [HX.out] at hlx
    have HLx := Lib.hid hlx
    have hx := (AtR.bd HP.out) a ha
    rw [HX.out] at hx
    obtain ⟨x0, x1⟩ := hx
    obtain ⟨h, HH⟩ : ∃ h, Hid ((fromN p (a : Int)).testBit b = h) := ⟨_, Lib.hid rfl⟩
    have HF := Lib.hid (show (bits .and .u64 ((fromN p (a : Int) : Nat) : Int) (IntKind.u64.wrap (2 ^ b)) != 0) = h by rw [bit_and (fromN_lt _ _) hb, HH.out])
    have HV := Lib.hid (fun c : Nat => fun hc : c ≤ 1 => show (bits .and .u64 ((byN p (b : Int) (c : Int) : Nat) : Int) (IntKind.u64.wrap (2 ^ a)) != 0) = (((x / 8 == (c : Int)) && (x != 0)) && h) by
      rw [bit_and (byN_lt _ _ _) ha, by_from p a b ha hb (c : Int) (by omega) (by omega), HX.out, law_of HLx.out, HH.out])
    have HAB := Lib.hid (show h = true → ((a : Int) != (b : Int)) = true ∧ (x != 0) = true by
      intro e; subst e
      refine ⟨?_, ?_⟩
      · rw [bne_iff_ne]; intro e
        have e' : a = b := by omega
        subst e'
        have := HH.out; rw [from_own p ha] at this; cases this
      · have := from_pc p ha HH.out
        rw [HX.out, pcB_true] at this
        rw [bne_iff_ne]; omega)
    have l0 : (a : Int) ≤ 63 := by omega
    have l1 : (b : Int) ≤ 63 := by omega
    clear gl ha hb hlx
    cases h
    · cases gab : ((a : Int) != (b : Int)) <;> cases g0 : (x != 0)
      all_goals
        have Gab := Lib.hid gab
        have G0 := Lib.hid g0
        clear gab g0
        go_enter Tryd.func6, Tryd.ntmps6
        go_wp2_with (first | (refine step_box rfl _ rfl p rfl ?_; intro b1 w1 N R; have HB := Lib.hid N.below; have HR1 := Lib.hid R; clear N R) | (refine step_load (by rfl) _ rfl _ rfl p HR1.out ?_))
        refine (lawful_any p _ HP.out.bd).mono ?_; rintro e wn ⟨rfl, hb9⟩; rw [Hgl.out]; have HR1 := Lib.hid (HR1.out.later hb9); have HB := Lib.hid (below_on HB.out hb9); clear hb9
        go_wp2_with (refine step_load (by rfl) _ rfl _ rfl p HR1.out ?_)
        refine (from_any p (a : Int) _ HP.out.bd (HD.out.next HB.out) (HL.out.next HB.out)).mono ?_; rintro e wn ⟨rfl, hb9⟩; have HR1 := Lib.hid (HR1.out.later hb9); have HB := Lib.hid (below_on HB.out hb9); clear hb9
        have hcell := HR1.out.cell (1 + a) (by have := HA.out; omega)
        rw [HX.out, kAt_board (by omega) HA.out] at hcell
        go_wp2_with fail
        rw [HF.out]
        clear hcell
        go_loopw [9] (fun co wr => ∃ c : Nat, c ≤ 2 ∧ co = .int .u8 (c : Int) ∧ Below w.heap.size w wr ∧ Row wr b1 p) (fun co _ => 2 - (intOf co).toNat)
        case atStart => exact ⟨0, by omega, rfl, HB.out, HR1.out⟩
        case round =>
          clear HB HR1
          obtain ⟨c, hc, rfl, hb9, hr⟩ := hrel
          have HB := Lib.hid hb9
          have HR1 := Lib.hid hr
          clear hb9 hr
          by_cases hlt : c < 2
          · have gc : decide ((c : Int) < 2) = true := decide_eq_true (by omega)
            have HV2 := Lib.hid (show (bits .and .u64 ((byN p (b : Int) (c : Int) : Nat) : Int) (IntKind.u64.wrap (2 ^ a)) != 0) = false by rw [HV.out c (by omega)]; simp)
            have hv2 := HV2.out
            go_wp2_with (refine step_load (by rfl) _ rfl _ rfl p HR1.out ?_)
            refine (by_any p (b : Int) (c : Int) _ HP.out.bd (by omega) (HD.out.next HB.out) (HL.out.next HB.out)).mono ?_; rintro e wn ⟨rfl, hb9⟩; have HR1 := Lib.hid (HR1.out.later hb9); have HB := Lib.hid (below_on HB.out hb9); clear hb9
            go_wp2_with fail
            go_roundw
            case rel => exact ⟨c + 1, by omega, by go_num, HB.out, HR1.out⟩
            case measure => simp [intOf]; omega
          · obtain rfl : c = 2 := by omega
            have gab := Gab.out
            have g0 := G0.out
            go_wp2_with fail
            refine (at_awake _ (HD.out.next HB.out) (HL.out.next HB.out) (HT.out.on HB.out)).mono ?_; rintro e wn ⟨rfl, hb9⟩; have HB := Lib.hid (below_on HB.out hb9); clear hb9
            go_wp2_with fail
            go_ret
            exact ⟨rfl, HB.out⟩
    · obtain ⟨gab, g0⟩ := HAB.out rfl
      go_enter Tryd.func6, Tryd.ntmps6
      go_wp2_with (first | (refine step_box rfl _ rfl p rfl ?_; intro b1 w1 N R; have HB := Lib.hid N.below; have HR1 := Lib.hid R; clear N R) | (refine step_load (by rfl) _ rfl _ rfl p HR1.out ?_))
      refine (lawful_any p _ HP.out.bd).mono ?_; rintro e wn ⟨rfl, hb9⟩; rw [Hgl.out]; have HR1 := Lib.hid (HR1.out.later hb9); have HB := Lib.hid (below_on HB.out hb9); clear hb9
      go_wp2_with (refine step_load (by rfl) _ rfl _ rfl p HR1.out ?_)
      refine (from_any p (a : Int) _ HP.out.bd (HD.out.next HB.out) (HL.out.next HB.out)).mono ?_; rintro e wn ⟨rfl, hb9⟩; have HR1 := Lib.hid (HR1.out.later hb9); have HB := Lib.hid (below_on HB.out hb9); clear hb9
      have hcell := HR1.out.cell (1 + a) (by have := HA.out; omega)
      rw [HX.out, kAt_board (by omega) HA.out] at hcell
      go_wp2_with fail
      rw [HF.out]
      clear hcell
      go_loopw [9] (fun co wr => ∃ c : Nat, c ≤ 2 ∧ co = .int .u8 (c : Int) ∧ Below w.heap.size w wr ∧ Row wr b1 p) (fun co _ => 2 - (intOf co).toNat)
      case atStart => exact ⟨0, by omega, rfl, HB.out, HR1.out⟩
      case round =>
        clear HB HR1
        obtain ⟨c, hc, rfl, hb9, hr⟩ := hrel
        have HB := Lib.hid hb9
        have HR1 := Lib.hid hr
        clear hb9 hr
        by_cases hlt : c < 2
        · have gc : decide ((c : Int) < 2) = true := decide_eq_true (by omega)
          cases g8 : (x / 8 == (c : Int))
          · have HV2 := Lib.hid (show (bits .and .u64 ((byN p (b : Int) (c : Int) : Nat) : Int) (IntKind.u64.wrap (2 ^ a)) != 0) = false by rw [HV.out c (by omega), g8]; rfl)
            have hv2 := HV2.out
            go_wp2_with (refine step_load (by rfl) _ rfl _ rfl p HR1.out ?_)
            refine (by_any p (b : Int) (c : Int) _ HP.out.bd (by omega) (HD.out.next HB.out) (HL.out.next HB.out)).mono ?_; rintro e wn ⟨rfl, hb9⟩; have HR1 := Lib.hid (HR1.out.later hb9); have HB := Lib.hid (below_on HB.out hb9); clear hb9
            go_wp2_with fail
            go_roundw
            case rel => exact ⟨c + 1, by omega, by go_num, HB.out, HR1.out⟩
            case measure => simp [intOf]; omega
          · have HV2 := Lib.hid (show (bits .and .u64 ((byN p (b : Int) (c : Int) : Nat) : Int) (IntKind.u64.wrap (2 ^ a)) != 0) = true by rw [HV.out c (by omega), g8, g0]; rfl)
            have hv2 := HV2.out
            go_wp2_with (refine step_load (by rfl) _ rfl _ rfl p HR1.out ?_)
            refine (by_any p (b : Int) (c : Int) _ HP.out.bd (by omega) (HD.out.next HB.out) (HL.out.next HB.out)).mono ?_; rintro e wn ⟨rfl, hb9⟩; have HR1 := Lib.hid (HR1.out.later hb9); have HB := Lib.hid (below_on HB.out hb9); clear hb9
            go_wp2_with fail
            go_roundw
            case rel => exact ⟨c + 1, by omega, by go_num, HB.out, HR1.out⟩
            case measure => simp [intOf]; omega
        · obtain rfl : c = 2 := by omega
          go_wp2_with fail
          refine (at_awake _ (HD.out.next HB.out) (HL.out.next HB.out) (HT.out.on HB.out)).mono ?_; rintro e wn ⟨rfl, hb9⟩; have HB := Lib.hid (below_on HB.out hb9); clear hb9
          go_wp2_with fail
          go_ret
          exact ⟨rfl, HB.out⟩
end Go.Proofs.YtlhepfighelijaaDoor.attackBoth
