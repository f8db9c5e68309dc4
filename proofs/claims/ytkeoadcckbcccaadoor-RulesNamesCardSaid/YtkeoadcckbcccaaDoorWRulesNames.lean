/-
  The walk of RulesNames.
-/
import Derived.Test.YtkeoadcckbcccaaDoorRuNm
import Derived.WalkKit
import Derived.OpenShut
namespace Go.Proofs.YtkeoadcckbcccaaDoor.rulesNames
open Go.RowKit
set_option linter.unusedVariables false
set_option linter.unusedSimpArgs false
theorem names_long (v : Nat) (s : ByteArray) (b : Bool) (w : World) (g : decide (100 < (s.size : Int)) = true) :
    Calls Tryd.prog 3 #[.int .u8 (v : Int), .string s, .bool b] w fun e w' => e = .returned (.bool true) ∧ Below w.heap.size w w' := by
  go_enter Tryd.func3, Tryd.ntmps3
  go_wp2
  go_ret
  exact ⟨rfl, Below.refl _ _⟩
set_option maxHeartbeats 1000000 in
theorem names_as (v : Nat) (s : ByteArray) (w : World) (hv : v ≤ 255) (hT : TabVar w) (g : decide (100 < (s.size : Int)) = false) :
    Calls Tryd.prog 3 #[.int .u8 (v : Int), .string s, .bool false] w fun e w' => e = .returned (.bool true) ∧ Below w.heap.size w w' := by
  have HT := Lib.hid hT
  have HB := Lib.hid (Below.refl w.heap.size w)
  clear hT
  go_enter Tryd.func3, Tryd.ntmps3
  go_wp2_with fail
  go_loopw [7, 8, 9] (fun x y i wr => ∃ k : Nat, k ≤ 9 ∧ x = .int .u8 (oN (lastK s k)) ∧ y = .bool (oB (lastK s k)) ∧ i = .int .u8 (k : Int) ∧ Below w.heap.size w wr) (fun _ _ i _ => 9 - (intOf i).toNat)
  case atStart => exact ⟨0, by omega, rfl, rfl, rfl, HB.out⟩
  case round =>
    clear HB
    obtain ⟨k, hk, rfl, rfl, rfl, hb⟩ := hrel
    have HB := Lib.hid hb
    clear hb
    by_cases hlt : k < 9
    · cases he : ((nmZ k).toList == s.toList)
      · have HL := Lib.hid (last_no (str_ne.1 he))
        go_wp2_with (go_at_call 9; refine (rname_any k _ (by omega)).mono ?_; rintro e w2 ⟨rfl, hb2⟩; have HB := Lib.hid (below_on HB.out hb2); clear hb2)
        go_roundw
        case rel => exact ⟨k + 1, by omega, by rw [HL.out], by rw [HL.out], by go_num, HB.out⟩
        case measure => simp [intOf]; omega
      · have HL := Lib.hid (last_yes (str_eq.1 he))
        go_wp2_with (go_at_call 9; refine (rname_any k _ (by omega)).mono ?_; rintro e w2 ⟨rfl, hb2⟩; have HB := Lib.hid (below_on HB.out hb2); clear hb2)
        go_roundw
        case rel => exact ⟨k + 1, by omega, by rw [HL.out]; rfl, by rw [HL.out]; rfl, by go_num, HB.out⟩
        case measure => simp [intOf]; omega
    · obtain rfl : k = 9 := by omega
      rw [last_eq 9 (Nat.le_refl _)]
      go_wp2_with fail
      refine (byname_any s _ (HT.out.on HB.out)).mono ?_; rintro e w2 ⟨rfl, hb2⟩; have HB := Lib.hid (below_on HB.out hb2); clear hb2
      go_wp2_with fail
      refine (name_any v _ hv (HT.out.on HB.out)).mono ?_; rintro e w2 ⟨rfl, hb2⟩; have HB := Lib.hid (below_on HB.out hb2); clear hb2
      go_wp2_with fail
      refine (rname_any v _ hv).mono ?_; rintro e w2 ⟨rfl, hb2⟩; have HB := Lib.hid (below_on HB.out hb2); clear hb2
      go_wp2_with fail
      go_ret
      exact ⟨rfl, HB.out⟩
set_option maxHeartbeats 1000000 in
theorem names_of (v : Nat) (s : ByteArray) (w : World) (hv : v ≤ 255) (hT : TabVar w) (g : decide (100 < (s.size : Int)) = false) :
    Calls Tryd.prog 3 #[.int .u8 (v : Int), .string s, .bool true] w fun e w' => e = .returned (.bool true) ∧ Below w.heap.size w w' := by
  have HT := Lib.hid hT
  clear hT
  go_enter Tryd.func3, Tryd.ntmps3
  go_wp2_with fail
  refine (rname_any v _ hv).mono ?_; rintro e w2 ⟨rfl, hb2⟩; have HB := Lib.hid hb2; clear hb2
  go_wp2_with fail
  go_loopw [7, 8, 9] (fun x y i wr => ∃ k : Nat, k ≤ 9 ∧ x = .int .u8 (oN (lastK (nmZ v) k)) ∧ y = .bool (oB (lastK (nmZ v) k)) ∧ i = .int .u8 (k : Int) ∧ Below w.heap.size w wr) (fun _ _ i _ => 9 - (intOf i).toNat)
  case atStart => exact ⟨0, by omega, rfl, rfl, rfl, HB.out⟩
  case round =>
    clear HB
    obtain ⟨k, hk, rfl, rfl, rfl, hb⟩ := hrel
    have HB := Lib.hid hb
    clear hb
    by_cases hlt : k < 9
    · cases he : ((nmZ k).toList == (nmZ v).toList)
      · have HL := Lib.hid (last_no (str_ne.1 he))
        go_wp2_with (go_at_call 9; refine (rname_any k _ (by omega)).mono ?_; rintro e w2 ⟨rfl, hb2⟩; have HB := Lib.hid (below_on HB.out hb2); clear hb2)
        go_roundw
        case rel => exact ⟨k + 1, by omega, by rw [HL.out], by rw [HL.out], by go_num, HB.out⟩
        case measure => simp [intOf]; omega
      · have HL := Lib.hid (last_yes (str_eq.1 he))
        go_wp2_with (go_at_call 9; refine (rname_any k _ (by omega)).mono ?_; rintro e w2 ⟨rfl, hb2⟩; have HB := Lib.hid (below_on HB.out hb2); clear hb2)
        go_roundw
        case rel => exact ⟨k + 1, by omega, by rw [HL.out]; rfl, by rw [HL.out]; rfl, by go_num, HB.out⟩
        case measure => simp [intOf]; omega
    · obtain rfl : k = 9 := by omega
      rw [last_eq 9 (Nat.le_refl _)]
      go_wp2_with fail
      refine (byname_any (nmZ v) _ (HT.out.on HB.out)).mono ?_; rintro e w2 ⟨rfl, hb2⟩; have HB := Lib.hid (below_on HB.out hb2); clear hb2
      go_wp2_with fail
      refine (name_any v _ hv (HT.out.on HB.out)).mono ?_; rintro e w2 ⟨rfl, hb2⟩; have HB := Lib.hid (below_on HB.out hb2); clear hb2
      go_wp2_with fail
      refine (rname_any v _ hv).mono ?_; rintro e w2 ⟨rfl, hb2⟩; have HB := Lib.hid (below_on HB.out hb2); clear hb2
      go_wp2_with fail
      go_ret
      exact ⟨rfl, HB.out⟩
theorem walk (a0 : Int) (a1 : ByteArray) (a2 : Bool) (w0 : (Lit.int .u8 a0).wf = true) (w1 : a1.size ≤ maxLen) (w : World) (hT : TabVar w) :
    Calls Tryd.prog 3 #[.int .u8 a0, .string a1, .bool a2] w fun e w' => e = .returned (.bool true) ∧ Below w.heap.size w w' := by
  obtain ⟨v, hv, rfl⟩ := u8_of w0
  cases g : decide (100 < (a1.size : Int))
  · cases a2
    · exact names_as v a1 w (by omega) hT g
    · exact names_of v a1 w (by omega) hT g
  · exact names_long v a1 a2 w g
end Go.Proofs.YtkeoadcckbcccaaDoor.rulesNames
