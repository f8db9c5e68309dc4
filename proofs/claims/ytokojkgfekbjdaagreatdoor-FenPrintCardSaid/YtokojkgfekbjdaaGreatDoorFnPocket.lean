/-
  Contract of the document's own pocket (layer 10).
-/
import Derived.Test.YtokojkgfekbjdaaGreatDoorFnRank
namespace Go.Proofs.YtokojkgfekbjdaaGreatDoor
open Go.RowKit
set_option linter.unusedVariables false

set_option maxRecDepth 100000 in
set_option maxHeartbeats 4000000 in
theorem rpocket_text (p : Nat → Int) (w : World) (hp : ∀ i, 66 ≤ i → i < 78 → 0 ≤ p i ∧ p i ≤ 255) : Calls Tryz.prog 27 #[.agg (posA p)] w (StL (bz (poT p)) w) := by
  have HP := Lib.hid hp
  clear hp
  go_enter Tryz.func27, Tryz.ntmps27
  go_wp2_with (refine step_box rfl _ rfl p rfl ?_; intro b1 w1 N R; have HB := Lib.hid N.below; have HR1 := Lib.hid R; clear N R)
  have HI := Lib.hid (show b1 < w1.heap.size from HR1.out.lt)
  rw [show (⟨#[91]⟩ : ByteArray) = bz (ptC p 0) from rfl]
  go_loopw [3, 4] (fun s i wr => ∃ c : Nat, c ≤ 2 ∧ i = .int .i64 c ∧ s = .string (bz (ptC p c)) ∧ Below w1.heap.size w1 wr) (fun _ i _ => 2 - (intOf i).toNat)
  case atStart => exact ⟨0, by omega, rfl, rfl, Below.refl _ _⟩
  case round =>
    obtain ⟨c, hc2, rfl, rfl, hbel⟩ := hrel
    have HBl := Lib.hid hbel
    clear hbel
    by_cases h2 : c < 2
    · have hlc : (c : Int) < 2 := by omega
      have hc0 : (0 : Int) ≤ (c : Int) := by omega
      have hwc : IntKind.u8.wrap (c : Int) = (c : Int) := fn_u8 (by omega)
      rw [ptC_zero p c]
      go_wp2_with fail
      go_loopw [3, 5] (fun s i wr => ∃ k : Nat, k ≤ 6 ∧ i = .int .i64 k ∧ s = .string (bz (ptK p c k)) ∧ Below w1.heap.size w1 wr) (fun _ i _ => 6 - (intOf i).toNat)
      case atStart => exact ⟨0, by omega, rfl, rfl, HBl.out⟩
      case round =>
        clear HBl
        obtain ⟨k, hk6, rfl, rfl, hbel⟩ := hrel
        have HBl := Lib.hid hbel
        clear hbel
        by_cases h6 : k < 6
        · have hlk : (k : Int) < 6 := by omega
          have hk0 : (0 : Int) ≤ (k : Int) := by omega
          have hwk : IntKind.u8.wrap (k : Int) = (k : Int) := fn_u8 h6
          obtain ⟨f0, f1⟩ := HP.out (66 + c * 6 + k) (by omega) (by omega)
          obtain ⟨m, hm⟩ : ∃ m : Nat, p (66 + c * 6 + k) = (m : Int) := ⟨(p (66 + c * 6 + k)).toNat, by omega⟩
          have hm255 : m ≤ 255 := by omega
          have hmt : m = (p (66 + c * 6 + k)).toNat := by rw [hm]; rfl
          have HM := Lib.hid hm
          have HMt := Lib.hid hmt
          have m0 : (0 : Int) ≤ (m : Int) := by omega
          have m1 : (m : Int) ≤ 255 := by omega
          clear hm hmt f0 f1
          rw [ptK_zero p c k]
          go_wp2_with fail
          go_loopw [3, 6] (fun s i wr => ∃ n : Nat, n ≤ m ∧ i = .int .i64 n ∧ s = .string (bz (ptS p c k n)) ∧ Below w1.heap.size w1 wr) (fun _ i _ => m - (intOf i).toNat)
          case atStart => exact ⟨0, by omega, rfl, rfl, HBl.out⟩
          case round =>
            clear HBl
            obtain ⟨n, hnm, rfl, rfl, hbel⟩ := hrel
            have HBl := Lib.hid hbel
            have HRw := Lib.hid (HR1.out.next hbel HI.out)
            clear hbel
            have hcl : wr.cell? ⟨b1, 66 + c * 6 + k, none⟩ = some (.int .u8 (m : Int)) := by rw [HRw.out.cell _ (by omega), show kAt (66 + c * 6 + k) = .u8 by unfold kAt; rw [if_neg (by omega), if_neg (by omega), if_neg (by omega)], HM.out]
            have n0 : (0 : Int) ≤ (n : Int) := by omega
            have hlen := ptS_len HP.out h2 h6 (show n ≤ 255 by omega)
            obtain ⟨t, ht⟩ : ∃ t, bz (ptS p c k n) = t := ⟨_, rfl⟩
            obtain ⟨x, hx⟩ : ∃ x, mkZ (c : Int) (k : Int) = x := ⟨_, rfl⟩
            obtain ⟨y, hy⟩ : ∃ y, letZ x = y := ⟨_, rfl⟩
            have htz : t.size ≤ 5000 := by rw [← ht, bz_size]; exact hlen
            have hyz : y.size ≤ 1 := by rw [← hy, leF_bz, bz_size]; exact leF_len x
            have k1 : ¬ (9223372036854775807 < t.size + y.size) := cat_ok (by omega) (by omega)
            have HS := Lib.hid (show bz (ptS p c k (n + 1)) = t ++ y by rw [ptS_succ, ← bz_app, ht, hx, ← hy, leF_bz])
            have HX := Lib.hid hx
            have HY := Lib.hid hy
            by_cases hn : n < m
            · have hln : (n : Int) < (m : Int) := by omega
              have HN := Lib.hid hn
              rw [ht]
              clear ht hx hy htz hyz hlen
              go_wp2_with (first
                | (go_at_call 69; refine (rmk_any _ _ _ hc0).mono ?_; rintro e w2 ⟨rfl, hb9⟩; rw [HX.out]; have HBl := Lib.hid (HBl.out.trans (hb9.mono HBl.out.size)); clear hb9)
                | (go_at_call 68; refine (rlet_any _ _).mono ?_; rintro e w2 ⟨rfl, hb9⟩; rw [HY.out]; have HBl := Lib.hid (HBl.out.trans (hb9.mono HBl.out.size)); clear hb9))
              go_roundw
              case rel => exact ⟨n + 1, by have := HN.out; omega, by go_num, by rw [HS.out], HBl.out⟩
              case measure => simp [intOf]; have := HN.out; omega
            · have hln : ¬ (n : Int) < (m : Int) := by omega
              have e9 : n = (p (66 + c * 6 + k)).toNat := by have := HMt.out; omega
              have HK6 := Lib.hid (ptK_succ p c k n e9)
              clear ht hx hy htz hyz hlen hnm e9
              go_wp2_with fail
              go_roundw
              case rel => exact ⟨k + 1, by omega, by go_num, by rw [HK6.out], HBl.out⟩
              case measure => simp [intOf]; omega
        · have e6 : k = 6 := by omega
          have h6f : decide ((k : Int) < 6) = false := decide_eq_false (by omega)
          rw [show ptK p c k = ptC p (c + 1) by rw [e6]; rfl]
          clear hk6 h6 e6
          go_wp2_with fail
          go_roundw
          case rel => exact ⟨c + 1, by omega, by go_num, rfl, HBl.out⟩
          case measure => simp [intOf]; omega
    · obtain rfl : c = 2 := by omega
      have hlen := ptC_len HP.out
      obtain ⟨t, ht⟩ : ∃ t, bz (ptC p 2) = t := ⟨_, rfl⟩
      have htz : t.size ≤ 5000 := by rw [← ht, bz_size]; exact hlen
      have k1 := cat_ok (a := t) (b := ⟨#[93]⟩) (by omega) (by decide)
      have HE := Lib.hid (show bz (poT p) = t ++ ⟨#[93]⟩ by unfold poT; rw [← bz_app, ht]; rfl)
      rw [ht]
      clear ht htz hlen
      go_wp2_with fail
      go_ret
      refine ⟨?_, HB.out.trans (HBl.out.mono HB.out.size)⟩
      rw [HE.out]; rfl
end Go.Proofs.YtokojkgfekbjdaaGreatDoor
