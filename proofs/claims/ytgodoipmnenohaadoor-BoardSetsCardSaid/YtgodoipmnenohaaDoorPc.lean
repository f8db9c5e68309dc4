/-
  Contracts of the program's layer 5: Make, Is, Color, Kind, Letter, Parse, Other, Kinds.
-/
import Derived.Test.YtgodoipmnenohaaDoorPcMath
namespace Go.Proofs.YtgodoipmnenohaaDoor
open Go.RowKit

def U8 (n : Int) (w : World) (e : Ending) (w' : World) : Prop := e = .returned (.int .u8 n) ∧ w = w'
def Bo (b : Bool) (w : World) (e : Ending) (w' : World) : Prop := e = .returned (.bool b) ∧ w = w'
def St (t : ByteArray) (w : World) (e : Ending) (w' : World) : Prop := e = .returned (.string t) ∧ w = w'
def U8B (n : Int) (b : Bool) (w : World) (e : Ending) (w' : World) : Prop := e = .returned (.tuple #[.int .u8 n, .bool b]) ∧ w = w'
theorem pc_int {k : IntKind} {a b : Int} (h : a = b) : Ending.returned (.int k a) = .returned (.int k b) := by rw [h]
theorem pc_bool {a b : Bool} (h : a = b) : Ending.returned (.bool a) = .returned (.bool b) := by rw [h]
theorem pc_str {a b : ByteArray} (h : a = b) : Ending.returned (.string a) = .returned (.string b) := by rw [h]
theorem pc_pair {a b : Int} {c d : Bool} (h : a = b) (g : c = d) : Ending.returned (.tuple #[.int .u8 a, .bool c]) = .returned (.tuple #[.int .u8 b, .bool d]) := by rw [h, g]

theorem mk_any (c k : Int) (w : World) (hc : 0 ≤ c) (hk : 0 ≤ k) : Calls Tryd.prog 52 #[.int .u8 c, .int .u8 k] w (U8 (mkZ c k) w) := by
  by_cases h0 : 1 < c
  · have HS := Lib.hid (mkZ_no (mkB_false.2 (.inl h0) : mkB c k = false))
    have g0 : decide (1 < c) = true := decide_eq_true h0
    go_enter Tryd.func52, Tryd.ntmps52
    go_wp2
    go_ret
    exact ⟨pc_int HS.out.symm, rfl⟩
  · have g0 : decide (1 < c) = false := decide_eq_false h0
    by_cases h1 : k < 1
    · have HS := Lib.hid (mkZ_no (mkB_false.2 (.inr (.inl h1)) : mkB c k = false))
      have g1 : decide (k < 1) = true := decide_eq_true h1
      go_enter Tryd.func52, Tryd.ntmps52
      go_wp2
      go_ret
      exact ⟨pc_int HS.out.symm, rfl⟩
    · have g1 : decide (k < 1) = false := decide_eq_false h1
      by_cases h2 : 6 < k
      · have HS := Lib.hid (mkZ_no (mkB_false.2 (.inr (.inr h2)) : mkB c k = false))
        have g2 : decide (6 < k) = true := decide_eq_true h2
        go_enter Tryd.func52, Tryd.ntmps52
        go_wp2
        go_ret
        exact ⟨pc_int HS.out.symm, rfl⟩
      · have g2 : decide (6 < k) = false := decide_eq_false h2
        have HS := Lib.hid (mkZ_yes (mkB_true.2 ⟨by omega, by omega, by omega⟩ : mkB c k = true))
        have l0 : c ≤ 1 := by omega
        have l1 : k ≤ 6 := by omega
        clear h0 h1 h2
        go_enter Tryd.func52, Tryd.ntmps52
        go_wp2
        go_ret
        exact ⟨pc_int (by rw [HS.out]), rfl⟩
theorem is_any (p : Int) (w : World) (hp : 0 ≤ p) (hq : p ≤ 255) : Calls Tryd.prog 30 #[.int .u8 p] w (Bo (pcB p) w) := by
  have HS := Lib.hid (is_mk hp)
  have l0 : 0 ≤ p / 8 := by omega
  have l1 : 0 ≤ p % 8 := by omega
  go_enter Tryd.func30, Tryd.ntmps30
  go_wp2_with (go_at_call 52; refine (mk_any _ _ _ l0 l1).mono ?_; rintro e w' ⟨rfl, rfl⟩)
  go_ret
  exact ⟨pc_bool HS.out, rfl⟩
theorem col_any (p : Int) (w : World) (hp : 0 ≤ p) (hq : p ≤ 255) : Calls Tryd.prog 27 #[.int .u8 p] w (U8 (colZ p) w) := by
  cases h : pcB p
  · have HS := Lib.hid (colZ_no h)
    go_enter Tryd.func27, Tryd.ntmps27
    go_wp2_with (go_at_call 30; refine (is_any _ _ hp hq).mono ?_; rintro e w' ⟨rfl, rfl⟩)
    go_ret
    exact ⟨pc_int HS.out.symm, rfl⟩
  · have HS := Lib.hid (colZ_yes h)
    go_enter Tryd.func27, Tryd.ntmps27
    go_wp2_with (go_at_call 30; refine (is_any _ _ hp hq).mono ?_; rintro e w' ⟨rfl, rfl⟩)
    go_ret
    exact ⟨pc_int (by rw [HS.out]), rfl⟩
theorem knd_any (p : Int) (w : World) (hp : 0 ≤ p) (hq : p ≤ 255) : Calls Tryd.prog 28 #[.int .u8 p] w (U8 (kndZ p) w) := by
  cases h : pcB p
  · have HS := Lib.hid (kndZ_no h)
    go_enter Tryd.func28, Tryd.ntmps28
    go_wp2_with (go_at_call 30; refine (is_any _ _ hp hq).mono ?_; rintro e w' ⟨rfl, rfl⟩)
    go_ret
    exact ⟨pc_int HS.out.symm, rfl⟩
  · have HS := Lib.hid (kndZ_yes h)
    go_enter Tryd.func28, Tryd.ntmps28
    go_wp2_with (go_at_call 30; refine (is_any _ _ hp hq).mono ?_; rintro e w' ⟨rfl, rfl⟩)
    go_ret
    exact ⟨pc_int (by rw [HS.out]), rfl⟩
theorem oth_any (p : Int) (w : World) (hp : 0 ≤ p) (hq : p ≤ 255) : Calls Tryd.prog 42 #[.int .u8 p] w (U8 (othZ p) w) := by
  cases h : pcB p
  · have HS := Lib.hid (othZ_no h)
    go_enter Tryd.func42, Tryd.ntmps42
    go_wp2_with (go_at_call 30; refine (is_any _ _ hp hq).mono ?_; rintro e w' ⟨rfl, rfl⟩)
    go_ret
    exact ⟨pc_int HS.out.symm, rfl⟩
  · have HS := Lib.hid (show othZ p = mkZ (1 - colZ p) (kndZ p) by rw [othZ_yes h, colZ_yes h, kndZ_yes h])
    have l0 : 0 ≤ colZ p := (col_rng p).1
    have l1 : colZ p ≤ 1 := by rw [colZ_yes h]; rw [pcB_true] at h; omega
    have l2 : 0 ≤ kndZ p := (knd_rng p).1
    go_enter Tryd.func42, Tryd.ntmps42
    go_wp2_with (first | (go_at_call 30; refine (is_any _ _ hp hq).mono ?_; rintro e w' ⟨rfl, rfl⟩) | (go_at_call 27; refine (col_any _ _ hp hq).mono ?_; rintro e w' ⟨rfl, rfl⟩) | (go_at_call 28; refine (knd_any _ _ hp hq).mono ?_; rintro e w' ⟨rfl, rfl⟩))
    refine (mk_any _ _ _ (by omega) l2).mono ?_; rintro e w' ⟨rfl, rfl⟩
    go_wp2
    go_ret
    exact ⟨pc_int (by rw [HS.out]), rfl⟩
end Go.Proofs.YtgodoipmnenohaaDoor
