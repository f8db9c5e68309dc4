/-
  Contracts of the program's layer 5: Make, Is, Color, Kind, Letter, Parse, Other, Kinds.
-/
import Derived.Test.YtnogmogmlilpiaaDoorPcMath
namespace Go.Proofs.YtnogmogmlilpiaaDoor
open Go.RowKit

def U8 (n : Int) (w : World) (e : Ending) (w' : World) : Prop := e = .returned (.int .u8 n) ∧ w = w'
def Bo (b : Bool) (w : World) (e : Ending) (w' : World) : Prop := e = .returned (.bool b) ∧ w = w'
def St (t : ByteArray) (w : World) (e : Ending) (w' : World) : Prop := e = .returned (.string t) ∧ w = w'
def U8B (n : Int) (b : Bool) (w : World) (e : Ending) (w' : World) : Prop := e = .returned (.tuple #[.int .u8 n, .bool b]) ∧ w = w'
theorem pc_int {k : IntKind} {a b : Int} (h : a = b) : Ending.returned (.int k a) = .returned (.int k b) := by rw [h]
theorem pc_bool {a b : Bool} (h : a = b) : Ending.returned (.bool a) = .returned (.bool b) := by rw [h]
theorem pc_str {a b : ByteArray} (h : a = b) : Ending.returned (.string a) = .returned (.string b) := by rw [h]
theorem pc_pair {a b : Int} {c d : Bool} (h : a = b) (g : c = d) : Ending.returned (.tuple #[.int .u8 a, .bool c]) = .returned (.tuple #[.int .u8 b, .bool d]) := by rw [h, g]

theorem mk_any (c k : Int) (w : World) (hc : 0 ≤ c) (hk : 0 ≤ k) : Calls Tryd.prog 38 #[.int .u8 c, .int .u8 k] w (U8 (mkZ c k) w) := by
  by_cases h0 : 1 < c
  · have HS := Lib.hid (mkZ_no (mkB_false.2 (.inl h0) : mkB c k = false))
    have g0 : decide (1 < c) = true := decide_eq_true h0
    go_enter Tryd.func38, Tryd.ntmps38
    go_wp2
    go_ret
    exact ⟨pc_int HS.out.symm, rfl⟩
  · have g0 : decide (1 < c) = false := decide_eq_false h0
    by_cases h1 : k < 1
    · have HS := Lib.hid (mkZ_no (mkB_false.2 (.inr (.inl h1)) : mkB c k = false))
      have g1 : decide (k < 1) = true := decide_eq_true h1
      go_enter Tryd.func38, Tryd.ntmps38
      go_wp2
      go_ret
      exact ⟨pc_int HS.out.symm, rfl⟩
    · have g1 : decide (k < 1) = false := decide_eq_false h1
      by_cases h2 : 6 < k
      · have HS := Lib.hid (mkZ_no (mkB_false.2 (.inr (.inr h2)) : mkB c k = false))
        have g2 : decide (6 < k) = true := decide_eq_true h2
        go_enter Tryd.func38, Tryd.ntmps38
        go_wp2
        go_ret
        exact ⟨pc_int HS.out.symm, rfl⟩
      · have g2 : decide (6 < k) = false := decide_eq_false h2
        have HS := Lib.hid (mkZ_yes (mkB_true.2 ⟨by omega, by omega, by omega⟩ : mkB c k = true))
        have l0 : c ≤ 1 := by omega
        have l1 : k ≤ 6 := by omega
        clear h0 h1 h2
        go_enter Tryd.func38, Tryd.ntmps38
        go_wp2
        go_ret
        exact ⟨pc_int (by rw [HS.out]), rfl⟩
theorem is_any (p : Int) (w : World) (hp : 0 ≤ p) (hq : p ≤ 255) : Calls Tryd.prog 46 #[.int .u8 p] w (Bo (pcB p) w) := by
  have HS := Lib.hid (is_mk hp)
  have l0 : 0 ≤ p / 8 := by omega
  have l1 : 0 ≤ p % 8 := by omega
  go_enter Tryd.func46, Tryd.ntmps46
  go_wp2_with (go_at_call 38; refine (mk_any _ _ _ l0 l1).mono ?_; rintro e w' ⟨rfl, rfl⟩)
  go_ret
  exact ⟨pc_bool HS.out, rfl⟩
theorem knd_any (p : Int) (w : World) (hp : 0 ≤ p) (hq : p ≤ 255) : Calls Tryd.prog 44 #[.int .u8 p] w (U8 (kndZ p) w) := by
  cases h : pcB p
  · have HS := Lib.hid (kndZ_no h)
    go_enter Tryd.func44, Tryd.ntmps44
    go_wp2_with (go_at_call 46; refine (is_any _ _ hp hq).mono ?_; rintro e w' ⟨rfl, rfl⟩)
    go_ret
    exact ⟨pc_int HS.out.symm, rfl⟩
  · have HS := Lib.hid (kndZ_yes h)
    go_enter Tryd.func44, Tryd.ntmps44
    go_wp2_with (go_at_call 46; refine (is_any _ _ hp hq).mono ?_; rintro e w' ⟨rfl, rfl⟩)
    go_ret
    exact ⟨pc_int (by rw [HS.out]), rfl⟩
theorem cut_letter (n : Nat) (w : World) (h : n ≤ 14) :
    (Instr.slice 9 (.string ⟨#[46, 80, 78, 66, 82, 81, 75, 46, 46, 112, 110, 98, 114, 113, 107]⟩) (some (.int .u8 (n : Int))) (some (.int .u8 ((n : Int) + 1))) none).run Tryd.prog w = .ok (.string (letT.extract n (n + 1))) w := by
  rw [run_slice_string _ _ _ _ _ _ _ Tryd.underlying9 (by omega) (by omega) (by show (n : Int) + 1 ≤ ((15 : Nat) : Int); omega)]
  rw [show ((n : Int) + 1).toNat = n + 1 by omega]; rfl
theorem let_any (p : Int) (w : World) (hp : 0 ≤ p) (hq : p ≤ 255) : Calls Tryd.prog 37 #[.int .u8 p] w (St (letZ p) w) := by
  cases h : pcB p
  · have HS := Lib.hid (letZ_no h)
    go_enter Tryd.func37, Tryd.ntmps37
    go_wp2_with (go_at_call 46; refine (is_any _ _ hp hq).mono ?_; rintro e w' ⟨rfl, rfl⟩)
    go_ret
    exact ⟨pc_str HS.out.symm, rfl⟩
  · have hr := pcB_true.1 h
    obtain ⟨n, rfl⟩ := Int.eq_ofNat_of_zero_le hp
    have hs := cut_letter n w (by omega)
    have l1 : (n : Int) ≤ 14 := by omega
    have HS := Lib.hid (letZ_yes h)
    clear hr
    go_enter Tryd.func37, Tryd.ntmps37
    go_wp2_with (go_at_call 46; refine (is_any _ _ hp hq).mono ?_; rintro e w' ⟨rfl, rfl⟩)
    go_ret
    exact ⟨pc_str (by rw [HS.out]; rfl), rfl⟩
end Go.Proofs.YtnogmogmlilpiaaDoor
