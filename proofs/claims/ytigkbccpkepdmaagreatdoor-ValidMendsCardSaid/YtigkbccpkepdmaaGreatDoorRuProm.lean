/-
  Contracts of what the document says a variant has; of Promotes, by the program and by the document.
-/
import Derived.Test.YtigkbccpkepdmaaGreatDoorRuNm
import Derived.Deep.QuietTactic
import Derived.BigQuiet
namespace Go.Proofs.YtigkbccpkepdmaaGreatDoor
open Go.RowKit
set_option linter.unusedVariables false

def BoE (b : Bool) (w : World) (e : Ending) (w' : World) : Prop := e = .returned (.bool b) ∧ w = w'
theorem int_lt (v n : Nat) : decide ((v : Int) < (n : Int)) = Nat.blt v n := by
  rw [Bool.eq_iff_iff]; simp [Nat.blt_eq]
theorem int_beq (v n : Nat) : ((v : Int) == (n : Int)) = Nat.beq v n := by
  rw [Bool.eq_iff_iff]; simp; omega
theorem int_bne (v n : Nat) : ((v : Int) != (n : Int)) = !Nat.beq v n := by
  unfold bne; rw [int_beq]
theorem ry_int (v c : Nat) : ryB v c = (decide ((v : Int) < 9) && (decide ((c : Int) < 2) && (((v : Int) != 4) && (((v : Int) != 7) || ((c : Int) == 1))))) := by
  rw [show (9 : Int) = ((9 : Nat) : Int) from rfl, show (2 : Int) = ((2 : Nat) : Int) from rfl, show (4 : Int) = ((4 : Nat) : Int) from rfl, show (7 : Int) = ((7 : Nat) : Int) from rfl, show (1 : Int) = ((1 : Nat) : Int) from rfl, int_lt, int_lt, int_bne, int_bne, int_beq]
  unfold ryB
  simp only [Bool.and_assoc]
theorem cas_int (v : Nat) : casB v = (decide ((v : Int) < 9) && (((v : Int) != 4) && ((v : Int) != 8))) := by
  rw [show (9 : Int) = ((9 : Nat) : Int) from rfl, show (4 : Int) = ((4 : Nat) : Int) from rfl, show (8 : Int) = ((8 : Nat) : Int) from rfl, int_lt, int_bne, int_bne]
  unfold casB
  simp only [Bool.and_assoc]
theorem poc_int (v : Nat) : pocB v = ((v : Int) == 2) := by
  rw [show (2 : Int) = ((2 : Nat) : Int) from rfl, int_beq]; rfl
theorem paw_int (v : Nat) : pawB v = decide ((v : Int) < 8) := by
  rw [show (8 : Int) = ((8 : Nat) : Int) from rfl, int_lt]; rfl
theorem rroyal_any (v c : Nat) (w : World) : Calls Tryz.prog 86 #[.int .u8 (v : Int), .int .u8 (c : Int)] w (BoE (ryB v c) w) := by
  cases g1 : decide ((v : Int) < 9)
  · have HS := Lib.hid (show ryB v c = false by rw [ry_int, g1]; rfl)
    go_enter Tryz.func86, Tryz.ntmps86
    go_wp2_with fail
    go_ret
    exact ⟨by rw [HS.out]; rfl, rfl⟩
  · cases g2 : decide ((c : Int) < 2)
    · have HS := Lib.hid (show ryB v c = false by rw [ry_int, g1, g2]; rfl)
      go_enter Tryz.func86, Tryz.ntmps86
      go_wp2_with fail
      go_ret
      exact ⟨by rw [HS.out]; rfl, rfl⟩
    · cases g3 : ((v : Int) != 4)
      · have HS := Lib.hid (show ryB v c = false by rw [ry_int, g1, g2, g3]; rfl)
        go_enter Tryz.func86, Tryz.ntmps86
        go_wp2_with fail
        go_ret
        exact ⟨by rw [HS.out]; rfl, rfl⟩
      · cases g4 : ((v : Int) != 7)
        · cases g5 : ((c : Int) == 1)
          · have HS := Lib.hid (show ryB v c = false by rw [ry_int, g1, g2, g3, g4, g5]; rfl)
            go_enter Tryz.func86, Tryz.ntmps86
            go_wp2_with fail
            go_ret
            exact ⟨by rw [HS.out]; rfl, rfl⟩
          · have HS := Lib.hid (show ryB v c = true by rw [ry_int, g1, g2, g3, g4, g5]; rfl)
            go_enter Tryz.func86, Tryz.ntmps86
            go_wp2_with fail
            go_ret
            exact ⟨by rw [HS.out]; rfl, rfl⟩
        · have HS := Lib.hid (show ryB v c = true by rw [ry_int, g1, g2, g3, g4]; rfl)
          go_enter Tryz.func86, Tryz.ntmps86
          go_wp2_with fail
          go_ret
          exact ⟨by rw [HS.out]; rfl, rfl⟩
theorem rcas_any (v : Nat) (w : World) : Calls Tryz.prog 32 #[.int .u8 (v : Int)] w (BoE (casB v) w) := by
  cases g1 : decide ((v : Int) < 9)
  · have HS := Lib.hid (show casB v = false by rw [cas_int, g1]; rfl)
    go_enter Tryz.func32, Tryz.ntmps32
    go_wp2_with fail
    go_ret
    exact ⟨by rw [HS.out]; rfl, rfl⟩
  · cases g2 : ((v : Int) != 4)
    · have HS := Lib.hid (show casB v = false by rw [cas_int, g1, g2]; rfl)
      go_enter Tryz.func32, Tryz.ntmps32
      go_wp2_with fail
      go_ret
      exact ⟨by rw [HS.out]; rfl, rfl⟩
    · cases g3 : ((v : Int) != 8)
      · have HS := Lib.hid (show casB v = false by rw [cas_int, g1, g2, g3]; rfl)
        go_enter Tryz.func32, Tryz.ntmps32
        go_wp2_with fail
        go_ret
        exact ⟨by rw [HS.out]; rfl, rfl⟩
      · have HS := Lib.hid (show casB v = true by rw [cas_int, g1, g2, g3]; rfl)
        go_enter Tryz.func32, Tryz.ntmps32
        go_wp2_with fail
        go_ret
        exact ⟨by rw [HS.out]; rfl, rfl⟩
/-- The kinds from the knight on, n of them. -/
def upN (n : Nat) : List Nat := (List.range n).map (· + 2)
theorem upN_snoc (n : Nat) : upN (n + 1) = upN n ++ [n + 2] := by simp [upN, List.range_succ]
theorem upN_len (n : Nat) : (upN n).length = n := by simp [upN]
theorem upN_at (n i : Nat) (h : i < (upN n).length) : (upN n)[i] = i + 2 := by simp [upN]
def prL (v : Nat) : List Nat := upN (hiN v - 1)
theorem hi_cases (v : Nat) : hiN v = 0 ∨ hiN v = 5 ∨ hiN v = 6 := by
  unfold hiN
  cases Nat.beq v 4
  · cases Nat.blt v 8
    · exact .inl rfl
    · exact .inr (.inl rfl)
  · exact .inr (.inr rfl)
end Go.Proofs.YtigkbccpkepdmaaGreatDoor
