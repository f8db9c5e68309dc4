/-
 Contracts of what the document says a variant has; of Promotes, by the program and by the document.
-/
import Derived.Test.YtigkbccpkepdmaaGreatDoorRuNm
import Derived.Deep.QuietTactic
import Derived.BigQuiet
namespace Go.Proofs.YtigkbccpkepdmaaGreatDoor
open Go.RowKit
set_option linter.unusedVariables false

def BoE (b : Bool) (w : World) (e : Ending) (w' : World) : Prop := e = .returned (.bool b) ∧ w = w'
theorem int_lt (v n : Nat) : decide ((v : Int) < (n : Int)) = Nat.blt v n := by
 rw [Bool.eq_iff_iff]; simp [Nat.blt_eq]
theorem int_beq (v n : Nat) : ((v : Int) == (n : Int)) = Nat.beq v n := by
 rw [Bool.eq_iff_iff]; simp; omega
theorem int_bne (v n : Nat) : ((v : Int) != (n : Int)) = !Nat.beq v n := by
 unfold bne; rw [int_beq]
theorem ry_int (v c : Nat) : ryB v c = (decide ((v : Int) < 9) && (decide ((c : Int) < 2) && (((v : Int) != 4) && (((v : Int) != 7) || ((c : Int) == 1))))) := by
 rw [show (9 : Int) = ((9 : Nat) : Int) from rfl, show (2 : Int) = ((2 : Nat) : Int) from rfl, show (4 : Int) = ((4 : Nat) : Int) from rfl, show (7 : Int) = ((7 : Nat) : Int) from rfl, show (1 : Int) = ((1 : Nat) : Int) from rfl, int_lt, int_lt, int_bne, int_bne, int_beq]
 unfold ryB
 simp only [Bool.and_assoc]
theorem cas_int (v : Nat) : casB v = (decide ((v : Int) < 9) && (((v : Int) != 4) && ((v : Int) != 8))) := by
 rw [show (9 : Int) = ((9 : Nat) : Int) from rfl, show (4 : Int) = ((4 : Nat) : Int) from rfl, show (8 : Int) = ((8 : Nat) : Int) from rfl, int_lt, int_bne, int_bne]
 unfold casB
 simp only [Bool.and_assoc]
theorem rroyal_any (v c : Nat) (w : World) : Calls Tryz.prog 86 #[.int .u8 (v : Int), .int .u8 (c : Int)] w (BoE (ryB v c) w) := by
 cases g1 : decide ((v : Int) < 9)
 ·have HS := Lib.hid (show ryB v c = false by rw [ry_int, g1]; rfl)
  go_enter Tryz.func86, Tryz.ntmps86
  go_wp2_with fail
  go_ret
  exact ⟨by rw [HS.out]; rfl, rfl⟩
 ·cases g2 : decide ((c : Int) < 2)
  ·have HS := Lib.hid (show ryB v c = false by rw [ry_int, g1, g2]; rfl)
   go_enter Tryz.func86, Tryz.ntmps86
   go_wp2_with fail
   go_ret
   exact ⟨by rw [HS.out]; rfl, rfl⟩
  ·cases g3 : ((v : Int) != 4)
   ·have HS := Lib.hid (show ryB v c = false by rw [ry_int, g1, g2, g3]; rfl)
    go_enter Tryz.func86, Tryz.ntmps86
    go_wp2_with fail
    go_ret
    exact ⟨by rw [HS.out]; rfl, rfl⟩
   ·cases g4 : ((v : Int) != 7)
    ·cases g5 : ((c : Int) == 1)
     ·have HS := Lib.hid (show ryB v c = false by rw [ry_int, g1, g2, g3, g4, g5]; rfl)
      go_enter Tryz.func86, Tryz.ntmps86
      go_wp2_with fail
      go_ret
      exact ⟨by rw [HS.out]; rfl, rfl⟩
     ·have HS := Lib.hid (show ryB v c = true by rw [ry_int, g1, g2, g3, g4, g5]; rfl)
      go_enter Tryz.func86, Tryz.ntmps86
      go_wp2_with fail
      go_ret
      exact ⟨by rw [HS.out]; rfl, rfl⟩
    ·have HS := Lib.hid (show ryB v c = true by rw [ry_int, g1, g2, g3, g4]; rfl)
     go_enter Tryz.func86, Tryz.ntmps86
     go_wp2_with fail
     go_ret
     exact ⟨by rw [HS.out]; rfl, rfl⟩
theorem rcas_any (v : Nat) (w : World) : Calls Tryz.prog 32 #[.int .u8 (v : Int)] w (BoE (casB v) w) := by
 cases g1 : decide ((v : Int) < 9)
 ·have HS := Lib.hid (show casB v = false by rw [cas_int, g1]; rfl)
  go_enter Tryz.func32, Tryz.ntmps32
  go_wp2_with fail
  go_ret
  exact ⟨by rw [HS.out]; rfl, rfl⟩
 ·cases g2 : ((v : Int) != 4)
  ·have HS := Lib.hid (show casB v = false by rw [cas_int, g1, g2]; rfl)
   go_enter Tryz.func32, Tryz.ntmps32
   go_wp2_with fail
   go_ret
   exact ⟨by rw [HS.out]; rfl, rfl⟩
  ·cases g3 : ((v : Int) != 8)
   ·have HS := Lib.hid (show casB v = false by rw [cas_int, g1, g2, g3]; rfl)
    go_enter Tryz.func32, Tryz.ntmps32
    go_wp2_with fail
    go_ret
    exact ⟨by rw [HS.out]; rfl, rfl⟩
   ·have HS := Lib.hid (show casB v = true by rw [cas_int, g1, g2, g3]; rfl)
    go_enter Tryz.func32, Tryz.ntmps32
    go_wp2_with fail
    go_ret
    exact ⟨by rw [HS.out]; rfl, rfl⟩
end Go.Proofs.YtigkbccpkepdmaaGreatDoor
