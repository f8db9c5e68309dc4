/-
  First positions may be (layer 12).
-/
import Derived.Test.YtomelpgfccainaaGreatDoorVaJa
import Derived.Test.YtomelpgfccainaaGreatDoorVaJb
namespace Go.Proofs.YtomelpgfccainaaGreatDoor
open Go.RowKit
set_option linter.unusedVariables false

theorem may_part {b : Nat} (h : ((List.range 60).all fun n => mayB (posN (b + n))) = true) (n : Nat) (h1 : b ≤ n) (h2 : n < b + 60) : hdZ (wrL (posN n)) = 0 := by
  have := beq_iff_eq.1 (List.all_eq_true.1 h (n - b) (List.mem_range.2 (by omega)))
  rwa [show b + (n - b) = n by omega] at this
theorem posN_may (n : Nat) (h : n < 960) : hdZ (wrL (posN n)) = 0 := by
  by_cases h0 : n < 60
  · exact may_part posN_0 n (by omega) h0
  by_cases h60 : n < 120
  · exact may_part posN_60 n (by omega) h60
  by_cases h120 : n < 180
  · exact may_part posN_120 n (by omega) h120
  by_cases h180 : n < 240
  · exact may_part posN_180 n (by omega) h180
  by_cases h240 : n < 300
  · exact may_part posN_240 n (by omega) h240
  by_cases h300 : n < 360
  · exact may_part posN_300 n (by omega) h300
  by_cases h360 : n < 420
  · exact may_part posN_360 n (by omega) h360
  by_cases h420 : n < 480
  · exact may_part posN_420 n (by omega) h420
  by_cases h480 : n < 540
  · exact may_part posN_480 n (by omega) h480
  by_cases h540 : n < 600
  · exact may_part posN_540 n (by omega) h540
  by_cases h600 : n < 660
  · exact may_part posN_600 n (by omega) h600
  by_cases h660 : n < 720
  · exact may_part posN_660 n (by omega) h660
  by_cases h720 : n < 780
  · exact may_part posN_720 n (by omega) h720
  by_cases h780 : n < 840
  · exact may_part posN_780 n (by omega) h780
  by_cases h840 : n < 900
  · exact may_part posN_840 n (by omega) h840
  exact may_part posN_900 n (by omega) (by omega)
end Go.Proofs.YtomelpgfccainaaGreatDoor
