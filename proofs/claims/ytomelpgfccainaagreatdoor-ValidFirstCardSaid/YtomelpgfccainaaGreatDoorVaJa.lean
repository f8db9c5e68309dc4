/-
  First positions of chess960 may be (layer 12), decided one by one: 0 to 479.
-/
import Derived.Test.YtomelpgfccainaaGreatDoorVaMay
namespace Go.Proofs.YtomelpgfccainaaGreatDoor
open Go.RowKit
set_option linter.unusedVariables false

theorem posN_0 : ((List.range 60).all fun n => mayB (posN (0 + n))) = true := by decide +kernel
theorem posN_60 : ((List.range 60).all fun n => mayB (posN (60 + n))) = true := by decide +kernel
theorem posN_120 : ((List.range 60).all fun n => mayB (posN (120 + n))) = true := by decide +kernel
theorem posN_180 : ((List.range 60).all fun n => mayB (posN (180 + n))) = true := by decide +kernel
theorem posN_240 : ((List.range 60).all fun n => mayB (posN (240 + n))) = true := by decide +kernel
theorem posN_300 : ((List.range 60).all fun n => mayB (posN (300 + n))) = true := by decide +kernel
theorem posN_360 : ((List.range 60).all fun n => mayB (posN (360 + n))) = true := by decide +kernel
theorem posN_420 : ((List.range 60).all fun n => mayB (posN (420 + n))) = true := by decide +kernel
end Go.Proofs.YtomelpgfccainaaGreatDoor
