/-
  First positions of chess960 may be (layer 12), decided one by one: 480 to 959.
-/
import Derived.Test.YtomelpgfccainaaGreatDoorVaMay
namespace Go.Proofs.YtomelpgfccainaaGreatDoor
open Go.RowKit
set_option linter.unusedVariables false

theorem posN_480 : ((List.range 60).all fun n => mayB (posN (480 + n))) = true := by decide +kernel
theorem posN_540 : ((List.range 60).all fun n => mayB (posN (540 + n))) = true := by decide +kernel
theorem posN_600 : ((List.range 60).all fun n => mayB (posN (600 + n))) = true := by decide +kernel
theorem posN_660 : ((List.range 60).all fun n => mayB (posN (660 + n))) = true := by decide +kernel
theorem posN_720 : ((List.range 60).all fun n => mayB (posN (720 + n))) = true := by decide +kernel
theorem posN_780 : ((List.range 60).all fun n => mayB (posN (780 + n))) = true := by decide +kernel
theorem posN_840 : ((List.range 60).all fun n => mayB (posN (840 + n))) = true := by decide +kernel
theorem posN_900 : ((List.range 60).all fun n => mayB (posN (900 + n))) = true := by decide +kernel
end Go.Proofs.YtomelpgfccainaaGreatDoor
