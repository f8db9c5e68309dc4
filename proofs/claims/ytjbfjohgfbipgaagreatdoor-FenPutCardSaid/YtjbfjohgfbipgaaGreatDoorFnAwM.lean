/-
  What the chapter's examples come to (layer 10). Plain facts.
-/
import Derived.Test.YtjbfjohgfbipgaaGreatDoorRdPars
import Derived.Test.YtjbfjohgfbipgaaGreatDoorRuStart
namespace Go.Proofs.YtjbfjohgfbipgaaGreatDoor
open Go.RowKit
set_option linter.unusedVariables false

def awF0 : List UInt8 := [114, 110, 98, 113, 107, 98, 110, 114, 47, 112, 112, 112, 112, 112, 112, 112, 112, 47, 56, 47, 56, 47, 56, 47, 56, 47, 80, 80, 80, 80, 80, 80, 80, 80, 47, 82, 78, 66, 81, 75, 66, 78, 82, 32, 119, 32, 75, 81, 107, 113, 32, 45, 32, 48, 32, 49]
theorem awF0_is : fenL (startP 0) = awF0 := by decide +kernel
def awF2 : List UInt8 := [114, 110, 98, 113, 107, 98, 110, 114, 47, 112, 112, 112, 112, 112, 112, 112, 112, 47, 56, 47, 56, 47, 56, 47, 56, 47, 80, 80, 80, 80, 80, 80, 80, 80, 47, 82, 78, 66, 81, 75, 66, 78, 82, 91, 93, 32, 119, 32, 75, 81, 107, 113, 32, 45, 32, 48, 32, 49]
theorem awF2_is : fenL (startP 2) = awF2 := by decide +kernel
def awF5 : List UInt8 := [114, 110, 98, 113, 107, 98, 110, 114, 47, 112, 112, 112, 112, 112, 112, 112, 112, 47, 56, 47, 56, 47, 56, 47, 56, 47, 80, 80, 80, 80, 80, 80, 80, 80, 47, 82, 78, 66, 81, 75, 66, 78, 82, 32, 119, 32, 75, 81, 107, 113, 32, 45, 32, 43, 48, 43, 48, 32, 48, 32, 49]
theorem awF5_is : fenL (startP 5) = awF5 := by decide +kernel
def awF8 : List UInt8 := [56, 47, 56, 47, 56, 47, 56, 47, 56, 47, 56, 47, 107, 114, 98, 110, 78, 66, 82, 75, 47, 113, 114, 98, 110, 78, 66, 82, 81, 32, 119, 32, 45, 32, 45, 32, 48, 32, 49]
theorem awF8_is : fenL (startP 8) = awF8 := by decide +kernel
def awB0 : List UInt8 := [56, 47, 56, 32, 119, 32, 45, 32, 45, 32, 48, 32, 49]
theorem awB0_none : (rdAll 0 awB0).isNone = true := by decide +kernel
def awB1 : List UInt8 := [56, 47, 56, 47, 56, 47, 56, 47, 56, 47, 56, 47, 56, 47, 52, 52, 32, 119, 32, 45, 32, 45, 32, 48, 32, 49]
theorem awB1_none : (rdAll 0 awB1).isNone = true := by decide +kernel
def awB2 : List UInt8 := [56, 47, 56, 47, 56, 47, 56, 47, 56, 47, 56, 47, 56, 47, 56, 32, 119, 32, 75, 32, 45, 32, 48, 32, 49]
theorem awB2_none : (rdAll 0 awB2).isNone = true := by decide +kernel
def awB3 : List UInt8 := [56, 47, 56, 47, 56, 47, 56, 47, 56, 47, 56, 47, 56, 47, 56, 32, 119, 32, 45, 32, 45, 32, 48, 48, 32, 49]
theorem awB3_none : (rdAll 0 awB3).isNone = true := by decide +kernel
def awG : List UInt8 := [56, 47, 56, 47, 56, 47, 56, 47, 56, 47, 56, 47, 56, 47, 56, 32, 98, 32, 45, 32, 45, 32, 55, 32, 57]
theorem awG_some : ((rdAll 0 awG).map fun q => (q 78, q 86, q 87, q 83, q 79)) = some (1, 7, 9, -1, -1) := by decide +kernel
end Go.Proofs.YtjbfjohgfbipgaaGreatDoor
