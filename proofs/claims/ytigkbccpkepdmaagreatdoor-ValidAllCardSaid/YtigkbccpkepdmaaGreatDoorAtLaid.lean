/-
 The tables of layer 8's rows, from both of the texts that read them.
-/
import Derived.Test.YtigkbccpkepdmaaGreatDoorLaid
import Derived.Test.YtigkbccpkepdmaaGreatDoorVaBaseB
