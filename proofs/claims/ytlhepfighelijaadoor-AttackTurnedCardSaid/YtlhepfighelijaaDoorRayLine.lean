/-
  Contracts of the program's layer 3, third part: Between, Line.
-/
import Derived.Test.YtlhepfighelijaaDoorRayWalk
namespace Go.Proofs.YtlhepfighelijaaDoor
open Go.RowKit

theorem turnD4 (d : Nat) : turnD d 4 = (d + 4) % 8 := by unfold turnD; omega
end Go.Proofs.YtlhepfighelijaaDoor
