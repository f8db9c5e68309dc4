/-
  Contracts of the program's placed and rookFiles.
-/
import Derived.Test.YtnogmogmlilpiaaDoorRuPos
import Derived.Test.YtnogmogmlilpiaaDoorRuRow
import Derived.IntWalk
namespace Go.Proofs.YtnogmogmlilpiaaDoor
open Go.RowKit
set_option linter.unusedVariables false

theorem seek_full {r : Nat → Int} {n k d : Nat} (h : (r k != 0) = true) : seekR r (n + 1) k d = seekR r n (k + 1) d := by
  have : (r k == 0) = false := by simpa [bne] using h
  show (bif r k == 0 then _ else _) = _
  rw [this]; rfl
theorem seek_here {r : Nat → Int} {n k : Nat} (h : (r k != 0) = false) : seekR r (n + 1) k 0 = k := by
  have : (r k == 0) = true := by simpa [bne] using h
  unfold seekR; rw [this]; rfl
theorem seek_next {r : Nat → Int} {n k d : Nat} (h : (r k != 0) = false) : seekR r (n + 1) k (d + 1) = seekR r n (k + 1) d := by
  have : (r k == 0) = true := by simpa [bne] using h
  rw [seekR, this]; rfl
theorem size35 : (Tryd.prog.info? 27).map (·.size) = some 2 := by kernel_rfl
theorem size34 : (Tryd.prog.info? 26).map (·.size) = some 1 := by kernel_rfl
theorem zero35 : (Tryd.prog.info? 27).map (fun i => (i.zero, i.size)) = some (some (.agg #[.int .i8 0, .int .i8 0]), 2) := by kernel_rfl
theorem two_one (a b : Int) : (#[Value.int .i8 a, .int .i8 b] : Array Value).all (·.oneCell') = true := by simp [Value.oneCell']
theorem rf0_yes {r : Nat → Int} {k : Nat} (h : (r k != 4) = false) : rf0 r (k + 1) = (k : Int) := by
  have : (r k == 4) = true := by simpa [bne] using h
  rw [rf0, this]; rfl
theorem rf0_no {r : Nat → Int} {k : Nat} (h : (r k != 4) = true) : rf0 r (k + 1) = rf0 r k := by
  have : (r k == 4) = false := by simpa [bne] using h
  rw [rf0, this]; rfl
theorem rf1_yes {r : Nat → Int} {k : Nat} (h : (r k != 4) = false) (g : (rf1 r k == -1) = true) : rf1 r (k + 1) = (k : Int) := by
  have : (r k == 4) = true := by simpa [bne] using h
  rw [rf1, this, g]; rfl
theorem rf1_was {r : Nat → Int} {k : Nat} (h : (r k != 4) = false) (g : (rf1 r k == -1) = false) : rf1 r (k + 1) = rf1 r k := by
  have : (r k == 4) = true := by simpa [bne] using h
  rw [rf1, this, g]; rfl
theorem rf1_no {r : Nat → Int} {k : Nat} (h : (r k != 4) = true) : rf1 r (k + 1) = rf1 r k := by
  have : (r k == 4) = false := by simpa [bne] using h
  rw [rf1, this]; rfl
end Go.Proofs.YtnogmogmlilpiaaDoor
