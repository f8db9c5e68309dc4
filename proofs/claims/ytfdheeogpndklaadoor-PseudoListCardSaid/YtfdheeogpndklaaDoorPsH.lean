/-
  Layer 13: what the examples come to, by the kernel.
-/
import Derived.Test.YtfdheeogpndklaaDoorPsG
import Derived.Test.YtfdheeogpndklaaDoorVaBaseE
namespace Go.Proofs.YtfdheeogpndklaaDoor
open Go.RowKit
set_option linter.unusedVariables false
set_option linter.unusedSimpArgs false

def psq : Nat → Int := upd (upd (upd (upd zeroP 83 (-1)) 87 1) (1 + 48) 1) (1 + 57) 10
def psr : Nat → Int := upd (upd (upd (upd zeroP 83 43) 87 1) (1 + 36) 1) (1 + 35) 9
def trip (l : List Pm) : List (Int × Nat × Nat) := l.map fun m => (m.f, m.t, m.k)
theorem trip_at {l : List Pm} {k : Nat} {a : Int} {b c : Nat} (h : (trip l)[k]? = some (a, b, c)) : l[k]? = some ⟨a, b, c⟩ := by
  unfold trip at h
  rw [List.getElem?_map] at h
  cases hl : l[k]? with
  | none => rw [hl] at h; cases h
  | some m =>
    rw [hl] at h
    cases m with
    | mk f t k2 => simp at h; obtain ⟨rfl, rfl, rfl⟩ := h; rfl
set_option maxRecDepth 100000 in
theorem aw_p : trip (allL (startP 0)) = [(1, 16, 0), (1, 18, 0), (6, 21, 0), (6, 23, 0), (8, 16, 0), (8, 24, 0), (9, 17, 0), (9, 25, 0), (10, 18, 0), (10, 26, 0), (11, 19, 0), (11, 27, 0), (12, 20, 0), (12, 28, 0), (13, 21, 0), (13, 29, 0), (14, 22, 0), (14, 30, 0), (15, 23, 0), (15, 31, 0)] := by decide +kernel
set_option maxRecDepth 100000 in
theorem aw_q : trip (allL psq) = [(48, 56, 2), (48, 56, 3), (48, 56, 4), (48, 56, 5), (48, 57, 2), (48, 57, 3), (48, 57, 4), (48, 57, 5)] := by decide +kernel
set_option maxRecDepth 100000 in
theorem aw_r : trip (allL psr) = [(36, 43, 0), (36, 44, 0)] := by decide +kernel
set_option maxRecDepth 100000 in
theorem aw_t1 : takZ psr ⟨36, 43, 0, 0, false⟩ = 35 := by decide +kernel
set_option maxRecDepth 100000 in
theorem aw_t2 : takZ psr ⟨36, 44, 0, 0, false⟩ = -1 := by decide +kernel
end Go.Proofs.YtfdheeogpndklaaDoor
