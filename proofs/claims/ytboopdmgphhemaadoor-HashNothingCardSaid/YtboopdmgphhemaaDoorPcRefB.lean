/-
  Contracts of the document's own layer 5, second part: Make, Is, Color, Kind, Letter, Parse, Other.
-/
import Derived.Test.YtboopdmgphhemaaDoorBase
import Derived.Test.YtboopdmgphhemaaDoorPcFind
namespace Go.Proofs.YtboopdmgphhemaaDoor
open Go.RowKit


theorem mk_hit {j : Nat} {c k : Int} (hj : j < 12) (h1 : (colZ (atP j) == c) = true) (h2 : (kndZ (atP j) == k) = true) : atP j = mkZ c k := by
  rw [beq_iff_eq] at h1 h2
  subst h1 h2
  have key : ∀ j : Fin 12, atP j.val = mkZ (colZ (atP j.val)) (kndZ (atP j.val)) := by decide +kernel
  exact key ⟨j, hj⟩
theorem mk_miss {c k : Int} (hc : 0 ≤ c) (h : ∀ j : Nat, j < 12 → ((colZ (atP j) == c) && (kndZ (atP j) == k)) = false) : mkZ c k = 0 := by
  cases e : mkB c k
  · exact mkZ_no e
  · have hp := mk_pc c k hc e
    obtain ⟨j, hj, he⟩ := pc_at hp
    have := h j hj
    rw [← he, colZ_yes hp, kndZ_yes hp, mkZ_yes e] at this
    rw [mkB_true] at e
    rw [show (8 * c + k) / 8 = c by omega, show (8 * c + k) % 8 = k by omega] at this
    simp at this
/-- What find answers, its first cell under a name of its own. -/
theorem find_open (p : Int) (w : World) : ∃ q : Int, Calls Tryd.prog 37 #[.int .u8 p] w fun e w' => e = .returned (.tuple #[.agg #[.int .u8 q, .int .u8 (colZ p), .int .u8 (kndZ p), .string (letZ p)], .bool (pcB p)]) ∧ Below w.heap.size w w' := ⟨_, find_any p w⟩
theorem ris_any (p : Int) (w : World) : Calls Tryd.prog 31 #[.int .u8 p] w (BoL (pcB p) w) := by
  obtain ⟨q, hf⟩ := find_open p w
  have HF := Lib.hid hf
  clear hf
  go_enter Tryd.func31, Tryd.ntmps31
  go_wp2_with fail
  refine HF.out.mono ?_; rintro e w1 ⟨rfl, hb⟩
  have HB := Lib.hid hb
  clear hb
  go_wp2
  go_ret
  exact ⟨rfl, HB.out.alloc HB.out.size _⟩
end Go.Proofs.YtboopdmgphhemaaDoor
