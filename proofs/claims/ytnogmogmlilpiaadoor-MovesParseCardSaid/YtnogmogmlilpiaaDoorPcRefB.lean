/-
  Contracts of the document's own layer 5, second part: Make, Is, Color, Kind, Letter, Parse, Other.
-/
import Derived.Test.YtnogmogmlilpiaaDoorBase
import Derived.Test.YtnogmogmlilpiaaDoorPcFind
namespace Go.Proofs.YtnogmogmlilpiaaDoor
open Go.RowKit


theorem mk_hit {j : Nat} {c k : Int} (hj : j < 12) (h1 : (colZ (atP j) == c) = true) (h2 : (kndZ (atP j) == k) = true) : atP j = mkZ c k := by
  rw [beq_iff_eq] at h1 h2
  subst h1 h2
  have key : ∀ j : Fin 12, atP j.val = mkZ (colZ (atP j.val)) (kndZ (atP j.val)) := by decide +kernel
  exact key ⟨j, hj⟩
theorem mk_miss {c k : Int} (hc : 0 ≤ c) (h : ∀ j : Nat, j < 12 → ((colZ (atP j) == c) && (kndZ (atP j) == k)) = false) : mkZ c k = 0 := by
  cases e : mkB c k
  · exact mkZ_no e
  · have hp := mk_pc c k hc e
    obtain ⟨j, hj, he⟩ := pc_at hp
    have := h j hj
    rw [← he, colZ_yes hp, kndZ_yes hp, mkZ_yes e] at this
    rw [mkB_true] at e
    rw [show (8 * c + k) / 8 = c by omega, show (8 * c + k) % 8 = k by omega] at this
    simp at this
set_option maxHeartbeats 1000000 in
theorem rmk_any (c k : Int) (w : World) (hc : 0 ≤ c) : Calls Tryd.prog 19 #[.int .u8 c, .int .u8 k] w (U8L (mkZ c k) w) := by
  go_enter Tryd.func19, Tryd.ntmps19
  go_wp2_with fail
  refine (all_any _).mono ?_; rintro e w1 ⟨rfl, hT, hb⟩
  have HT := Lib.hid hT
  have HB := Lib.hid hb
  clear hT hb
  go_wp2
  go_loop [6] (fun i => ∃ j : Nat, j ≤ 12 ∧ i = .int .i64 (j : Int) ∧ ∀ m : Nat, m < j → ((colZ (atP m) == c) && (kndZ (atP m) == k)) = false) (fun i => 12 - (intOf i).toNat)
  case atStart => exact ⟨0, by omega, rfl, fun j h => by omega⟩
  case round =>
    obtain ⟨j, hj, rfl, hm⟩ := hrel
    have HM := Lib.hid hm
    clear hm
    by_cases hlt : j < 12
    · obtain ⟨c0, c1, c2, c3⟩ := HT.out j hlt
      cases h1 : (colZ (atP j) == c)
      · go_wp2
        go_round
        case rel =>
          refine ⟨j + 1, by omega, by go_num, fun m hm => ?_⟩
          by_cases e : m = j
          · subst e; rw [h1]; rfl
          · exact HM.out m (by omega)
        case measure => simp [intOf]; omega
      · cases h2 : (kndZ (atP j) == k)
        · go_wp2
          go_round
          case rel =>
            refine ⟨j + 1, by omega, by go_num, fun m hm => ?_⟩
            by_cases e : m = j
            · subst e; rw [h2]; simp
            · exact HM.out m (by omega)
          case measure => simp [intOf]; omega
        · have HE := Lib.hid (mk_hit hlt h1 h2)
          go_wp2
          go_ret
          exact ⟨pc_int HE.out, HB.out⟩
    · obtain rfl : j = 12 := by omega
      have HE := Lib.hid (mk_miss hc HM.out)
      go_wp2
      go_ret
      exact ⟨pc_int HE.out.symm, HB.out⟩
/-- What find answers, its first cell under a name of its own. -/
theorem find_open (p : Int) (w : World) : ∃ q : Int, Calls Tryd.prog 36 #[.int .u8 p] w fun e w' => e = .returned (.tuple #[.agg #[.int .u8 q, .int .u8 (colZ p), .int .u8 (kndZ p), .string (letZ p)], .bool (pcB p)]) ∧ Below w.heap.size w w' := ⟨_, find_any p w⟩
theorem rlet_any (p : Int) (w : World) : Calls Tryd.prog 24 #[.int .u8 p] w (StL (letZ p) w) := by
  obtain ⟨q, hf⟩ := find_open p w
  have HF := Lib.hid hf
  clear hf
  go_enter Tryd.func24, Tryd.ntmps24
  go_wp2_with fail
  refine HF.out.mono ?_; rintro e w1 ⟨rfl, hb⟩
  have HB := Lib.hid hb
  clear hb
  go_wp2
  go_ret
  exact ⟨rfl, HB.out.alloc HB.out.size _⟩
end Go.Proofs.YtnogmogmlilpiaaDoor
