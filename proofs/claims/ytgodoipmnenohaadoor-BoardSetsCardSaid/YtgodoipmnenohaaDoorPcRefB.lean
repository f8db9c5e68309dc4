/-
  Contracts of the document's own layer 5, second part: Make, Is, Color, Kind, Letter, Parse, Other.
-/
import Derived.Test.YtgodoipmnenohaaDoorPcFind
namespace Go.Proofs.YtgodoipmnenohaaDoor
open Go.RowKit

def U8L (n : Int) (w : World) (e : Ending) (w' : World) : Prop := e = .returned (.int .u8 n) ∧ Below w.heap.size w w'
def BoL (b : Bool) (w : World) (e : Ending) (w' : World) : Prop := e = .returned (.bool b) ∧ Below w.heap.size w w'
def StL (t : ByteArray) (w : World) (e : Ending) (w' : World) : Prop := e = .returned (.string t) ∧ Below w.heap.size w w'
def U8BL (n : Int) (b : Bool) (w : World) (e : Ending) (w' : World) : Prop := e = .returned (.tuple #[.int .u8 n, .bool b]) ∧ Below w.heap.size w w'

theorem mk_hit {j : Nat} {c k : Int} (hj : j < 12) (h1 : (colZ (atP j) == c) = true) (h2 : (kndZ (atP j) == k) = true) : atP j = mkZ c k := by
  rw [beq_iff_eq] at h1 h2
  subst h1 h2
  have key : ∀ j : Fin 12, atP j.val = mkZ (colZ (atP j.val)) (kndZ (atP j.val)) := by decide +kernel
  exact key ⟨j, hj⟩
theorem mk_miss {c k : Int} (hc : 0 ≤ c) (h : ∀ j : Nat, j < 12 → ((colZ (atP j) == c) && (kndZ (atP j) == k)) = false) : mkZ c k = 0 := by
  cases e : mkB c k
  · exact mkZ_no e
  · have hp := mk_pc c k hc e
    obtain ⟨j, hj, he⟩ := pc_at hp
    have := h j hj
    rw [← he, colZ_yes hp, kndZ_yes hp, mkZ_yes e] at this
    rw [mkB_true] at e
    rw [show (8 * c + k) / 8 = c by omega, show (8 * c + k) % 8 = k by omega] at this
    simp at this
set_option maxHeartbeats 1000000 in
theorem rmk_any (c k : Int) (w : World) (hc : 0 ≤ c) : Calls Tryd.prog 56 #[.int .u8 c, .int .u8 k] w (U8L (mkZ c k) w) := by
  go_enter Tryd.func56, Tryd.ntmps56
  go_wp2_with fail
  refine (all_any _).mono ?_; rintro e w1 ⟨rfl, hT, hb⟩
  have HT := Lib.hid hT
  have HB := Lib.hid hb
  clear hT hb
  go_wp2
  go_loop [6] (fun i => ∃ j : Nat, j ≤ 12 ∧ i = .int .i64 (j : Int) ∧ ∀ m : Nat, m < j → ((colZ (atP m) == c) && (kndZ (atP m) == k)) = false) (fun i => 12 - (intOf i).toNat)
  case atStart => exact ⟨0, by omega, rfl, fun j h => by omega⟩
  case round =>
    obtain ⟨j, hj, rfl, hm⟩ := hrel
    have HM := Lib.hid hm
    clear hm
    by_cases hlt : j < 12
    · obtain ⟨c0, c1, c2, c3⟩ := HT.out j hlt
      cases h1 : (colZ (atP j) == c)
      · go_wp2
        go_round
        case rel =>
          refine ⟨j + 1, by omega, by go_num, fun m hm => ?_⟩
          by_cases e : m = j
          · subst e; rw [h1]; rfl
          · exact HM.out m (by omega)
        case measure => simp [intOf]; omega
      · cases h2 : (kndZ (atP j) == k)
        · go_wp2
          go_round
          case rel =>
            refine ⟨j + 1, by omega, by go_num, fun m hm => ?_⟩
            by_cases e : m = j
            · subst e; rw [h2]; simp
            · exact HM.out m (by omega)
          case measure => simp [intOf]; omega
        · have HE := Lib.hid (mk_hit hlt h1 h2)
          go_wp2
          go_ret
          exact ⟨pc_int HE.out, HB.out⟩
    · obtain rfl : j = 12 := by omega
      have HE := Lib.hid (mk_miss hc HM.out)
      go_wp2
      go_ret
      exact ⟨pc_int HE.out.symm, HB.out⟩
/-- What find answers, its first cell under a name of its own. -/
theorem find_open (p : Int) (w : World) : ∃ q : Int, Calls Tryd.prog 54 #[.int .u8 p] w fun e w' => e = .returned (.tuple #[.agg #[.int .u8 q, .int .u8 (colZ p), .int .u8 (kndZ p), .string (letZ p)], .bool (pcB p)]) ∧ Below w.heap.size w w' := ⟨_, find_any p w⟩
theorem ris_any (p : Int) (w : World) : Calls Tryd.prog 38 #[.int .u8 p] w (BoL (pcB p) w) := by
  obtain ⟨q, hf⟩ := find_open p w
  have HF := Lib.hid hf
  clear hf
  go_enter Tryd.func38, Tryd.ntmps38
  go_wp2_with fail
  refine HF.out.mono ?_; rintro e w1 ⟨rfl, hb⟩
  have HB := Lib.hid hb
  clear hb
  go_wp2
  go_ret
  exact ⟨rfl, HB.out.alloc HB.out.size _⟩
theorem rcol_any (p : Int) (w : World) : Calls Tryd.prog 34 #[.int .u8 p] w (U8L (colZ p) w) := by
  obtain ⟨q, hf⟩ := find_open p w
  have HF := Lib.hid hf
  clear hf
  go_enter Tryd.func34, Tryd.ntmps34
  go_wp2_with fail
  refine HF.out.mono ?_; rintro e w1 ⟨rfl, hb⟩
  have HB := Lib.hid hb
  clear hb
  go_wp2
  go_ret
  exact ⟨rfl, HB.out.alloc HB.out.size _⟩
theorem rknd_any (p : Int) (w : World) : Calls Tryd.prog 35 #[.int .u8 p] w (U8L (kndZ p) w) := by
  obtain ⟨q, hf⟩ := find_open p w
  have HF := Lib.hid hf
  clear hf
  go_enter Tryd.func35, Tryd.ntmps35
  go_wp2_with fail
  refine HF.out.mono ?_; rintro e w1 ⟨rfl, hb⟩
  have HB := Lib.hid hb
  clear hb
  go_wp2
  go_ret
  exact ⟨rfl, HB.out.alloc HB.out.size _⟩
theorem roth_any (p : Int) (w : World) : Calls Tryd.prog 47 #[.int .u8 p] w (U8L (othZ p) w) := by
  obtain ⟨q, hf⟩ := find_open p w
  have HF := Lib.hid hf
  clear hf
  cases h : pcB p
  · have HS := Lib.hid (othZ_no h)
    go_enter Tryd.func47, Tryd.ntmps47
    go_wp2_with fail
    refine HF.out.mono ?_; rintro e w1 ⟨rfl, hb⟩
    have HB := Lib.hid hb
    clear hb
    go_wp2
    go_ret
    exact ⟨pc_int HS.out.symm, HB.out.alloc HB.out.size _⟩
  · have HS := Lib.hid (show othZ p = mkZ (1 - colZ p) (kndZ p) by rw [othZ_yes h, colZ_yes h, kndZ_yes h])
    have l0 : 0 ≤ colZ p := (col_rng p).1
    have l1 : colZ p ≤ 1 := by rw [colZ_yes h]; rw [pcB_true] at h; omega
    have l2 : 0 ≤ kndZ p := (knd_rng p).1
    go_enter Tryd.func47, Tryd.ntmps47
    go_wp2_with fail
    refine HF.out.mono ?_; rintro e w1 ⟨rfl, hb⟩
    have HB := Lib.hid hb
    clear hb
    go_wp2_with fail
    refine (rmk_any _ _ _ (by omega)).mono ?_; rintro e w2 ⟨rfl, hb2⟩
    have HB2 := Lib.hid hb2
    clear hb2
    go_wp2
    go_ret
    refine ⟨pc_int HS.out.symm, ?_⟩
    exact (HB.out.alloc HB.out.size _).trans (HB2.out.mono (HB.out.alloc HB.out.size _).size)
end Go.Proofs.YtgodoipmnenohaaDoor
