/-
  Contracts of the program's Parse and Kinds (layer 5).
-/
import Derived.Test.YtnogmogmlilpiaaDoorPc
import Derived.WalkMore
import Derived.Deep.LoopGhost
namespace Go.Proofs.YtnogmogmlilpiaaDoor
open Go.RowKit

/-- None of the first k pieces has this letter. -/
def Miss (t : ByteArray) (k : Nat) : Prop := ∀ j : Nat, j < k → letZ (atP j) ≠ t
theorem miss_zero (t : ByteArray) : Miss t 0 := fun j h => by omega
theorem miss_next {t : ByteArray} {k : Nat} (h : Miss t k) (e : ((letZ (atP k)).toList == t.toList) = false) : Miss t (k + 1) := fun j hj => by
  by_cases g : j = k
  · subst g; exact str_ne.1 e
  · exact h j (by omega)
theorem mk_at {n m : Nat} (hn : n < 2) (h1 : 1 ≤ m) (h2 : m ≤ 6) : mkZ (n : Int) (m : Int) = atP (6 * n + (m - 1)) := by
  have key : ∀ (n : Fin 2) (m : Fin 6), mkZ (n.val : Int) ((m.val + 1 : Nat) : Int) = atP (6 * n.val + m.val) := by decide +kernel
  have := key ⟨n, hn⟩ ⟨m - 1, by omega⟩
  rw [show m - 1 + 1 = m by omega] at this
  exact this
theorem prsB_none {t : ByteArray} (h : prsZ t = 0) : prsB t = false := by simp [prsB, h]
theorem prsB_some {t : ByteArray} (h : prsZ t ≠ 0) : prsB t = true := by simp [prsB, h]
set_option maxHeartbeats 1000000 in
theorem prs_any (t : ByteArray) (w : World) : Calls Tryd.prog 43 #[.string t] w (U8B (prsZ t) (prsB t) w) := by
  go_enter Tryd.func43, Tryd.ntmps43
  go_wp2
  go_step3
  go_wp2
  go_step3
  go_wp2
  go_loop [4, 5] (fun f c => ∃ n : Nat, n ≤ 2 ∧ f = .int .u8 0 ∧ c = .int .u8 (n : Int) ∧ Miss t (6 * n)) (fun _ c => 2 - (intOf c).toNat)
  case atStart => exact ⟨0, by omega, rfl, rfl, miss_zero t⟩
  case round =>
    obtain ⟨n, hn, rfl, rfl, hm⟩ := hrel
    have HM := Lib.hid hm
    clear hm
    by_cases hlt : n < 2
    · go_wp2
      go_loop [4, 6] (fun f k => ∃ m : Nat, 1 ≤ m ∧ m ≤ 7 ∧ f = .int .u8 0 ∧ k = .int .u8 (m : Int) ∧ Miss t (6 * n + (m - 1))) (fun _ k => 7 - (intOf k).toNat)
      case atStart => exact ⟨1, by omega, by omega, rfl, rfl, HM.out⟩
      case round =>
        obtain ⟨m, h1, h7, rfl, rfl, hm⟩ := hrel
        have HM' := Lib.hid hm
        clear hm
        by_cases hlt' : m ≤ 6
        · have HA := Lib.hid (mk_at hlt h1 hlt')
          have l0 : 0 ≤ mkZ (n : Int) (m : Int) := (mk_rng _ _ (by omega)).1
          have l1 : mkZ (n : Int) (m : Int) ≤ 255 := by have := (mk_rng (n : Int) (m : Int) (by omega)).2; omega
          cases he : ((letZ (mkZ (n : Int) (m : Int))).toList == t.toList)
          · have HN := Lib.hid (miss_next HM'.out (by rw [← HA.out]; exact he))
            go_wp2_with (first | (go_at_call 38; refine (mk_any _ _ _ (by omega) (by omega)).mono ?_; rintro e w' ⟨rfl, rfl⟩) | (go_at_call 37; refine (let_any _ _ l0 l1).mono ?_; rintro e w' ⟨rfl, rfl⟩))
            go_round
            case rel => exact ⟨m + 1, by omega, by omega, rfl, by go_num, by have := HN.out; rw [show 6 * n + (m + 1 - 1) = 6 * n + (m - 1) + 1 by omega]; exact this⟩
            case measure => simp [intOf]; omega
          · have HP := Lib.hid (prs_hit t (6 * n + (m - 1)) (by omega) (by rw [← HA.out]; exact str_eq.1 he))
            have hz : (mkZ (n : Int) (m : Int) != 0) = true := by
              have := mkZ_yes (mkB_true.2 ⟨by omega, by omega, by omega⟩ : mkB (n : Int) (m : Int) = true)
              rw [this]; simp; omega
            have HZ := Lib.hid hz
            go_wp2_with (first | (go_at_call 38; refine (mk_any _ _ _ (by omega) (by omega)).mono ?_; rintro e w' ⟨rfl, rfl⟩) | (go_at_call 37; refine (let_any _ _ l0 l1).mono ?_; rintro e w' ⟨rfl, rfl⟩))
            go_ret2
            exact ⟨pc_pair (by rw [HP.out, HA.out]) (by unfold prsB; rw [HP.out, ← HA.out, HZ.out]), rfl⟩
        · obtain rfl : m = 7 := by omega
          go_wp2
          go_round
          case rel => exact ⟨n + 1, by omega, rfl, by go_num, by have := HM'.out; rw [show 6 * (n + 1) = 6 * n + (7 - 1) by omega]; exact this⟩
          case measure => simp [intOf]; omega
    · obtain rfl : n = 2 := by omega
      have HP := Lib.hid (prs_none t fun k hk => HM.out k (by omega))
      go_wp2
      go_ret2
      exact ⟨pc_pair HP.out.symm (prsB_none HP.out).symm, rfl⟩
end Go.Proofs.YtnogmogmlilpiaaDoor
