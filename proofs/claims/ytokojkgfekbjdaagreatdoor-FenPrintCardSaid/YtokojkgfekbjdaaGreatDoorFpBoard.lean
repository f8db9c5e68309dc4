/-
  Contract of the program's boardText (layer 10).
-/
import Derived.Test.YtokojkgfekbjdaaGreatDoorFpRank
import Derived.Test.YtokojkgfekbjdaaGreatDoorFpList
import Derived.Test.YtokojkgfekbjdaaGreatDoorFnPrint
namespace Go.Proofs.YtokojkgfekbjdaaGreatDoor
open Go.RowKit
set_option linter.unusedVariables false
set_option linter.unusedSimpArgs false

/-- The texts of the first j ranks, from the rank 7 down. -/
def rkLs (p : Nat → Int) (j : Nat) : List (List UInt8) := (List.range j).map fun i => rkL p (7 - i)
theorem rkLs_succ (p : Nat → Int) (j : Nat) : rkLs p (j + 1) = rkLs p j ++ [rkL p (7 - j)] := by simp [rkLs, List.range_succ]
theorem rkLs_len (p : Nat → Int) (j : Nat) : (rkLs p j).length = j := by simp [rkLs]
theorem bdL_join (p : Nat → Int) : [(47 : UInt8)].intercalate (rkLs p 8) = bdL p 8 := by
  simp [rkLs, List.range_succ, bdL, List.intercalate, List.intersperse]
set_option maxRecDepth 100000 in
set_option maxHeartbeats 4000000 in
theorem boardText_any (p : Nat → Int) (w : World) (hp : BdR p) (hm : 0 ≤ p 65 ∧ (p 65).toNat < W64) : Calls Tryz.prog 57 #[.agg (posA p)] w (StL (bz (bdL p 8)) w) := by
  have HP := Lib.hid hp
  have HM := Lib.hid hm
  obtain ⟨i0, hi, hz0, hz1, hz2⟩ := info_parts infoStr
  clear hp hm
  go_enter Tryz.func57, Tryz.ntmps57
  go_wp2_with (refine step_box rfl _ rfl p rfl ?_; intro b1 w1 N R; have HN := Lib.hid N.below; have HR := Lib.hid R; clear N R)
  have HI := Lib.hid (show b1 < w1.heap.size from HR.out.lt)
  go_loopw [3, 4] (fun l i wr => ∃ j : Nat, j ≤ 8 ∧ i = .int .i64 (7 - (j : Int)) ∧ ListedS 9 w1.heap.size (rkLs p j) l wr ∧ Below w1.heap.size w1 wr) (fun _ i _ => (intOf i + 1).toNat)
  case atStart => exact ⟨0, by omega, rfl, listedS_nil _ _ _, Below.refl _ _⟩
  case round =>
    obtain ⟨j, hj, rfl, hl, hb⟩ := hrel
    have HL := Lib.hid hl
    have HB := Lib.hid hb
    have HRw := Lib.hid (HR.out.next hb HI.out)
    have hsz := hb.size
    clear hl hb
    by_cases h8 : j < 8
    · obtain ⟨r, hr⟩ : ∃ r : Nat, r = 7 - j := ⟨_, rfl⟩
      have hri : (7 - (j : Int)) = (r : Int) := by omega
      have HJ := Lib.hid h8
      have HRj := Lib.hid hr
      have g0 : decide ((0 : Int) ≤ (r : Int)) = true := decide_eq_true (by omega)
      have r0 : (0 : Int) ≤ (r : Int) := by omega
      have HR8 := Lib.hid (show r < 8 by omega)
      have HWr := Lib.hid (show wrap64 ((r : Int) - 1) = (r : Int) - 1 from IntWalk.wrap64_in _ ⟨by omega, by omega⟩)
      rw [hri]
      clear hri hr h8 hj
      go_wp2_with (first
        | (refine step_load rfl _ rfl b1 rfl p HRw.out ?_)
        | (go_at_call 95; refine (rankText_any p r _ HR8.out HP.out HM.out).mono ?_; rintro e' w' ⟨rfl, hb9⟩; have HB := Lib.hid (HB.out.trans (hb9.mono HB.out.size)); have HL := Lib.hid (listedS_below HL.out hb9); have hsz := HB.out.size; clear hb9 HRw)
        | (at_builtin; refine wpList_append_own _ rfl _ _ 64 rfl w1.heap.size 9 i0 (.string ⟨#[]⟩) 1 16 Tryz.underlying64 hi hz0 hz1 hz2 rfl (by decide) _ _ _ rfl (HL.out.alloc _) ⟨_, 0, none⟩ 1 1 [.string (bz (rkL p r))] rfl rfl ?c1 ?c2 ?c3 ?c4 ?c5 ?_))
      case c1 => exact cell_one_new _ _ _
      case c2 => simp [Value.oneCell']
      case c3 => have := HJ.out; rw [rkLs_len]; unfold maxLen; omega
      case c4 => have := HJ.out; rw [rkLs_len]; omega
      case c5 => simp; omega
      intro v' w2 hown' hgrow _
      have HG := Lib.hid (listedS_grow HL.out HB.out hsz hown' hgrow)
      clear hown' hgrow
      go_wp2
      go_roundw
      case rel => exact ⟨j + 1, by have := HJ.out; omega, by rw [show (7 : Int) - ((j + 1 : Nat) : Int) = (r : Int) - 1 by have := HJ.out; have := HRj.out; omega, HWr.out], by rw [rkLs_succ, ← HRj.out]; exact HG.out.1, HG.out.2⟩
      case measure => simp [intOf, HWr.out]
    · obtain rfl : j = 8 := by omega
      obtain ⟨g, cap, hv, hg, hcap, hcells⟩ := listedS_open HL.out (by rw [rkLs_len]; decide)
      rw [rkLs_len] at hv hcap
      subst hv
      have HJn := Lib.hid (join_any g cap (rkLs p 8) [47] 8 wr (by rw [rkLs_len]) hcells hg (by rw [rkLs_len]; decide) (by rw [rkLs_len]; exact hcap) (by rw [bdL_join]; have := bdL_len p 8; omega))
      clear hcells hg hcap
      go_wp2_with (go_at_call 64; refine HJn.out.mono ?_; rintro e' w' ⟨rfl, hb9⟩; rw [bdL_join]; have HB := Lib.hid (HB.out.trans (hb9.mono HB.out.size)); clear hb9)
      go_ret
      exact ⟨rfl, HN.out.trans (HB.out.mono HN.out.size)⟩
end Go.Proofs.YtokojkgfekbjdaaGreatDoor
