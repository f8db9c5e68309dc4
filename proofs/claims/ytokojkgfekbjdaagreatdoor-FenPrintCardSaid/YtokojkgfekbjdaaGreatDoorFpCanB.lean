/-
  Contracts of the program's tests of a position that can be written, second part (layer 10): one rook, all rooks, checks, pockets, the board, all.
-/
import Derived.Test.YtokojkgfekbjdaaGreatDoorFpCan
import Derived.Test.YtokojkgfekbjdaaGreatDoorRu
namespace Go.Proofs.YtokojkgfekbjdaaGreatDoor
open Go.RowKit
set_option linter.unusedVariables false
set_option linter.unusedSimpArgs false

theorem rookCan_eq (p : Nat → Int) (c d f : Int) (hc : c = 0 ∨ c = 1) : rightB p c d f = ((decide (0 ≤ f) && decide (f < 8)) && !(rankZ (kinF p c) != 7 * c) && (bif d == 0 then decide (fileZ (kinF p c) < f) else decide (f < fileZ (kinF p c)))) := by
  have hk := kinF_rng p c
  unfold rightB
  by_cases h : kinF p c < 0
  · have e : kinF p c = -1 := by omega
    rw [e, show rankZ (-1) = -1 from rfl, show ((-1 : Int) != 7 * c) = true by rcases hc with rfl | rfl <;> rfl]
    simp
  · rw [decide_eq_false h]
    by_cases h0 : f < 0
    · rw [decide_eq_true h0, decide_eq_false (show ¬ 0 ≤ f by omega)]; simp
    · rw [decide_eq_false h0, decide_eq_true (show 0 ≤ f by omega)]
      by_cases h8 : f < 8
      · rw [decide_eq_true h8, decide_eq_false (show ¬ 7 < f by omega)]; simp
      · rw [decide_eq_false h8, decide_eq_true (show 7 < f by omega)]; simp
set_option maxRecDepth 100000 in
set_option maxHeartbeats 1000000 in
theorem rookCan_any (p : Nat → Int) (c d f : Int) (w : World) (hp : BdR p) (hc : c = 0 ∨ c = 1) : Calls Tryz.prog 94 #[.agg (posA p), .int .u8 c, .int .i64 d, .int .i64 f] w (BoL (rightB p c d f) w) := by
  have HP := Lib.hid hp
  have HC := Lib.hid hc
  obtain ⟨b, hb⟩ : ∃ b, rightB p c d f = b := ⟨_, rfl⟩
  have he := rookCan_eq p c d f hc
  rw [hb] at he
  rw [hb]
  obtain ⟨k, hk⟩ : ∃ k, kinF p c = k := ⟨_, rfl⟩
  have HK := Lib.hid hk
  rw [hk] at he
  obtain ⟨g, hg⟩ : ∃ g, rankZ k = g := ⟨_, rfl⟩
  have HG := Lib.hid hg
  rw [hg] at he
  obtain ⟨h, hh⟩ : ∃ h, fileZ k = h := ⟨_, rfl⟩
  have HH := Lib.hid hh
  rw [hh] at he
  clear hp hc hb hk hg hh
  have HD := Lib.hid (show True from trivial)
  obtain ⟨i, hi⟩ : ∃ i, (decide (0 ≤ f) && decide (f < 8)) = i := ⟨_, rfl⟩
  have HI := Lib.hid hi
  rw [hi] at he
  clear hi
  cases i
  · have HE := Lib.hid (show false = b by rw [he]; rfl)
    clear he
    go_enter Tryz.func94, Tryz.ntmps94
    go_wp2_with (first
      | (refine step_box rfl _ rfl p rfl ?_; intro b1 w1 N R; have HB := Lib.hid N.below; have HR := Lib.hid R; clear N R)
      | (refine step_load rfl _ rfl b1 rfl p HR.out ?_)
      | (go_at_call 125; refine (firstKing_any p _ _ HP.out HC.out).mono ?_; rintro e w' ⟨rfl, hb9⟩; rw [HK.out]; have HB := Lib.hid (HB.out.trans (hb9.mono HB.out.size)); clear hb9 HR)
      | (go_at_call 126; refine (isFile_any _ _).mono ?_; rintro e w' ⟨rfl, rfl⟩; rw [HI.out])
      | (go_at_call 127; refine (rank_any _ _).mono ?_; rintro e w' ⟨rfl, rfl⟩; rw [HG.out])
      | (go_at_call 129; refine (file_any _ _).mono ?_; rintro e w' ⟨rfl, rfl⟩; rw [HH.out])
      | (go_at_call 128; refine (home_any _ _ HC.out).mono ?_; rintro e w' ⟨rfl, rfl⟩))
    go_ret
    exact ⟨pc_bool HE.out, HB.out⟩
  · cases e2 : (g != 7 * c)
    · cases e3 : (d == 0)
      · have HE := Lib.hid (show decide (f < h) = b by rw [he, e2, e3]; rfl)
        clear he
        go_enter Tryz.func94, Tryz.ntmps94
        go_wp2_with (first
          | (refine step_box rfl _ rfl p rfl ?_; intro b1 w1 N R; have HB := Lib.hid N.below; have HR := Lib.hid R; clear N R)
          | (refine step_load rfl _ rfl b1 rfl p HR.out ?_)
          | (go_at_call 125; refine (firstKing_any p _ _ HP.out HC.out).mono ?_; rintro e w' ⟨rfl, hb9⟩; rw [HK.out]; have HB := Lib.hid (HB.out.trans (hb9.mono HB.out.size)); clear hb9 HR)
          | (go_at_call 126; refine (isFile_any _ _).mono ?_; rintro e w' ⟨rfl, rfl⟩; rw [HI.out])
          | (go_at_call 127; refine (rank_any _ _).mono ?_; rintro e w' ⟨rfl, rfl⟩; rw [HG.out])
          | (go_at_call 129; refine (file_any _ _).mono ?_; rintro e w' ⟨rfl, rfl⟩; rw [HH.out])
          | (go_at_call 128; refine (home_any _ _ HC.out).mono ?_; rintro e w' ⟨rfl, rfl⟩))
        go_ret
        exact ⟨pc_bool HE.out, HB.out⟩
      · have HE := Lib.hid (show decide (h < f) = b by rw [he, e2, e3]; rfl)
        clear he
        go_enter Tryz.func94, Tryz.ntmps94
        go_wp2_with (first
          | (refine step_box rfl _ rfl p rfl ?_; intro b1 w1 N R; have HB := Lib.hid N.below; have HR := Lib.hid R; clear N R)
          | (refine step_load rfl _ rfl b1 rfl p HR.out ?_)
          | (go_at_call 125; refine (firstKing_any p _ _ HP.out HC.out).mono ?_; rintro e w' ⟨rfl, hb9⟩; rw [HK.out]; have HB := Lib.hid (HB.out.trans (hb9.mono HB.out.size)); clear hb9 HR)
          | (go_at_call 126; refine (isFile_any _ _).mono ?_; rintro e w' ⟨rfl, rfl⟩; rw [HI.out])
          | (go_at_call 127; refine (rank_any _ _).mono ?_; rintro e w' ⟨rfl, rfl⟩; rw [HG.out])
          | (go_at_call 129; refine (file_any _ _).mono ?_; rintro e w' ⟨rfl, rfl⟩; rw [HH.out])
          | (go_at_call 128; refine (home_any _ _ HC.out).mono ?_; rintro e w' ⟨rfl, rfl⟩))
        go_ret
        exact ⟨pc_bool HE.out, HB.out⟩
    · have HE := Lib.hid (show false = b by rw [he, e2]; rfl)
      clear he
      go_enter Tryz.func94, Tryz.ntmps94
      go_wp2_with (first
        | (refine step_box rfl _ rfl p rfl ?_; intro b1 w1 N R; have HB := Lib.hid N.below; have HR := Lib.hid R; clear N R)
        | (refine step_load rfl _ rfl b1 rfl p HR.out ?_)
        | (go_at_call 125; refine (firstKing_any p _ _ HP.out HC.out).mono ?_; rintro e w' ⟨rfl, hb9⟩; rw [HK.out]; have HB := Lib.hid (HB.out.trans (hb9.mono HB.out.size)); clear hb9 HR)
        | (go_at_call 126; refine (isFile_any _ _).mono ?_; rintro e w' ⟨rfl, rfl⟩; rw [HI.out])
        | (go_at_call 127; refine (rank_any _ _).mono ?_; rintro e w' ⟨rfl, rfl⟩; rw [HG.out])
        | (go_at_call 129; refine (file_any _ _).mono ?_; rintro e w' ⟨rfl, rfl⟩; rw [HH.out])
        | (go_at_call 128; refine (home_any _ _ HC.out).mono ?_; rintro e w' ⟨rfl, rfl⟩))
      go_ret
      exact ⟨pc_bool HE.out, HB.out⟩

end Go.Proofs.YtokojkgfekbjdaaGreatDoor
