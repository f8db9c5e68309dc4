/-
  Contract of the program's rooksText (layer 10).
-/
import Derived.Test.YtokojkgfekbjdaaGreatDoorFpRooks
namespace Go.Proofs.YtokojkgfekbjdaaGreatDoor
open Go.RowKit
set_option linter.unusedVariables false
set_option linter.unusedSimpArgs false

theorem no_beqn {a b : Int} (h : (a != b) = true) : a ≠ b := by simpa using h
theorem yes_beqn {a b : Int} (h : (a != b) = false) : a = b := by simpa using h
theorem rc_len (p : Nat → Int) (n d : Nat) (hn : n ≤ 2) (hd : d ≤ 2) : (rcL p n ++ rdL p n d).length ≤ 10 := by
  have := rcL_len p n; have := rdL_len p n d; rw [List.length_append]; omega
set_option maxRecDepth 100000 in
set_option maxHeartbeats 4000000 in
theorem rooksText_any (p : Nat → Int) (w : World) (hq : ∀ i, i < 4 → -1 ≤ p (79 + i) ∧ p (79 + i) ≤ 7) (hT : TabCorn w) : Calls Tryz.prog 60 #[.agg (posA p)] w (StL (bz (roT p)) w) := by
  have HQ := Lib.hid hq
  have HT := Lib.hid hT
  clear hq hT
  go_enter Tryz.func60, Tryz.ntmps60
  go_wp2_with (refine step_box rfl _ rfl p rfl ?_; intro b1 w1 N R; have HB := Lib.hid N.below; have HR := Lib.hid R; clear N R)
  have HI := Lib.hid (show b1 < w1.heap.size from HR.out.lt)
  go_loopw [3, 4] (fun t c wr => ∃ n : Nat, n ≤ 2 ∧ c = .int .u8 n ∧ t = .string (bz (rcL p n)) ∧ Below w1.heap.size w1 wr) (fun _ c _ => 2 - (intOf c).toNat)
  case atStart => exact ⟨0, by omega, rfl, rfl, Below.refl _ _⟩
  case round =>
    obtain ⟨n, hn, rfl, rfl, hbel⟩ := hrel
    have HBl := Lib.hid hbel
    have HRw := Lib.hid (HR.out.next hbel HI.out)
    clear hbel
    by_cases hn2 : n < 2
    · have ln : (n : Int) ≤ 1 := by omega
      have ln2 : (n : Int) < 2 := by omega
      have n0 : (0 : Int) ≤ (n : Int) := by omega
      have HN2 := Lib.hid hn2
      have HN01 := Lib.hid (show (n : Int) = 0 ∨ (n : Int) = 1 by omega)
      have HS0 := Lib.hid (show bz (rcL p n) = bz (rcL p n ++ rdL p n 0) by rw [show rdL p n 0 = [] from rfl, List.append_nil])
      clear hn hn2
      go_wp2_with (refine step_part rfl 27 _ rfl b1 (79 + n * 2) 2 .i8 rfl p HRw.out (by have := HN2.out; omega) (kat_rk n HN2.out) _ Tryz.underlying27 rfl size27 ?_)
      go_loopw [3, 15] (fun t i wr2 => ∃ d : Nat, d ≤ 2 ∧ i = .int .i64 d ∧ t = .string (bz (rcL p n ++ rdL p n d)) ∧ Below w1.heap.size w1 wr2) (fun _ i _ => 2 - (intOf i).toNat)
      case atStart => exact ⟨0, by omega, rfl, by rw [HS0.out], HBl.out⟩
      case round =>
        obtain ⟨d, hd, rfl, rfl, hbel2⟩ := hrel
        have HBm := Lib.hid hbel2
        clear hbel2
        by_cases hd2 : d < 2
        · have ld : (d : Int) < 2 := by omega
          have d0 : (0 : Int) ≤ (d : Int) := by omega
          have HD2 := Lib.hid hd2
          obtain ⟨x, hx⟩ : ∃ x, p (79 + n * 2 + d) = x := ⟨_, rfl⟩
          obtain ⟨x0, x1⟩ : -1 ≤ x ∧ x ≤ 7 := by rw [← hx, show 79 + n * 2 + d = 79 + (n * 2 + d) by omega]; exact HQ.out _ (by have := HN2.out; omega)
          have HX := Lib.hid hx
          have hr : rdL p n (d + 1) = rdL p n d ++ rfL n d x := by rw [rdL, hx]
          obtain ⟨t, ht⟩ : ∃ t, bz (rcL p n ++ rdL p n d) = t := ⟨_, rfl⟩
          have htz : t.size ≤ 10 := by rw [← ht, bz_size]; exact rc_len p n d (by have := HN2.out; omega) hd
          clear hx hd hd2
          cases hz : (x != -1)
          · have hxm : x < 0 := by have := yes_beqn hz; omega
            have HSn := Lib.hid (show bz (rcL p n ++ rdL p n (d + 1)) = t by
              rw [hr]; unfold rfL; rw [decide_eq_true hxm]
              show bz (rcL p n ++ (rdL p n d ++ [])) = t
              rw [List.append_nil, ht])
            rw [ht]
            clear hr ht htz hxm
            go_wp2_with (refine arr_index rfl 27 26 _ _ rfl 2 .i8 _ rfl d rfl HD2.out Tryz.underlying27 Tryz.underlying26 size26 ?_; dsimp only; rw [HX.out])
            go_roundw
            case rel => exact ⟨d + 1, by have := HD2.out; omega, by go_num, by rw [HSn.out], HBm.out⟩
            case measure => simp [intOf]; have := HD2.out; omega
          · have hx0 : 0 ≤ x := by have := no_beqn hz; omega
            obtain ⟨f, hf⟩ : ∃ f : Nat, x = (f : Int) := ⟨x.toNat, (Int.toNat_of_nonneg hx0).symm⟩
            subst hf
            have HF := Lib.hid (show f < 8 by omega)
            obtain ⟨l, hl⟩ : ∃ l, bz [byZ (rkF n d (f : Int))] = l := ⟨_, rfl⟩
            have hlz : l.size ≤ 1 := by rw [← hl, bz_size]; exact Nat.le_refl 1
            have HSn := Lib.hid (show bz (rcL p n ++ rdL p n (d + 1)) = t ++ l by
              rw [hr]; unfold rfL; rw [decide_eq_false (show ¬ (f : Int) < 0 by omega)]
              show bz (rcL p n ++ (rdL p n d ++ [byZ (rkF n d (f : Int))])) = t ++ l
              rw [← List.append_assoc, ← bz_app, ht, hl])
            have HL := Lib.hid (show bz [byZ (rkF (n : Int).toNat d (f : Int))] = l by rw [Int.toNat_natCast]; exact hl)
            have k1 := cat_ok (a := t) (b := l) (by omega) (by omega)
            rw [ht]
            clear hr ht htz hl hlz hx0
            go_wp2_with (first
              | (refine arr_index rfl 27 26 _ _ rfl 2 .i8 _ rfl d rfl HD2.out Tryz.underlying27 Tryz.underlying26 size26 ?_; dsimp only; rw [HX.out])
              | (go_at_call 98; refine (rookLetter_any _ d f _ HN01.out HD2.out HF.out (HT.out.on (HB.out.trans (HBm.out.mono HB.out.size)))).mono ?_; rintro e w' ⟨rfl, hb9⟩; have HBm := Lib.hid (below_on HBm.out hb9); clear hb9; rw [HL.out]))
            go_roundw
            case rel => exact ⟨d + 1, by have := HD2.out; omega, by go_num, by rw [HSn.out], HBm.out⟩
            case measure => simp [intOf]; have := HD2.out; omega
        · obtain rfl : d = 2 := by omega
          have HSn := Lib.hid (show rcL p n ++ rdL p n 2 = rcL p (n + 1) from rfl)
          go_wp2_with fail
          go_roundw
          case rel => exact ⟨n + 1, by have := HN2.out; omega, by go_num, by rw [HSn.out], HBm.out⟩
          case measure => simp [intOf]; have := HN2.out; omega
    · obtain rfl : n = 2 := by omega
      cases hrc : rcL p 2 with
      | nil =>
        have HE := Lib.hid (show roT p = [45] by unfold roT; rw [hrc]; rfl)
        have hem : (bz []).toList.isEmpty = true := by rw [bz_toList]; rfl
        go_wp2_with fail
        go_ret
        exact ⟨by rw [HE.out]; rfl, HB.out.trans (HBl.out.mono HB.out.size)⟩
      | cons a l =>
        have HE := Lib.hid (show roT p = a :: l by unfold roT; rw [hrc]; rfl)
        have hem : (bz (a :: l)).toList.isEmpty = false := by rw [bz_toList]; rfl
        go_wp2_with fail
        go_ret
        exact ⟨by rw [HE.out]; rfl, HB.out.trans (HBl.out.mono HB.out.size)⟩
end Go.Proofs.YtokojkgfekbjdaaGreatDoor
