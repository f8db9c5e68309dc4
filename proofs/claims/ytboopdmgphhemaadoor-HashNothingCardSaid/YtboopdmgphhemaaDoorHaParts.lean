/-
  Contracts of the program's layer 9, second part: below, Piece, Turn, Passing, Rook, Pocket, Checks.
-/
import Derived.Test.YtboopdmgphhemaaDoorHaPart
import Derived.Test.YtboopdmgphhemaaDoorPc
namespace Go.Proofs.YtboopdmgphhemaaDoor
open Go.RowKit
set_option linter.unusedVariables false

theorem ret_u64 {a b : Nat} (h : a = b) : Ending.returned (.int .u64 (a : Int)) = .returned (.int .u64 (b : Int)) := by rw [h]
theorem ret_none {b : Nat} (h : b = 0) : Ending.returned (.int .u64 0) = .returned (.int .u64 (b : Int)) := by rw [h]; rfl
theorem bif_t {b : Bool} {x y : Nat} (h : b = true) : (bif b then x else y) = x := by subst h; rfl
theorem bif_f {b : Bool} {x y : Nat} (h : b = false) : (bif b then x else y) = y := by subst h; rfl
theorem pieceN_no {x s : Int} (h : pcB x = false) : pieceN x s = 0 := bif_f (by rw [h, Bool.false_and])
theorem pieceN_off {x s : Int} (h : sq s = false) : pieceN x s = 0 := bif_f (by rw [h, Bool.and_false])
theorem pieceN_yes {x s : Int} (h : pcB x = true) (g : sq s = true) : pieceN x s = ptN 1 (64 * x + s) := bif_t (by rw [h, g]; rfl)
theorem turnN_yes {c : Int} (h : c = 1) : turnN c = ptN 2 0 := bif_t (decide_eq_true h)
theorem turnN_no {c : Int} (h : ¬ c = 1) : turnN c = 0 := bif_f (decide_eq_false h)
theorem psgN_yes {s : Int} (h : sq s = true) : psgN s = ptN 3 s := bif_t h
theorem psgN_no {s : Int} (h : sq s = false) : psgN s = 0 := bif_f h
theorem rookHN_col {c d f : Int} (h : 1 < c) : rookHN c d f = 0 := bif_f (by rw [decide_eq_false (show ¬ c ≤ 1 by omega), Bool.false_and, Bool.false_and])
theorem rookHN_side {c d f : Int} (h : sideB d = false) : rookHN c d f = 0 := bif_f (by rw [h, Bool.and_false, Bool.false_and])
theorem rookHN_file {c d f : Int} (h : fileB f = false) : rookHN c d f = 0 := bif_f (by rw [h, Bool.and_false])
theorem rookHN_yes {c d f : Int} (h : c ≤ 1) (g : sideB d = true) (k : fileB f = true) : rookHN c d f = ptN 4 (16 * (2 * c + d) + f) := bif_t (by rw [decide_eq_true h, g, k]; rfl)
theorem pockN_col {c k n : Int} (h : 1 < c) : pockN c k n = 0 := bif_f (by rw [decide_eq_false (show ¬ c ≤ 1 by omega), Bool.false_and, Bool.false_and])
theorem pockN_man {c k n : Int} (h : manB k = false) : pockN c k n = 0 := bif_f (by rw [h, Bool.and_false, Bool.false_and])
theorem pockN_nil {c k n : Int} (h : n = 0) : pockN c k n = 0 := bif_f (by rw [decide_eq_true h, Bool.not_true, Bool.and_false])
theorem pockN_yes {c k n : Int} (h : c ≤ 1) (g : manB k = true) (l : ¬ n = 0) : pockN c k n = ptN 5 (256 * (6 * c + k) + n) := bif_t (by rw [decide_eq_true h, g, decide_eq_false l]; rfl)
theorem chkHN_col {c n : Int} (h : 1 < c) : chkHN c n = 0 := bif_f (by rw [decide_eq_false (show ¬ c ≤ 1 by omega), Bool.false_and])
theorem chkHN_nil {c n : Int} (h : n = 0) : chkHN c n = 0 := bif_f (by rw [decide_eq_true h, Bool.not_true, Bool.and_false])
theorem chkHN_yes {c n : Int} (h : c ≤ 1) (l : ¬ n = 0) : chkHN c n = ptN 6 (256 * c + n) := bif_t (by rw [decide_eq_true h, decide_eq_false l]; rfl)
theorem manB_lo {k : Int} (h : k < 1) : manB k = false := by unfold manB; rw [decide_eq_false (show ¬ 1 ≤ k by omega), Bool.false_and]
theorem manB_hi {k : Int} (h : 5 < k) : manB k = false := by unfold manB; rw [decide_eq_false (show ¬ k ≤ 5 by omega), Bool.and_false]
theorem blw_any (n m : Int) (w : World) : Calls Tryd.prog 30 #[.int .i64 n, .int .i64 m] w (Bo (decide (0 ≤ n) && decide (n < m)) w) := by
  cases h0 : decide (0 ≤ n)
  · go_enter Tryd.func30, Tryd.ntmps30
    go_wp2
    go_ret
    exact ⟨rfl, rfl⟩
  · cases h1 : decide (n < m)
    · go_enter Tryd.func30, Tryd.ntmps30
      go_wp2
      go_ret
      exact ⟨rfl, rfl⟩
    · go_enter Tryd.func30, Tryd.ntmps30
      go_wp2
      go_ret
      exact ⟨rfl, rfl⟩
theorem below64 (s : Int) (w : World) : Calls Tryd.prog 30 #[.int .i64 s, .int .i64 64] w (Bo (sq s) w) := blw_any s 64 w
theorem blw2 (s : Int) (w : World) : Calls Tryd.prog 30 #[.int .i64 s, .int .i64 2] w (Bo (sideB s) w) := blw_any s 2 w
theorem below8 (s : Int) (w : World) : Calls Tryd.prog 30 #[.int .i64 s, .int .i64 8] w (Bo (fileB s) w) := blw_any s 8 w

theorem piece_any (x s : Int) (w : World) (hx : 0 ≤ x) (hx2 : x ≤ 255) (hT : TabMix w) : Calls Tryd.prog 12 #[.int .u8 x, .int .i64 s] w (U64L (pieceN x s) w) := by
  have HT := Lib.hid hT
  clear hT
  cases hp : pcB x
  · have HS := Lib.hid (pieceN_no (s := s) hp)
    go_enter Tryd.func12, Tryd.ntmps12
    go_wp2_with (go_at_call 29; refine (is_any _ _ hx hx2).mono ?_; rintro e w' ⟨rfl, rfl⟩)
    go_ret
    exact ⟨ret_none HS.out, Below.refl _ _⟩
  · cases hs : sq s
    · have HS := Lib.hid (pieceN_off (x := x) hs)
      go_enter Tryd.func12, Tryd.ntmps12
      go_wp2_with (first
        | (go_at_call 29; refine (is_any _ _ hx hx2).mono ?_; rintro e w' ⟨rfl, rfl⟩)
        | (go_at_call 30; refine (below64 _ _).mono ?_; rintro e w' ⟨rfl, rfl⟩))
      go_ret
      exact ⟨ret_none HS.out, Below.refl _ _⟩
    · have HS := Lib.hid (pieceN_yes hp hs)
      obtain ⟨h0, h1⟩ := sq_true.1 hs
      go_enter Tryd.func12, Tryd.ntmps12
      go_wp2_with (first
        | (go_at_call 29; refine (is_any _ _ hx hx2).mono ?_; rintro e w' ⟨rfl, rfl⟩)
        | (go_at_call 30; refine (below64 _ _).mono ?_; rintro e w' ⟨rfl, rfl⟩)
        | (go_at_call 10; refine (part_any _ _ _ HT.out).mono ?_; rintro e w' ⟨rfl, hb⟩; have HB := Lib.hid hb; clear hb))
      go_ret
      exact ⟨ret_u64 HS.out.symm, HB.out⟩
theorem turn_any (c : Int) (w : World) (hT : TabMix w) : Calls Tryd.prog 14 #[.int .u8 c] w (U64L (turnN c) w) := by
  have HT := Lib.hid hT
  clear hT
  by_cases h : c = 1
  · have HS := Lib.hid (turnN_yes h)
    go_enter Tryd.func14, Tryd.ntmps14
    have g : (c != 1) = false := by simp [h]
    go_wp2_with (go_at_call 10; refine (part_any _ _ _ HT.out).mono ?_; rintro e w' ⟨rfl, hb⟩; have HB := Lib.hid hb; clear hb)
    go_ret
    exact ⟨ret_u64 HS.out.symm, HB.out⟩
  · have HS := Lib.hid (turnN_no h)
    have g : (c != 1) = true := by simp [h]
    clear h
    go_enter Tryd.func14, Tryd.ntmps14
    go_wp2_with fail
    go_ret
    exact ⟨ret_none HS.out, Below.refl _ _⟩
theorem passing_any (s : Int) (w : World) (hT : TabMix w) : Calls Tryd.prog 16 #[.int .i64 s] w (U64L (psgN s) w) := by
  have HT := Lib.hid hT
  clear hT
  cases hs : sq s
  · have HS := Lib.hid (psgN_no hs)
    go_enter Tryd.func16, Tryd.ntmps16
    go_wp2_with (go_at_call 30; refine (below64 _ _).mono ?_; rintro e w' ⟨rfl, rfl⟩)
    go_ret
    exact ⟨ret_none HS.out, Below.refl _ _⟩
  · have HS := Lib.hid (psgN_yes hs)
    go_enter Tryd.func16, Tryd.ntmps16
    go_wp2_with (first
      | (go_at_call 30; refine (below64 _ _).mono ?_; rintro e w' ⟨rfl, rfl⟩)
      | (go_at_call 10; refine (part_any _ _ _ HT.out).mono ?_; rintro e w' ⟨rfl, hb⟩; have HB := Lib.hid hb; clear hb))
    go_ret
    exact ⟨ret_u64 HS.out.symm, HB.out⟩
set_option maxHeartbeats 1000000 in
theorem rook_nany (c d f : Int) (w : World) (hc : 0 ≤ c) (hT : TabMix w) : Calls Tryd.prog 18 #[.int .u8 c, .int .i64 d, .int .i64 f] w (U64L (rookHN c d f) w) := by
  have HT := Lib.hid hT
  clear hT
  by_cases hc1 : 1 < c
  · have HS := Lib.hid (rookHN_col (d := d) (f := f) hc1)
    have g : decide (1 < c) = true := decide_eq_true hc1
    clear hc1
    go_enter Tryd.func18, Tryd.ntmps18
    go_wp2
    go_ret
    exact ⟨ret_none HS.out, Below.refl _ _⟩
  · have g : decide (1 < c) = false := decide_eq_false hc1
    have hc2 : c ≤ 1 := by omega
    clear hc1
    cases hd : sideB d
    · have HS := Lib.hid (rookHN_side (c := c) (f := f) hd)
      go_enter Tryd.func18, Tryd.ntmps18
      go_wp2_with (go_at_call 30; refine (blw2 _ _).mono ?_; rintro e w' ⟨rfl, rfl⟩)
      go_ret
      exact ⟨ret_none HS.out, Below.refl _ _⟩
    · cases hf : fileB f
      · have HS := Lib.hid (rookHN_file (c := c) (d := d) hf)
        go_enter Tryd.func18, Tryd.ntmps18
        go_wp2_with fail
        refine (blw2 _ _).mono ?_; rintro e w' ⟨rfl, rfl⟩
        go_wp2_with fail
        refine (below8 _ _).mono ?_; rintro e w' ⟨rfl, rfl⟩
        go_wp2_with fail
        go_ret
        exact ⟨ret_none HS.out, Below.refl _ _⟩
      · have HS := Lib.hid (rookHN_yes hc2 hd hf)
        have b1 : 0 ≤ d ∧ d < 2 := by simpa [sideB] using hd
        have b2 : 0 ≤ f ∧ f < 8 := by simpa [fileB] using hf
        obtain ⟨d0, d1⟩ := b1
        obtain ⟨f0, f1⟩ := b2
        go_enter Tryd.func18, Tryd.ntmps18
        go_wp2_with fail
        refine (blw2 _ _).mono ?_; rintro e w' ⟨rfl, rfl⟩
        go_wp2_with fail
        refine (below8 _ _).mono ?_; rintro e w' ⟨rfl, rfl⟩
        go_wp2_with fail
        refine (part_any _ _ _ HT.out).mono ?_; rintro e w' ⟨rfl, hb⟩; have HB := Lib.hid hb; clear hb
        go_wp2_with fail
        go_ret
        exact ⟨ret_u64 HS.out.symm, HB.out⟩
set_option maxHeartbeats 1000000 in
theorem pocket_any (c k n : Int) (w : World) (hc : 0 ≤ c) (hn : 0 ≤ n) (hn2 : n ≤ 255) (hT : TabMix w) : Calls Tryd.prog 20 #[.int .u8 c, .int .u8 k, .int .u8 n] w (U64L (pockN c k n) w) := by
  have HT := Lib.hid hT
  clear hT
  by_cases hc1 : 1 < c
  · have HS := Lib.hid (pockN_col (k := k) (n := n) hc1)
    have g : decide (1 < c) = true := decide_eq_true hc1
    clear hc1
    go_enter Tryd.func20, Tryd.ntmps20
    go_wp2
    go_ret
    exact ⟨ret_none HS.out, Below.refl _ _⟩
  · have g : decide (1 < c) = false := decide_eq_false hc1
    have hc2 : c ≤ 1 := by omega
    clear hc1
    by_cases hk : k < 1
    · have HS := Lib.hid (pockN_man (c := c) (n := n) (manB_lo hk))
      have gk : decide (k < 1) = true := decide_eq_true hk
      clear hk
      go_enter Tryd.func20, Tryd.ntmps20
      go_wp2
      go_ret
      exact ⟨ret_none HS.out, Below.refl _ _⟩
    · have gk : decide (k < 1) = false := decide_eq_false hk
      have k1 : 1 ≤ k := by omega
      clear hk
      by_cases hk5 : 5 < k
      · have HS := Lib.hid (pockN_man (c := c) (n := n) (manB_hi hk5))
        have gk5 : decide (5 < k) = true := decide_eq_true hk5
        clear hk5
        go_enter Tryd.func20, Tryd.ntmps20
        go_wp2
        go_ret
        exact ⟨ret_none HS.out, Below.refl _ _⟩
      · have gk5 : decide (5 < k) = false := decide_eq_false hk5
        have k5 : k ≤ 5 := by omega
        have H2 := Lib.hid (show manB k = true by unfold manB; rw [decide_eq_true k1, decide_eq_true k5]; rfl)
        clear hk5
        by_cases hn0 : n = 0
        · have HS := Lib.hid (pockN_nil (c := c) (k := k) hn0)
          have g0 : (n == 0) = true := by simp [hn0]
          clear hn0
          go_enter Tryd.func20, Tryd.ntmps20
          go_wp2
          go_ret
          exact ⟨ret_none HS.out, Below.refl _ _⟩
        · have HS := Lib.hid (pockN_yes hc2 H2.out hn0)
          have g0 : (n == 0) = false := by simp [hn0]
          clear hn0
          go_enter Tryd.func20, Tryd.ntmps20
          go_wp2_with (go_at_call 10; refine (part_any _ _ _ HT.out).mono ?_; rintro e w' ⟨rfl, hb⟩; have HB := Lib.hid hb; clear hb)
          go_ret
          exact ⟨ret_u64 HS.out.symm, HB.out⟩
theorem checks_nany (c n : Int) (w : World) (hc : 0 ≤ c) (hn : 0 ≤ n) (hn2 : n ≤ 255) (hT : TabMix w) : Calls Tryd.prog 22 #[.int .u8 c, .int .u8 n] w (U64L (chkHN c n) w) := by
  have HT := Lib.hid hT
  clear hT
  by_cases hc1 : 1 < c
  · have HS := Lib.hid (chkHN_col (n := n) hc1)
    have g : decide (1 < c) = true := decide_eq_true hc1
    clear hc1
    go_enter Tryd.func22, Tryd.ntmps22
    go_wp2
    go_ret
    exact ⟨ret_none HS.out, Below.refl _ _⟩
  · have g : decide (1 < c) = false := decide_eq_false hc1
    have hc2 : c ≤ 1 := by omega
    clear hc1
    by_cases hn0 : n = 0
    · have HS := Lib.hid (chkHN_nil (c := c) hn0)
      have g0 : (n == 0) = true := by simp [hn0]
      clear hn0
      go_enter Tryd.func22, Tryd.ntmps22
      go_wp2
      go_ret
      exact ⟨ret_none HS.out, Below.refl _ _⟩
    · have HS := Lib.hid (chkHN_yes hc2 hn0)
      have g0 : (n == 0) = false := by simp [hn0]
      clear hn0
      go_enter Tryd.func22, Tryd.ntmps22
      go_wp2_with (go_at_call 10; refine (part_any _ _ _ HT.out).mono ?_; rintro e w' ⟨rfl, hb⟩; have HB := Lib.hid hb; clear hb)
      go_ret
      exact ⟨ret_u64 HS.out.symm, HB.out⟩
end Go.Proofs.YtboopdmgphhemaaDoor
