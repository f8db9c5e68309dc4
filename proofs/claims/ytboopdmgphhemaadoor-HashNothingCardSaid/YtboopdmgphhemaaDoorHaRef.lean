/-
  Contracts of the document's own layer 9, first part: Part, Turn, Passing, Rook, Pocket, Checks.
-/
import Derived.Test.YtboopdmgphhemaaDoorHaParts
import Derived.Test.YtboopdmgphhemaaDoorBase
import Derived.Test.YtboopdmgphhemaaDoorPcRefB
namespace Go.Proofs.YtboopdmgphhemaaDoor
open Go.RowKit
set_option linter.unusedVariables false

/-- The answer, and the same world. -/
def U64E (n : Nat) (w : World) (e : Ending) (w' : World) : Prop := e = .returned (.int .u64 (n : Int)) ∧ w = w'
theorem raw_rwrap (t n : Int) : IntKind.u64.wrap (IntKind.u64.wrap (IntKind.u64.wrap (IntKind.u64.wrap t * 4096) + IntKind.u64.wrap n) + 11400714819323198485) = ((rawN t n : Nat) : Int) := by
  rw [rawN_eq]; simp only [IntKind.wrap_u64]; omega
theorem stp0 {x : Nat} (hx : x < W64) : IntKind.u64.wrap (bits .xor .u64 (x : Int) ((x : Int) / 1073741824) * 13787848793156543929) = ((stN 0 x : Nat) : Int) :=
  mix_val (sh := 30) (fc := 13787848793156543929) hx rfl
theorem stp1 {x : Nat} (hx : x < W64) : IntKind.u64.wrap (bits .xor .u64 (x : Int) ((x : Int) / 134217728) * 10723151780598845931) = ((stN 1 x : Nat) : Int) :=
  mix_val (sh := 27) (fc := 10723151780598845931) hx rfl
theorem stp2 {x : Nat} (hx : x < W64) : bits .xor .u64 (x : Int) ((x : Int) / 2147483648) = ((stN 2 x : Nat) : Int) := by
  have h := mix_val (sh := 31) (fc := 1) (y := stN 2 x) hx rfl
  have e : ((x : Int) / 2 ^ 31) = ((x / 2 ^ 31 : Nat) : Int) := by simp
  have e2 : ((x : Int) / 2147483648) = ((x / 2 ^ 31 : Nat) : Int) := by omega
  rw [e, xor_nat hx (halfW_lt hx 31), show ((1 : Nat) : Int) = 1 from rfl, Int.mul_one, wrap_nat _ (xor_lt64 hx (halfW_lt hx 31))] at h
  rw [e2, xor_nat hx (halfW_lt hx 31)]; exact h
set_option maxRecDepth 100000 in
theorem rpart_any (t n : Int) (w : World) : Calls Tryd.prog 11 #[.int .i64 t, .int .i64 n] w (U64E (ptN t n) w) := by
  have HR := Lib.hid (raw_rwrap t n)
  go_enter Tryd.func11, Tryd.ntmps11
  go_wp2_with fail
  go_ret
  refine ⟨ret_int ?_, rfl⟩
  rw [HR.out, stp0 (rawN_lt t n), stp1 (stN_lt _ _), stp2 (stN_lt _ _)]
  rfl
theorem rturn_any (c : Int) (w : World) : Calls Tryd.prog 15 #[.int .u8 c] w (U64E (turnN c) w) := by
  by_cases h : c = 1
  · have HS := Lib.hid (turnN_yes h)
    go_enter Tryd.func15, Tryd.ntmps15
    have g : (c != 1) = false := by simp [h]
    go_wp2_with (go_at_call 11; refine (rpart_any _ _ _).mono ?_; rintro e w' ⟨rfl, rfl⟩)
    go_ret
    exact ⟨ret_u64 HS.out.symm, rfl⟩
  · have HS := Lib.hid (turnN_no h)
    have g : (c != 1) = true := by simp [h]
    clear h
    go_enter Tryd.func15, Tryd.ntmps15
    go_wp2_with fail
    go_ret
    exact ⟨ret_none HS.out, rfl⟩
theorem rpassing_any (s : Int) (w : World) : Calls Tryd.prog 17 #[.int .i64 s] w (U64E (psgN s) w) := by
  by_cases h0 : s < 0
  · have HS := Lib.hid (psgN_no (sq_false.2 (.inl h0)))
    have g : decide (s < 0) = true := decide_eq_true h0
    clear h0
    go_enter Tryd.func17, Tryd.ntmps17
    go_wp2
    go_ret
    exact ⟨ret_none HS.out, rfl⟩
  · have g : decide (s < 0) = false := decide_eq_false h0
    by_cases h1 : 63 < s
    · have HS := Lib.hid (psgN_no (sq_false.2 (.inr (show 64 ≤ s by omega))))
      have g1 : decide (63 < s) = true := decide_eq_true h1
      clear h0 h1
      go_enter Tryd.func17, Tryd.ntmps17
      go_wp2
      go_ret
      exact ⟨ret_none HS.out, rfl⟩
    · have g1 : decide (63 < s) = false := decide_eq_false h1
      have HS := Lib.hid (psgN_yes (sq_true.2 (show 0 ≤ s ∧ s < 64 by omega)))
      clear h0 h1
      go_enter Tryd.func17, Tryd.ntmps17
      go_wp2_with (go_at_call 11; refine (rpart_any _ _ _).mono ?_; rintro e w' ⟨rfl, rfl⟩)
      go_ret
      exact ⟨ret_u64 HS.out.symm, rfl⟩
theorem rpiece_any (x s : Int) (w : World) (hx : 0 ≤ x) (hx2 : x ≤ 255) : Calls Tryd.prog 13 #[.int .u8 x, .int .i64 s] w (U64L (pieceN x s) w) := by
  cases hp : pcB x
  · have HS := Lib.hid (pieceN_no (s := s) hp)
    go_enter Tryd.func13, Tryd.ntmps13
    go_wp2_with (go_at_call 31; refine (ris_any _ _).mono ?_; rintro e w' ⟨rfl, hb⟩; have HB := Lib.hid hb; clear hb)
    go_ret
    exact ⟨ret_none HS.out, HB.out⟩
  · by_cases h0 : s < 0
    · have HS := Lib.hid (pieceN_off (x := x) (sq_false.2 (.inl h0)))
      have g : decide (s < 0) = true := decide_eq_true h0
      clear h0
      go_enter Tryd.func13, Tryd.ntmps13
      go_wp2_with (go_at_call 31; refine (ris_any _ _).mono ?_; rintro e w' ⟨rfl, hb⟩; have HB := Lib.hid hb; clear hb)
      go_ret
      exact ⟨ret_none HS.out, HB.out⟩
    · have g : decide (s < 0) = false := decide_eq_false h0
      by_cases h1 : 63 < s
      · have HS := Lib.hid (pieceN_off (x := x) (sq_false.2 (.inr (show 64 ≤ s by omega))))
        have g1 : decide (63 < s) = true := decide_eq_true h1
        clear h0 h1
        go_enter Tryd.func13, Tryd.ntmps13
        go_wp2_with (go_at_call 31; refine (ris_any _ _).mono ?_; rintro e w' ⟨rfl, hb⟩; have HB := Lib.hid hb; clear hb)
        go_ret
        exact ⟨ret_none HS.out, HB.out⟩
      · have g1 : decide (63 < s) = false := decide_eq_false h1
        have HS := Lib.hid (pieceN_yes hp (sq_true.2 (show 0 ≤ s ∧ s < 64 by omega)))
        have s0 : 0 ≤ s := by omega
        have s1 : s ≤ 63 := by omega
        clear h0 h1
        go_enter Tryd.func13, Tryd.ntmps13
        go_wp2_with (first
          | (go_at_call 31; refine (ris_any _ _).mono ?_; rintro e w' ⟨rfl, hb⟩; have HB := Lib.hid hb; clear hb)
          | (go_at_call 11; refine (rpart_any _ _ _).mono ?_; rintro e w' ⟨rfl, rfl⟩))
        go_ret
        exact ⟨ret_u64 HS.out.symm, HB.out⟩
set_option maxHeartbeats 1000000 in
theorem rrook_nany (c d f : Int) (w : World) (hc : 0 ≤ c) : Calls Tryd.prog 19 #[.int .u8 c, .int .i64 d, .int .i64 f] w (U64E (rookHN c d f) w) := by
  by_cases hc1 : 1 < c
  · have HS := Lib.hid (rookHN_col (d := d) (f := f) hc1)
    have g : decide (1 < c) = true := decide_eq_true hc1
    clear hc1
    go_enter Tryd.func19, Tryd.ntmps19
    go_wp2
    go_ret
    exact ⟨ret_none HS.out, rfl⟩
  · have g : decide (1 < c) = false := decide_eq_false hc1
    have hc2 : c ≤ 1 := by omega
    clear hc1
    by_cases d0 : d < 0
    · have HS := Lib.hid (rookHN_side (c := c) (f := f) (show sideB d = false by unfold sideB; rw [decide_eq_false (show ¬ 0 ≤ d by omega), Bool.false_and]))
      have gd : decide (d < 0) = true := decide_eq_true d0
      clear d0
      go_enter Tryd.func19, Tryd.ntmps19
      go_wp2
      go_ret
      exact ⟨ret_none HS.out, rfl⟩
    · have gd : decide (d < 0) = false := decide_eq_false d0
      have d0' : 0 ≤ d := by omega
      clear d0
      by_cases d1 : 1 < d
      · have HS := Lib.hid (rookHN_side (c := c) (f := f) (show sideB d = false by unfold sideB; rw [decide_eq_false (show ¬ d < 2 by omega), Bool.and_false]))
        have gd1 : decide (1 < d) = true := decide_eq_true d1
        clear d1
        go_enter Tryd.func19, Tryd.ntmps19
        go_wp2
        go_ret
        exact ⟨ret_none HS.out, rfl⟩
      · have gd1 : decide (1 < d) = false := decide_eq_false d1
        have d1' : d ≤ 1 := by omega
        have HD := Lib.hid (show sideB d = true by unfold sideB; rw [decide_eq_true d0', decide_eq_true (show d < 2 by omega)]; rfl)
        clear d1
        by_cases f0 : f < 0
        · have HS := Lib.hid (rookHN_file (c := c) (d := d) (show fileB f = false by unfold fileB; rw [decide_eq_false (show ¬ 0 ≤ f by omega), Bool.false_and]))
          have gf : decide (f < 0) = true := decide_eq_true f0
          clear f0
          go_enter Tryd.func19, Tryd.ntmps19
          go_wp2
          go_ret
          exact ⟨ret_none HS.out, rfl⟩
        · have gf : decide (f < 0) = false := decide_eq_false f0
          have f0' : 0 ≤ f := by omega
          clear f0
          by_cases f1 : 7 < f
          · have HS := Lib.hid (rookHN_file (c := c) (d := d) (show fileB f = false by unfold fileB; rw [decide_eq_false (show ¬ f < 8 by omega), Bool.and_false]))
            have gf1 : decide (7 < f) = true := decide_eq_true f1
            clear f1
            go_enter Tryd.func19, Tryd.ntmps19
            go_wp2
            go_ret
            exact ⟨ret_none HS.out, rfl⟩
          · have gf1 : decide (7 < f) = false := decide_eq_false f1
            have f1' : f ≤ 7 := by omega
            have HS := Lib.hid (rookHN_yes hc2 HD.out (show fileB f = true by unfold fileB; rw [decide_eq_true f0', decide_eq_true (show f < 8 by omega)]; rfl))
            clear f1
            go_enter Tryd.func19, Tryd.ntmps19
            go_wp2_with (go_at_call 11; refine (rpart_any _ _ _).mono ?_; rintro e w' ⟨rfl, rfl⟩)
            go_ret
            exact ⟨ret_u64 HS.out.symm, rfl⟩
set_option maxHeartbeats 1000000 in
theorem rpocket_any (c k n : Int) (w : World) (hc : 0 ≤ c) (hn : 0 ≤ n) (hn2 : n ≤ 255) : Calls Tryd.prog 21 #[.int .u8 c, .int .u8 k, .int .u8 n] w (U64E (pockN c k n) w) := by
  by_cases hc1 : 1 < c
  · have HS := Lib.hid (pockN_col (k := k) (n := n) hc1)
    have g : decide (1 < c) = true := decide_eq_true hc1
    clear hc1
    go_enter Tryd.func21, Tryd.ntmps21
    go_wp2
    go_ret
    exact ⟨ret_none HS.out, rfl⟩
  · have g : decide (1 < c) = false := decide_eq_false hc1
    have hc2 : c ≤ 1 := by omega
    clear hc1
    by_cases hk : k < 1
    · have HS := Lib.hid (pockN_man (c := c) (n := n) (manB_lo hk))
      have gk : decide (k < 1) = true := decide_eq_true hk
      clear hk
      go_enter Tryd.func21, Tryd.ntmps21
      go_wp2
      go_ret
      exact ⟨ret_none HS.out, rfl⟩
    · have gk : decide (k < 1) = false := decide_eq_false hk
      have k1 : 1 ≤ k := by omega
      clear hk
      by_cases hk5 : 5 < k
      · have HS := Lib.hid (pockN_man (c := c) (n := n) (manB_hi hk5))
        have gk5 : decide (5 < k) = true := decide_eq_true hk5
        clear hk5
        go_enter Tryd.func21, Tryd.ntmps21
        go_wp2
        go_ret
        exact ⟨ret_none HS.out, rfl⟩
      · have gk5 : decide (5 < k) = false := decide_eq_false hk5
        have k5 : k ≤ 5 := by omega
        have H2 := Lib.hid (show manB k = true by unfold manB; rw [decide_eq_true k1, decide_eq_true k5]; rfl)
        clear hk5
        by_cases hn0 : n = 0
        · have HS := Lib.hid (pockN_nil (c := c) (k := k) hn0)
          have g0 : (n == 0) = true := by simp [hn0]
          clear hn0
          go_enter Tryd.func21, Tryd.ntmps21
          go_wp2
          go_ret
          exact ⟨ret_none HS.out, rfl⟩
        · have HS := Lib.hid (pockN_yes hc2 H2.out hn0)
          have g0 : (n == 0) = false := by simp [hn0]
          clear hn0
          go_enter Tryd.func21, Tryd.ntmps21
          go_wp2_with (go_at_call 11; refine (rpart_any _ _ _).mono ?_; rintro e w' ⟨rfl, rfl⟩)
          go_ret
          exact ⟨ret_u64 HS.out.symm, rfl⟩
theorem rchecks_nany (c n : Int) (w : World) (hc : 0 ≤ c) (hn : 0 ≤ n) (hn2 : n ≤ 255) : Calls Tryd.prog 23 #[.int .u8 c, .int .u8 n] w (U64E (chkHN c n) w) := by
  by_cases hc1 : 1 < c
  · have HS := Lib.hid (chkHN_col (n := n) hc1)
    have g : decide (1 < c) = true := decide_eq_true hc1
    clear hc1
    go_enter Tryd.func23, Tryd.ntmps23
    go_wp2
    go_ret
    exact ⟨ret_none HS.out, rfl⟩
  · have g : decide (1 < c) = false := decide_eq_false hc1
    have hc2 : c ≤ 1 := by omega
    clear hc1
    by_cases hn0 : n = 0
    · have HS := Lib.hid (chkHN_nil (c := c) hn0)
      have g0 : (n == 0) = true := by simp [hn0]
      clear hn0
      go_enter Tryd.func23, Tryd.ntmps23
      go_wp2
      go_ret
      exact ⟨ret_none HS.out, rfl⟩
    · have HS := Lib.hid (chkHN_yes hc2 hn0)
      have g0 : (n == 0) = false := by simp [hn0]
      clear hn0
      go_enter Tryd.func23, Tryd.ntmps23
      go_wp2_with (go_at_call 11; refine (rpart_any _ _ _).mono ?_; rintro e w' ⟨rfl, rfl⟩)
      go_ret
      exact ⟨ret_u64 HS.out.symm, rfl⟩
end Go.Proofs.YtboopdmgphhemaaDoor
